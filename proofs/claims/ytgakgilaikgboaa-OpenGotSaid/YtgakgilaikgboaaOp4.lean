/- Opening: the reference's reader. -/
import Derived.Test.YtgakgilaikgboaaOp3
import Derived.Laws.StructEq
namespace Go.Proofs.Ytgakgilaikgboaa
open Go.RowKit
set_option maxHeartbeats 4000000
set_option maxRecDepth 100000
set_option linter.unusedSimpArgs false
set_option linter.unusedVariables false

theorem strB_eq (l m : List UInt8) : ((⟨l.toArray⟩ : ByteArray).toList == (⟨m.toArray⟩ : ByteArray).toList) = decide (l = m) := by
  rw [← beq_toListBytes]
  rw [Bool.eq_iff_iff, decide_eq_true_eq]
  constructor
  · intro h
    have h1 : ((⟨l.toArray⟩ : ByteArray).data == (⟨m.toArray⟩ : ByteArray).data) = true := h
    have := eq_of_beq h1
    simpa using this
  · rintro rfl
    show ((⟨l.toArray⟩ : ByteArray).data == (⟨l.toArray⟩ : ByteArray).data) = true
    exact beq_self_eq_true _
theorem sameNote_ac (c s c' s' : Int) (d d' : List UInt8) : ACt Try.prog 18 [ntA c s d, ntA c' s' d'] (.bool (decide (c = c') && decide (s = s') && decide (d = d'))) [] := by
  refine act_of p_ridgewayref03_SameNote (by simp [c_ridgewayref03_SameNote]) ?_
  show AW _ b_ridgewayref03_SameNote (RetOk [.tmp 4] _ _) { n := 26, tm := [(0, _), (1, _)], box := [], fr := [] }
  unfold b_ridgewayref03_SameNote
  unfold ntA
  try simp -implicitDefEqProofs only [avl, reduceCtorEq, ↓reduceIte, sevalprocAttr, bytesOf_map, strBin, strB_eq, true_or]
  repeat' (first | (refine (hκ _).mpr ?_; clear hκ) | refine kn1 ?_ | refine kr1 ?_ | refine ke1 ?_ | refine kn2 ?_ | refine kr2 ?_ | refine kx2 ?_ | refine ke2 rfl ?_ | refine kn3 ?_ | refine kr3 ?_ | refine ke3 ?_ | refine kn4 ?_ | refine kr4 ?_ | refine ke4 ?_ | refine w_seq ?_ | refine w_block ?_ | (refine aw_regk fun κ hκ => ?_; simp -implicitDefEqProofs only [avl, reduceCtorEq, ↓reduceIte, sevalprocAttr, bytesOf_map, strBin, strB_eq, true_or]) | refine aw_exit ?_ | refine aw_ret ?_ | refine aw_skip ?_ | refine aw_label ?_ | refine condc_t ?_ | refine condc_f ?_ | (refine aw_cond2 (by simp -implicitDefEqProofs only [avl, reduceCtorEq, ↓reduceIte, sevalprocAttr, bytesOf_map, strBin, strB_eq, true_or]; rfl) ?_) | ((first | refine gkc_fork ?_ ?_ | refine gkc_split ?_ ?_) <;> intro hq <;> simp -implicitDefEqProofs only [hq, avl, reduceCtorEq, ↓reduceIte, sevalprocAttr, bytesOf_map, strBin, strB_eq, true_or]) | ((first | refine condc_fork ?_ ?_ | refine condc_bool ?_ ?_) <;> intro hq))
  all_goals refine ret_bool rfl ?_
  all_goals (rw [Bool.eq_iff_iff]; simp only [Bool.and_eq_true, Bool.or_eq_true, Bool.not_eq_true', decide_eq_true_eq, decide_eq_false_iff_not, Bool.not_true, Bool.not_false, Bool.false_eq_true, Bool.true_and, Bool.and_true, Bool.false_and, Bool.and_false, Bool.and_self, Bool.or_true, Bool.or_false, Bool.true_or, Bool.false_or, reduceCtorEq, true_and, and_true, false_and, and_false, or_true, true_or, or_false, false_or, iff_true, iff_false, true_iff, false_iff, not_false_eq_true, not_true_eq_false]; first | omega | (simp_all; done) | skip)
theorem sameMsg_ac (c c' : Int) (d d' : List UInt8) : ACt Try.prog 21 [mA c d, mA c' d'] (.bool (decide (c = c') && decide (d = d'))) [] := by
  refine act_of p_ridgewayref03_Same (by simp [c_ridgewayref03_Same]) ?_
  show AW _ b_ridgewayref03_Same (RetOk [.tmp 4] _ _) { n := 19, tm := [(0, _), (1, _)], box := [], fr := [] }
  unfold b_ridgewayref03_Same
  unfold mA
  try simp -implicitDefEqProofs only [avl, reduceCtorEq, ↓reduceIte, sevalprocAttr, bytesOf_map, strBin, strB_eq, true_or]
  repeat' (first | (refine (hκ _).mpr ?_; clear hκ) | refine kn1 ?_ | refine kr1 ?_ | refine ke1 ?_ | refine kn2 ?_ | refine kr2 ?_ | refine kx2 ?_ | refine ke2 rfl ?_ | refine kn3 ?_ | refine kr3 ?_ | refine ke3 ?_ | refine kn4 ?_ | refine kr4 ?_ | refine ke4 ?_ | refine w_seq ?_ | refine w_block ?_ | (refine aw_regk fun κ hκ => ?_; simp -implicitDefEqProofs only [avl, reduceCtorEq, ↓reduceIte, sevalprocAttr, bytesOf_map, strBin, strB_eq, true_or]) | refine aw_exit ?_ | refine aw_ret ?_ | refine aw_skip ?_ | refine aw_label ?_ | refine condc_t ?_ | refine condc_f ?_ | (refine aw_cond2 (by simp -implicitDefEqProofs only [avl, reduceCtorEq, ↓reduceIte, sevalprocAttr, bytesOf_map, strBin, strB_eq, true_or]; rfl) ?_) | ((first | refine gkc_fork ?_ ?_ | refine gkc_split ?_ ?_) <;> intro hq <;> simp -implicitDefEqProofs only [hq, avl, reduceCtorEq, ↓reduceIte, sevalprocAttr, bytesOf_map, strBin, strB_eq, true_or]) | ((first | refine condc_fork ?_ ?_ | refine condc_bool ?_ ?_) <;> intro hq))
  all_goals refine ret_bool rfl ?_
  all_goals (rw [Bool.eq_iff_iff]; simp only [Bool.and_eq_true, Bool.or_eq_true, Bool.not_eq_true', decide_eq_true_eq, decide_eq_false_iff_not, Bool.not_true, Bool.not_false, Bool.false_eq_true, Bool.true_and, Bool.and_true, Bool.false_and, Bool.and_false, Bool.and_self, Bool.or_true, Bool.or_false, Bool.true_or, Bool.false_or, reduceCtorEq, true_and, and_true, false_and, and_false, or_true, true_or, or_false, false_or, iff_true, iff_false, true_iff, false_iff, not_false_eq_true, not_true_eq_false]; first | omega | (simp_all; done) | skip)
theorem bad_ac (s : Int) : ACt Try.prog 46 [.int .i64 s] (.tup [hlA ⟨0, 0, 0, 0⟩, ntA 2 s []]) [] := by
  refine act_of p_ridgewayref06_bad (by simp [c_ridgewayref06_bad]) ?_
  show AW _ b_ridgewayref06_bad (RetOk [.cell 2 (some 4), .cell 3 (some 3)] _ _) { n := 7, tm := [(0, _)], box := [], fr := [] }
  unfold b_ridgewayref06_bad
  unfold ntA hlA
  try simp -implicitDefEqProofs only [avl, reduceCtorEq, ↓reduceIte, sevalprocAttr]
  repeat' (first | (refine (hκ _).mpr ?_; clear hκ) | refine kn1 ?_ | refine kr1 ?_ | refine ke1 ?_ | refine kn2 ?_ | refine kr2 ?_ | refine kx2 ?_ | refine ke2 rfl ?_ | refine kn3 ?_ | refine kr3 ?_ | refine ke3 ?_ | refine kn4 ?_ | refine kr4 ?_ | refine ke4 ?_ | refine w_seq ?_ | refine w_block ?_ | (refine aw_regk fun κ hκ => ?_; simp -implicitDefEqProofs only [avl, reduceCtorEq, ↓reduceIte, sevalprocAttr]) | refine aw_exit ?_ | refine aw_ret ?_ | refine aw_skip ?_ | refine aw_label ?_ | refine condc_t ?_ | refine condc_f ?_ | (refine aw_cond2 (by simp -implicitDefEqProofs only [avl, reduceCtorEq, ↓reduceIte, sevalprocAttr]; rfl) ?_) | ((first | refine gkc_fork ?_ ?_ | refine gkc_split ?_ ?_) <;> intro hq <;> simp -implicitDefEqProofs only [hq, avl, reduceCtorEq, ↓reduceIte, sevalprocAttr]) | ((first | refine condc_fork ?_ ?_ | refine condc_bool ?_ ?_) <;> intro hq))
  try simp -implicitDefEqProofs only [List.append_assoc, avl, reduceCtorEq, ↓reduceIte, sevalprocAttr]
  first | refine retLt (by first | exact .inr rfl | exact .inl rfl) (by rfl) ?_ | refine retL1 (by first | exact .inr rfl | exact .inl rfl) (by rfl) ?_
  repeat' (first | exact trivial | apply And.intro)
  all_goals first
    | exact .same _ rfl
    | (refine .same _ ?_; (focus (simp [purs]; done)))
    | (refine .imm _ _ _ ?_; (focus (simp [purs]; done)))
    | (refine .le _ _ ?_ ?_; (focus (repeat' (first | exact trivial | exact le_same _ | exact le_imm (.inl rfl) | exact le_imm (.inr rfl) | (refine le_agg ?_) | apply And.intro))); (focus (simp [purs]; done)))
    | skip

/-- What the reader holds. -/
def rC (a r : Int) (n : Option Int) : List AV := [.int .i64 (if a < 0 then 0 else a), .bool (decide (¬ a < 0)), .int .i64 r, .int .i64 (n.getD (-1))]
theorem wrong6_acs (b0 b1 b2 : TypeId × List AV) (T0 : TypeId) (a r e : Int) (hB : okBx 0 4 [b0, b1, b2] = true) :
    ACs Try.prog 69 [.ptr 3 0, .int .i64 e] [b0, b1, b2, (T0, rC a r none)] []
      fun v B' F' => v = .tup [] ∧ B' = [b0, b1, b2, (T0, rC a r (some e))] ∧ F' = [] := by
  have hk : okBx 0 4 [b0, b1, b2, (T0, rC a r (some e))] = true := by
    unfold okBx at hB ⊢
    simp only [List.all_cons, Bool.and_eq_true] at hB ⊢
    exact ⟨hB.1, hB.2.1, hB.2.2.1, rfl, hB.2.2.2⟩
  unfold rC
  refine acs_w p_ridgewayref06_reader__wrong (by simp [c_ridgewayref06_reader__wrong]) ?_
  show AW _ b_ridgewayref06_reader__wrong (RetW [] _) { n := 13, tm := [(0, _), (1, _)], box := [b0, b1, b2, (T0, [.int .i64 (if a < 0 then 0 else a), .bool (decide (¬ a < 0)), .int .i64 r, .int .i64 (-1)])], fr := [], p := _ }
  unfold b_ridgewayref06_reader__wrong
  try simp -implicitDefEqProofs only [avl, reduceCtorEq, ↓reduceIte, sevalprocAttr, Option.getD_some, Option.getD_none]
  repeat' (first | (refine (hκ _).mpr ?_; clear hκ) | refine kn1 ?_ | refine kr1 ?_ | refine ke1 ?_ | refine kn2 ?_ | refine kr2 ?_ | refine kx2 ?_ | refine ke2 rfl ?_ | refine kn3 ?_ | refine kr3 ?_ | refine ke3 ?_ | refine kn4 ?_ | refine kr4 ?_ | refine ke4 ?_ | refine w_seq ?_ | refine w_block ?_ | (refine aw_regk fun κ hκ => ?_; simp -implicitDefEqProofs only [avl, reduceCtorEq, ↓reduceIte, sevalprocAttr, Option.getD_some, Option.getD_none]) | refine aw_exit ?_ | refine aw_ret ?_ | refine aw_skip ?_ | refine aw_label ?_ | refine condc_t ?_ | refine condc_f ?_ | (refine aw_cond2 (by simp -implicitDefEqProofs only [avl, reduceCtorEq, ↓reduceIte, sevalprocAttr, Option.getD_some, Option.getD_none]; rfl) ?_) | ((first | refine gkc_fork ?_ ?_ | refine gkc_split ?_ ?_) <;> intro hq <;> simp -implicitDefEqProofs only [hq, avl, reduceCtorEq, ↓reduceIte, sevalprocAttr, Option.getD_some, Option.getD_none]) | ((first | refine condc_fork ?_ ?_ | refine condc_bool ?_ ?_) <;> intro hq))
  refine ⟨trivial, [], [], 0, [], [b0, b1, b2, (T0, rC a r (some e))], rfl, Nat.le_refl _, Nat.le_refl _, Nat.le_refl _, wkB_refl hk, trivial, rfl, rfl, rfl⟩
theorem retw_nil {Q : AV → List (TypeId × List AV) → List (TypeId × Nat) → Prop} {e : Exit} {s : St} (he : e = .normal ∨ e = .ret) (hfr : s.fr = []) (hp : s.p.2 = 0 ∧ s.p.1 ≤ s.box.length) (hk : okBx 0 s.box.length s.box = true) (hq : Q (.tup []) s.box []) : RetW [] Q e s :=
  ⟨by rcases he with rfl | rfl <;> trivial, [], [], 0, [], s.box, rfl, Nat.zero_le _, by rw [hp.1]; exact Nat.le_refl _, hp.2, by rw [hfr]; exact wkB_refl hk, trivial, by rw [hfr]; exact hq⟩
theorem one6_acs (b0 b1 b2 : TypeId × List AV) (T0 : TypeId) (a r : Int) (code : UInt8) (b : List UInt8) (hB : okBx 0 4 [b0, b1, b2] = true) :
    ACs Try.prog 80 [.ptr 3 0, .int .u8 (code.toNat : Int), .slice .imm 1 (b.map bA)] [b0, b1, b2, (T0, rC a r none)] []
      fun v B' F' => v = .tup [] ∧ B' = [b0, b1, b2, (T0, rC (takeS a r code.toNat b).1 (takeS a r code.toNat b).2.1 (takeS a r code.toNat b).2.2)] ∧ F' = [] := by
  have hk : ∀ cs, okBL 0 4 cs = true → okBx 0 4 [b0, b1, b2, (T0, cs)] = true := fun cs h => by
    unfold okBx at hB ⊢
    simp only [List.all_cons, Bool.and_eq_true] at hB ⊢
    exact ⟨hB.1, hB.2.1, hB.2.2.1, h, hB.2.2.2⟩
  have hw := fun e => wrong6_acs b0 b1 b2 T0 a r e hB
  unfold rC at hw
  simp only [Option.getD_some, Option.getD_none] at hw
  generalize (code.toNat : Int) = c
  by_cases h65 : c = 65
  · subst h65
    have e9 : ¬ ((65 : Int) = 9) := by decide
    by_cases hl : b.length = 4
    · have hl' : ((b.length : Nat) : Int) = 4 := by omega
      by_cases ha : a < 0
      · have e : takeS a r 65 b = (((num b : Nat) : Int), r, none) := by unfold takeS; rw [if_neg (by omega), if_pos ⟨rfl, ha⟩]
        rw [e]
        have hg := refGet_ac b 4 (by omega) (by omega)
        unfold getR at hg
        rw [if_pos (by omega), List.take_of_length_le (by omega)] at hg
        have hnn : ¬ ((num b : Nat) : Int) < 0 := by omega
        unfold rC
        refine acs_w p_ridgewayref06_reader__one (by simp [c_ridgewayref06_reader__one]) ?_
        show AW _ b_ridgewayref06_reader__one (RetW [] _) { n := 67, tm := [(0, _), (1, _), (2, _)], box := [b0, b1, b2, (T0, [.int .i64 (if a < 0 then 0 else a), .bool (decide (¬ a < 0)), .int .i64 r, .int .i64 (-1)])], fr := [], p := _ }
        unfold b_ridgewayref06_reader__one
        try simp -implicitDefEqProofs only [avl, reduceCtorEq, ↓reduceIte, sevalprocAttr, (eq_true hl'), (eq_true ha), hnn, not_true_eq_false, not_false_eq_true, Option.getD_some, Option.getD_none, Bool.not_false]
        repeat' (first | (refine (hκ _).mpr ?_; clear hκ) | refine kn1 ?_ | refine kr1 ?_ | refine ke1 ?_ | refine kn2 ?_ | refine kr2 ?_ | refine kx2 ?_ | refine ke2 rfl ?_ | refine kn3 ?_ | refine kr3 ?_ | refine ke3 ?_ | refine kn4 ?_ | refine kr4 ?_ | refine ke4 ?_ | refine w_seq ?_ | refine w_block ?_ | (refine aw_regk fun κ hκ => ?_; simp -implicitDefEqProofs only [avl, reduceCtorEq, ↓reduceIte, sevalprocAttr, (eq_true hl'), (eq_true ha), hnn, not_true_eq_false, not_false_eq_true, Option.getD_some, Option.getD_none, Bool.not_false]) | refine aw_exit ?_ | refine aw_ret ?_ | refine aw_skip ?_ | refine aw_label ?_ | refine condc_t ?_ | refine condc_f ?_ | (refine aw_cond2 (by simp -implicitDefEqProofs only [avl, reduceCtorEq, ↓reduceIte, sevalprocAttr, (eq_true hl'), (eq_true ha), hnn, not_true_eq_false, not_false_eq_true, Option.getD_some, Option.getD_none, Bool.not_false]; rfl) ?_) | ((first | refine gkc_fork ?_ ?_ | refine gkc_split ?_ ?_) <;> intro hq <;> simp -implicitDefEqProofs only [hq, avl, reduceCtorEq, ↓reduceIte, sevalprocAttr, (eq_true hl'), (eq_true ha), hnn, not_true_eq_false, not_false_eq_true, Option.getD_some, Option.getD_none, Bool.not_false]) | ((first | refine condc_fork ?_ ?_ | refine condc_bool ?_ ?_) <;> intro hq))
        first | refine callsc (hg) ?_ ?_ | refine callc (hg) ?_ ?_ | ((first | refine callsc (act_le (hg) ?_) ?_ ?_ | refine callc (act_le (hg) ?_) ?_ ?_); (focus (repeat' (first | exact trivial | exact le_same _ | exact le_imm (.inl rfl) | exact le_imm (.inr rfl) | (refine le_agg ?_) | apply And.intro))))
        (focus (simp [purs]; done))
        try simp -implicitDefEqProofs only [avl, reduceCtorEq, ↓reduceIte, sevalprocAttr, sh, sh1, (eq_true ha), hnn, not_true_eq_false, not_false_eq_true]
        repeat' (first | (refine (hκ _).mpr ?_; clear hκ) | refine kn1 ?_ | refine kr1 ?_ | refine ke1 ?_ | refine kn2 ?_ | refine kr2 ?_ | refine kx2 ?_ | refine ke2 rfl ?_ | refine kn3 ?_ | refine kr3 ?_ | refine ke3 ?_ | refine kn4 ?_ | refine kr4 ?_ | refine ke4 ?_ | refine w_seq ?_ | refine w_block ?_ | (refine aw_regk fun κ hκ => ?_; simp -implicitDefEqProofs only [avl, reduceCtorEq, ↓reduceIte, sevalprocAttr, sh, sh1, (eq_true ha), hnn, not_true_eq_false, not_false_eq_true]) | refine aw_exit ?_ | refine aw_ret ?_ | refine aw_skip ?_ | refine aw_label ?_ | refine condc_t ?_ | refine condc_f ?_ | (refine aw_cond2 (by simp -implicitDefEqProofs only [avl, reduceCtorEq, ↓reduceIte, sevalprocAttr, sh, sh1, (eq_true ha), hnn, not_true_eq_false, not_false_eq_true]; rfl) ?_) | ((first | refine gkc_fork ?_ ?_ | refine gkc_split ?_ ?_) <;> intro hq <;> simp -implicitDefEqProofs only [hq, avl, reduceCtorEq, ↓reduceIte, sevalprocAttr, sh, sh1, (eq_true ha), hnn, not_true_eq_false, not_false_eq_true]) | ((first | refine condc_fork ?_ ?_ | refine condc_bool ?_ ?_) <;> intro hq))
        exact retw_nil (.inl rfl) rfl ⟨rfl, Nat.le_refl _⟩ (hk _ rfl) ⟨rfl, rfl, rfl⟩
      · have e : takeS a r 65 b = (a, r, none) := by unfold takeS; rw [if_neg (by omega), if_neg (by omega), if_neg (by omega), if_neg (by omega)]
        rw [e]
        unfold rC
        refine acs_w p_ridgewayref06_reader__one (by simp [c_ridgewayref06_reader__one]) ?_
        show AW _ b_ridgewayref06_reader__one (RetW [] _) { n := 67, tm := [(0, _), (1, _), (2, _)], box := [b0, b1, b2, (T0, [.int .i64 (if a < 0 then 0 else a), .bool (decide (¬ a < 0)), .int .i64 r, .int .i64 (-1)])], fr := [], p := _ }
        unfold b_ridgewayref06_reader__one
        try simp -implicitDefEqProofs only [avl, reduceCtorEq, ↓reduceIte, sevalprocAttr, (eq_true hl'), ha, not_true_eq_false, not_false_eq_true, Option.getD_some, Option.getD_none, Bool.not_true]
        repeat' (first | (refine (hκ _).mpr ?_; clear hκ) | refine kn1 ?_ | refine kr1 ?_ | refine ke1 ?_ | refine kn2 ?_ | refine kr2 ?_ | refine kx2 ?_ | refine ke2 rfl ?_ | refine kn3 ?_ | refine kr3 ?_ | refine ke3 ?_ | refine kn4 ?_ | refine kr4 ?_ | refine ke4 ?_ | refine w_seq ?_ | refine w_block ?_ | (refine aw_regk fun κ hκ => ?_; simp -implicitDefEqProofs only [avl, reduceCtorEq, ↓reduceIte, sevalprocAttr, (eq_true hl'), ha, not_true_eq_false, not_false_eq_true, Option.getD_some, Option.getD_none, Bool.not_true]) | refine aw_exit ?_ | refine aw_ret ?_ | refine aw_skip ?_ | refine aw_label ?_ | refine condc_t ?_ | refine condc_f ?_ | (refine aw_cond2 (by simp -implicitDefEqProofs only [avl, reduceCtorEq, ↓reduceIte, sevalprocAttr, (eq_true hl'), ha, not_true_eq_false, not_false_eq_true, Option.getD_some, Option.getD_none, Bool.not_true]; rfl) ?_) | ((first | refine gkc_fork ?_ ?_ | refine gkc_split ?_ ?_) <;> intro hq <;> simp -implicitDefEqProofs only [hq, avl, reduceCtorEq, ↓reduceIte, sevalprocAttr, (eq_true hl'), ha, not_true_eq_false, not_false_eq_true, Option.getD_some, Option.getD_none, Bool.not_true]) | ((first | refine condc_fork ?_ ?_ | refine condc_bool ?_ ?_) <;> intro hq))
        exact retw_nil (.inl rfl) rfl ⟨rfl, Nat.le_refl _⟩ (hk _ rfl) ⟨rfl, rfl, rfl⟩
    · have hl' : ¬ ((b.length : Nat) : Int) = 4 := by omega
      have e : takeS a r 65 b = (a, r, some 0) := by unfold takeS; rw [if_pos (.inl ⟨rfl, hl⟩)]
      rw [e]
      unfold rC
      refine acs_w p_ridgewayref06_reader__one (by simp [c_ridgewayref06_reader__one]) ?_
      show AW _ b_ridgewayref06_reader__one (RetW [] _) { n := 67, tm := [(0, _), (1, _), (2, _)], box := [b0, b1, b2, (T0, [.int .i64 (if a < 0 then 0 else a), .bool (decide (¬ a < 0)), .int .i64 r, .int .i64 (-1)])], fr := [], p := _ }
      unfold b_ridgewayref06_reader__one
      try simp -implicitDefEqProofs only [avl, reduceCtorEq, ↓reduceIte, sevalprocAttr, hl', not_true_eq_false, not_false_eq_true, Option.getD_some, Option.getD_none]
      repeat' (first | (refine (hκ _).mpr ?_; clear hκ) | refine kn1 ?_ | refine kr1 ?_ | refine ke1 ?_ | refine kn2 ?_ | refine kr2 ?_ | refine kx2 ?_ | refine ke2 rfl ?_ | refine kn3 ?_ | refine kr3 ?_ | refine ke3 ?_ | refine kn4 ?_ | refine kr4 ?_ | refine ke4 ?_ | refine w_seq ?_ | refine w_block ?_ | (refine aw_regk fun κ hκ => ?_; simp -implicitDefEqProofs only [avl, reduceCtorEq, ↓reduceIte, sevalprocAttr, hl', not_true_eq_false, not_false_eq_true, Option.getD_some, Option.getD_none]) | refine aw_exit ?_ | refine aw_ret ?_ | refine aw_skip ?_ | refine aw_label ?_ | refine condc_t ?_ | refine condc_f ?_ | (refine aw_cond2 (by simp -implicitDefEqProofs only [avl, reduceCtorEq, ↓reduceIte, sevalprocAttr, hl', not_true_eq_false, not_false_eq_true, Option.getD_some, Option.getD_none]; rfl) ?_) | ((first | refine gkc_fork ?_ ?_ | refine gkc_split ?_ ?_) <;> intro hq <;> simp -implicitDefEqProofs only [hq, avl, reduceCtorEq, ↓reduceIte, sevalprocAttr, hl', not_true_eq_false, not_false_eq_true, Option.getD_some, Option.getD_none]) | ((first | refine condc_fork ?_ ?_ | refine condc_bool ?_ ?_) <;> intro hq))
      refine callss (hw 0) ?_
      rintro v B' F' ⟨e1, e2, e3⟩
      subst e1 e2 e3
      try simp -implicitDefEqProofs only [avl, reduceCtorEq, ↓reduceIte, sevalprocAttr]
      repeat' (first | (refine (hκ _).mpr ?_; clear hκ) | refine kn1 ?_ | refine kr1 ?_ | refine ke1 ?_ | refine kn2 ?_ | refine kr2 ?_ | refine kx2 ?_ | refine ke2 rfl ?_ | refine kn3 ?_ | refine kr3 ?_ | refine ke3 ?_ | refine kn4 ?_ | refine kr4 ?_ | refine ke4 ?_ | refine w_seq ?_ | refine w_block ?_ | (refine aw_regk fun κ hκ => ?_; simp -implicitDefEqProofs only [avl, reduceCtorEq, ↓reduceIte, sevalprocAttr]) | refine aw_exit ?_ | refine aw_ret ?_ | refine aw_skip ?_ | refine aw_label ?_ | refine condc_t ?_ | refine condc_f ?_ | (refine aw_cond2 (by simp -implicitDefEqProofs only [avl, reduceCtorEq, ↓reduceIte, sevalprocAttr]; rfl) ?_) | ((first | refine gkc_fork ?_ ?_ | refine gkc_split ?_ ?_) <;> intro hq <;> simp -implicitDefEqProofs only [hq, avl, reduceCtorEq, ↓reduceIte, sevalprocAttr]) | ((first | refine condc_fork ?_ ?_ | refine condc_bool ?_ ?_) <;> intro hq))
      exact retw_nil (.inr rfl) rfl ⟨rfl, Nat.le_refl _⟩ (hk _ rfl) ⟨rfl, rfl, rfl⟩
  · by_cases h9 : c = 9
    · subst h9
      by_cases hl : b.length = 1
      · obtain ⟨x, rfl⟩ : ∃ x, b = [x] := by
          match b, hl with
          | [x], _ => exact ⟨x, rfl⟩
        have hx : (0 : Int) < (([x] : List UInt8).length : Nat) := by simp
        have hw1 : IntKind.i64.wrap (x.toNat : Int) = x.toNat := by have := x.toNat_lt; rw [wrap64 (by omega) (by omega)]
        have hxp : (x.toNat : Int) ≥ 0 := by omega
        by_cases hr : r < 0
        · have e : takeS a r 9 [x] = (a, (x.toNat : Int), none) := by unfold takeS; rw [if_neg (by simp), if_neg (by simp), if_pos ⟨rfl, hr⟩]; rfl
          have hr' : ¬ r ≥ 0 := by omega
          rw [e]
          unfold rC
          refine acs_w p_ridgewayref06_reader__one (by simp [c_ridgewayref06_reader__one]) ?_
          show AW _ b_ridgewayref06_reader__one (RetW [] _) { n := 67, tm := [(0, _), (1, _), (2, _)], box := [b0, b1, b2, (T0, [.int .i64 (if a < 0 then 0 else a), .bool (decide (¬ a < 0)), .int .i64 r, .int .i64 (-1)])], fr := [], p := _ }
          unfold b_ridgewayref06_reader__one
          try simp -implicitDefEqProofs only [avl, reduceCtorEq, ↓reduceIte, sevalprocAttr, h65, hr', hw1, hx, bA, (show ((1 : Nat) : Int) = 1 from rfl), not_true_eq_false, Option.getD_some, Option.getD_none]
          repeat' (first | (refine (hκ _).mpr ?_; clear hκ) | refine kn1 ?_ | refine kr1 ?_ | refine ke1 ?_ | refine kn2 ?_ | refine kr2 ?_ | refine kx2 ?_ | refine ke2 rfl ?_ | refine kn3 ?_ | refine kr3 ?_ | refine ke3 ?_ | refine kn4 ?_ | refine kr4 ?_ | refine ke4 ?_ | refine w_seq ?_ | refine w_block ?_ | (refine aw_regk fun κ hκ => ?_; simp -implicitDefEqProofs only [avl, reduceCtorEq, ↓reduceIte, sevalprocAttr, h65, hr', hw1, hx, bA, (show ((1 : Nat) : Int) = 1 from rfl), not_true_eq_false, Option.getD_some, Option.getD_none]) | refine aw_exit ?_ | refine aw_ret ?_ | refine aw_skip ?_ | refine aw_label ?_ | refine condc_t ?_ | refine condc_f ?_ | (refine aw_cond2 (by simp -implicitDefEqProofs only [avl, reduceCtorEq, ↓reduceIte, sevalprocAttr, h65, hr', hw1, hx, bA, (show ((1 : Nat) : Int) = 1 from rfl), not_true_eq_false, Option.getD_some, Option.getD_none]; rfl) ?_) | ((first | refine gkc_fork ?_ ?_ | refine gkc_split ?_ ?_) <;> intro hq <;> simp -implicitDefEqProofs only [hq, avl, reduceCtorEq, ↓reduceIte, sevalprocAttr, h65, hr', hw1, hx, bA, (show ((1 : Nat) : Int) = 1 from rfl), not_true_eq_false, Option.getD_some, Option.getD_none]) | ((first | refine condc_fork ?_ ?_ | refine condc_bool ?_ ?_) <;> intro hq))
          exact retw_nil (.inl rfl) rfl ⟨rfl, Nat.le_refl _⟩ (hk _ rfl) ⟨rfl, rfl, rfl⟩
        · have hr' : r ≥ 0 := by omega
          by_cases hne : r = (x.toNat : Int)
          · subst hne
            have e : takeS a (x.toNat : Int) 9 [x] = (a, (x.toNat : Int), none) := by unfold takeS; rw [if_neg (by simp), if_neg (by simp), if_neg (by omega), if_neg (by simp)]
            rw [e]
            unfold rC
            refine acs_w p_ridgewayref06_reader__one (by simp [c_ridgewayref06_reader__one]) ?_
            show AW _ b_ridgewayref06_reader__one (RetW [] _) { n := 67, tm := [(0, _), (1, _), (2, _)], box := [b0, b1, b2, (T0, [.int .i64 (if a < 0 then 0 else a), .bool (decide (¬ a < 0)), .int .i64 (x.toNat : Int), .int .i64 (-1)])], fr := [], p := _ }
            unfold b_ridgewayref06_reader__one
            try simp -implicitDefEqProofs only [avl, reduceCtorEq, ↓reduceIte, sevalprocAttr, h65, (eq_true hr'), hw1, hx, bA, eq_self, (show ((1 : Nat) : Int) = 1 from rfl), not_true_eq_false, Option.getD_some, Option.getD_none]
            repeat' (first | (refine (hκ _).mpr ?_; clear hκ) | refine kn1 ?_ | refine kr1 ?_ | refine ke1 ?_ | refine kn2 ?_ | refine kr2 ?_ | refine kx2 ?_ | refine ke2 rfl ?_ | refine kn3 ?_ | refine kr3 ?_ | refine ke3 ?_ | refine kn4 ?_ | refine kr4 ?_ | refine ke4 ?_ | refine w_seq ?_ | refine w_block ?_ | (refine aw_regk fun κ hκ => ?_; simp -implicitDefEqProofs only [avl, reduceCtorEq, ↓reduceIte, sevalprocAttr, h65, (eq_true hr'), hw1, hx, bA, eq_self, (show ((1 : Nat) : Int) = 1 from rfl), not_true_eq_false, Option.getD_some, Option.getD_none]) | refine aw_exit ?_ | refine aw_ret ?_ | refine aw_skip ?_ | refine aw_label ?_ | refine condc_t ?_ | refine condc_f ?_ | (refine aw_cond2 (by simp -implicitDefEqProofs only [avl, reduceCtorEq, ↓reduceIte, sevalprocAttr, h65, (eq_true hr'), hw1, hx, bA, eq_self, (show ((1 : Nat) : Int) = 1 from rfl), not_true_eq_false, Option.getD_some, Option.getD_none]; rfl) ?_) | ((first | refine gkc_fork ?_ ?_ | refine gkc_split ?_ ?_) <;> intro hq <;> simp -implicitDefEqProofs only [hq, avl, reduceCtorEq, ↓reduceIte, sevalprocAttr, h65, (eq_true hr'), hw1, hx, bA, eq_self, (show ((1 : Nat) : Int) = 1 from rfl), not_true_eq_false, Option.getD_some, Option.getD_none]) | ((first | refine condc_fork ?_ ?_ | refine condc_bool ?_ ?_) <;> intro hq))
            exact retw_nil (.inl rfl) rfl ⟨rfl, Nat.le_refl _⟩ (hk _ rfl) ⟨rfl, rfl, rfl⟩
          · have e : takeS a r 9 [x] = (a, r, some 11) := by unfold takeS; rw [if_neg (by simp), if_neg (by simp), if_neg (by omega), if_pos ⟨rfl, by simpa using hne⟩]
            rw [e]
            unfold rC
            refine acs_w p_ridgewayref06_reader__one (by simp [c_ridgewayref06_reader__one]) ?_
            show AW _ b_ridgewayref06_reader__one (RetW [] _) { n := 67, tm := [(0, _), (1, _), (2, _)], box := [b0, b1, b2, (T0, [.int .i64 (if a < 0 then 0 else a), .bool (decide (¬ a < 0)), .int .i64 r, .int .i64 (-1)])], fr := [], p := _ }
            unfold b_ridgewayref06_reader__one
            try simp -implicitDefEqProofs only [avl, reduceCtorEq, ↓reduceIte, sevalprocAttr, h65, (eq_true hr'), hw1, hx, bA, hne, (show ((1 : Nat) : Int) = 1 from rfl), not_true_eq_false, not_false_eq_true, Option.getD_some, Option.getD_none]
            repeat' (first | (refine (hκ _).mpr ?_; clear hκ) | refine kn1 ?_ | refine kr1 ?_ | refine ke1 ?_ | refine kn2 ?_ | refine kr2 ?_ | refine kx2 ?_ | refine ke2 rfl ?_ | refine kn3 ?_ | refine kr3 ?_ | refine ke3 ?_ | refine kn4 ?_ | refine kr4 ?_ | refine ke4 ?_ | refine w_seq ?_ | refine w_block ?_ | (refine aw_regk fun κ hκ => ?_; simp -implicitDefEqProofs only [avl, reduceCtorEq, ↓reduceIte, sevalprocAttr, h65, (eq_true hr'), hw1, hx, bA, hne, (show ((1 : Nat) : Int) = 1 from rfl), not_true_eq_false, not_false_eq_true, Option.getD_some, Option.getD_none]) | refine aw_exit ?_ | refine aw_ret ?_ | refine aw_skip ?_ | refine aw_label ?_ | refine condc_t ?_ | refine condc_f ?_ | (refine aw_cond2 (by simp -implicitDefEqProofs only [avl, reduceCtorEq, ↓reduceIte, sevalprocAttr, h65, (eq_true hr'), hw1, hx, bA, hne, (show ((1 : Nat) : Int) = 1 from rfl), not_true_eq_false, not_false_eq_true, Option.getD_some, Option.getD_none]; rfl) ?_) | ((first | refine gkc_fork ?_ ?_ | refine gkc_split ?_ ?_) <;> intro hq <;> simp -implicitDefEqProofs only [hq, avl, reduceCtorEq, ↓reduceIte, sevalprocAttr, h65, (eq_true hr'), hw1, hx, bA, hne, (show ((1 : Nat) : Int) = 1 from rfl), not_true_eq_false, not_false_eq_true, Option.getD_some, Option.getD_none]) | ((first | refine condc_fork ?_ ?_ | refine condc_bool ?_ ?_) <;> intro hq))
            refine callss (hw 11) ?_
            rintro v B' F' ⟨e1, e2, e3⟩
            subst e1 e2 e3
            try simp -implicitDefEqProofs only [avl, reduceCtorEq, ↓reduceIte, sevalprocAttr]
            repeat' (first | (refine (hκ _).mpr ?_; clear hκ) | refine kn1 ?_ | refine kr1 ?_ | refine ke1 ?_ | refine kn2 ?_ | refine kr2 ?_ | refine kx2 ?_ | refine ke2 rfl ?_ | refine kn3 ?_ | refine kr3 ?_ | refine ke3 ?_ | refine kn4 ?_ | refine kr4 ?_ | refine ke4 ?_ | refine w_seq ?_ | refine w_block ?_ | (refine aw_regk fun κ hκ => ?_; simp -implicitDefEqProofs only [avl, reduceCtorEq, ↓reduceIte, sevalprocAttr]) | refine aw_exit ?_ | refine aw_ret ?_ | refine aw_skip ?_ | refine aw_label ?_ | refine condc_t ?_ | refine condc_f ?_ | (refine aw_cond2 (by simp -implicitDefEqProofs only [avl, reduceCtorEq, ↓reduceIte, sevalprocAttr]; rfl) ?_) | ((first | refine gkc_fork ?_ ?_ | refine gkc_split ?_ ?_) <;> intro hq <;> simp -implicitDefEqProofs only [hq, avl, reduceCtorEq, ↓reduceIte, sevalprocAttr]) | ((first | refine condc_fork ?_ ?_ | refine condc_bool ?_ ?_) <;> intro hq))
            exact retw_nil (.inr rfl) rfl ⟨rfl, Nat.le_refl _⟩ (hk _ rfl) ⟨rfl, rfl, rfl⟩
      · have e : takeS a r 9 b = (a, r, some 0) := by unfold takeS; rw [if_pos (.inr ⟨rfl, hl⟩)]
        have hl' : ¬ ((b.length : Nat) : Int) = 1 := by omega
        rw [e]
        unfold rC
        refine acs_w p_ridgewayref06_reader__one (by simp [c_ridgewayref06_reader__one]) ?_
        show AW _ b_ridgewayref06_reader__one (RetW [] _) { n := 67, tm := [(0, _), (1, _), (2, _)], box := [b0, b1, b2, (T0, [.int .i64 (if a < 0 then 0 else a), .bool (decide (¬ a < 0)), .int .i64 r, .int .i64 (-1)])], fr := [], p := _ }
        unfold b_ridgewayref06_reader__one
        try simp -implicitDefEqProofs only [avl, reduceCtorEq, ↓reduceIte, sevalprocAttr, h65, hl', not_true_eq_false, not_false_eq_true, Option.getD_some, Option.getD_none]
        repeat' (first | (refine (hκ _).mpr ?_; clear hκ) | refine kn1 ?_ | refine kr1 ?_ | refine ke1 ?_ | refine kn2 ?_ | refine kr2 ?_ | refine kx2 ?_ | refine ke2 rfl ?_ | refine kn3 ?_ | refine kr3 ?_ | refine ke3 ?_ | refine kn4 ?_ | refine kr4 ?_ | refine ke4 ?_ | refine w_seq ?_ | refine w_block ?_ | (refine aw_regk fun κ hκ => ?_; simp -implicitDefEqProofs only [avl, reduceCtorEq, ↓reduceIte, sevalprocAttr, h65, hl', not_true_eq_false, not_false_eq_true, Option.getD_some, Option.getD_none]) | refine aw_exit ?_ | refine aw_ret ?_ | refine aw_skip ?_ | refine aw_label ?_ | refine condc_t ?_ | refine condc_f ?_ | (refine aw_cond2 (by simp -implicitDefEqProofs only [avl, reduceCtorEq, ↓reduceIte, sevalprocAttr, h65, hl', not_true_eq_false, not_false_eq_true, Option.getD_some, Option.getD_none]; rfl) ?_) | ((first | refine gkc_fork ?_ ?_ | refine gkc_split ?_ ?_) <;> intro hq <;> simp -implicitDefEqProofs only [hq, avl, reduceCtorEq, ↓reduceIte, sevalprocAttr, h65, hl', not_true_eq_false, not_false_eq_true, Option.getD_some, Option.getD_none]) | ((first | refine condc_fork ?_ ?_ | refine condc_bool ?_ ?_) <;> intro hq))
        refine callss (hw 0) ?_
        rintro v B' F' ⟨e1, e2, e3⟩
        subst e1 e2 e3
        try simp -implicitDefEqProofs only [avl, reduceCtorEq, ↓reduceIte, sevalprocAttr]
        repeat' (first | (refine (hκ _).mpr ?_; clear hκ) | refine kn1 ?_ | refine kr1 ?_ | refine ke1 ?_ | refine kn2 ?_ | refine kr2 ?_ | refine kx2 ?_ | refine ke2 rfl ?_ | refine kn3 ?_ | refine kr3 ?_ | refine ke3 ?_ | refine kn4 ?_ | refine kr4 ?_ | refine ke4 ?_ | refine w_seq ?_ | refine w_block ?_ | (refine aw_regk fun κ hκ => ?_; simp -implicitDefEqProofs only [avl, reduceCtorEq, ↓reduceIte, sevalprocAttr]) | refine aw_exit ?_ | refine aw_ret ?_ | refine aw_skip ?_ | refine aw_label ?_ | refine condc_t ?_ | refine condc_f ?_ | (refine aw_cond2 (by simp -implicitDefEqProofs only [avl, reduceCtorEq, ↓reduceIte, sevalprocAttr]; rfl) ?_) | ((first | refine gkc_fork ?_ ?_ | refine gkc_split ?_ ?_) <;> intro hq <;> simp -implicitDefEqProofs only [hq, avl, reduceCtorEq, ↓reduceIte, sevalprocAttr]) | ((first | refine condc_fork ?_ ?_ | refine condc_bool ?_ ?_) <;> intro hq))
        exact retw_nil (.inr rfl) rfl ⟨rfl, Nat.le_refl _⟩ (hk _ rfl) ⟨rfl, rfl, rfl⟩
    · have e : takeS a r c b = (a, r, none) := by unfold takeS; rw [if_neg (by omega), if_neg (by omega), if_neg (by omega), if_neg (by omega)]
      rw [e]
      unfold rC
      refine acs_w p_ridgewayref06_reader__one (by simp [c_ridgewayref06_reader__one]) ?_
      show AW _ b_ridgewayref06_reader__one (RetW [] _) { n := 67, tm := [(0, _), (1, _), (2, _)], box := [b0, b1, b2, (T0, [.int .i64 (if a < 0 then 0 else a), .bool (decide (¬ a < 0)), .int .i64 r, .int .i64 (-1)])], fr := [], p := _ }
      unfold b_ridgewayref06_reader__one
      try simp -implicitDefEqProofs only [avl, reduceCtorEq, ↓reduceIte, sevalprocAttr, h65, h9, Option.getD_some, Option.getD_none]
      repeat' (first | (refine (hκ _).mpr ?_; clear hκ) | refine kn1 ?_ | refine kr1 ?_ | refine ke1 ?_ | refine kn2 ?_ | refine kr2 ?_ | refine kx2 ?_ | refine ke2 rfl ?_ | refine kn3 ?_ | refine kr3 ?_ | refine ke3 ?_ | refine kn4 ?_ | refine kr4 ?_ | refine ke4 ?_ | refine w_seq ?_ | refine w_block ?_ | (refine aw_regk fun κ hκ => ?_; simp -implicitDefEqProofs only [avl, reduceCtorEq, ↓reduceIte, sevalprocAttr, h65, h9, Option.getD_some, Option.getD_none]) | refine aw_exit ?_ | refine aw_ret ?_ | refine aw_skip ?_ | refine aw_label ?_ | refine condc_t ?_ | refine condc_f ?_ | (refine aw_cond2 (by simp -implicitDefEqProofs only [avl, reduceCtorEq, ↓reduceIte, sevalprocAttr, h65, h9, Option.getD_some, Option.getD_none]; rfl) ?_) | ((first | refine gkc_fork ?_ ?_ | refine gkc_split ?_ ?_) <;> intro hq <;> simp -implicitDefEqProofs only [hq, avl, reduceCtorEq, ↓reduceIte, sevalprocAttr, h65, h9, Option.getD_some, Option.getD_none]) | ((first | refine condc_fork ?_ ?_ | refine condc_bool ?_ ?_) <;> intro hq))
      exact retw_nil (.inl rfl) rfl ⟨rfl, Nat.le_refl _⟩ (hk _ rfl) ⟨rfl, rfl, rfl⟩
theorem takeS_pos {a r c : Int} {b : List UInt8} {a' r' e : Int} (h : takeS a r c b = (a', r', some e)) : 0 ≤ e := by
  unfold takeS at h
  repeat' split at h
  all_goals simp only [Prod.mk.injEq, Option.some.injEq, reduceCtorEq, and_false] at h
  all_goals omega
theorem eachS_pos {f : Int → Int → Int → List UInt8 → Int × Int × Option Int} (hf : ∀ {a r c b a' r' e}, f a r c b = (a', r', some e) → 0 ≤ e) : ∀ (n : Nat) (l : List UInt8) (a r : Int), l.length ≤ n → ∀ {a' r' e}, eachS f a r l = (a', r', some e) → 0 ≤ e
  | n, [], a, r, _, a', r', e, h => by
    rw [eachS] at h
    simp at h
  | n, [_], a, r, _, a', r', e, h => by
    rw [eachS] at h
    simp at h
    omega
  | 0, _ :: _ :: _, _, _, hn, _, _, _, _ => by simp at hn
  | n + 1, k :: c :: t, a, r, hn, a', r', e, h => by
    rw [eachS] at h
    split at h
    · split at h
      · exact eachS_pos hf n _ _ _ (by simp at hn ⊢; omega) h
      · rename_i hq
        simp only [Prod.mk.injEq, Option.some.injEq] at h
        obtain ⟨_, _, rfl⟩ := h
        exact hf hq
    · simp only [Prod.mk.injEq, Option.some.injEq] at h
      omega
theorem parS_pos {a r c : Int} {b : List UInt8} {a' r' e : Int} (h : parS a r c b = (a', r', some e)) : 0 ≤ e := by
  unfold parS at h
  split at h
  · exact eachS_pos takeS_pos b.length b a r (Nat.le_refl _) h
  · simp only [Prod.mk.injEq, Option.some.injEq] at h
    omega
theorem cut1 (n : Nat) (x y : AV) (l : List AV) : List.drop 2 (List.take (2 + n) (x :: y :: l)) = List.take n l := by
  rw [show 2 + n = n + 2 by omega]
  rfl
theorem cut2 (n : Nat) (x y : AV) (l : List AV) : List.drop (2 + n) (x :: y :: l) = List.drop n l := by
  rw [show 2 + n = n + 2 by omega]
  rfl
theorem caps6_acs (b0 b1 b2 : TypeId × List AV) (T0 : TypeId) (a0 r0 : Int) (l0 : List UInt8) (hl0 : l0.length ≤ 1000000) (hB : okBx 0 4 [b0, b1, b2] = true) :
    ACs Try.prog 70 [.ptr 3 0, .slice .imm 1 (l0.map bA)] [b0, b1, b2, (T0, rC a0 r0 none)] []
      fun v B' F' => v = .tup [] ∧ B' = [b0, b1, b2, (T0, rC (eachS takeS a0 r0 l0).1 (eachS takeS a0 r0 l0).2.1 (eachS takeS a0 r0 l0).2.2)] ∧ F' = [] := by
  have hk : ∀ cs, okBL 0 4 cs = true → okBx 0 4 [b0, b1, b2, (T0, cs)] = true := fun cs h => by
    unfold okBx at hB ⊢
    simp only [List.all_cons, Bool.and_eq_true] at hB ⊢
    exact ⟨hB.1, hB.2.1, hB.2.2.1, h, hB.2.2.2⟩
  have hw := fun a r e => wrong6_acs b0 b1 b2 T0 a r e hB
  unfold rC at hw
  simp only [Option.getD_some, Option.getD_none] at hw
  generalize hres : eachS takeS a0 r0 l0 = res
  unfold rC
  refine acs_w p_ridgewayref06_reader__caps (by simp [c_ridgewayref06_reader__caps]) ?_
  show AW _ b_ridgewayref06_reader__caps (RetW [] _) { n := 46, tm := [(0, _), (1, _)], box := [b0, b1, b2, (T0, [.int .i64 (if a0 < 0 then 0 else a0), .bool (decide (¬ a0 < 0)), .int .i64 r0, .int .i64 (-1)])], fr := [], p := _ }
  unfold b_ridgewayref06_reader__caps
  try simp -implicitDefEqProofs only [avl, reduceCtorEq, ↓reduceIte, sevalprocAttr]
  repeat' (first | (refine (hκ _).mpr ?_; clear hκ) | refine kn1 ?_ | refine kr1 ?_ | refine ke1 ?_ | refine kn2 ?_ | refine kr2 ?_ | refine kx2 ?_ | refine ke2 rfl ?_ | refine kn3 ?_ | refine kr3 ?_ | refine ke3 ?_ | refine kn4 ?_ | refine kr4 ?_ | refine ke4 ?_ | refine w_seq ?_ | refine w_block ?_ | (refine aw_regk fun κ hκ => ?_; simp -implicitDefEqProofs only [avl, reduceCtorEq, ↓reduceIte, sevalprocAttr]) | refine aw_exit ?_ | refine aw_ret ?_ | refine aw_skip ?_ | refine aw_label ?_ | refine condc_t ?_ | refine condc_f ?_ | (refine aw_cond2 (by simp -implicitDefEqProofs only [avl, reduceCtorEq, ↓reduceIte, sevalprocAttr]; rfl) ?_) | ((first | refine gkc_fork ?_ ?_ | refine gkc_split ?_ ?_) <;> intro hq <;> simp -implicitDefEqProofs only [hq, avl, reduceCtorEq, ↓reduceIte, sevalprocAttr]) | ((first | refine condc_fork ?_ ?_ | refine condc_bool ?_ ?_) <;> intro hq))
  refine w_loop (fun (i : Int × Int × Option Int × List UInt8) => i.2.2.2.length ≤ 1000000 ∧ (match i.2.2.1 with | none => eachS takeS i.1 i.2.1 i.2.2.2 = res | some e => res = (i.1, i.2.1, some e) ∧ 0 ≤ e)) (fun (i : Int × Int × Option Int × List UInt8) => { n := 46, tm := [(0, .ptr 3 0), (1, .slice .imm 1 (i.2.2.2.map bA))], box := [b0, b1, b2, (T0, [.int .i64 (if i.1 < 0 then 0 else i.1), .bool (decide (¬ i.1 < 0)), .int .i64 i.2.1, .int .i64 (i.2.2.1.getD (-1))])], fr := [], p := (4, 0) }) (fun i => i.2.2.2.length) (a0, r0, none, l0) ⟨hl0, hres⟩ ?_ ?_
  · refine wk_of 0 [] ?_ ?_ rfl rfl ?_ ?_ ?_
    rotate_left 3
    rotate_left 2
    focus (first | rfl | (simp; done) | (simp; omega))
    focus (first | rfl | (simp; done) | (simp; omega) | exact Nat.zero_le _)
    focus (first | exact ⟨Nat.zero_le _, Nat.zero_le _⟩ | (simp; done) | (simp; omega))
    rotate_left 1
    focus (exact wkB_refl (hk _ rfl))
    all_goals (repeat' (first | exact trivial | apply And.intro))
    all_goals first
      | exact rfl
      | exact .same _ rfl
      | exact .und _
      | (refine .same _ ?_; (focus (simp [okB, okBL]; done)))
      | (refine .same _ (okB_pur ?_); (focus (simp [purs]; done)))
      | (refine .same _ (ok_app ?_ ?_); (focus (simp; done)); (focus (simp [purs]; done)))
      | (simp -implicitDefEqProofs only [List.append_assoc, avl, reduceCtorEq, ↓reduceIte, sevalprocAttr]; first | exact .same _ rfl | (refine .same _ ?_; (focus (simp [okB, okBL]; done))) | (refine .same _ (okB_pur ?_); (focus (simp [purs]; done))) | (refine .same _ (ok_app ?_ ?_); (focus (simp; done)); (focus (simp [purs]; done))) | (refine .tag _ _ _ _ _ ?_ ?_ (fr_at rfl ?_) (okBL_pur ?_); (focus (first | exact .inl rfl | (simp; done))); (focus (simp; done)); (focus (first | rfl | (simp; done) | (simp; omega))); (focus (simp [purs]; done))) | (refine .imm _ _ _ _ ?_ (okBL_pur ?_); (focus (first | exact .inl rfl | (simp; done))); (focus (simp [purs]; done))) | skip)
      | skip
  · rintro ⟨a, r, n, l⟩ ⟨hll, hr⟩
    simp only at hr hll
    cases n with
    | some e =>
      obtain ⟨hr, he⟩ := hr
      subst hr
      have he' : ¬ e < 0 := by omega
      try simp -implicitDefEqProofs only [avl, reduceCtorEq, ↓reduceIte, sevalprocAttr, he', Option.getD_some]
      repeat' (first | (refine (hκ _).mpr ?_; clear hκ) | refine kn1 ?_ | refine kr1 ?_ | refine ke1 ?_ | refine kn2 ?_ | refine kr2 ?_ | refine kx2 ?_ | refine ke2 rfl ?_ | refine kn3 ?_ | refine kr3 ?_ | refine ke3 ?_ | refine kn4 ?_ | refine kr4 ?_ | refine ke4 ?_ | refine w_seq ?_ | refine w_block ?_ | (refine aw_regk fun κ hκ => ?_; simp -implicitDefEqProofs only [avl, reduceCtorEq, ↓reduceIte, sevalprocAttr, he', Option.getD_some]) | refine aw_exit ?_ | refine aw_ret ?_ | refine aw_skip ?_ | refine aw_label ?_ | refine condc_t ?_ | refine condc_f ?_ | (refine aw_cond2 (by simp -implicitDefEqProofs only [avl, reduceCtorEq, ↓reduceIte, sevalprocAttr, he', Option.getD_some]; rfl) ?_) | ((first | refine gkc_fork ?_ ?_ | refine gkc_split ?_ ?_) <;> intro hq <;> simp -implicitDefEqProofs only [hq, avl, reduceCtorEq, ↓reduceIte, sevalprocAttr, he', Option.getD_some]) | ((first | refine condc_fork ?_ ?_ | refine condc_bool ?_ ?_) <;> intro hq))
      all_goals exact retw_nil (.inl rfl) rfl ⟨rfl, Nat.le_refl _⟩ (hk _ rfl) ⟨rfl, rfl, rfl⟩
    | none =>
      simp only at hr
      rcases l with _ | ⟨k, _ | ⟨c, t⟩⟩
      · rw [eachS] at hr
        subst hr
        try simp -implicitDefEqProofs only [avl, reduceCtorEq, ↓reduceIte, sevalprocAttr, List.map_nil, (show ¬ ((0 : Nat) : Int) > 0 by decide), Option.getD_none]
        repeat' (first | (refine (hκ _).mpr ?_; clear hκ) | refine kn1 ?_ | refine kr1 ?_ | refine ke1 ?_ | refine kn2 ?_ | refine kr2 ?_ | refine kx2 ?_ | refine ke2 rfl ?_ | refine kn3 ?_ | refine kr3 ?_ | refine ke3 ?_ | refine kn4 ?_ | refine kr4 ?_ | refine ke4 ?_ | refine w_seq ?_ | refine w_block ?_ | (refine aw_regk fun κ hκ => ?_; simp -implicitDefEqProofs only [avl, reduceCtorEq, ↓reduceIte, sevalprocAttr, List.map_nil, (show ¬ ((0 : Nat) : Int) > 0 by decide), Option.getD_none]) | refine aw_exit ?_ | refine aw_ret ?_ | refine aw_skip ?_ | refine aw_label ?_ | refine condc_t ?_ | refine condc_f ?_ | (refine aw_cond2 (by simp -implicitDefEqProofs only [avl, reduceCtorEq, ↓reduceIte, sevalprocAttr, List.map_nil, (show ¬ ((0 : Nat) : Int) > 0 by decide), Option.getD_none]; rfl) ?_) | ((first | refine gkc_fork ?_ ?_ | refine gkc_split ?_ ?_) <;> intro hq <;> simp -implicitDefEqProofs only [hq, avl, reduceCtorEq, ↓reduceIte, sevalprocAttr, List.map_nil, (show ¬ ((0 : Nat) : Int) > 0 by decide), Option.getD_none]) | ((first | refine condc_fork ?_ ?_ | refine condc_bool ?_ ?_) <;> intro hq))
        exact retw_nil (.inl rfl) rfl ⟨rfl, Nat.le_refl _⟩ (hk _ rfl) ⟨rfl, rfl, rfl⟩
      · rw [eachS] at hr
        subst hr
        try simp -implicitDefEqProofs only [avl, reduceCtorEq, ↓reduceIte, sevalprocAttr, (show ((1 : Nat) : Int) > 0 by decide), (show ((1 : Nat) : Int) < 2 by decide), Option.getD_none]
        repeat' (first | (refine (hκ _).mpr ?_; clear hκ) | refine kn1 ?_ | refine kr1 ?_ | refine ke1 ?_ | refine kn2 ?_ | refine kr2 ?_ | refine kx2 ?_ | refine ke2 rfl ?_ | refine kn3 ?_ | refine kr3 ?_ | refine ke3 ?_ | refine kn4 ?_ | refine kr4 ?_ | refine ke4 ?_ | refine w_seq ?_ | refine w_block ?_ | (refine aw_regk fun κ hκ => ?_; simp -implicitDefEqProofs only [avl, reduceCtorEq, ↓reduceIte, sevalprocAttr, (show ((1 : Nat) : Int) > 0 by decide), (show ((1 : Nat) : Int) < 2 by decide), Option.getD_none]) | refine aw_exit ?_ | refine aw_ret ?_ | refine aw_skip ?_ | refine aw_label ?_ | refine condc_t ?_ | refine condc_f ?_ | (refine aw_cond2 (by simp -implicitDefEqProofs only [avl, reduceCtorEq, ↓reduceIte, sevalprocAttr, (show ((1 : Nat) : Int) > 0 by decide), (show ((1 : Nat) : Int) < 2 by decide), Option.getD_none]; rfl) ?_) | ((first | refine gkc_fork ?_ ?_ | refine gkc_split ?_ ?_) <;> intro hq <;> simp -implicitDefEqProofs only [hq, avl, reduceCtorEq, ↓reduceIte, sevalprocAttr, (show ((1 : Nat) : Int) > 0 by decide), (show ((1 : Nat) : Int) < 2 by decide), Option.getD_none]) | ((first | refine condc_fork ?_ ?_ | refine condc_bool ?_ ?_) <;> intro hq))
        refine callss (hw _ _ 0) ?_
        rintro v B' F' ⟨e1, e2, e3⟩
        subst e1 e2 e3
        try simp -implicitDefEqProofs only [avl, reduceCtorEq, ↓reduceIte, sevalprocAttr]
        repeat' (first | (refine (hκ _).mpr ?_; clear hκ) | refine kn1 ?_ | refine kr1 ?_ | refine ke1 ?_ | refine kn2 ?_ | refine kr2 ?_ | refine kx2 ?_ | refine ke2 rfl ?_ | refine kn3 ?_ | refine kr3 ?_ | refine ke3 ?_ | refine kn4 ?_ | refine kr4 ?_ | refine ke4 ?_ | refine w_seq ?_ | refine w_block ?_ | (refine aw_regk fun κ hκ => ?_; simp -implicitDefEqProofs only [avl, reduceCtorEq, ↓reduceIte, sevalprocAttr]) | refine aw_exit ?_ | refine aw_ret ?_ | refine aw_skip ?_ | refine aw_label ?_ | refine condc_t ?_ | refine condc_f ?_ | (refine aw_cond2 (by simp -implicitDefEqProofs only [avl, reduceCtorEq, ↓reduceIte, sevalprocAttr]; rfl) ?_) | ((first | refine gkc_fork ?_ ?_ | refine gkc_split ?_ ?_) <;> intro hq <;> simp -implicitDefEqProofs only [hq, avl, reduceCtorEq, ↓reduceIte, sevalprocAttr]) | ((first | refine condc_fork ?_ ?_ | refine condc_bool ?_ ?_) <;> intro hq))
        exact retw_nil (.inr rfl) rfl ⟨rfl, Nat.le_refl _⟩ (hk _ rfl) ⟨rfl, rfl, rfl⟩
      · have hpos : ((t.length + 1 + 1 : Nat) : Int) > 0 := by omega
        have hn2 : ¬ ((t.length + 1 + 1 : Nat) : Int) < 2 := by omega
        have h1 : (1 : Int) < ((t.length + 1 + 1 : Nat) : Int) := by omega
        have h0 : (0 : Int) < ((t.length + 1 + 1 : Nat) : Int) := by omega
        have hcb : c.toNat < 256 := c.toNat_lt
        have hc1 : IntKind.i64.wrap (c.toNat : Int) = c.toNat := by rw [wrap64 (by omega) (by omega)]
        have hc2 : IntKind.i64.wrap (2 + (c.toNat : Int)) = ((2 + c.toNat : Nat) : Int) := by rw [wrap64 (by omega) (by omega)]; omega
        have hll' : t.length + 1 + 1 ≤ 1000000 := by simpa using hll
        by_cases hct : c.toNat ≤ t.length
        · have hcc : ¬ ((t.length + 1 + 1 : Nat) : Int) < ((2 + c.toNat : Nat) : Int) := by omega
          rw [eachS, if_pos hct] at hr
          have e1 : 2 ≤ 2 + c.toNat := by omega
          have e2 : 2 + c.toNat ≤ t.length + 1 + 1 := by omega
          have e3 : 0 ≤ (2 + c.toNat : Nat) := by omega
          have hkb : k.toNat < 256 := k.toNat_lt
          rcases hf : takeS a r (k.toNat : Int) (t.take c.toNat) with ⟨a', r', _ | e⟩
          · rw [hf] at hr
            have ho := one6_acs b0 b1 b2 T0 a r k (t.take c.toNat) hB
            rw [hf] at ho
            unfold rC at ho
            simp only [Option.getD_none, Option.getD_some, List.map_take] at ho
            try simp -implicitDefEqProofs only [avl, reduceCtorEq, ↓reduceIte, sevalprocAttr, hpos, hn2, h1, h0, hc1, hc2, hcc, hct, e1, e2, bA, Option.getD_none, false_and, ite_self, cut1, cut1]
            repeat' (first | (refine (hκ _).mpr ?_; clear hκ) | refine kn1 ?_ | refine kr1 ?_ | refine ke1 ?_ | refine kn2 ?_ | refine kr2 ?_ | refine kx2 ?_ | refine ke2 rfl ?_ | refine kn3 ?_ | refine kr3 ?_ | refine ke3 ?_ | refine kn4 ?_ | refine kr4 ?_ | refine ke4 ?_ | refine w_seq ?_ | refine w_block ?_ | (refine aw_regk fun κ hκ => ?_; simp -implicitDefEqProofs only [avl, reduceCtorEq, ↓reduceIte, sevalprocAttr, hpos, hn2, h1, h0, hc1, hc2, hcc, hct, e1, e2, bA, Option.getD_none, false_and, ite_self, cut1, cut1]) | refine aw_exit ?_ | refine aw_ret ?_ | refine aw_skip ?_ | refine aw_label ?_ | refine condc_t ?_ | refine condc_f ?_ | (refine aw_cond2 (by simp -implicitDefEqProofs only [avl, reduceCtorEq, ↓reduceIte, sevalprocAttr, hpos, hn2, h1, h0, hc1, hc2, hcc, hct, e1, e2, bA, Option.getD_none, false_and, ite_self, cut1, cut1]; rfl) ?_) | ((first | refine gkc_fork ?_ ?_ | refine gkc_split ?_ ?_) <;> intro hq <;> simp -implicitDefEqProofs only [hq, avl, reduceCtorEq, ↓reduceIte, sevalprocAttr, hpos, hn2, h1, h0, hc1, hc2, hcc, hct, e1, e2, bA, Option.getD_none, false_and, ite_self, cut1, cut1]) | ((first | refine condc_fork ?_ ?_ | refine condc_bool ?_ ?_) <;> intro hq))
            refine callss ho ?_
            rintro v B' F' ⟨e1, e2, e3⟩
            subst e1 e2 e3
            try simp -implicitDefEqProofs only [avl, reduceCtorEq, ↓reduceIte, sevalprocAttr, hpos, hn2, h1, h0, hc1, hc2, hcc, hct, bA, Option.getD_none, false_and, ite_self, cut2, take_all, (show 2 + c.toNat ≤ t.length + 1 + 1 by omega)]
            repeat' (first | (refine (hκ _).mpr ?_; clear hκ) | refine kn1 ?_ | refine kr1 ?_ | refine ke1 ?_ | refine kn2 ?_ | refine kr2 ?_ | refine kx2 ?_ | refine ke2 rfl ?_ | refine kn3 ?_ | refine kr3 ?_ | refine ke3 ?_ | refine kn4 ?_ | refine kr4 ?_ | refine ke4 ?_ | refine w_seq ?_ | refine w_block ?_ | (refine aw_regk fun κ hκ => ?_; simp -implicitDefEqProofs only [avl, reduceCtorEq, ↓reduceIte, sevalprocAttr, hpos, hn2, h1, h0, hc1, hc2, hcc, hct, bA, Option.getD_none, false_and, ite_self, cut2, take_all, (show 2 + c.toNat ≤ t.length + 1 + 1 by omega)]) | refine aw_exit ?_ | refine aw_ret ?_ | refine aw_skip ?_ | refine aw_label ?_ | refine condc_t ?_ | refine condc_f ?_ | (refine aw_cond2 (by simp -implicitDefEqProofs only [avl, reduceCtorEq, ↓reduceIte, sevalprocAttr, hpos, hn2, h1, h0, hc1, hc2, hcc, hct, bA, Option.getD_none, false_and, ite_self, cut2, take_all, (show 2 + c.toNat ≤ t.length + 1 + 1 by omega)]; rfl) ?_) | ((first | refine gkc_fork ?_ ?_ | refine gkc_split ?_ ?_) <;> intro hq <;> simp -implicitDefEqProofs only [hq, avl, reduceCtorEq, ↓reduceIte, sevalprocAttr, hpos, hn2, h1, h0, hc1, hc2, hcc, hct, bA, Option.getD_none, false_and, ite_self, cut2, take_all, (show 2 + c.toNat ≤ t.length + 1 + 1 by omega)]) | ((first | refine condc_fork ?_ ?_ | refine condc_bool ?_ ?_) <;> intro hq))
            refine ⟨(a', r', none, t.drop c.toNat), ⟨by simp; omega, hr⟩, ?_, by simp; omega⟩
            refine wk_of 0 [] ?_ ?_ rfl rfl ?_ ?_ ?_
            rotate_left 3
            rotate_left 2
            focus (first | rfl | (simp; done) | (simp; omega))
            focus (first | rfl | (simp; done) | (simp; omega) | exact Nat.zero_le _)
            focus (first | exact ⟨Nat.zero_le _, Nat.zero_le _⟩ | (simp; done) | (simp; omega))
            rotate_left 1
            focus (exact wkB_refl (hk _ rfl))
            all_goals (repeat' (first | exact trivial | apply And.intro))
            all_goals first
              | exact rfl
              | exact .same _ rfl
              | exact .und _
              | (refine .same _ ?_; (focus (simp [okB, okBL]; done)))
              | (refine .same _ (okB_pur ?_); (focus (simp [purs]; done)))
              | (refine .same _ (ok_app ?_ ?_); (focus (simp; done)); (focus (simp [purs]; done)))
              | (simp -implicitDefEqProofs only [List.append_assoc, avl, reduceCtorEq, ↓reduceIte, sevalprocAttr, List.map_drop, cut2, take_all]; first | exact .same _ rfl | (refine .same _ ?_; (focus (simp [okB, okBL]; done))) | (refine .same _ (okB_pur ?_); (focus (simp [purs]; done))) | (refine .same _ (ok_app ?_ ?_); (focus (simp; done)); (focus (simp [purs]; done))) | (refine .tag _ _ _ _ _ ?_ ?_ (fr_at rfl ?_) (okBL_pur ?_); (focus (first | exact .inl rfl | (simp [List.map_drop, cut2, take_all]; done))); (focus (simp; done)); (focus (first | rfl | (simp; done) | (simp; omega))); (focus (simp [purs]; done))) | (refine .imm _ _ _ _ ?_ (okBL_pur ?_); (focus (first | exact .inl rfl | (simp [List.map_drop, cut2, take_all]; done))); (focus (simp [purs]; done))) | skip)
              | skip
          · rw [hf] at hr
            simp only at hr
            have ho := one6_acs b0 b1 b2 T0 a r k (t.take c.toNat) hB
            rw [hf] at ho
            unfold rC at ho
            simp only [Option.getD_none, Option.getD_some, List.map_take] at ho
            try simp -implicitDefEqProofs only [avl, reduceCtorEq, ↓reduceIte, sevalprocAttr, hpos, hn2, h1, h0, hc1, hc2, hcc, hct, e1, e2, bA, Option.getD_none, false_and, ite_self, cut1]
            repeat' (first | (refine (hκ _).mpr ?_; clear hκ) | refine kn1 ?_ | refine kr1 ?_ | refine ke1 ?_ | refine kn2 ?_ | refine kr2 ?_ | refine kx2 ?_ | refine ke2 rfl ?_ | refine kn3 ?_ | refine kr3 ?_ | refine ke3 ?_ | refine kn4 ?_ | refine kr4 ?_ | refine ke4 ?_ | refine w_seq ?_ | refine w_block ?_ | (refine aw_regk fun κ hκ => ?_; simp -implicitDefEqProofs only [avl, reduceCtorEq, ↓reduceIte, sevalprocAttr, hpos, hn2, h1, h0, hc1, hc2, hcc, hct, e1, e2, bA, Option.getD_none, false_and, ite_self, cut1]) | refine aw_exit ?_ | refine aw_ret ?_ | refine aw_skip ?_ | refine aw_label ?_ | refine condc_t ?_ | refine condc_f ?_ | (refine aw_cond2 (by simp -implicitDefEqProofs only [avl, reduceCtorEq, ↓reduceIte, sevalprocAttr, hpos, hn2, h1, h0, hc1, hc2, hcc, hct, e1, e2, bA, Option.getD_none, false_and, ite_self, cut1]; rfl) ?_) | ((first | refine gkc_fork ?_ ?_ | refine gkc_split ?_ ?_) <;> intro hq <;> simp -implicitDefEqProofs only [hq, avl, reduceCtorEq, ↓reduceIte, sevalprocAttr, hpos, hn2, h1, h0, hc1, hc2, hcc, hct, e1, e2, bA, Option.getD_none, false_and, ite_self, cut1]) | ((first | refine condc_fork ?_ ?_ | refine condc_bool ?_ ?_) <;> intro hq))
            refine callss ho ?_
            rintro v B' F' ⟨e1, e2, e3⟩
            subst e1 e2 e3
            try simp -implicitDefEqProofs only [avl, reduceCtorEq, ↓reduceIte, sevalprocAttr, hpos, hn2, h1, h0, hc1, hc2, hcc, hct, bA, Option.getD_none, false_and, ite_self, cut2, take_all, (show 2 + c.toNat ≤ t.length + 1 + 1 by omega)]
            repeat' (first | (refine (hκ _).mpr ?_; clear hκ) | refine kn1 ?_ | refine kr1 ?_ | refine ke1 ?_ | refine kn2 ?_ | refine kr2 ?_ | refine kx2 ?_ | refine ke2 rfl ?_ | refine kn3 ?_ | refine kr3 ?_ | refine ke3 ?_ | refine kn4 ?_ | refine kr4 ?_ | refine ke4 ?_ | refine w_seq ?_ | refine w_block ?_ | (refine aw_regk fun κ hκ => ?_; simp -implicitDefEqProofs only [avl, reduceCtorEq, ↓reduceIte, sevalprocAttr, hpos, hn2, h1, h0, hc1, hc2, hcc, hct, bA, Option.getD_none, false_and, ite_self, cut2, take_all, (show 2 + c.toNat ≤ t.length + 1 + 1 by omega)]) | refine aw_exit ?_ | refine aw_ret ?_ | refine aw_skip ?_ | refine aw_label ?_ | refine condc_t ?_ | refine condc_f ?_ | (refine aw_cond2 (by simp -implicitDefEqProofs only [avl, reduceCtorEq, ↓reduceIte, sevalprocAttr, hpos, hn2, h1, h0, hc1, hc2, hcc, hct, bA, Option.getD_none, false_and, ite_self, cut2, take_all, (show 2 + c.toNat ≤ t.length + 1 + 1 by omega)]; rfl) ?_) | ((first | refine gkc_fork ?_ ?_ | refine gkc_split ?_ ?_) <;> intro hq <;> simp -implicitDefEqProofs only [hq, avl, reduceCtorEq, ↓reduceIte, sevalprocAttr, hpos, hn2, h1, h0, hc1, hc2, hcc, hct, bA, Option.getD_none, false_and, ite_self, cut2, take_all, (show 2 + c.toNat ≤ t.length + 1 + 1 by omega)]) | ((first | refine condc_fork ?_ ?_ | refine condc_bool ?_ ?_) <;> intro hq))
            refine ⟨(a', r', some e, t.drop c.toNat), ⟨by simp; omega, hr.symm, takeS_pos hf⟩, ?_, by simp; omega⟩
            refine wk_of 0 [] ?_ ?_ rfl rfl ?_ ?_ ?_
            rotate_left 3
            rotate_left 2
            focus (first | rfl | (simp; done) | (simp; omega))
            focus (first | rfl | (simp; done) | (simp; omega) | exact Nat.zero_le _)
            focus (first | exact ⟨Nat.zero_le _, Nat.zero_le _⟩ | (simp; done) | (simp; omega))
            rotate_left 1
            focus (exact wkB_refl (hk _ rfl))
            all_goals (repeat' (first | exact trivial | apply And.intro))
            all_goals first
              | exact rfl
              | exact .same _ rfl
              | exact .und _
              | (refine .same _ ?_; (focus (simp [okB, okBL]; done)))
              | (refine .same _ (okB_pur ?_); (focus (simp [purs]; done)))
              | (refine .same _ (ok_app ?_ ?_); (focus (simp; done)); (focus (simp [purs]; done)))
              | (simp -implicitDefEqProofs only [List.append_assoc, avl, reduceCtorEq, ↓reduceIte, sevalprocAttr, List.map_drop, Option.getD_some, cut2, take_all]; first | exact .same _ rfl | (refine .same _ ?_; (focus (simp [okB, okBL]; done))) | (refine .same _ (okB_pur ?_); (focus (simp [purs]; done))) | (refine .same _ (ok_app ?_ ?_); (focus (simp; done)); (focus (simp [purs]; done))) | (refine .tag _ _ _ _ _ ?_ ?_ (fr_at rfl ?_) (okBL_pur ?_); (focus (first | exact .inl rfl | (simp [List.map_drop, Option.getD_some, cut2, take_all]; done))); (focus (simp; done)); (focus (first | rfl | (simp; done) | (simp; omega))); (focus (simp [purs]; done))) | (refine .imm _ _ _ _ ?_ (okBL_pur ?_); (focus (first | exact .inl rfl | (simp [List.map_drop, Option.getD_some, cut2, take_all]; done))); (focus (simp [purs]; done))) | skip)
              | skip
        · have hcc : ((t.length + 1 + 1 : Nat) : Int) < ((2 + c.toNat : Nat) : Int) := by omega
          rw [eachS, if_neg hct] at hr
          subst hr
          try simp -implicitDefEqProofs only [avl, reduceCtorEq, ↓reduceIte, sevalprocAttr, hpos, hn2, h1, h0, hc1, hc2, hcc, bA, Option.getD_none]
          repeat' (first | (refine (hκ _).mpr ?_; clear hκ) | refine kn1 ?_ | refine kr1 ?_ | refine ke1 ?_ | refine kn2 ?_ | refine kr2 ?_ | refine kx2 ?_ | refine ke2 rfl ?_ | refine kn3 ?_ | refine kr3 ?_ | refine ke3 ?_ | refine kn4 ?_ | refine kr4 ?_ | refine ke4 ?_ | refine w_seq ?_ | refine w_block ?_ | (refine aw_regk fun κ hκ => ?_; simp -implicitDefEqProofs only [avl, reduceCtorEq, ↓reduceIte, sevalprocAttr, hpos, hn2, h1, h0, hc1, hc2, hcc, bA, Option.getD_none]) | refine aw_exit ?_ | refine aw_ret ?_ | refine aw_skip ?_ | refine aw_label ?_ | refine condc_t ?_ | refine condc_f ?_ | (refine aw_cond2 (by simp -implicitDefEqProofs only [avl, reduceCtorEq, ↓reduceIte, sevalprocAttr, hpos, hn2, h1, h0, hc1, hc2, hcc, bA, Option.getD_none]; rfl) ?_) | ((first | refine gkc_fork ?_ ?_ | refine gkc_split ?_ ?_) <;> intro hq <;> simp -implicitDefEqProofs only [hq, avl, reduceCtorEq, ↓reduceIte, sevalprocAttr, hpos, hn2, h1, h0, hc1, hc2, hcc, bA, Option.getD_none]) | ((first | refine condc_fork ?_ ?_ | refine condc_bool ?_ ?_) <;> intro hq))
          refine callss (hw _ _ 0) ?_
          rintro v B' F' ⟨e1, e2, e3⟩
          subst e1 e2 e3
          try simp -implicitDefEqProofs only [avl, reduceCtorEq, ↓reduceIte, sevalprocAttr]
          repeat' (first | (refine (hκ _).mpr ?_; clear hκ) | refine kn1 ?_ | refine kr1 ?_ | refine ke1 ?_ | refine kn2 ?_ | refine kr2 ?_ | refine kx2 ?_ | refine ke2 rfl ?_ | refine kn3 ?_ | refine kr3 ?_ | refine ke3 ?_ | refine kn4 ?_ | refine kr4 ?_ | refine ke4 ?_ | refine w_seq ?_ | refine w_block ?_ | (refine aw_regk fun κ hκ => ?_; simp -implicitDefEqProofs only [avl, reduceCtorEq, ↓reduceIte, sevalprocAttr]) | refine aw_exit ?_ | refine aw_ret ?_ | refine aw_skip ?_ | refine aw_label ?_ | refine condc_t ?_ | refine condc_f ?_ | (refine aw_cond2 (by simp -implicitDefEqProofs only [avl, reduceCtorEq, ↓reduceIte, sevalprocAttr]; rfl) ?_) | ((first | refine gkc_fork ?_ ?_ | refine gkc_split ?_ ?_) <;> intro hq <;> simp -implicitDefEqProofs only [hq, avl, reduceCtorEq, ↓reduceIte, sevalprocAttr]) | ((first | refine condc_fork ?_ ?_ | refine condc_bool ?_ ?_) <;> intro hq))
          exact retw_nil (.inr rfl) rfl ⟨rfl, Nat.le_refl _⟩ (hk _ rfl) ⟨rfl, rfl, rfl⟩
theorem params6_acs (b0 b1 b2 : TypeId × List AV) (T0 : TypeId) (a0 r0 : Int) (l0 : List UInt8) (hl0 : l0.length ≤ 1000000) (hB : okBx 0 4 [b0, b1, b2] = true) :
    ACs Try.prog 47 [.ptr 3 0, .slice .imm 1 (l0.map bA)] [b0, b1, b2, (T0, rC a0 r0 none)] []
      fun v B' F' => v = .tup [] ∧ B' = [b0, b1, b2, (T0, rC (eachS parS a0 r0 l0).1 (eachS parS a0 r0 l0).2.1 (eachS parS a0 r0 l0).2.2)] ∧ F' = [] := by
  have hk : ∀ cs, okBL 0 4 cs = true → okBx 0 4 [b0, b1, b2, (T0, cs)] = true := fun cs h => by
    unfold okBx at hB ⊢
    simp only [List.all_cons, Bool.and_eq_true] at hB ⊢
    exact ⟨hB.1, hB.2.1, hB.2.2.1, h, hB.2.2.2⟩
  have hw := fun a r e => wrong6_acs b0 b1 b2 T0 a r e hB
  unfold rC at hw
  simp only [Option.getD_some, Option.getD_none] at hw
  generalize hres : eachS parS a0 r0 l0 = res
  unfold rC
  refine acs_w p_ridgewayref06_reader__params (by simp [c_ridgewayref06_reader__params]) ?_
  show AW _ b_ridgewayref06_reader__params (RetW [] _) { n := 49, tm := [(0, _), (1, _)], box := [b0, b1, b2, (T0, [.int .i64 (if a0 < 0 then 0 else a0), .bool (decide (¬ a0 < 0)), .int .i64 r0, .int .i64 (-1)])], fr := [], p := _ }
  unfold b_ridgewayref06_reader__params
  try simp -implicitDefEqProofs only [avl, reduceCtorEq, ↓reduceIte, sevalprocAttr]
  repeat' (first | (refine (hκ _).mpr ?_; clear hκ) | refine kn1 ?_ | refine kr1 ?_ | refine ke1 ?_ | refine kn2 ?_ | refine kr2 ?_ | refine kx2 ?_ | refine ke2 rfl ?_ | refine kn3 ?_ | refine kr3 ?_ | refine ke3 ?_ | refine kn4 ?_ | refine kr4 ?_ | refine ke4 ?_ | refine w_seq ?_ | refine w_block ?_ | (refine aw_regk fun κ hκ => ?_; simp -implicitDefEqProofs only [avl, reduceCtorEq, ↓reduceIte, sevalprocAttr]) | refine aw_exit ?_ | refine aw_ret ?_ | refine aw_skip ?_ | refine aw_label ?_ | refine condc_t ?_ | refine condc_f ?_ | (refine aw_cond2 (by simp -implicitDefEqProofs only [avl, reduceCtorEq, ↓reduceIte, sevalprocAttr]; rfl) ?_) | ((first | refine gkc_fork ?_ ?_ | refine gkc_split ?_ ?_) <;> intro hq <;> simp -implicitDefEqProofs only [hq, avl, reduceCtorEq, ↓reduceIte, sevalprocAttr]) | ((first | refine condc_fork ?_ ?_ | refine condc_bool ?_ ?_) <;> intro hq))
  refine w_loop (fun (i : Int × Int × Option Int × List UInt8) => i.2.2.2.length ≤ 1000000 ∧ (match i.2.2.1 with | none => eachS parS i.1 i.2.1 i.2.2.2 = res | some e => res = (i.1, i.2.1, some e) ∧ 0 ≤ e)) (fun (i : Int × Int × Option Int × List UInt8) => { n := 49, tm := [(0, .ptr 3 0), (1, .slice .imm 1 (i.2.2.2.map bA))], box := [b0, b1, b2, (T0, [.int .i64 (if i.1 < 0 then 0 else i.1), .bool (decide (¬ i.1 < 0)), .int .i64 i.2.1, .int .i64 (i.2.2.1.getD (-1))])], fr := [], p := (4, 0) }) (fun i => i.2.2.2.length) (a0, r0, none, l0) ⟨hl0, hres⟩ ?_ ?_
  · refine wk_of 0 [] ?_ ?_ rfl rfl ?_ ?_ ?_
    rotate_left 3
    rotate_left 2
    focus (first | rfl | (simp; done) | (simp; omega))
    focus (first | rfl | (simp; done) | (simp; omega) | exact Nat.zero_le _)
    focus (first | exact ⟨Nat.zero_le _, Nat.zero_le _⟩ | (simp; done) | (simp; omega))
    rotate_left 1
    focus (exact wkB_refl (hk _ rfl))
    all_goals (repeat' (first | exact trivial | apply And.intro))
    all_goals first
      | exact rfl
      | exact .same _ rfl
      | exact .und _
      | (refine .same _ ?_; (focus (simp [okB, okBL]; done)))
      | (refine .same _ (okB_pur ?_); (focus (simp [purs]; done)))
      | (refine .same _ (ok_app ?_ ?_); (focus (simp; done)); (focus (simp [purs]; done)))
      | (simp -implicitDefEqProofs only [List.append_assoc, avl, reduceCtorEq, ↓reduceIte, sevalprocAttr]; first | exact .same _ rfl | (refine .same _ ?_; (focus (simp [okB, okBL]; done))) | (refine .same _ (okB_pur ?_); (focus (simp [purs]; done))) | (refine .same _ (ok_app ?_ ?_); (focus (simp; done)); (focus (simp [purs]; done))) | (refine .tag _ _ _ _ _ ?_ ?_ (fr_at rfl ?_) (okBL_pur ?_); (focus (first | exact .inl rfl | (simp; done))); (focus (simp; done)); (focus (first | rfl | (simp; done) | (simp; omega))); (focus (simp [purs]; done))) | (refine .imm _ _ _ _ ?_ (okBL_pur ?_); (focus (first | exact .inl rfl | (simp; done))); (focus (simp [purs]; done))) | skip)
      | skip
  · rintro ⟨a, r, n, l⟩ ⟨hll, hr⟩
    simp only at hr hll
    cases n with
    | some e =>
      obtain ⟨hr, he⟩ := hr
      subst hr
      have he' : ¬ e < 0 := by omega
      try simp -implicitDefEqProofs only [avl, reduceCtorEq, ↓reduceIte, sevalprocAttr, he', Option.getD_some]
      repeat' (first | (refine (hκ _).mpr ?_; clear hκ) | refine kn1 ?_ | refine kr1 ?_ | refine ke1 ?_ | refine kn2 ?_ | refine kr2 ?_ | refine kx2 ?_ | refine ke2 rfl ?_ | refine kn3 ?_ | refine kr3 ?_ | refine ke3 ?_ | refine kn4 ?_ | refine kr4 ?_ | refine ke4 ?_ | refine w_seq ?_ | refine w_block ?_ | (refine aw_regk fun κ hκ => ?_; simp -implicitDefEqProofs only [avl, reduceCtorEq, ↓reduceIte, sevalprocAttr, he', Option.getD_some]) | refine aw_exit ?_ | refine aw_ret ?_ | refine aw_skip ?_ | refine aw_label ?_ | refine condc_t ?_ | refine condc_f ?_ | (refine aw_cond2 (by simp -implicitDefEqProofs only [avl, reduceCtorEq, ↓reduceIte, sevalprocAttr, he', Option.getD_some]; rfl) ?_) | ((first | refine gkc_fork ?_ ?_ | refine gkc_split ?_ ?_) <;> intro hq <;> simp -implicitDefEqProofs only [hq, avl, reduceCtorEq, ↓reduceIte, sevalprocAttr, he', Option.getD_some]) | ((first | refine condc_fork ?_ ?_ | refine condc_bool ?_ ?_) <;> intro hq))
      all_goals exact retw_nil (.inl rfl) rfl ⟨rfl, Nat.le_refl _⟩ (hk _ rfl) ⟨rfl, rfl, rfl⟩
    | none =>
      simp only at hr
      rcases l with _ | ⟨k, _ | ⟨c, t⟩⟩
      · rw [eachS] at hr
        subst hr
        try simp -implicitDefEqProofs only [avl, reduceCtorEq, ↓reduceIte, sevalprocAttr, List.map_nil, (show ¬ ((0 : Nat) : Int) > 0 by decide), Option.getD_none]
        repeat' (first | (refine (hκ _).mpr ?_; clear hκ) | refine kn1 ?_ | refine kr1 ?_ | refine ke1 ?_ | refine kn2 ?_ | refine kr2 ?_ | refine kx2 ?_ | refine ke2 rfl ?_ | refine kn3 ?_ | refine kr3 ?_ | refine ke3 ?_ | refine kn4 ?_ | refine kr4 ?_ | refine ke4 ?_ | refine w_seq ?_ | refine w_block ?_ | (refine aw_regk fun κ hκ => ?_; simp -implicitDefEqProofs only [avl, reduceCtorEq, ↓reduceIte, sevalprocAttr, List.map_nil, (show ¬ ((0 : Nat) : Int) > 0 by decide), Option.getD_none]) | refine aw_exit ?_ | refine aw_ret ?_ | refine aw_skip ?_ | refine aw_label ?_ | refine condc_t ?_ | refine condc_f ?_ | (refine aw_cond2 (by simp -implicitDefEqProofs only [avl, reduceCtorEq, ↓reduceIte, sevalprocAttr, List.map_nil, (show ¬ ((0 : Nat) : Int) > 0 by decide), Option.getD_none]; rfl) ?_) | ((first | refine gkc_fork ?_ ?_ | refine gkc_split ?_ ?_) <;> intro hq <;> simp -implicitDefEqProofs only [hq, avl, reduceCtorEq, ↓reduceIte, sevalprocAttr, List.map_nil, (show ¬ ((0 : Nat) : Int) > 0 by decide), Option.getD_none]) | ((first | refine condc_fork ?_ ?_ | refine condc_bool ?_ ?_) <;> intro hq))
        exact retw_nil (.inl rfl) rfl ⟨rfl, Nat.le_refl _⟩ (hk _ rfl) ⟨rfl, rfl, rfl⟩
      · rw [eachS] at hr
        subst hr
        try simp -implicitDefEqProofs only [avl, reduceCtorEq, ↓reduceIte, sevalprocAttr, (show ((1 : Nat) : Int) > 0 by decide), (show ((1 : Nat) : Int) < 2 by decide), Option.getD_none]
        repeat' (first | (refine (hκ _).mpr ?_; clear hκ) | refine kn1 ?_ | refine kr1 ?_ | refine ke1 ?_ | refine kn2 ?_ | refine kr2 ?_ | refine kx2 ?_ | refine ke2 rfl ?_ | refine kn3 ?_ | refine kr3 ?_ | refine ke3 ?_ | refine kn4 ?_ | refine kr4 ?_ | refine ke4 ?_ | refine w_seq ?_ | refine w_block ?_ | (refine aw_regk fun κ hκ => ?_; simp -implicitDefEqProofs only [avl, reduceCtorEq, ↓reduceIte, sevalprocAttr, (show ((1 : Nat) : Int) > 0 by decide), (show ((1 : Nat) : Int) < 2 by decide), Option.getD_none]) | refine aw_exit ?_ | refine aw_ret ?_ | refine aw_skip ?_ | refine aw_label ?_ | refine condc_t ?_ | refine condc_f ?_ | (refine aw_cond2 (by simp -implicitDefEqProofs only [avl, reduceCtorEq, ↓reduceIte, sevalprocAttr, (show ((1 : Nat) : Int) > 0 by decide), (show ((1 : Nat) : Int) < 2 by decide), Option.getD_none]; rfl) ?_) | ((first | refine gkc_fork ?_ ?_ | refine gkc_split ?_ ?_) <;> intro hq <;> simp -implicitDefEqProofs only [hq, avl, reduceCtorEq, ↓reduceIte, sevalprocAttr, (show ((1 : Nat) : Int) > 0 by decide), (show ((1 : Nat) : Int) < 2 by decide), Option.getD_none]) | ((first | refine condc_fork ?_ ?_ | refine condc_bool ?_ ?_) <;> intro hq))
        refine callss (hw _ _ 0) ?_
        rintro v B' F' ⟨e1, e2, e3⟩
        subst e1 e2 e3
        try simp -implicitDefEqProofs only [avl, reduceCtorEq, ↓reduceIte, sevalprocAttr]
        repeat' (first | (refine (hκ _).mpr ?_; clear hκ) | refine kn1 ?_ | refine kr1 ?_ | refine ke1 ?_ | refine kn2 ?_ | refine kr2 ?_ | refine kx2 ?_ | refine ke2 rfl ?_ | refine kn3 ?_ | refine kr3 ?_ | refine ke3 ?_ | refine kn4 ?_ | refine kr4 ?_ | refine ke4 ?_ | refine w_seq ?_ | refine w_block ?_ | (refine aw_regk fun κ hκ => ?_; simp -implicitDefEqProofs only [avl, reduceCtorEq, ↓reduceIte, sevalprocAttr]) | refine aw_exit ?_ | refine aw_ret ?_ | refine aw_skip ?_ | refine aw_label ?_ | refine condc_t ?_ | refine condc_f ?_ | (refine aw_cond2 (by simp -implicitDefEqProofs only [avl, reduceCtorEq, ↓reduceIte, sevalprocAttr]; rfl) ?_) | ((first | refine gkc_fork ?_ ?_ | refine gkc_split ?_ ?_) <;> intro hq <;> simp -implicitDefEqProofs only [hq, avl, reduceCtorEq, ↓reduceIte, sevalprocAttr]) | ((first | refine condc_fork ?_ ?_ | refine condc_bool ?_ ?_) <;> intro hq))
        exact retw_nil (.inr rfl) rfl ⟨rfl, Nat.le_refl _⟩ (hk _ rfl) ⟨rfl, rfl, rfl⟩
      · have hpos : ((t.length + 1 + 1 : Nat) : Int) > 0 := by omega
        have hn2 : ¬ ((t.length + 1 + 1 : Nat) : Int) < 2 := by omega
        have h1 : (1 : Int) < ((t.length + 1 + 1 : Nat) : Int) := by omega
        have h0 : (0 : Int) < ((t.length + 1 + 1 : Nat) : Int) := by omega
        have hcb : c.toNat < 256 := c.toNat_lt
        have hc1 : IntKind.i64.wrap (c.toNat : Int) = c.toNat := by rw [wrap64 (by omega) (by omega)]
        have hc2 : IntKind.i64.wrap (2 + (c.toNat : Int)) = ((2 + c.toNat : Nat) : Int) := by rw [wrap64 (by omega) (by omega)]; omega
        have hll' : t.length + 1 + 1 ≤ 1000000 := by simpa using hll
        by_cases hct : c.toNat ≤ t.length
        · have hcc : ¬ ((t.length + 1 + 1 : Nat) : Int) < ((2 + c.toNat : Nat) : Int) := by omega
          rw [eachS, if_pos hct] at hr
          have e1 : 2 ≤ 2 + c.toNat := by omega
          have e2 : 2 + c.toNat ≤ t.length + 1 + 1 := by omega
          have e3 : 0 ≤ (2 + c.toNat : Nat) := by omega
          have hkb : k.toNat < 256 := k.toNat_lt
          rcases hf : parS a r (k.toNat : Int) (t.take c.toNat) with ⟨a', r', _ | e⟩
          · rw [hf] at hr
            have hk2 : (k.toNat : Int) = 2 := by
              unfold parS at hf
              split at hf
              · assumption
              · simp at hf
            have ho := caps6_acs b0 b1 b2 T0 a r (t.take c.toNat) (by simp; omega) hB
            have hfe : eachS takeS a r (t.take c.toNat) = (a', r', none) := by unfold parS at hf; rw [if_pos hk2] at hf; exact hf
            rw [hfe] at ho
            unfold rC at ho
            simp only [Option.getD_none, Option.getD_some, List.map_take] at ho
            try simp -implicitDefEqProofs only [avl, reduceCtorEq, ↓reduceIte, sevalprocAttr, hpos, hn2, h1, h0, hc1, hc2, hcc, hct, e1, e2, bA, Option.getD_none, false_and, ite_self, cut1, (eq_true hk2), not_true_eq_false]
            repeat' (first | (refine (hκ _).mpr ?_; clear hκ) | refine kn1 ?_ | refine kr1 ?_ | refine ke1 ?_ | refine kn2 ?_ | refine kr2 ?_ | refine kx2 ?_ | refine ke2 rfl ?_ | refine kn3 ?_ | refine kr3 ?_ | refine ke3 ?_ | refine kn4 ?_ | refine kr4 ?_ | refine ke4 ?_ | refine w_seq ?_ | refine w_block ?_ | (refine aw_regk fun κ hκ => ?_; simp -implicitDefEqProofs only [avl, reduceCtorEq, ↓reduceIte, sevalprocAttr, hpos, hn2, h1, h0, hc1, hc2, hcc, hct, e1, e2, bA, Option.getD_none, false_and, ite_self, cut1, (eq_true hk2), not_true_eq_false]) | refine aw_exit ?_ | refine aw_ret ?_ | refine aw_skip ?_ | refine aw_label ?_ | refine condc_t ?_ | refine condc_f ?_ | (refine aw_cond2 (by simp -implicitDefEqProofs only [avl, reduceCtorEq, ↓reduceIte, sevalprocAttr, hpos, hn2, h1, h0, hc1, hc2, hcc, hct, e1, e2, bA, Option.getD_none, false_and, ite_self, cut1, (eq_true hk2), not_true_eq_false]; rfl) ?_) | ((first | refine gkc_fork ?_ ?_ | refine gkc_split ?_ ?_) <;> intro hq <;> simp -implicitDefEqProofs only [hq, avl, reduceCtorEq, ↓reduceIte, sevalprocAttr, hpos, hn2, h1, h0, hc1, hc2, hcc, hct, e1, e2, bA, Option.getD_none, false_and, ite_self, cut1, (eq_true hk2), not_true_eq_false]) | ((first | refine condc_fork ?_ ?_ | refine condc_bool ?_ ?_) <;> intro hq))
            refine callss ho ?_
            rintro v B' F' ⟨e1, e2, e3⟩
            subst e1 e2 e3
            try simp -implicitDefEqProofs only [avl, reduceCtorEq, ↓reduceIte, sevalprocAttr, hpos, hn2, h1, h0, hc1, hc2, hcc, hct, bA, Option.getD_none, false_and, ite_self, cut2, take_all, (show 2 + c.toNat ≤ t.length + 1 + 1 by omega)]
            repeat' (first | (refine (hκ _).mpr ?_; clear hκ) | refine kn1 ?_ | refine kr1 ?_ | refine ke1 ?_ | refine kn2 ?_ | refine kr2 ?_ | refine kx2 ?_ | refine ke2 rfl ?_ | refine kn3 ?_ | refine kr3 ?_ | refine ke3 ?_ | refine kn4 ?_ | refine kr4 ?_ | refine ke4 ?_ | refine w_seq ?_ | refine w_block ?_ | (refine aw_regk fun κ hκ => ?_; simp -implicitDefEqProofs only [avl, reduceCtorEq, ↓reduceIte, sevalprocAttr, hpos, hn2, h1, h0, hc1, hc2, hcc, hct, bA, Option.getD_none, false_and, ite_self, cut2, take_all, (show 2 + c.toNat ≤ t.length + 1 + 1 by omega)]) | refine aw_exit ?_ | refine aw_ret ?_ | refine aw_skip ?_ | refine aw_label ?_ | refine condc_t ?_ | refine condc_f ?_ | (refine aw_cond2 (by simp -implicitDefEqProofs only [avl, reduceCtorEq, ↓reduceIte, sevalprocAttr, hpos, hn2, h1, h0, hc1, hc2, hcc, hct, bA, Option.getD_none, false_and, ite_self, cut2, take_all, (show 2 + c.toNat ≤ t.length + 1 + 1 by omega)]; rfl) ?_) | ((first | refine gkc_fork ?_ ?_ | refine gkc_split ?_ ?_) <;> intro hq <;> simp -implicitDefEqProofs only [hq, avl, reduceCtorEq, ↓reduceIte, sevalprocAttr, hpos, hn2, h1, h0, hc1, hc2, hcc, hct, bA, Option.getD_none, false_and, ite_self, cut2, take_all, (show 2 + c.toNat ≤ t.length + 1 + 1 by omega)]) | ((first | refine condc_fork ?_ ?_ | refine condc_bool ?_ ?_) <;> intro hq))
            refine ⟨(a', r', none, t.drop c.toNat), ⟨by simp; omega, hr⟩, ?_, by simp; omega⟩
            refine wk_of 0 [] ?_ ?_ rfl rfl ?_ ?_ ?_
            rotate_left 3
            rotate_left 2
            focus (first | rfl | (simp; done) | (simp; omega))
            focus (first | rfl | (simp; done) | (simp; omega) | exact Nat.zero_le _)
            focus (first | exact ⟨Nat.zero_le _, Nat.zero_le _⟩ | (simp; done) | (simp; omega))
            rotate_left 1
            focus (exact wkB_refl (hk _ rfl))
            all_goals (repeat' (first | exact trivial | apply And.intro))
            all_goals first
              | exact rfl
              | exact .same _ rfl
              | exact .und _
              | (refine .same _ ?_; (focus (simp [okB, okBL]; done)))
              | (refine .same _ (okB_pur ?_); (focus (simp [purs]; done)))
              | (refine .same _ (ok_app ?_ ?_); (focus (simp; done)); (focus (simp [purs]; done)))
              | (simp -implicitDefEqProofs only [List.append_assoc, avl, reduceCtorEq, ↓reduceIte, sevalprocAttr, List.map_drop, cut2, take_all]; first | exact .same _ rfl | (refine .same _ ?_; (focus (simp [okB, okBL]; done))) | (refine .same _ (okB_pur ?_); (focus (simp [purs]; done))) | (refine .same _ (ok_app ?_ ?_); (focus (simp; done)); (focus (simp [purs]; done))) | (refine .tag _ _ _ _ _ ?_ ?_ (fr_at rfl ?_) (okBL_pur ?_); (focus (first | exact .inl rfl | (simp [List.map_drop, cut2, take_all]; done))); (focus (simp; done)); (focus (first | rfl | (simp; done) | (simp; omega))); (focus (simp [purs]; done))) | (refine .imm _ _ _ _ ?_ (okBL_pur ?_); (focus (first | exact .inl rfl | (simp [List.map_drop, cut2, take_all]; done))); (focus (simp [purs]; done))) | skip)
              | skip
          · rw [hf] at hr
            simp only at hr
            by_cases hk2 : (k.toNat : Int) = 2
            · have ho := caps6_acs b0 b1 b2 T0 a r (t.take c.toNat) (by simp; omega) hB
              have hfe : eachS takeS a r (t.take c.toNat) = (a', r', some e) := by unfold parS at hf; rw [if_pos hk2] at hf; exact hf
              rw [hfe] at ho
              unfold rC at ho
              simp only [Option.getD_none, Option.getD_some, List.map_take] at ho
              try simp -implicitDefEqProofs only [avl, reduceCtorEq, ↓reduceIte, sevalprocAttr, hpos, hn2, h1, h0, hc1, hc2, hcc, hct, e1, e2, bA, Option.getD_none, false_and, ite_self, cut1, (eq_true hk2), not_true_eq_false]
              repeat' (first | (refine (hκ _).mpr ?_; clear hκ) | refine kn1 ?_ | refine kr1 ?_ | refine ke1 ?_ | refine kn2 ?_ | refine kr2 ?_ | refine kx2 ?_ | refine ke2 rfl ?_ | refine kn3 ?_ | refine kr3 ?_ | refine ke3 ?_ | refine kn4 ?_ | refine kr4 ?_ | refine ke4 ?_ | refine w_seq ?_ | refine w_block ?_ | (refine aw_regk fun κ hκ => ?_; simp -implicitDefEqProofs only [avl, reduceCtorEq, ↓reduceIte, sevalprocAttr, hpos, hn2, h1, h0, hc1, hc2, hcc, hct, e1, e2, bA, Option.getD_none, false_and, ite_self, cut1, (eq_true hk2), not_true_eq_false]) | refine aw_exit ?_ | refine aw_ret ?_ | refine aw_skip ?_ | refine aw_label ?_ | refine condc_t ?_ | refine condc_f ?_ | (refine aw_cond2 (by simp -implicitDefEqProofs only [avl, reduceCtorEq, ↓reduceIte, sevalprocAttr, hpos, hn2, h1, h0, hc1, hc2, hcc, hct, e1, e2, bA, Option.getD_none, false_and, ite_self, cut1, (eq_true hk2), not_true_eq_false]; rfl) ?_) | ((first | refine gkc_fork ?_ ?_ | refine gkc_split ?_ ?_) <;> intro hq <;> simp -implicitDefEqProofs only [hq, avl, reduceCtorEq, ↓reduceIte, sevalprocAttr, hpos, hn2, h1, h0, hc1, hc2, hcc, hct, e1, e2, bA, Option.getD_none, false_and, ite_self, cut1, (eq_true hk2), not_true_eq_false]) | ((first | refine condc_fork ?_ ?_ | refine condc_bool ?_ ?_) <;> intro hq))
              refine callss ho ?_
              rintro v B' F' ⟨e1, e2, e3⟩
              subst e1 e2 e3
              try simp -implicitDefEqProofs only [avl, reduceCtorEq, ↓reduceIte, sevalprocAttr, hpos, hn2, h1, h0, hc1, hc2, hcc, hct, bA, Option.getD_none, false_and, ite_self, cut2, take_all, (show 2 + c.toNat ≤ t.length + 1 + 1 by omega)]
              repeat' (first | (refine (hκ _).mpr ?_; clear hκ) | refine kn1 ?_ | refine kr1 ?_ | refine ke1 ?_ | refine kn2 ?_ | refine kr2 ?_ | refine kx2 ?_ | refine ke2 rfl ?_ | refine kn3 ?_ | refine kr3 ?_ | refine ke3 ?_ | refine kn4 ?_ | refine kr4 ?_ | refine ke4 ?_ | refine w_seq ?_ | refine w_block ?_ | (refine aw_regk fun κ hκ => ?_; simp -implicitDefEqProofs only [avl, reduceCtorEq, ↓reduceIte, sevalprocAttr, hpos, hn2, h1, h0, hc1, hc2, hcc, hct, bA, Option.getD_none, false_and, ite_self, cut2, take_all, (show 2 + c.toNat ≤ t.length + 1 + 1 by omega)]) | refine aw_exit ?_ | refine aw_ret ?_ | refine aw_skip ?_ | refine aw_label ?_ | refine condc_t ?_ | refine condc_f ?_ | (refine aw_cond2 (by simp -implicitDefEqProofs only [avl, reduceCtorEq, ↓reduceIte, sevalprocAttr, hpos, hn2, h1, h0, hc1, hc2, hcc, hct, bA, Option.getD_none, false_and, ite_self, cut2, take_all, (show 2 + c.toNat ≤ t.length + 1 + 1 by omega)]; rfl) ?_) | ((first | refine gkc_fork ?_ ?_ | refine gkc_split ?_ ?_) <;> intro hq <;> simp -implicitDefEqProofs only [hq, avl, reduceCtorEq, ↓reduceIte, sevalprocAttr, hpos, hn2, h1, h0, hc1, hc2, hcc, hct, bA, Option.getD_none, false_and, ite_self, cut2, take_all, (show 2 + c.toNat ≤ t.length + 1 + 1 by omega)]) | ((first | refine condc_fork ?_ ?_ | refine condc_bool ?_ ?_) <;> intro hq))
              refine ⟨(a', r', some e, t.drop c.toNat), ⟨by simp; omega, hr.symm, parS_pos hf⟩, ?_, by simp; omega⟩
              refine wk_of 0 [] ?_ ?_ rfl rfl ?_ ?_ ?_
              rotate_left 3
              rotate_left 2
              focus (first | rfl | (simp; done) | (simp; omega))
              focus (first | rfl | (simp; done) | (simp; omega) | exact Nat.zero_le _)
              focus (first | exact ⟨Nat.zero_le _, Nat.zero_le _⟩ | (simp; done) | (simp; omega))
              rotate_left 1
              focus (exact wkB_refl (hk _ rfl))
              all_goals (repeat' (first | exact trivial | apply And.intro))
              all_goals first
                | exact rfl
                | exact .same _ rfl
                | exact .und _
                | (refine .same _ ?_; (focus (simp [okB, okBL]; done)))
                | (refine .same _ (okB_pur ?_); (focus (simp [purs]; done)))
                | (refine .same _ (ok_app ?_ ?_); (focus (simp; done)); (focus (simp [purs]; done)))
                | (simp -implicitDefEqProofs only [List.append_assoc, avl, reduceCtorEq, ↓reduceIte, sevalprocAttr, List.map_drop, Option.getD_some, cut2, take_all]; first | exact .same _ rfl | (refine .same _ ?_; (focus (simp [okB, okBL]; done))) | (refine .same _ (okB_pur ?_); (focus (simp [purs]; done))) | (refine .same _ (ok_app ?_ ?_); (focus (simp; done)); (focus (simp [purs]; done))) | (refine .tag _ _ _ _ _ ?_ ?_ (fr_at rfl ?_) (okBL_pur ?_); (focus (first | exact .inl rfl | (simp [List.map_drop, Option.getD_some, cut2, take_all]; done))); (focus (simp; done)); (focus (first | rfl | (simp; done) | (simp; omega))); (focus (simp [purs]; done))) | (refine .imm _ _ _ _ ?_ (okBL_pur ?_); (focus (first | exact .inl rfl | (simp [List.map_drop, Option.getD_some, cut2, take_all]; done))); (focus (simp [purs]; done))) | skip)
                | skip
            · have hfe : (a, r, some 4) = (a', r', some e) := by unfold parS at hf; rw [if_neg hk2] at hf; exact hf
              simp only [Prod.mk.injEq, Option.some.injEq] at hfe
              obtain ⟨rfl, rfl, rfl⟩ := hfe
              subst hr
              try simp -implicitDefEqProofs only [avl, reduceCtorEq, ↓reduceIte, sevalprocAttr, hpos, hn2, h1, h0, hc1, hc2, hcc, hct, e1, e2, bA, Option.getD_none, false_and, ite_self, cut1, hk2, not_false_eq_true]
              repeat' (first | (refine (hκ _).mpr ?_; clear hκ) | refine kn1 ?_ | refine kr1 ?_ | refine ke1 ?_ | refine kn2 ?_ | refine kr2 ?_ | refine kx2 ?_ | refine ke2 rfl ?_ | refine kn3 ?_ | refine kr3 ?_ | refine ke3 ?_ | refine kn4 ?_ | refine kr4 ?_ | refine ke4 ?_ | refine w_seq ?_ | refine w_block ?_ | (refine aw_regk fun κ hκ => ?_; simp -implicitDefEqProofs only [avl, reduceCtorEq, ↓reduceIte, sevalprocAttr, hpos, hn2, h1, h0, hc1, hc2, hcc, hct, e1, e2, bA, Option.getD_none, false_and, ite_self, cut1, hk2, not_false_eq_true]) | refine aw_exit ?_ | refine aw_ret ?_ | refine aw_skip ?_ | refine aw_label ?_ | refine condc_t ?_ | refine condc_f ?_ | (refine aw_cond2 (by simp -implicitDefEqProofs only [avl, reduceCtorEq, ↓reduceIte, sevalprocAttr, hpos, hn2, h1, h0, hc1, hc2, hcc, hct, e1, e2, bA, Option.getD_none, false_and, ite_self, cut1, hk2, not_false_eq_true]; rfl) ?_) | ((first | refine gkc_fork ?_ ?_ | refine gkc_split ?_ ?_) <;> intro hq <;> simp -implicitDefEqProofs only [hq, avl, reduceCtorEq, ↓reduceIte, sevalprocAttr, hpos, hn2, h1, h0, hc1, hc2, hcc, hct, e1, e2, bA, Option.getD_none, false_and, ite_self, cut1, hk2, not_false_eq_true]) | ((first | refine condc_fork ?_ ?_ | refine condc_bool ?_ ?_) <;> intro hq))
              refine callss (hw _ _ 4) ?_
              rintro v B' F' ⟨e1, e2, e3⟩
              subst e1 e2 e3
              try simp -implicitDefEqProofs only [avl, reduceCtorEq, ↓reduceIte, sevalprocAttr]
              repeat' (first | (refine (hκ _).mpr ?_; clear hκ) | refine kn1 ?_ | refine kr1 ?_ | refine ke1 ?_ | refine kn2 ?_ | refine kr2 ?_ | refine kx2 ?_ | refine ke2 rfl ?_ | refine kn3 ?_ | refine kr3 ?_ | refine ke3 ?_ | refine kn4 ?_ | refine kr4 ?_ | refine ke4 ?_ | refine w_seq ?_ | refine w_block ?_ | (refine aw_regk fun κ hκ => ?_; simp -implicitDefEqProofs only [avl, reduceCtorEq, ↓reduceIte, sevalprocAttr]) | refine aw_exit ?_ | refine aw_ret ?_ | refine aw_skip ?_ | refine aw_label ?_ | refine condc_t ?_ | refine condc_f ?_ | (refine aw_cond2 (by simp -implicitDefEqProofs only [avl, reduceCtorEq, ↓reduceIte, sevalprocAttr]; rfl) ?_) | ((first | refine gkc_fork ?_ ?_ | refine gkc_split ?_ ?_) <;> intro hq <;> simp -implicitDefEqProofs only [hq, avl, reduceCtorEq, ↓reduceIte, sevalprocAttr]) | ((first | refine condc_fork ?_ ?_ | refine condc_bool ?_ ?_) <;> intro hq))
              exact retw_nil (.inr rfl) rfl ⟨rfl, Nat.le_refl _⟩ (hk _ rfl) ⟨rfl, rfl, rfl⟩
        · have hcc : ((t.length + 1 + 1 : Nat) : Int) < ((2 + c.toNat : Nat) : Int) := by omega
          rw [eachS, if_neg hct] at hr
          subst hr
          try simp -implicitDefEqProofs only [avl, reduceCtorEq, ↓reduceIte, sevalprocAttr, hpos, hn2, h1, h0, hc1, hc2, hcc, bA, Option.getD_none]
          repeat' (first | (refine (hκ _).mpr ?_; clear hκ) | refine kn1 ?_ | refine kr1 ?_ | refine ke1 ?_ | refine kn2 ?_ | refine kr2 ?_ | refine kx2 ?_ | refine ke2 rfl ?_ | refine kn3 ?_ | refine kr3 ?_ | refine ke3 ?_ | refine kn4 ?_ | refine kr4 ?_ | refine ke4 ?_ | refine w_seq ?_ | refine w_block ?_ | (refine aw_regk fun κ hκ => ?_; simp -implicitDefEqProofs only [avl, reduceCtorEq, ↓reduceIte, sevalprocAttr, hpos, hn2, h1, h0, hc1, hc2, hcc, bA, Option.getD_none]) | refine aw_exit ?_ | refine aw_ret ?_ | refine aw_skip ?_ | refine aw_label ?_ | refine condc_t ?_ | refine condc_f ?_ | (refine aw_cond2 (by simp -implicitDefEqProofs only [avl, reduceCtorEq, ↓reduceIte, sevalprocAttr, hpos, hn2, h1, h0, hc1, hc2, hcc, bA, Option.getD_none]; rfl) ?_) | ((first | refine gkc_fork ?_ ?_ | refine gkc_split ?_ ?_) <;> intro hq <;> simp -implicitDefEqProofs only [hq, avl, reduceCtorEq, ↓reduceIte, sevalprocAttr, hpos, hn2, h1, h0, hc1, hc2, hcc, bA, Option.getD_none]) | ((first | refine condc_fork ?_ ?_ | refine condc_bool ?_ ?_) <;> intro hq))
          refine callss (hw _ _ 0) ?_
          rintro v B' F' ⟨e1, e2, e3⟩
          subst e1 e2 e3
          try simp -implicitDefEqProofs only [avl, reduceCtorEq, ↓reduceIte, sevalprocAttr]
          repeat' (first | (refine (hκ _).mpr ?_; clear hκ) | refine kn1 ?_ | refine kr1 ?_ | refine ke1 ?_ | refine kn2 ?_ | refine kr2 ?_ | refine kx2 ?_ | refine ke2 rfl ?_ | refine kn3 ?_ | refine kr3 ?_ | refine ke3 ?_ | refine kn4 ?_ | refine kr4 ?_ | refine ke4 ?_ | refine w_seq ?_ | refine w_block ?_ | (refine aw_regk fun κ hκ => ?_; simp -implicitDefEqProofs only [avl, reduceCtorEq, ↓reduceIte, sevalprocAttr]) | refine aw_exit ?_ | refine aw_ret ?_ | refine aw_skip ?_ | refine aw_label ?_ | refine condc_t ?_ | refine condc_f ?_ | (refine aw_cond2 (by simp -implicitDefEqProofs only [avl, reduceCtorEq, ↓reduceIte, sevalprocAttr]; rfl) ?_) | ((first | refine gkc_fork ?_ ?_ | refine gkc_split ?_ ?_) <;> intro hq <;> simp -implicitDefEqProofs only [hq, avl, reduceCtorEq, ↓reduceIte, sevalprocAttr]) | ((first | refine condc_fork ?_ ?_ | refine condc_bool ?_ ?_) <;> intro hq))
          exact retw_nil (.inr rfl) rfl ⟨rfl, Nat.le_refl _⟩ (hk _ rfl) ⟨rfl, rfl, rfl⟩
end Go.Proofs.Ytgakgilaikgboaa
