/- Opening: what capabilities say. -/
import Derived.Test.YtgakgilaikgboaaOp1
namespace Go.Proofs.Ytgakgilaikgboaa
open Go.RowKit
set_option maxHeartbeats 4000000
set_option maxRecDepth 100000
set_option linter.unusedSimpArgs false
set_option linter.unusedVariables false

def okBx (m b : Nat) (B : List (TypeId × List AV)) : Bool := B.all fun q => okBL m b q.2
theorem wkC_refl {m b : Nat} {fr : List (TypeId × Nat)} : ∀ {cs : List AV}, okBL m b cs = true → WkC m b fr cs cs
  | [], _ => trivial
  | c :: cs, h => by
    simp only [okBL, Bool.and_eq_true] at h
    exact ⟨.same c h.1, wkC_refl h.2⟩
theorem wkB_keep {m b : Nat} {fr : List (TypeId × Nat)} : ∀ {B ex : List (TypeId × List AV)}, okBx m b B = true → WkB m b fr (B ++ ex) B
  | [], ex, _ => by cases ex <;> trivial
  | q :: B, ex, h => by
    unfold okBx at h
    simp only [List.all_cons, Bool.and_eq_true] at h
    exact ⟨rfl, wkC_refl h.1, wkB_keep h.2⟩
theorem wkB_keep2 {m b : Nat} {fr : List (TypeId × Nat)} {B x y : List (TypeId × List AV)} (h : okBx m b B = true) : WkB m b fr (B ++ x ++ y) B := by
  rw [List.append_assoc]
  exact wkB_keep h
mutual
theorem okB_mono {m b m' b' : Nat} (hm : m ≤ m') (hb : b ≤ b') : ∀ {a : AV}, okB m b a = true → okB m' b' a = true
  | .slice (.app k) _ xs, h => by
    simp only [okB, Bool.and_eq_true, decide_eq_true_eq] at h ⊢
    exact ⟨by omega, okBL_mono hm hb h.2⟩
  | .slice .imm _ xs, h => okBL_mono (cs := xs) hm hb h
  | .slice .full _ xs, h => okBL_mono (cs := xs) hm hb h
  | .agg cs, h => okBL_mono (cs := cs) hm hb h
  | .tup vs, h => okBL_mono (cs := vs) hm hb h
  | .ptr l _, h => by
    simp only [okB, decide_eq_true_eq] at h ⊢
    omega
  | .cptr xs _ _, h => okBL_mono (cs := xs) hm hb h
  | .iface _ v, h => okB_mono (a := v) hm hb h
  | .fn _ bs, h => okBL_mono (cs := bs) hm hb h
  | .clo _ bs, h => okBL_mono (cs := bs) hm hb h
  | .und, _ => rfl
  | .nov, _ => rfl
  | .bool _, _ => rfl
  | .int _ _, _ => rfl
  | .str _, _ => rfl
  | .nilFn, _ => rfl
  | .nilIface, _ => rfl
theorem okBL_mono {m b m' b' : Nat} (hm : m ≤ m') (hb : b ≤ b') : ∀ {cs : List AV}, okBL m b cs = true → okBL m' b' cs = true
  | [], _ => rfl
  | a :: cs, h => by
    simp only [okBL, Bool.and_eq_true] at h ⊢
    exact ⟨okB_mono hm hb h.1, okBL_mono hm hb h.2⟩
end
theorem okBx_mono {m b m' b' : Nat} (hm : m ≤ m') (hb : b ≤ b') {B : List (TypeId × List AV)} (h : okBx m b B = true) : okBx m' b' B = true := by
  unfold okBx at *
  rw [List.all_eq_true] at *
  exact fun q hq => okBL_mono hm hb (h q hq)
theorem okBx_append {m b : Nat} {B C : List (TypeId × List AV)} : okBx m b (B ++ C) = (okBx m b B && okBx m b C) := by simp [okBx]
theorem wkB_refl {m b : Nat} {fr : List (TypeId × Nat)} {B : List (TypeId × List AV)} (h : okBx m b B = true) : WkB m b fr B B := by
  have := wkB_keep (ex := []) (fr := fr) h
  rwa [List.append_nil] at this
theorem set_last {α : Type} : ∀ (T : List α) (x y : α), (T ++ [x]).set T.length y = T ++ [y]
  | [], x, y => rfl
  | z :: T, x, y => by simp [set_last T x y]
theorem at_last {α : Type} (T : List α) (x : α) : (T ++ [x])[T.length]? = some x := by simp
theorem at_two {α : Type} (T : List α) (x y : α) : (T ++ [x] ++ [y])[T.length + 1]? = some y := by simp
theorem at_one {α : Type} (T : List α) (x y : α) : (T ++ [x] ++ [y])[T.length]? = some x := by simp
theorem set_two {α : Type} (T : List α) (x y z : α) : (T ++ [x] ++ [y]).set (T.length + 1) z = T ++ [x] ++ [z] := by
  have := set_last (T ++ [x]) y z
  rw [← this]
  simp
theorem set_one {α : Type} (T : List α) (x y z : α) : (T ++ [x] ++ [y]).set T.length z = T ++ [z] ++ [y] := by
  rw [List.append_assoc, List.append_assoc]
  induction T with
  | nil => rfl
  | cons w T ih => simp

def nC (c s : Int) : List AV := [.int .i64 c, .int .i64 s, .slice .full 0 []]
def nA : Option Int → AV
  | none => .agg (nC 0 0)
  | some s => .agg (nC 2 s)
/-- What a capability changes. -/
def takeS (a r code : Int) (b : List UInt8) : Int × Int × Option Int :=
  if (code = 65 ∧ b.length ≠ 4) ∨ (code = 9 ∧ b.length ≠ 1) then (a, r, some 0)
  else if code = 65 ∧ a < 0 then ((num b : Nat), r, none)
  else if code = 9 ∧ r < 0 then (a, ((b.headD 0).toNat : Int), none)
  else if code = 9 ∧ r ≠ ((b.headD 0).toNat : Int) then (a, r, some 11)
  else (a, r, none)
def sC (a r : Int) : List AV := [.int .i64 a, .int .i64 r]
theorem take_acs (b0 b1 : TypeId × List AV) (T0 : TypeId) (T : List (TypeId × List AV)) (F : List (TypeId × Nat)) (a r code : Int) (b : List UInt8) (hB : okBx F.length (T.length + 3) (b0 :: b1 :: T) = true) :
    ACs Try.prog 67 [.ptr 2 0, .int .i64 code, .slice .imm 1 (b.map bA)] (b0 :: b1 :: (T0, sC a r) :: T) F
      fun v B' F' => v = nA (takeS a r code b).2.2 ∧ B' = b0 :: b1 :: (T0, sC (takeS a r code b).1 (takeS a r code b).2.1) :: T ∧ F' = F := by
  have hk : ∀ a r, okBx F.length (T.length + 3) (b0 :: b1 :: (T0, sC a r) :: T) = true := fun a r => by
    unfold okBx at hB ⊢
    simp only [List.all_cons, Bool.and_eq_true] at hB ⊢
    exact ⟨hB.1, hB.2.1, rfl, hB.2.2⟩
  by_cases h65 : code = 65
  · subst h65
    by_cases hl : b.length = 4
    · have e9 : ¬ ((65 : Int) = 9) := by decide
      have hl' : ((b.length : Nat) : Int) = 4 := by omega
      by_cases ha : a < 0
      · have e : takeS a r 65 b = (((num b : Nat) : Int), r, none) := by unfold takeS; rw [if_neg (by omega), if_pos ⟨rfl, ha⟩]
        rw [e]
        have hg := octGet_ac b 4 (by omega) (by omega)
        unfold getR at hg
        rw [if_pos (by omega), List.take_of_length_le (by omega)] at hg
        unfold sC
        refine acs_w p_open_said__take (by simp [c_open_said__take]) ?_
        show AW _ b_open_said__take (RetW [.cell 6 (some 3)] _) { n := 75, tm := [(0, _), (1, _), (2, _)], box := b0 :: b1 :: (T0, [.int .i64 a, .int .i64 r]) :: T, fr := F, p := _ }
        unfold b_open_said__take
        try simp -implicitDefEqProofs only [avl, reduceCtorEq, ↓reduceIte, sevalprocAttr, at_last, set_last, hl', ha, e9, not_true_eq_false]
        repeat' (first | (refine (hκ _).mpr ?_; clear hκ) | refine kn1 ?_ | refine kr1 ?_ | refine ke1 ?_ | refine kn2 ?_ | refine kr2 ?_ | refine kx2 ?_ | refine ke2 rfl ?_ | refine kn3 ?_ | refine kr3 ?_ | refine ke3 ?_ | refine kn4 ?_ | refine kr4 ?_ | refine ke4 ?_ | refine w_seq ?_ | refine w_block ?_ | (refine aw_regk fun κ hκ => ?_; simp -implicitDefEqProofs only [avl, reduceCtorEq, ↓reduceIte, sevalprocAttr, at_last, set_last, hl', ha, e9, not_true_eq_false]) | refine aw_exit ?_ | refine aw_ret ?_ | refine aw_skip ?_ | refine aw_label ?_ | refine condc_t ?_ | refine condc_f ?_ | (refine aw_cond2 (by simp -implicitDefEqProofs only [avl, reduceCtorEq, ↓reduceIte, sevalprocAttr, at_last, set_last, hl', ha, e9, not_true_eq_false]; rfl) ?_) | ((first | refine gkc_fork ?_ ?_ | refine gkc_split ?_ ?_) <;> intro hq <;> simp -implicitDefEqProofs only [hq, avl, reduceCtorEq, ↓reduceIte, sevalprocAttr, at_last, set_last, hl', ha, e9, not_true_eq_false]) | ((first | refine condc_fork ?_ ?_ | refine condc_bool ?_ ?_) <;> intro hq))
        first | refine callsc (hg) ?_ ?_ | refine callc (hg) ?_ ?_ | ((first | refine callsc (act_le (hg) ?_) ?_ ?_ | refine callc (act_le (hg) ?_) ?_ ?_); (focus (repeat' (first | exact trivial | exact le_same _ | exact le_imm (.inl rfl) | exact le_imm (.inr rfl) | (refine le_agg ?_) | apply And.intro))))
        (focus (simp [purs]; done))
        try simp -implicitDefEqProofs only [avl, reduceCtorEq, ↓reduceIte, sevalprocAttr, at_last, set_last, sh, sh1, e9]
        repeat' (first | (refine (hκ _).mpr ?_; clear hκ) | refine kn1 ?_ | refine kr1 ?_ | refine ke1 ?_ | refine kn2 ?_ | refine kr2 ?_ | refine kx2 ?_ | refine ke2 rfl ?_ | refine kn3 ?_ | refine kr3 ?_ | refine ke3 ?_ | refine kn4 ?_ | refine kr4 ?_ | refine ke4 ?_ | refine w_seq ?_ | refine w_block ?_ | (refine aw_regk fun κ hκ => ?_; simp -implicitDefEqProofs only [avl, reduceCtorEq, ↓reduceIte, sevalprocAttr, at_last, set_last, sh, sh1, e9]) | refine aw_exit ?_ | refine aw_ret ?_ | refine aw_skip ?_ | refine aw_label ?_ | refine condc_t ?_ | refine condc_f ?_ | (refine aw_cond2 (by simp -implicitDefEqProofs only [avl, reduceCtorEq, ↓reduceIte, sevalprocAttr, at_last, set_last, sh, sh1, e9]; rfl) ?_) | ((first | refine gkc_fork ?_ ?_ | refine gkc_split ?_ ?_) <;> intro hq <;> simp -implicitDefEqProofs only [hq, avl, reduceCtorEq, ↓reduceIte, sevalprocAttr, at_last, set_last, sh, sh1, e9]) | ((first | refine condc_fork ?_ ?_ | refine condc_bool ?_ ?_) <;> intro hq))
        try simp -implicitDefEqProofs only [avl, reduceCtorEq, ↓reduceIte, sevalprocAttr, nA, nC]
        refine ⟨trivial, [nA none], [nA none], F.length, [], b0 :: b1 :: (T0, sC (num b : Nat) r) :: T, ?_, ?_, ?_, ?_, ?_, ?_, ?_⟩
        focus (first | rfl | (simp [resL, resOf, St.get, getT, ldAt, at_last, at_two, at_one, nA, nC]; done) | skip)
        rotate_left 3
        rotate_left 2
        rotate_left 1
        focus (first | exact Nat.le_refl _ | exact Nat.zero_le _ | (simp; done) | (simp; omega))
        focus (first | exact Nat.le_refl _ | exact Nat.zero_le _ | (simp; done) | (simp; omega))
        focus (first | exact Nat.le_refl _ | exact Nat.zero_le _ | (simp; done) | (simp; omega))
        all_goals first | exact ⟨.same _ rfl, trivial⟩ | exact ⟨rfl, rfl, by simp⟩ | exact wkB_keep (B := _ :: _ :: (_, _) :: _) (hk _ _) | exact wkB_keep2 (B := _ :: _ :: (_, _) :: _) (hk _ _) | (simp; done) | skip
      · have e : takeS a r 65 b = (a, r, none) := by unfold takeS; rw [if_neg (by omega), if_neg (by omega), if_neg (by omega), if_neg (by omega)]
        rw [e]
        unfold sC
        refine acs_w p_open_said__take (by simp [c_open_said__take]) ?_
        show AW _ b_open_said__take (RetW [.cell 6 (some 3)] _) { n := 75, tm := [(0, _), (1, _), (2, _)], box := b0 :: b1 :: (T0, [.int .i64 a, .int .i64 r]) :: T, fr := F, p := _ }
        unfold b_open_said__take
        try simp -implicitDefEqProofs only [avl, reduceCtorEq, ↓reduceIte, sevalprocAttr, at_last, set_last, hl', ha, e9, not_true_eq_false]
        repeat' (first | (refine (hκ _).mpr ?_; clear hκ) | refine kn1 ?_ | refine kr1 ?_ | refine ke1 ?_ | refine kn2 ?_ | refine kr2 ?_ | refine kx2 ?_ | refine ke2 rfl ?_ | refine kn3 ?_ | refine kr3 ?_ | refine ke3 ?_ | refine kn4 ?_ | refine kr4 ?_ | refine ke4 ?_ | refine w_seq ?_ | refine w_block ?_ | (refine aw_regk fun κ hκ => ?_; simp -implicitDefEqProofs only [avl, reduceCtorEq, ↓reduceIte, sevalprocAttr, at_last, set_last, hl', ha, e9, not_true_eq_false]) | refine aw_exit ?_ | refine aw_ret ?_ | refine aw_skip ?_ | refine aw_label ?_ | refine condc_t ?_ | refine condc_f ?_ | (refine aw_cond2 (by simp -implicitDefEqProofs only [avl, reduceCtorEq, ↓reduceIte, sevalprocAttr, at_last, set_last, hl', ha, e9, not_true_eq_false]; rfl) ?_) | ((first | refine gkc_fork ?_ ?_ | refine gkc_split ?_ ?_) <;> intro hq <;> simp -implicitDefEqProofs only [hq, avl, reduceCtorEq, ↓reduceIte, sevalprocAttr, at_last, set_last, hl', ha, e9, not_true_eq_false]) | ((first | refine condc_fork ?_ ?_ | refine condc_bool ?_ ?_) <;> intro hq))
        try simp -implicitDefEqProofs only [avl, reduceCtorEq, ↓reduceIte, sevalprocAttr, nA, nC]
        refine ⟨trivial, [nA none], [nA none], F.length, [], b0 :: b1 :: (T0, sC a r) :: T, ?_, ?_, ?_, ?_, ?_, ?_, ?_⟩
        focus (first | rfl | (simp [resL, resOf, St.get, getT, ldAt, at_last, at_two, at_one, nA, nC]; done) | skip)
        rotate_left 3
        rotate_left 2
        rotate_left 1
        focus (first | exact Nat.le_refl _ | exact Nat.zero_le _ | (simp; done) | (simp; omega))
        focus (first | exact Nat.le_refl _ | exact Nat.zero_le _ | (simp; done) | (simp; omega))
        focus (first | exact Nat.le_refl _ | exact Nat.zero_le _ | (simp; done) | (simp; omega))
        all_goals first | exact ⟨.same _ rfl, trivial⟩ | exact ⟨rfl, rfl, by simp⟩ | exact wkB_keep (B := _ :: _ :: (_, _) :: _) (hk _ _) | exact wkB_keep2 (B := _ :: _ :: (_, _) :: _) (hk _ _) | (simp; done) | skip
    · have e : takeS a r 65 b = (a, r, some 0) := by unfold takeS; rw [if_pos (.inl ⟨rfl, hl⟩)]
      have hl' : ¬ ((b.length : Nat) : Int) = 4 := by omega
      rw [e]
      unfold sC
      refine acs_w p_open_said__take (by simp [c_open_said__take]) ?_
      show AW _ b_open_said__take (RetW [.cell 6 (some 3)] _) { n := 75, tm := [(0, _), (1, _), (2, _)], box := b0 :: b1 :: (T0, [.int .i64 a, .int .i64 r]) :: T, fr := F, p := _ }
      unfold b_open_said__take
      try simp -implicitDefEqProofs only [avl, reduceCtorEq, ↓reduceIte, sevalprocAttr, at_last, set_last, hl', not_false_eq_true]
      repeat' (first | (refine (hκ _).mpr ?_; clear hκ) | refine kn1 ?_ | refine kr1 ?_ | refine ke1 ?_ | refine kn2 ?_ | refine kr2 ?_ | refine kx2 ?_ | refine ke2 rfl ?_ | refine kn3 ?_ | refine kr3 ?_ | refine ke3 ?_ | refine kn4 ?_ | refine kr4 ?_ | refine ke4 ?_ | refine w_seq ?_ | refine w_block ?_ | (refine aw_regk fun κ hκ => ?_; simp -implicitDefEqProofs only [avl, reduceCtorEq, ↓reduceIte, sevalprocAttr, at_last, set_last, hl', not_false_eq_true]) | refine aw_exit ?_ | refine aw_ret ?_ | refine aw_skip ?_ | refine aw_label ?_ | refine condc_t ?_ | refine condc_f ?_ | (refine aw_cond2 (by simp -implicitDefEqProofs only [avl, reduceCtorEq, ↓reduceIte, sevalprocAttr, at_last, set_last, hl', not_false_eq_true]; rfl) ?_) | ((first | refine gkc_fork ?_ ?_ | refine gkc_split ?_ ?_) <;> intro hq <;> simp -implicitDefEqProofs only [hq, avl, reduceCtorEq, ↓reduceIte, sevalprocAttr, at_last, set_last, hl', not_false_eq_true]) | ((first | refine condc_fork ?_ ?_ | refine condc_bool ?_ ?_) <;> intro hq))
      try simp -implicitDefEqProofs only [avl, reduceCtorEq, ↓reduceIte, sevalprocAttr, nA, nC]
      refine ⟨trivial, [nA (some 0)], [nA (some 0)], F.length, [], b0 :: b1 :: (T0, sC a r) :: T, ?_, ?_, ?_, ?_, ?_, ?_, ?_⟩
      focus (first | rfl | (simp [resL, resOf, St.get, getT, ldAt, at_last, at_two, at_one, nA, nC]; done) | skip)
      rotate_left 3
      rotate_left 2
      rotate_left 1
      focus (first | exact Nat.le_refl _ | exact Nat.zero_le _ | (simp; done) | (simp; omega))
      focus (first | exact Nat.le_refl _ | exact Nat.zero_le _ | (simp; done) | (simp; omega))
      focus (first | exact Nat.le_refl _ | exact Nat.zero_le _ | (simp; done) | (simp; omega))
      all_goals first | exact ⟨.same _ rfl, trivial⟩ | exact ⟨rfl, rfl, by simp⟩ | exact wkB_keep (B := _ :: _ :: (_, _) :: _) (hk _ _) | exact wkB_keep2 (B := _ :: _ :: (_, _) :: _) (hk _ _) | (simp; done) | skip
  · by_cases h9 : code = 9
    · subst h9
      have e65 : ¬ ((9 : Int) = 65) := by decide
      by_cases hl : b.length = 1
      · obtain ⟨x, rfl⟩ : ∃ x, b = [x] := by
          match b, hl with
          | [x], _ => exact ⟨x, rfl⟩
        have hx : (0 : Int) < (([x] : List UInt8).length : Nat) := by simp
        have hw : IntKind.i64.wrap (x.toNat : Int) = x.toNat := by have := x.toNat_lt; rw [wrap64 (by omega) (by omega)]
        by_cases hr : r < 0
        · have e : takeS a r 9 [x] = (a, (x.toNat : Int), none) := by unfold takeS; rw [if_neg (by simp), if_neg (by simp), if_pos ⟨rfl, hr⟩]; rfl
          rw [e]
          unfold sC
          refine acs_w p_open_said__take (by simp [c_open_said__take]) ?_
          show AW _ b_open_said__take (RetW [.cell 6 (some 3)] _) { n := 75, tm := [(0, _), (1, _), (2, _)], box := b0 :: b1 :: (T0, [.int .i64 a, .int .i64 r]) :: T, fr := F, p := _ }
          unfold b_open_said__take
          try simp -implicitDefEqProofs only [avl, reduceCtorEq, ↓reduceIte, sevalprocAttr, at_last, set_last, e65, hr, hw, hx, bA, (show ((1 : Nat) : Int) = 1 from rfl), not_true_eq_false]
          repeat' (first | (refine (hκ _).mpr ?_; clear hκ) | refine kn1 ?_ | refine kr1 ?_ | refine ke1 ?_ | refine kn2 ?_ | refine kr2 ?_ | refine kx2 ?_ | refine ke2 rfl ?_ | refine kn3 ?_ | refine kr3 ?_ | refine ke3 ?_ | refine kn4 ?_ | refine kr4 ?_ | refine ke4 ?_ | refine w_seq ?_ | refine w_block ?_ | (refine aw_regk fun κ hκ => ?_; simp -implicitDefEqProofs only [avl, reduceCtorEq, ↓reduceIte, sevalprocAttr, at_last, set_last, e65, hr, hw, hx, bA, (show ((1 : Nat) : Int) = 1 from rfl), not_true_eq_false]) | refine aw_exit ?_ | refine aw_ret ?_ | refine aw_skip ?_ | refine aw_label ?_ | refine condc_t ?_ | refine condc_f ?_ | (refine aw_cond2 (by simp -implicitDefEqProofs only [avl, reduceCtorEq, ↓reduceIte, sevalprocAttr, at_last, set_last, e65, hr, hw, hx, bA, (show ((1 : Nat) : Int) = 1 from rfl), not_true_eq_false]; rfl) ?_) | ((first | refine gkc_fork ?_ ?_ | refine gkc_split ?_ ?_) <;> intro hq <;> simp -implicitDefEqProofs only [hq, avl, reduceCtorEq, ↓reduceIte, sevalprocAttr, at_last, set_last, e65, hr, hw, hx, bA, (show ((1 : Nat) : Int) = 1 from rfl), not_true_eq_false]) | ((first | refine condc_fork ?_ ?_ | refine condc_bool ?_ ?_) <;> intro hq))
          try simp -implicitDefEqProofs only [avl, reduceCtorEq, ↓reduceIte, sevalprocAttr, nA, nC]
          refine ⟨trivial, [nA none], [nA none], F.length, [], b0 :: b1 :: (T0, sC a (x.toNat : Int)) :: T, ?_, ?_, ?_, ?_, ?_, ?_, ?_⟩
          focus (first | rfl | (simp [resL, resOf, St.get, getT, ldAt, at_last, at_two, at_one, nA, nC]; done) | skip)
          rotate_left 3
          rotate_left 2
          rotate_left 1
          focus (first | exact Nat.le_refl _ | exact Nat.zero_le _ | (simp; done) | (simp; omega))
          focus (first | exact Nat.le_refl _ | exact Nat.zero_le _ | (simp; done) | (simp; omega))
          focus (first | exact Nat.le_refl _ | exact Nat.zero_le _ | (simp; done) | (simp; omega))
          all_goals first | exact ⟨.same _ rfl, trivial⟩ | exact ⟨rfl, rfl, by simp⟩ | exact wkB_keep (B := _ :: _ :: (_, _) :: _) (hk _ _) | exact wkB_keep2 (B := _ :: _ :: (_, _) :: _) (hk _ _) | (simp; done) | skip
        · by_cases hne : r = (x.toNat : Int)
          · subst hne
            have e : takeS a (x.toNat : Int) 9 [x] = (a, (x.toNat : Int), none) := by unfold takeS; rw [if_neg (by simp), if_neg (by simp), if_neg (by omega), if_neg (by simp)]
            rw [e]
            unfold sC
            refine acs_w p_open_said__take (by simp [c_open_said__take]) ?_
            show AW _ b_open_said__take (RetW [.cell 6 (some 3)] _) { n := 75, tm := [(0, _), (1, _), (2, _)], box := b0 :: b1 :: (T0, [.int .i64 a, .int .i64 (x.toNat : Int)]) :: T, fr := F, p := _ }
            unfold b_open_said__take
            try simp -implicitDefEqProofs only [avl, reduceCtorEq, ↓reduceIte, sevalprocAttr, at_last, set_last, e65, hr, hw, hx, bA, eq_self, (show ((1 : Nat) : Int) = 1 from rfl), not_true_eq_false]
            repeat' (first | (refine (hκ _).mpr ?_; clear hκ) | refine kn1 ?_ | refine kr1 ?_ | refine ke1 ?_ | refine kn2 ?_ | refine kr2 ?_ | refine kx2 ?_ | refine ke2 rfl ?_ | refine kn3 ?_ | refine kr3 ?_ | refine ke3 ?_ | refine kn4 ?_ | refine kr4 ?_ | refine ke4 ?_ | refine w_seq ?_ | refine w_block ?_ | (refine aw_regk fun κ hκ => ?_; simp -implicitDefEqProofs only [avl, reduceCtorEq, ↓reduceIte, sevalprocAttr, at_last, set_last, e65, hr, hw, hx, bA, eq_self, (show ((1 : Nat) : Int) = 1 from rfl), not_true_eq_false]) | refine aw_exit ?_ | refine aw_ret ?_ | refine aw_skip ?_ | refine aw_label ?_ | refine condc_t ?_ | refine condc_f ?_ | (refine aw_cond2 (by simp -implicitDefEqProofs only [avl, reduceCtorEq, ↓reduceIte, sevalprocAttr, at_last, set_last, e65, hr, hw, hx, bA, eq_self, (show ((1 : Nat) : Int) = 1 from rfl), not_true_eq_false]; rfl) ?_) | ((first | refine gkc_fork ?_ ?_ | refine gkc_split ?_ ?_) <;> intro hq <;> simp -implicitDefEqProofs only [hq, avl, reduceCtorEq, ↓reduceIte, sevalprocAttr, at_last, set_last, e65, hr, hw, hx, bA, eq_self, (show ((1 : Nat) : Int) = 1 from rfl), not_true_eq_false]) | ((first | refine condc_fork ?_ ?_ | refine condc_bool ?_ ?_) <;> intro hq))
            try simp -implicitDefEqProofs only [avl, reduceCtorEq, ↓reduceIte, sevalprocAttr, nA, nC]
            refine ⟨trivial, [nA none], [nA none], F.length, [], b0 :: b1 :: (T0, sC a (x.toNat : Int)) :: T, ?_, ?_, ?_, ?_, ?_, ?_, ?_⟩
            focus (first | rfl | (simp [resL, resOf, St.get, getT, ldAt, at_last, at_two, at_one, nA, nC]; done) | skip)
            rotate_left 3
            rotate_left 2
            rotate_left 1
            focus (first | exact Nat.le_refl _ | exact Nat.zero_le _ | (simp; done) | (simp; omega))
            focus (first | exact Nat.le_refl _ | exact Nat.zero_le _ | (simp; done) | (simp; omega))
            focus (first | exact Nat.le_refl _ | exact Nat.zero_le _ | (simp; done) | (simp; omega))
            all_goals first | exact ⟨.same _ rfl, trivial⟩ | exact ⟨rfl, rfl, by simp⟩ | exact wkB_keep (B := _ :: _ :: (_, _) :: _) (hk _ _) | exact wkB_keep2 (B := _ :: _ :: (_, _) :: _) (hk _ _) | (simp; done) | skip
          · have e : takeS a r 9 [x] = (a, r, some 11) := by unfold takeS; rw [if_neg (by simp), if_neg (by simp), if_neg (by omega), if_pos ⟨rfl, by simpa using hne⟩]
            rw [e]
            unfold sC
            refine acs_w p_open_said__take (by simp [c_open_said__take]) ?_
            show AW _ b_open_said__take (RetW [.cell 6 (some 3)] _) { n := 75, tm := [(0, _), (1, _), (2, _)], box := b0 :: b1 :: (T0, [.int .i64 a, .int .i64 r]) :: T, fr := F, p := _ }
            unfold b_open_said__take
            try simp -implicitDefEqProofs only [avl, reduceCtorEq, ↓reduceIte, sevalprocAttr, at_last, set_last, e65, hr, hw, hx, bA, hne, (show ((1 : Nat) : Int) = 1 from rfl), not_true_eq_false, not_false_eq_true]
            repeat' (first | (refine (hκ _).mpr ?_; clear hκ) | refine kn1 ?_ | refine kr1 ?_ | refine ke1 ?_ | refine kn2 ?_ | refine kr2 ?_ | refine kx2 ?_ | refine ke2 rfl ?_ | refine kn3 ?_ | refine kr3 ?_ | refine ke3 ?_ | refine kn4 ?_ | refine kr4 ?_ | refine ke4 ?_ | refine w_seq ?_ | refine w_block ?_ | (refine aw_regk fun κ hκ => ?_; simp -implicitDefEqProofs only [avl, reduceCtorEq, ↓reduceIte, sevalprocAttr, at_last, set_last, e65, hr, hw, hx, bA, hne, (show ((1 : Nat) : Int) = 1 from rfl), not_true_eq_false, not_false_eq_true]) | refine aw_exit ?_ | refine aw_ret ?_ | refine aw_skip ?_ | refine aw_label ?_ | refine condc_t ?_ | refine condc_f ?_ | (refine aw_cond2 (by simp -implicitDefEqProofs only [avl, reduceCtorEq, ↓reduceIte, sevalprocAttr, at_last, set_last, e65, hr, hw, hx, bA, hne, (show ((1 : Nat) : Int) = 1 from rfl), not_true_eq_false, not_false_eq_true]; rfl) ?_) | ((first | refine gkc_fork ?_ ?_ | refine gkc_split ?_ ?_) <;> intro hq <;> simp -implicitDefEqProofs only [hq, avl, reduceCtorEq, ↓reduceIte, sevalprocAttr, at_last, set_last, e65, hr, hw, hx, bA, hne, (show ((1 : Nat) : Int) = 1 from rfl), not_true_eq_false, not_false_eq_true]) | ((first | refine condc_fork ?_ ?_ | refine condc_bool ?_ ?_) <;> intro hq))
            try simp -implicitDefEqProofs only [avl, reduceCtorEq, ↓reduceIte, sevalprocAttr, nA, nC]
            refine ⟨trivial, [nA (some 11)], [nA (some 11)], F.length, [], b0 :: b1 :: (T0, sC a r) :: T, ?_, ?_, ?_, ?_, ?_, ?_, ?_⟩
            focus (first | rfl | (simp [resL, resOf, St.get, getT, ldAt, at_last, at_two, at_one, nA, nC]; done) | skip)
            rotate_left 3
            rotate_left 2
            rotate_left 1
            focus (first | exact Nat.le_refl _ | exact Nat.zero_le _ | (simp; done) | (simp; omega))
            focus (first | exact Nat.le_refl _ | exact Nat.zero_le _ | (simp; done) | (simp; omega))
            focus (first | exact Nat.le_refl _ | exact Nat.zero_le _ | (simp; done) | (simp; omega))
            all_goals first | exact ⟨.same _ rfl, trivial⟩ | exact ⟨rfl, rfl, by simp⟩ | exact wkB_keep (B := _ :: _ :: (_, _) :: _) (hk _ _) | exact wkB_keep2 (B := _ :: _ :: (_, _) :: _) (hk _ _) | (simp; done) | skip
      · have e : takeS a r 9 b = (a, r, some 0) := by unfold takeS; rw [if_pos (.inr ⟨rfl, hl⟩)]
        have hl' : ¬ ((b.length : Nat) : Int) = 1 := by omega
        rw [e]
        unfold sC
        refine acs_w p_open_said__take (by simp [c_open_said__take]) ?_
        show AW _ b_open_said__take (RetW [.cell 6 (some 3)] _) { n := 75, tm := [(0, _), (1, _), (2, _)], box := b0 :: b1 :: (T0, [.int .i64 a, .int .i64 r]) :: T, fr := F, p := _ }
        unfold b_open_said__take
        try simp -implicitDefEqProofs only [avl, reduceCtorEq, ↓reduceIte, sevalprocAttr, at_last, set_last, e65, hl', not_false_eq_true]
        repeat' (first | (refine (hκ _).mpr ?_; clear hκ) | refine kn1 ?_ | refine kr1 ?_ | refine ke1 ?_ | refine kn2 ?_ | refine kr2 ?_ | refine kx2 ?_ | refine ke2 rfl ?_ | refine kn3 ?_ | refine kr3 ?_ | refine ke3 ?_ | refine kn4 ?_ | refine kr4 ?_ | refine ke4 ?_ | refine w_seq ?_ | refine w_block ?_ | (refine aw_regk fun κ hκ => ?_; simp -implicitDefEqProofs only [avl, reduceCtorEq, ↓reduceIte, sevalprocAttr, at_last, set_last, e65, hl', not_false_eq_true]) | refine aw_exit ?_ | refine aw_ret ?_ | refine aw_skip ?_ | refine aw_label ?_ | refine condc_t ?_ | refine condc_f ?_ | (refine aw_cond2 (by simp -implicitDefEqProofs only [avl, reduceCtorEq, ↓reduceIte, sevalprocAttr, at_last, set_last, e65, hl', not_false_eq_true]; rfl) ?_) | ((first | refine gkc_fork ?_ ?_ | refine gkc_split ?_ ?_) <;> intro hq <;> simp -implicitDefEqProofs only [hq, avl, reduceCtorEq, ↓reduceIte, sevalprocAttr, at_last, set_last, e65, hl', not_false_eq_true]) | ((first | refine condc_fork ?_ ?_ | refine condc_bool ?_ ?_) <;> intro hq))
        try simp -implicitDefEqProofs only [avl, reduceCtorEq, ↓reduceIte, sevalprocAttr, nA, nC]
        refine ⟨trivial, [nA (some 0)], [nA (some 0)], F.length, [], b0 :: b1 :: (T0, sC a r) :: T, ?_, ?_, ?_, ?_, ?_, ?_, ?_⟩
        focus (first | rfl | (simp [resL, resOf, St.get, getT, ldAt, at_last, at_two, at_one, nA, nC]; done) | skip)
        rotate_left 3
        rotate_left 2
        rotate_left 1
        focus (first | exact Nat.le_refl _ | exact Nat.zero_le _ | (simp; done) | (simp; omega))
        focus (first | exact Nat.le_refl _ | exact Nat.zero_le _ | (simp; done) | (simp; omega))
        focus (first | exact Nat.le_refl _ | exact Nat.zero_le _ | (simp; done) | (simp; omega))
        all_goals first | exact ⟨.same _ rfl, trivial⟩ | exact ⟨rfl, rfl, by simp⟩ | exact wkB_keep (B := _ :: _ :: (_, _) :: _) (hk _ _) | exact wkB_keep2 (B := _ :: _ :: (_, _) :: _) (hk _ _) | (simp; done) | skip
    · have e : takeS a r code b = (a, r, none) := by unfold takeS; rw [if_neg (by omega), if_neg (by omega), if_neg (by omega), if_neg (by omega)]
      rw [e]
      unfold sC
      refine acs_w p_open_said__take (by simp [c_open_said__take]) ?_
      show AW _ b_open_said__take (RetW [.cell 6 (some 3)] _) { n := 75, tm := [(0, _), (1, _), (2, _)], box := b0 :: b1 :: (T0, [.int .i64 a, .int .i64 r]) :: T, fr := F, p := _ }
      unfold b_open_said__take
      try simp -implicitDefEqProofs only [avl, reduceCtorEq, ↓reduceIte, sevalprocAttr, at_last, set_last, h65, h9]
      repeat' (first | (refine (hκ _).mpr ?_; clear hκ) | refine kn1 ?_ | refine kr1 ?_ | refine ke1 ?_ | refine kn2 ?_ | refine kr2 ?_ | refine kx2 ?_ | refine ke2 rfl ?_ | refine kn3 ?_ | refine kr3 ?_ | refine ke3 ?_ | refine kn4 ?_ | refine kr4 ?_ | refine ke4 ?_ | refine w_seq ?_ | refine w_block ?_ | (refine aw_regk fun κ hκ => ?_; simp -implicitDefEqProofs only [avl, reduceCtorEq, ↓reduceIte, sevalprocAttr, at_last, set_last, h65, h9]) | refine aw_exit ?_ | refine aw_ret ?_ | refine aw_skip ?_ | refine aw_label ?_ | refine condc_t ?_ | refine condc_f ?_ | (refine aw_cond2 (by simp -implicitDefEqProofs only [avl, reduceCtorEq, ↓reduceIte, sevalprocAttr, at_last, set_last, h65, h9]; rfl) ?_) | ((first | refine gkc_fork ?_ ?_ | refine gkc_split ?_ ?_) <;> intro hq <;> simp -implicitDefEqProofs only [hq, avl, reduceCtorEq, ↓reduceIte, sevalprocAttr, at_last, set_last, h65, h9]) | ((first | refine condc_fork ?_ ?_ | refine condc_bool ?_ ?_) <;> intro hq))
      try simp -implicitDefEqProofs only [avl, reduceCtorEq, ↓reduceIte, sevalprocAttr, nA, nC]
      refine ⟨trivial, [nA none], [nA none], F.length, [], b0 :: b1 :: (T0, sC a r) :: T, ?_, ?_, ?_, ?_, ?_, ?_, ?_⟩
      focus (first | rfl | (simp [resL, resOf, St.get, getT, ldAt, at_last, at_two, at_one, nA, nC]; done) | skip)
      rotate_left 3
      rotate_left 2
      rotate_left 1
      focus (first | exact Nat.le_refl _ | exact Nat.zero_le _ | (simp; done) | (simp; omega))
      focus (first | exact Nat.le_refl _ | exact Nat.zero_le _ | (simp; done) | (simp; omega))
      focus (first | exact Nat.le_refl _ | exact Nat.zero_le _ | (simp; done) | (simp; omega))
      all_goals first | exact ⟨.same _ rfl, trivial⟩ | exact ⟨rfl, rfl, by simp⟩ | exact wkB_keep (B := _ :: _ :: (_, _) :: _) (hk _ _) | exact wkB_keep2 (B := _ :: _ :: (_, _) :: _) (hk _ _) | (simp; done) | skip

/-- What stands behind each type or code, until a note is told. -/
def eachS (f : Int → Int → Int → List UInt8 → Int × Int × Option Int) (a r : Int) (l : List UInt8) : Int × Int × Option Int :=
  match l with
  | [] => (a, r, none)
  | [_] => (a, r, some 0)
  | k :: c :: t =>
    if c.toNat ≤ t.length then
      match f a r k.toNat (t.take c.toNat) with
      | (a', r', none) => eachS f a' r' (t.drop c.toNat)
      | (a', r', some e) => (a', r', some e)
    else (a, r, some 0)
termination_by l.length
decreasing_by simp; omega
theorem get1 (x : UInt8) (t : List UInt8) : getR (x :: t) 1 = [.int .i64 (x.toNat : Int), .slice .imm 1 (t.map bA), .bool true] := by
  unfold getR
  rw [if_pos (by simp)]
  simp [num]
theorem get0 : getR [] 1 = [.int .i64 0, .slice .full 0 [], .bool false] := by
  unfold getR
  rw [if_neg (by simp)]
theorem each_fn_acs (g : FuncId) (f : Int → Int → Int → List UInt8 → Int × Int × Option Int) (b0 b1 : TypeId × List AV) (T0 : TypeId) (T : List (TypeId × List AV)) (F : List (TypeId × Nat)) (a0 r0 : Int) (l0 : List UInt8) (hB : okBx F.length (T.length + 3) (b0 :: b1 :: T) = true)
    (hg : ∀ a r k b, ACs Try.prog g [.ptr 2 0, .int .i64 k, .slice .imm 1 (b.map bA)] (b0 :: b1 :: (T0, sC a r) :: (T ++ [(29, nC 0 0)])) F
      fun v B' F' => v = nA (f a r k b).2.2 ∧ B' = b0 :: b1 :: (T0, sC (f a r k b).1 (f a r k b).2.1) :: (T ++ [(29, nC 0 0)]) ∧ F' = F) :
    ACs Try.prog 65 [.slice .imm 1 (l0.map bA), .fn g [.ptr 2 0]] (b0 :: b1 :: (T0, sC a0 r0) :: T) F
      fun v B' F' => v = nA (eachS f a0 r0 l0).2.2 ∧ B' = b0 :: b1 :: (T0, sC (eachS f a0 r0 l0).1 (eachS f a0 r0 l0).2.1) :: T ∧ F' = F := by
  have hk : ∀ a r, okBx F.length (T.length + 3) (b0 :: b1 :: (T0, sC a r) :: T) = true := fun a r => by
    unfold okBx at hB ⊢
    simp only [List.all_cons, Bool.and_eq_true] at hB ⊢
    exact ⟨hB.1, hB.2.1, rfl, hB.2.2⟩
  have hk2 : ∀ a r, okBx F.length (b0 :: b1 :: (T0, sC a r) :: (T ++ [(29, nC 0 0)])).length (b0 :: b1 :: (T0, sC a r) :: (T ++ [(29, nC 0 0)])) = true := fun a r => by
    have h := okBx_mono (Nat.le_refl F.length) (Nat.le_succ _) (hk a r)
    rw [show (b0 :: b1 :: (T0, sC a r) :: (T ++ [(29, nC 0 0)])).length = T.length + 3 + 1 by simp, show (b0 :: b1 :: (T0, sC a r) :: (T ++ [(29, nC 0 0)])) = (b0 :: b1 :: (T0, sC a r) :: T) ++ [(29, nC 0 0)] from rfl, okBx_append, h]
    rfl
  generalize hres : eachS f a0 r0 l0 = res
  unfold sC
  refine acs_w p_open_each (by simp [c_open_each]) ?_
  show AW _ b_open_each (RetW [.cell 4 (some 3)] _) { n := 52, tm := [(0, _), (1, _)], box := b0 :: b1 :: (T0, [.int .i64 a0, .int .i64 r0]) :: T, fr := F, p := _ }
  unfold b_open_each
  try simp -implicitDefEqProofs only [avl, reduceCtorEq, ↓reduceIte, sevalprocAttr, at_last, set_last]
  repeat' (first | (refine (hκ _).mpr ?_; clear hκ) | refine kn1 ?_ | refine kr1 ?_ | refine ke1 ?_ | refine kn2 ?_ | refine kr2 ?_ | refine kx2 ?_ | refine ke2 rfl ?_ | refine kn3 ?_ | refine kr3 ?_ | refine ke3 ?_ | refine kn4 ?_ | refine kr4 ?_ | refine ke4 ?_ | refine w_seq ?_ | refine w_block ?_ | (refine aw_regk fun κ hκ => ?_; simp -implicitDefEqProofs only [avl, reduceCtorEq, ↓reduceIte, sevalprocAttr, at_last, set_last]) | refine aw_exit ?_ | refine aw_ret ?_ | refine aw_skip ?_ | refine aw_label ?_ | refine condc_t ?_ | refine condc_f ?_ | (refine aw_cond2 (by simp -implicitDefEqProofs only [avl, reduceCtorEq, ↓reduceIte, sevalprocAttr, at_last, set_last]; rfl) ?_) | ((first | refine gkc_fork ?_ ?_ | refine gkc_split ?_ ?_) <;> intro hq <;> simp -implicitDefEqProofs only [hq, avl, reduceCtorEq, ↓reduceIte, sevalprocAttr, at_last, set_last]) | ((first | refine condc_fork ?_ ?_ | refine condc_bool ?_ ?_) <;> intro hq))
  refine w_loop (fun (i : Int × Int × List UInt8) => eachS f i.1 i.2.1 i.2.2 = res) (fun (i : Int × Int × List UInt8) => { n := 52, tm := [(0, .slice .imm 1 (i.2.2.map bA)), (1, .fn g [.ptr 2 0]), (4, .ptr (T.length + 1 + 1 + 1) 0)], box := b0 :: b1 :: (T0, sC i.1 i.2.1) :: (T ++ [(29, nC 0 0)]), fr := F, p := (T.length + 1 + 1 + 1, F.length) }) (fun i => i.2.2.length) (a0, r0, l0) hres ?_ ?_
  · refine wk_of F.length [] ?_ ?_ rfl rfl ?_ ?_ ?_
    rotate_left 3
    rotate_left 2
    focus (first | rfl | (simp; done) | (simp; omega))
    focus (first | rfl | (simp; done) | (simp; omega) | exact Nat.zero_le _)
    focus (first | exact ⟨Nat.zero_le _, Nat.zero_le _⟩ | (simp; done) | (simp; omega))
    rotate_left 1
    focus (exact wkB_refl (hk2 a0 r0))
    all_goals (repeat' (first | exact trivial | apply And.intro))
    all_goals first
      | exact rfl
      | exact .same _ rfl
      | exact .und _
      | (refine .same _ ?_; (focus (simp [okB, okBL]; done)))
      | (refine .same _ (okB_pur ?_); (focus (simp [purs]; done)))
      | (refine .same _ (ok_app ?_ ?_); (focus (simp; done)); (focus (simp [purs]; done)))
      | (simp -implicitDefEqProofs only [List.append_assoc, avl, reduceCtorEq, ↓reduceIte, sevalprocAttr]; first | exact .same _ rfl | (refine .same _ ?_; (focus (simp [okB, okBL]; done))) | (refine .same _ (okB_pur ?_); (focus (simp [purs]; done))) | (refine .same _ (ok_app ?_ ?_); (focus (simp; done)); (focus (simp [purs]; done))) | (refine .tag _ _ _ _ _ ?_ ?_ (fr_at rfl ?_) (okBL_pur ?_); (focus (first | exact .inl rfl | (simp; done))); (focus (simp; done)); (focus (first | rfl | (simp; done) | (simp; omega))); (focus (simp [purs]; done))) | (refine .imm _ _ _ _ ?_ (okBL_pur ?_); (focus (first | exact .inl rfl | (simp; done))); (focus (simp [purs]; done))) | skip)
      | skip
  · rintro ⟨a, r, l⟩ hr
    simp only at hr
    unfold sC nC
    rcases l with _ | ⟨k, _ | ⟨c, t⟩⟩
    · rw [eachS] at hr
      subst hr
      try simp -implicitDefEqProofs only [avl, reduceCtorEq, ↓reduceIte, sevalprocAttr, at_last, set_last, List.map_nil, (show ((0 : Nat) : Int) = 0 from rfl)]
      repeat' (first | (refine (hκ _).mpr ?_; clear hκ) | refine kn1 ?_ | refine kr1 ?_ | refine ke1 ?_ | refine kn2 ?_ | refine kr2 ?_ | refine kx2 ?_ | refine ke2 rfl ?_ | refine kn3 ?_ | refine kr3 ?_ | refine ke3 ?_ | refine kn4 ?_ | refine kr4 ?_ | refine ke4 ?_ | refine w_seq ?_ | refine w_block ?_ | (refine aw_regk fun κ hκ => ?_; simp -implicitDefEqProofs only [avl, reduceCtorEq, ↓reduceIte, sevalprocAttr, at_last, set_last, List.map_nil, (show ((0 : Nat) : Int) = 0 from rfl)]) | refine aw_exit ?_ | refine aw_ret ?_ | refine aw_skip ?_ | refine aw_label ?_ | refine condc_t ?_ | refine condc_f ?_ | (refine aw_cond2 (by simp -implicitDefEqProofs only [avl, reduceCtorEq, ↓reduceIte, sevalprocAttr, at_last, set_last, List.map_nil, (show ((0 : Nat) : Int) = 0 from rfl)]; rfl) ?_) | ((first | refine gkc_fork ?_ ?_ | refine gkc_split ?_ ?_) <;> intro hq <;> simp -implicitDefEqProofs only [hq, avl, reduceCtorEq, ↓reduceIte, sevalprocAttr, at_last, set_last, List.map_nil, (show ((0 : Nat) : Int) = 0 from rfl)]) | ((first | refine condc_fork ?_ ?_ | refine condc_bool ?_ ?_) <;> intro hq))
      try simp -implicitDefEqProofs only [avl, reduceCtorEq, ↓reduceIte, sevalprocAttr, nA, nC]
      refine ⟨trivial, [nA none], [nA none], F.length, [], b0 :: b1 :: (T0, sC a r) :: T, ?_, ?_, ?_, ?_, ?_, ?_, ?_⟩
      focus (first | rfl | (simp [resL, resOf, St.get, getT, ldAt, at_last, at_two, at_one, nA, nC]; done) | skip)
      rotate_left 3
      rotate_left 2
      rotate_left 1
      focus (first | exact Nat.le_refl _ | exact Nat.zero_le _ | (simp; done) | (simp; omega))
      focus (first | exact Nat.le_refl _ | exact Nat.zero_le _ | (simp; done) | (simp; omega))
      focus (first | exact Nat.le_refl _ | exact Nat.zero_le _ | (simp; done) | (simp; omega))
      all_goals first | exact ⟨.same _ rfl, trivial⟩ | exact ⟨rfl, rfl, by simp⟩ | exact wkB_keep (B := _ :: _ :: (_, _) :: _) (hk _ _) | exact wkB_keep2 (B := _ :: _ :: (_, _) :: _) (hk _ _) | (simp; done) | skip
    · rw [eachS] at hr
      subst hr
      have hg1 := octGet_ac [k] 1 (by omega) (by omega)
      rw [get1] at hg1
      have hg0 := octGet_ac [] 1 (by omega) (by omega)
      rw [get0] at hg0
      have ht := octTake_ac [] 0
      rw [if_pos (by simp)] at ht
      try simp -implicitDefEqProofs only [avl, reduceCtorEq, ↓reduceIte, sevalprocAttr, at_last, set_last, (show ((1 : Nat) : Int) > 0 by decide)]
      repeat' (first | (refine (hκ _).mpr ?_; clear hκ) | refine kn1 ?_ | refine kr1 ?_ | refine ke1 ?_ | refine kn2 ?_ | refine kr2 ?_ | refine kx2 ?_ | refine ke2 rfl ?_ | refine kn3 ?_ | refine kr3 ?_ | refine ke3 ?_ | refine kn4 ?_ | refine kr4 ?_ | refine ke4 ?_ | refine w_seq ?_ | refine w_block ?_ | (refine aw_regk fun κ hκ => ?_; simp -implicitDefEqProofs only [avl, reduceCtorEq, ↓reduceIte, sevalprocAttr, at_last, set_last, (show ((1 : Nat) : Int) > 0 by decide)]) | refine aw_exit ?_ | refine aw_ret ?_ | refine aw_skip ?_ | refine aw_label ?_ | refine condc_t ?_ | refine condc_f ?_ | (refine aw_cond2 (by simp -implicitDefEqProofs only [avl, reduceCtorEq, ↓reduceIte, sevalprocAttr, at_last, set_last, (show ((1 : Nat) : Int) > 0 by decide)]; rfl) ?_) | ((first | refine gkc_fork ?_ ?_ | refine gkc_split ?_ ?_) <;> intro hq <;> simp -implicitDefEqProofs only [hq, avl, reduceCtorEq, ↓reduceIte, sevalprocAttr, at_last, set_last, (show ((1 : Nat) : Int) > 0 by decide)]) | ((first | refine condc_fork ?_ ?_ | refine condc_bool ?_ ?_) <;> intro hq))
      first | refine callsc (hg1) ?_ ?_ | refine callc (hg1) ?_ ?_ | ((first | refine callsc (act_le (hg1) ?_) ?_ ?_ | refine callc (act_le (hg1) ?_) ?_ ?_); (focus (repeat' (first | exact trivial | exact le_same _ | exact le_imm (.inl rfl) | exact le_imm (.inr rfl) | (refine le_agg ?_) | apply And.intro))))
      (focus (simp [purs]; done))
      try simp -implicitDefEqProofs only [avl, reduceCtorEq, ↓reduceIte, sevalprocAttr, at_last, set_last, sh, sh1, List.map_nil]
      repeat' (first | (refine (hκ _).mpr ?_; clear hκ) | refine kn1 ?_ | refine kr1 ?_ | refine ke1 ?_ | refine kn2 ?_ | refine kr2 ?_ | refine kx2 ?_ | refine ke2 rfl ?_ | refine kn3 ?_ | refine kr3 ?_ | refine ke3 ?_ | refine kn4 ?_ | refine kr4 ?_ | refine ke4 ?_ | refine w_seq ?_ | refine w_block ?_ | (refine aw_regk fun κ hκ => ?_; simp -implicitDefEqProofs only [avl, reduceCtorEq, ↓reduceIte, sevalprocAttr, at_last, set_last, sh, sh1, List.map_nil]) | refine aw_exit ?_ | refine aw_ret ?_ | refine aw_skip ?_ | refine aw_label ?_ | refine condc_t ?_ | refine condc_f ?_ | (refine aw_cond2 (by simp -implicitDefEqProofs only [avl, reduceCtorEq, ↓reduceIte, sevalprocAttr, at_last, set_last, sh, sh1, List.map_nil]; rfl) ?_) | ((first | refine gkc_fork ?_ ?_ | refine gkc_split ?_ ?_) <;> intro hq <;> simp -implicitDefEqProofs only [hq, avl, reduceCtorEq, ↓reduceIte, sevalprocAttr, at_last, set_last, sh, sh1, List.map_nil]) | ((first | refine condc_fork ?_ ?_ | refine condc_bool ?_ ?_) <;> intro hq))
      first | refine callsc (hg0) ?_ ?_ | refine callc (hg0) ?_ ?_ | ((first | refine callsc (act_le (hg0) ?_) ?_ ?_ | refine callc (act_le (hg0) ?_) ?_ ?_); (focus (repeat' (first | exact trivial | exact le_same _ | exact le_imm (.inl rfl) | exact le_imm (.inr rfl) | (refine le_agg ?_) | apply And.intro))))
      (focus (simp [purs]; done))
      try simp -implicitDefEqProofs only [avl, reduceCtorEq, ↓reduceIte, sevalprocAttr, at_last, set_last, sh, sh1]
      repeat' (first | (refine (hκ _).mpr ?_; clear hκ) | refine kn1 ?_ | refine kr1 ?_ | refine ke1 ?_ | refine kn2 ?_ | refine kr2 ?_ | refine kx2 ?_ | refine ke2 rfl ?_ | refine kn3 ?_ | refine kr3 ?_ | refine ke3 ?_ | refine kn4 ?_ | refine kr4 ?_ | refine ke4 ?_ | refine w_seq ?_ | refine w_block ?_ | (refine aw_regk fun κ hκ => ?_; simp -implicitDefEqProofs only [avl, reduceCtorEq, ↓reduceIte, sevalprocAttr, at_last, set_last, sh, sh1]) | refine aw_exit ?_ | refine aw_ret ?_ | refine aw_skip ?_ | refine aw_label ?_ | refine condc_t ?_ | refine condc_f ?_ | (refine aw_cond2 (by simp -implicitDefEqProofs only [avl, reduceCtorEq, ↓reduceIte, sevalprocAttr, at_last, set_last, sh, sh1]; rfl) ?_) | ((first | refine gkc_fork ?_ ?_ | refine gkc_split ?_ ?_) <;> intro hq <;> simp -implicitDefEqProofs only [hq, avl, reduceCtorEq, ↓reduceIte, sevalprocAttr, at_last, set_last, sh, sh1]) | ((first | refine condc_fork ?_ ?_ | refine condc_bool ?_ ?_) <;> intro hq))
      first | refine callsc (ht) ?_ ?_ | refine callc (ht) ?_ ?_ | ((first | refine callsc (act_le (ht) ?_) ?_ ?_ | refine callc (act_le (ht) ?_) ?_ ?_); (focus (repeat' (first | exact trivial | exact le_same _ | exact le_imm (.inl rfl) | exact le_imm (.inr rfl) | (refine le_agg ?_) | apply And.intro))))
      (focus (simp [purs]; done))
      try simp -implicitDefEqProofs only [avl, reduceCtorEq, ↓reduceIte, sevalprocAttr, at_last, set_last, sh, sh1]
      repeat' (first | (refine (hκ _).mpr ?_; clear hκ) | refine kn1 ?_ | refine kr1 ?_ | refine ke1 ?_ | refine kn2 ?_ | refine kr2 ?_ | refine kx2 ?_ | refine ke2 rfl ?_ | refine kn3 ?_ | refine kr3 ?_ | refine ke3 ?_ | refine kn4 ?_ | refine kr4 ?_ | refine ke4 ?_ | refine w_seq ?_ | refine w_block ?_ | (refine aw_regk fun κ hκ => ?_; simp -implicitDefEqProofs only [avl, reduceCtorEq, ↓reduceIte, sevalprocAttr, at_last, set_last, sh, sh1]) | refine aw_exit ?_ | refine aw_ret ?_ | refine aw_skip ?_ | refine aw_label ?_ | refine condc_t ?_ | refine condc_f ?_ | (refine aw_cond2 (by simp -implicitDefEqProofs only [avl, reduceCtorEq, ↓reduceIte, sevalprocAttr, at_last, set_last, sh, sh1]; rfl) ?_) | ((first | refine gkc_fork ?_ ?_ | refine gkc_split ?_ ?_) <;> intro hq <;> simp -implicitDefEqProofs only [hq, avl, reduceCtorEq, ↓reduceIte, sevalprocAttr, at_last, set_last, sh, sh1]) | ((first | refine condc_fork ?_ ?_ | refine condc_bool ?_ ?_) <;> intro hq))
      try simp -implicitDefEqProofs only [avl, reduceCtorEq, ↓reduceIte, sevalprocAttr, nA, nC]
      refine ⟨trivial, [nA (some 0)], [nA (some 0)], F.length, [], b0 :: b1 :: (T0, sC a r) :: T, ?_, ?_, ?_, ?_, ?_, ?_, ?_⟩
      focus (first | rfl | (simp [resL, resOf, St.get, getT, ldAt, at_last, at_two, at_one, nA, nC]; done) | skip)
      rotate_left 3
      rotate_left 2
      rotate_left 1
      focus (first | exact Nat.le_refl _ | exact Nat.zero_le _ | (simp; done) | (simp; omega))
      focus (first | exact Nat.le_refl _ | exact Nat.zero_le _ | (simp; done) | (simp; omega))
      focus (first | exact Nat.le_refl _ | exact Nat.zero_le _ | (simp; done) | (simp; omega))
      all_goals first | exact ⟨.same _ rfl, trivial⟩ | exact ⟨rfl, rfl, by simp⟩ | exact wkB_keep (B := _ :: _ :: (_, _) :: _) (hk _ _) | exact wkB_keep2 (B := _ :: _ :: (_, _) :: _) (hk _ _) | (simp; done) | skip
    · have hpos : ((t.length + 1 + 1 : Nat) : Int) > 0 := by omega
      have hg1 := octGet_ac (k :: c :: t) 1 (by omega) (by omega)
      rw [get1] at hg1
      have hg2 := octGet_ac (c :: t) 1 (by omega) (by omega)
      rw [get1] at hg2
      have ht := octTake_ac t c.toNat
      by_cases hct : c.toNat ≤ t.length
      · rw [if_pos (by omega), Int.toNat_natCast] at ht
        have hgg := hg a r (k.toNat : Int) (t.take c.toNat)
        rcases hf : f a r (k.toNat : Int) (t.take c.toNat) with ⟨a', r', _ | e⟩
        · rw [eachS, if_pos hct, hf] at hr
          rw [hf] at hgg
          unfold sC nC at hgg
          try simp -implicitDefEqProofs only [avl, reduceCtorEq, ↓reduceIte, sevalprocAttr, at_last, set_last, hpos]
          repeat' (first | (refine (hκ _).mpr ?_; clear hκ) | refine kn1 ?_ | refine kr1 ?_ | refine ke1 ?_ | refine kn2 ?_ | refine kr2 ?_ | refine kx2 ?_ | refine ke2 rfl ?_ | refine kn3 ?_ | refine kr3 ?_ | refine ke3 ?_ | refine kn4 ?_ | refine kr4 ?_ | refine ke4 ?_ | refine w_seq ?_ | refine w_block ?_ | (refine aw_regk fun κ hκ => ?_; simp -implicitDefEqProofs only [avl, reduceCtorEq, ↓reduceIte, sevalprocAttr, at_last, set_last, hpos]) | refine aw_exit ?_ | refine aw_ret ?_ | refine aw_skip ?_ | refine aw_label ?_ | refine condc_t ?_ | refine condc_f ?_ | (refine aw_cond2 (by simp -implicitDefEqProofs only [avl, reduceCtorEq, ↓reduceIte, sevalprocAttr, at_last, set_last, hpos]; rfl) ?_) | ((first | refine gkc_fork ?_ ?_ | refine gkc_split ?_ ?_) <;> intro hq <;> simp -implicitDefEqProofs only [hq, avl, reduceCtorEq, ↓reduceIte, sevalprocAttr, at_last, set_last, hpos]) | ((first | refine condc_fork ?_ ?_ | refine condc_bool ?_ ?_) <;> intro hq))
          first | refine callsc (hg1) ?_ ?_ | refine callc (hg1) ?_ ?_ | ((first | refine callsc (act_le (hg1) ?_) ?_ ?_ | refine callc (act_le (hg1) ?_) ?_ ?_); (focus (repeat' (first | exact trivial | exact le_same _ | exact le_imm (.inl rfl) | exact le_imm (.inr rfl) | (refine le_agg ?_) | apply And.intro))))
          (focus (simp [purs]; done))
          try simp -implicitDefEqProofs only [avl, reduceCtorEq, ↓reduceIte, sevalprocAttr, at_last, set_last, sh, sh1]
          repeat' (first | (refine (hκ _).mpr ?_; clear hκ) | refine kn1 ?_ | refine kr1 ?_ | refine ke1 ?_ | refine kn2 ?_ | refine kr2 ?_ | refine kx2 ?_ | refine ke2 rfl ?_ | refine kn3 ?_ | refine kr3 ?_ | refine ke3 ?_ | refine kn4 ?_ | refine kr4 ?_ | refine ke4 ?_ | refine w_seq ?_ | refine w_block ?_ | (refine aw_regk fun κ hκ => ?_; simp -implicitDefEqProofs only [avl, reduceCtorEq, ↓reduceIte, sevalprocAttr, at_last, set_last, sh, sh1]) | refine aw_exit ?_ | refine aw_ret ?_ | refine aw_skip ?_ | refine aw_label ?_ | refine condc_t ?_ | refine condc_f ?_ | (refine aw_cond2 (by simp -implicitDefEqProofs only [avl, reduceCtorEq, ↓reduceIte, sevalprocAttr, at_last, set_last, sh, sh1]; rfl) ?_) | ((first | refine gkc_fork ?_ ?_ | refine gkc_split ?_ ?_) <;> intro hq <;> simp -implicitDefEqProofs only [hq, avl, reduceCtorEq, ↓reduceIte, sevalprocAttr, at_last, set_last, sh, sh1]) | ((first | refine condc_fork ?_ ?_ | refine condc_bool ?_ ?_) <;> intro hq))
          first | refine callsc (hg2) ?_ ?_ | refine callc (hg2) ?_ ?_ | ((first | refine callsc (act_le (hg2) ?_) ?_ ?_ | refine callc (act_le (hg2) ?_) ?_ ?_); (focus (repeat' (first | exact trivial | exact le_same _ | exact le_imm (.inl rfl) | exact le_imm (.inr rfl) | (refine le_agg ?_) | apply And.intro))))
          (focus (simp [purs]; done))
          try simp -implicitDefEqProofs only [avl, reduceCtorEq, ↓reduceIte, sevalprocAttr, at_last, set_last, sh, sh1]
          repeat' (first | (refine (hκ _).mpr ?_; clear hκ) | refine kn1 ?_ | refine kr1 ?_ | refine ke1 ?_ | refine kn2 ?_ | refine kr2 ?_ | refine kx2 ?_ | refine ke2 rfl ?_ | refine kn3 ?_ | refine kr3 ?_ | refine ke3 ?_ | refine kn4 ?_ | refine kr4 ?_ | refine ke4 ?_ | refine w_seq ?_ | refine w_block ?_ | (refine aw_regk fun κ hκ => ?_; simp -implicitDefEqProofs only [avl, reduceCtorEq, ↓reduceIte, sevalprocAttr, at_last, set_last, sh, sh1]) | refine aw_exit ?_ | refine aw_ret ?_ | refine aw_skip ?_ | refine aw_label ?_ | refine condc_t ?_ | refine condc_f ?_ | (refine aw_cond2 (by simp -implicitDefEqProofs only [avl, reduceCtorEq, ↓reduceIte, sevalprocAttr, at_last, set_last, sh, sh1]; rfl) ?_) | ((first | refine gkc_fork ?_ ?_ | refine gkc_split ?_ ?_) <;> intro hq <;> simp -implicitDefEqProofs only [hq, avl, reduceCtorEq, ↓reduceIte, sevalprocAttr, at_last, set_last, sh, sh1]) | ((first | refine condc_fork ?_ ?_ | refine condc_bool ?_ ?_) <;> intro hq))
          first | refine callsc (ht) ?_ ?_ | refine callc (ht) ?_ ?_ | ((first | refine callsc (act_le (ht) ?_) ?_ ?_ | refine callc (act_le (ht) ?_) ?_ ?_); (focus (repeat' (first | exact trivial | exact le_same _ | exact le_imm (.inl rfl) | exact le_imm (.inr rfl) | (refine le_agg ?_) | apply And.intro))))
          (focus (simp [purs]; done))
          try simp -implicitDefEqProofs only [avl, reduceCtorEq, ↓reduceIte, sevalprocAttr, at_last, set_last, sh, sh1]
          repeat' (first | (refine (hκ _).mpr ?_; clear hκ) | refine kn1 ?_ | refine kr1 ?_ | refine ke1 ?_ | refine kn2 ?_ | refine kr2 ?_ | refine kx2 ?_ | refine ke2 rfl ?_ | refine kn3 ?_ | refine kr3 ?_ | refine ke3 ?_ | refine kn4 ?_ | refine kr4 ?_ | refine ke4 ?_ | refine w_seq ?_ | refine w_block ?_ | (refine aw_regk fun κ hκ => ?_; simp -implicitDefEqProofs only [avl, reduceCtorEq, ↓reduceIte, sevalprocAttr, at_last, set_last, sh, sh1]) | refine aw_exit ?_ | refine aw_ret ?_ | refine aw_skip ?_ | refine aw_label ?_ | refine condc_t ?_ | refine condc_f ?_ | (refine aw_cond2 (by simp -implicitDefEqProofs only [avl, reduceCtorEq, ↓reduceIte, sevalprocAttr, at_last, set_last, sh, sh1]; rfl) ?_) | ((first | refine gkc_fork ?_ ?_ | refine gkc_split ?_ ?_) <;> intro hq <;> simp -implicitDefEqProofs only [hq, avl, reduceCtorEq, ↓reduceIte, sevalprocAttr, at_last, set_last, sh, sh1]) | ((first | refine condc_fork ?_ ?_ | refine condc_bool ?_ ?_) <;> intro hq))
          refine callss hgg ?_
          rintro v B' F' ⟨e1, e2, e3⟩
          subst e1 e2
          rw [e3]
          try simp -implicitDefEqProofs only [avl, reduceCtorEq, ↓reduceIte, sevalprocAttr, at_last, set_last, at_two, at_one, set_two, set_one, nA, nC]
          repeat' (first | (refine (hκ _).mpr ?_; clear hκ) | refine kn1 ?_ | refine kr1 ?_ | refine ke1 ?_ | refine kn2 ?_ | refine kr2 ?_ | refine kx2 ?_ | refine ke2 rfl ?_ | refine kn3 ?_ | refine kr3 ?_ | refine ke3 ?_ | refine kn4 ?_ | refine kr4 ?_ | refine ke4 ?_ | refine w_seq ?_ | refine w_block ?_ | (refine aw_regk fun κ hκ => ?_; simp -implicitDefEqProofs only [avl, reduceCtorEq, ↓reduceIte, sevalprocAttr, at_last, set_last, at_two, at_one, set_two, set_one, nA, nC]) | refine aw_exit ?_ | refine aw_ret ?_ | refine aw_skip ?_ | refine aw_label ?_ | refine condc_t ?_ | refine condc_f ?_ | (refine aw_cond2 (by simp -implicitDefEqProofs only [avl, reduceCtorEq, ↓reduceIte, sevalprocAttr, at_last, set_last, at_two, at_one, set_two, set_one, nA, nC]; rfl) ?_) | ((first | refine gkc_fork ?_ ?_ | refine gkc_split ?_ ?_) <;> intro hq <;> simp -implicitDefEqProofs only [hq, avl, reduceCtorEq, ↓reduceIte, sevalprocAttr, at_last, set_last, at_two, at_one, set_two, set_one, nA, nC]) | ((first | refine condc_fork ?_ ?_ | refine condc_bool ?_ ?_) <;> intro hq))
          refine ⟨(a', r', t.drop c.toNat), hr, ?_, by simp; omega⟩
          refine wk_of F.length [] ?_ ?_ rfl rfl ?_ ?_ ?_
          rotate_left 3
          rotate_left 2
          focus (first | rfl | (simp; done) | (simp; omega))
          focus (first | rfl | (simp; done) | (simp; omega) | exact Nat.zero_le _)
          focus (first | exact ⟨Nat.zero_le _, Nat.zero_le _⟩ | (simp; done) | (simp; omega))
          rotate_left 1
          focus (exact wkB_keep (hk2 a' r'))
          all_goals (repeat' (first | exact trivial | apply And.intro))
          all_goals first
            | exact rfl
            | exact .same _ rfl
            | exact .und _
            | (refine .same _ ?_; (focus (simp [okB, okBL]; done)))
            | (refine .same _ (okB_pur ?_); (focus (simp [purs]; done)))
            | (refine .same _ (ok_app ?_ ?_); (focus (simp; done)); (focus (simp [purs]; done)))
            | (simp -implicitDefEqProofs only [List.append_assoc, avl, reduceCtorEq, ↓reduceIte, sevalprocAttr]; first | exact .same _ rfl | (refine .same _ ?_; (focus (simp [okB, okBL]; done))) | (refine .same _ (okB_pur ?_); (focus (simp [purs]; done))) | (refine .same _ (ok_app ?_ ?_); (focus (simp; done)); (focus (simp [purs]; done))) | (refine .tag _ _ _ _ _ ?_ ?_ (fr_at rfl ?_) (okBL_pur ?_); (focus (first | exact .inl rfl | (simp; done))); (focus (simp; done)); (focus (first | rfl | (simp; done) | (simp; omega))); (focus (simp [purs]; done))) | (refine .imm _ _ _ _ ?_ (okBL_pur ?_); (focus (first | exact .inl rfl | (simp; done))); (focus (simp [purs]; done))) | skip)
            | skip
        · rw [eachS, if_pos hct, hf] at hr
          simp only at hr
          subst hr
          rw [hf] at hgg
          unfold sC nC at hgg
          try simp -implicitDefEqProofs only [avl, reduceCtorEq, ↓reduceIte, sevalprocAttr, at_last, set_last, hpos]
          repeat' (first | (refine (hκ _).mpr ?_; clear hκ) | refine kn1 ?_ | refine kr1 ?_ | refine ke1 ?_ | refine kn2 ?_ | refine kr2 ?_ | refine kx2 ?_ | refine ke2 rfl ?_ | refine kn3 ?_ | refine kr3 ?_ | refine ke3 ?_ | refine kn4 ?_ | refine kr4 ?_ | refine ke4 ?_ | refine w_seq ?_ | refine w_block ?_ | (refine aw_regk fun κ hκ => ?_; simp -implicitDefEqProofs only [avl, reduceCtorEq, ↓reduceIte, sevalprocAttr, at_last, set_last, hpos]) | refine aw_exit ?_ | refine aw_ret ?_ | refine aw_skip ?_ | refine aw_label ?_ | refine condc_t ?_ | refine condc_f ?_ | (refine aw_cond2 (by simp -implicitDefEqProofs only [avl, reduceCtorEq, ↓reduceIte, sevalprocAttr, at_last, set_last, hpos]; rfl) ?_) | ((first | refine gkc_fork ?_ ?_ | refine gkc_split ?_ ?_) <;> intro hq <;> simp -implicitDefEqProofs only [hq, avl, reduceCtorEq, ↓reduceIte, sevalprocAttr, at_last, set_last, hpos]) | ((first | refine condc_fork ?_ ?_ | refine condc_bool ?_ ?_) <;> intro hq))
          first | refine callsc (hg1) ?_ ?_ | refine callc (hg1) ?_ ?_ | ((first | refine callsc (act_le (hg1) ?_) ?_ ?_ | refine callc (act_le (hg1) ?_) ?_ ?_); (focus (repeat' (first | exact trivial | exact le_same _ | exact le_imm (.inl rfl) | exact le_imm (.inr rfl) | (refine le_agg ?_) | apply And.intro))))
          (focus (simp [purs]; done))
          try simp -implicitDefEqProofs only [avl, reduceCtorEq, ↓reduceIte, sevalprocAttr, at_last, set_last, sh, sh1]
          repeat' (first | (refine (hκ _).mpr ?_; clear hκ) | refine kn1 ?_ | refine kr1 ?_ | refine ke1 ?_ | refine kn2 ?_ | refine kr2 ?_ | refine kx2 ?_ | refine ke2 rfl ?_ | refine kn3 ?_ | refine kr3 ?_ | refine ke3 ?_ | refine kn4 ?_ | refine kr4 ?_ | refine ke4 ?_ | refine w_seq ?_ | refine w_block ?_ | (refine aw_regk fun κ hκ => ?_; simp -implicitDefEqProofs only [avl, reduceCtorEq, ↓reduceIte, sevalprocAttr, at_last, set_last, sh, sh1]) | refine aw_exit ?_ | refine aw_ret ?_ | refine aw_skip ?_ | refine aw_label ?_ | refine condc_t ?_ | refine condc_f ?_ | (refine aw_cond2 (by simp -implicitDefEqProofs only [avl, reduceCtorEq, ↓reduceIte, sevalprocAttr, at_last, set_last, sh, sh1]; rfl) ?_) | ((first | refine gkc_fork ?_ ?_ | refine gkc_split ?_ ?_) <;> intro hq <;> simp -implicitDefEqProofs only [hq, avl, reduceCtorEq, ↓reduceIte, sevalprocAttr, at_last, set_last, sh, sh1]) | ((first | refine condc_fork ?_ ?_ | refine condc_bool ?_ ?_) <;> intro hq))
          first | refine callsc (hg2) ?_ ?_ | refine callc (hg2) ?_ ?_ | ((first | refine callsc (act_le (hg2) ?_) ?_ ?_ | refine callc (act_le (hg2) ?_) ?_ ?_); (focus (repeat' (first | exact trivial | exact le_same _ | exact le_imm (.inl rfl) | exact le_imm (.inr rfl) | (refine le_agg ?_) | apply And.intro))))
          (focus (simp [purs]; done))
          try simp -implicitDefEqProofs only [avl, reduceCtorEq, ↓reduceIte, sevalprocAttr, at_last, set_last, sh, sh1]
          repeat' (first | (refine (hκ _).mpr ?_; clear hκ) | refine kn1 ?_ | refine kr1 ?_ | refine ke1 ?_ | refine kn2 ?_ | refine kr2 ?_ | refine kx2 ?_ | refine ke2 rfl ?_ | refine kn3 ?_ | refine kr3 ?_ | refine ke3 ?_ | refine kn4 ?_ | refine kr4 ?_ | refine ke4 ?_ | refine w_seq ?_ | refine w_block ?_ | (refine aw_regk fun κ hκ => ?_; simp -implicitDefEqProofs only [avl, reduceCtorEq, ↓reduceIte, sevalprocAttr, at_last, set_last, sh, sh1]) | refine aw_exit ?_ | refine aw_ret ?_ | refine aw_skip ?_ | refine aw_label ?_ | refine condc_t ?_ | refine condc_f ?_ | (refine aw_cond2 (by simp -implicitDefEqProofs only [avl, reduceCtorEq, ↓reduceIte, sevalprocAttr, at_last, set_last, sh, sh1]; rfl) ?_) | ((first | refine gkc_fork ?_ ?_ | refine gkc_split ?_ ?_) <;> intro hq <;> simp -implicitDefEqProofs only [hq, avl, reduceCtorEq, ↓reduceIte, sevalprocAttr, at_last, set_last, sh, sh1]) | ((first | refine condc_fork ?_ ?_ | refine condc_bool ?_ ?_) <;> intro hq))
          first | refine callsc (ht) ?_ ?_ | refine callc (ht) ?_ ?_ | ((first | refine callsc (act_le (ht) ?_) ?_ ?_ | refine callc (act_le (ht) ?_) ?_ ?_); (focus (repeat' (first | exact trivial | exact le_same _ | exact le_imm (.inl rfl) | exact le_imm (.inr rfl) | (refine le_agg ?_) | apply And.intro))))
          (focus (simp [purs]; done))
          try simp -implicitDefEqProofs only [avl, reduceCtorEq, ↓reduceIte, sevalprocAttr, at_last, set_last, sh, sh1]
          repeat' (first | (refine (hκ _).mpr ?_; clear hκ) | refine kn1 ?_ | refine kr1 ?_ | refine ke1 ?_ | refine kn2 ?_ | refine kr2 ?_ | refine kx2 ?_ | refine ke2 rfl ?_ | refine kn3 ?_ | refine kr3 ?_ | refine ke3 ?_ | refine kn4 ?_ | refine kr4 ?_ | refine ke4 ?_ | refine w_seq ?_ | refine w_block ?_ | (refine aw_regk fun κ hκ => ?_; simp -implicitDefEqProofs only [avl, reduceCtorEq, ↓reduceIte, sevalprocAttr, at_last, set_last, sh, sh1]) | refine aw_exit ?_ | refine aw_ret ?_ | refine aw_skip ?_ | refine aw_label ?_ | refine condc_t ?_ | refine condc_f ?_ | (refine aw_cond2 (by simp -implicitDefEqProofs only [avl, reduceCtorEq, ↓reduceIte, sevalprocAttr, at_last, set_last, sh, sh1]; rfl) ?_) | ((first | refine gkc_fork ?_ ?_ | refine gkc_split ?_ ?_) <;> intro hq <;> simp -implicitDefEqProofs only [hq, avl, reduceCtorEq, ↓reduceIte, sevalprocAttr, at_last, set_last, sh, sh1]) | ((first | refine condc_fork ?_ ?_ | refine condc_bool ?_ ?_) <;> intro hq))
          refine callss hgg ?_
          rintro v B' F' ⟨e1, e2, e3⟩
          subst e1 e2
          rw [e3]
          try simp -implicitDefEqProofs only [avl, reduceCtorEq, ↓reduceIte, sevalprocAttr, at_last, set_last, at_two, at_one, set_two, set_one, nA, nC]
          repeat' (first | (refine (hκ _).mpr ?_; clear hκ) | refine kn1 ?_ | refine kr1 ?_ | refine ke1 ?_ | refine kn2 ?_ | refine kr2 ?_ | refine kx2 ?_ | refine ke2 rfl ?_ | refine kn3 ?_ | refine kr3 ?_ | refine ke3 ?_ | refine kn4 ?_ | refine kr4 ?_ | refine ke4 ?_ | refine w_seq ?_ | refine w_block ?_ | (refine aw_regk fun κ hκ => ?_; simp -implicitDefEqProofs only [avl, reduceCtorEq, ↓reduceIte, sevalprocAttr, at_last, set_last, at_two, at_one, set_two, set_one, nA, nC]) | refine aw_exit ?_ | refine aw_ret ?_ | refine aw_skip ?_ | refine aw_label ?_ | refine condc_t ?_ | refine condc_f ?_ | (refine aw_cond2 (by simp -implicitDefEqProofs only [avl, reduceCtorEq, ↓reduceIte, sevalprocAttr, at_last, set_last, at_two, at_one, set_two, set_one, nA, nC]; rfl) ?_) | ((first | refine gkc_fork ?_ ?_ | refine gkc_split ?_ ?_) <;> intro hq <;> simp -implicitDefEqProofs only [hq, avl, reduceCtorEq, ↓reduceIte, sevalprocAttr, at_last, set_last, at_two, at_one, set_two, set_one, nA, nC]) | ((first | refine condc_fork ?_ ?_ | refine condc_bool ?_ ?_) <;> intro hq))
          try simp -implicitDefEqProofs only [avl, reduceCtorEq, ↓reduceIte, sevalprocAttr, nA, nC]
          refine ⟨trivial, [nA (some e)], [nA (some e)], F.length, [], b0 :: b1 :: (T0, sC a' r') :: T, ?_, ?_, ?_, ?_, ?_, ?_, ?_⟩
          focus (first | rfl | (simp [resL, resOf, St.get, getT, ldAt, at_last, at_two, at_one, nA, nC]; done) | skip)
          rotate_left 3
          rotate_left 2
          rotate_left 1
          focus (first | exact Nat.le_refl _ | exact Nat.zero_le _ | (simp; done) | (simp; omega))
          focus (first | exact Nat.le_refl _ | exact Nat.zero_le _ | (simp; done) | (simp; omega))
          focus (first | exact Nat.le_refl _ | exact Nat.zero_le _ | (simp; done) | (simp; omega))
          all_goals first | exact ⟨.same _ rfl, trivial⟩ | exact ⟨rfl, rfl, by simp⟩ | exact wkB_keep (B := _ :: _ :: (_, _) :: _) (hk _ _) | exact wkB_keep2 (B := _ :: _ :: (_, _) :: _) (hk _ _) | (simp; done) | skip
      · rw [eachS, if_neg hct] at hr
        subst hr
        rw [if_neg (by omega)] at ht
        try simp -implicitDefEqProofs only [avl, reduceCtorEq, ↓reduceIte, sevalprocAttr, at_last, set_last, hpos]
        repeat' (first | (refine (hκ _).mpr ?_; clear hκ) | refine kn1 ?_ | refine kr1 ?_ | refine ke1 ?_ | refine kn2 ?_ | refine kr2 ?_ | refine kx2 ?_ | refine ke2 rfl ?_ | refine kn3 ?_ | refine kr3 ?_ | refine ke3 ?_ | refine kn4 ?_ | refine kr4 ?_ | refine ke4 ?_ | refine w_seq ?_ | refine w_block ?_ | (refine aw_regk fun κ hκ => ?_; simp -implicitDefEqProofs only [avl, reduceCtorEq, ↓reduceIte, sevalprocAttr, at_last, set_last, hpos]) | refine aw_exit ?_ | refine aw_ret ?_ | refine aw_skip ?_ | refine aw_label ?_ | refine condc_t ?_ | refine condc_f ?_ | (refine aw_cond2 (by simp -implicitDefEqProofs only [avl, reduceCtorEq, ↓reduceIte, sevalprocAttr, at_last, set_last, hpos]; rfl) ?_) | ((first | refine gkc_fork ?_ ?_ | refine gkc_split ?_ ?_) <;> intro hq <;> simp -implicitDefEqProofs only [hq, avl, reduceCtorEq, ↓reduceIte, sevalprocAttr, at_last, set_last, hpos]) | ((first | refine condc_fork ?_ ?_ | refine condc_bool ?_ ?_) <;> intro hq))
        first | refine callsc (hg1) ?_ ?_ | refine callc (hg1) ?_ ?_ | ((first | refine callsc (act_le (hg1) ?_) ?_ ?_ | refine callc (act_le (hg1) ?_) ?_ ?_); (focus (repeat' (first | exact trivial | exact le_same _ | exact le_imm (.inl rfl) | exact le_imm (.inr rfl) | (refine le_agg ?_) | apply And.intro))))
        (focus (simp [purs]; done))
        try simp -implicitDefEqProofs only [avl, reduceCtorEq, ↓reduceIte, sevalprocAttr, at_last, set_last, sh, sh1]
        repeat' (first | (refine (hκ _).mpr ?_; clear hκ) | refine kn1 ?_ | refine kr1 ?_ | refine ke1 ?_ | refine kn2 ?_ | refine kr2 ?_ | refine kx2 ?_ | refine ke2 rfl ?_ | refine kn3 ?_ | refine kr3 ?_ | refine ke3 ?_ | refine kn4 ?_ | refine kr4 ?_ | refine ke4 ?_ | refine w_seq ?_ | refine w_block ?_ | (refine aw_regk fun κ hκ => ?_; simp -implicitDefEqProofs only [avl, reduceCtorEq, ↓reduceIte, sevalprocAttr, at_last, set_last, sh, sh1]) | refine aw_exit ?_ | refine aw_ret ?_ | refine aw_skip ?_ | refine aw_label ?_ | refine condc_t ?_ | refine condc_f ?_ | (refine aw_cond2 (by simp -implicitDefEqProofs only [avl, reduceCtorEq, ↓reduceIte, sevalprocAttr, at_last, set_last, sh, sh1]; rfl) ?_) | ((first | refine gkc_fork ?_ ?_ | refine gkc_split ?_ ?_) <;> intro hq <;> simp -implicitDefEqProofs only [hq, avl, reduceCtorEq, ↓reduceIte, sevalprocAttr, at_last, set_last, sh, sh1]) | ((first | refine condc_fork ?_ ?_ | refine condc_bool ?_ ?_) <;> intro hq))
        first | refine callsc (hg2) ?_ ?_ | refine callc (hg2) ?_ ?_ | ((first | refine callsc (act_le (hg2) ?_) ?_ ?_ | refine callc (act_le (hg2) ?_) ?_ ?_); (focus (repeat' (first | exact trivial | exact le_same _ | exact le_imm (.inl rfl) | exact le_imm (.inr rfl) | (refine le_agg ?_) | apply And.intro))))
        (focus (simp [purs]; done))
        try simp -implicitDefEqProofs only [avl, reduceCtorEq, ↓reduceIte, sevalprocAttr, at_last, set_last, sh, sh1]
        repeat' (first | (refine (hκ _).mpr ?_; clear hκ) | refine kn1 ?_ | refine kr1 ?_ | refine ke1 ?_ | refine kn2 ?_ | refine kr2 ?_ | refine kx2 ?_ | refine ke2 rfl ?_ | refine kn3 ?_ | refine kr3 ?_ | refine ke3 ?_ | refine kn4 ?_ | refine kr4 ?_ | refine ke4 ?_ | refine w_seq ?_ | refine w_block ?_ | (refine aw_regk fun κ hκ => ?_; simp -implicitDefEqProofs only [avl, reduceCtorEq, ↓reduceIte, sevalprocAttr, at_last, set_last, sh, sh1]) | refine aw_exit ?_ | refine aw_ret ?_ | refine aw_skip ?_ | refine aw_label ?_ | refine condc_t ?_ | refine condc_f ?_ | (refine aw_cond2 (by simp -implicitDefEqProofs only [avl, reduceCtorEq, ↓reduceIte, sevalprocAttr, at_last, set_last, sh, sh1]; rfl) ?_) | ((first | refine gkc_fork ?_ ?_ | refine gkc_split ?_ ?_) <;> intro hq <;> simp -implicitDefEqProofs only [hq, avl, reduceCtorEq, ↓reduceIte, sevalprocAttr, at_last, set_last, sh, sh1]) | ((first | refine condc_fork ?_ ?_ | refine condc_bool ?_ ?_) <;> intro hq))
        first | refine callsc (ht) ?_ ?_ | refine callc (ht) ?_ ?_ | ((first | refine callsc (act_le (ht) ?_) ?_ ?_ | refine callc (act_le (ht) ?_) ?_ ?_); (focus (repeat' (first | exact trivial | exact le_same _ | exact le_imm (.inl rfl) | exact le_imm (.inr rfl) | (refine le_agg ?_) | apply And.intro))))
        (focus (simp [purs]; done))
        try simp -implicitDefEqProofs only [avl, reduceCtorEq, ↓reduceIte, sevalprocAttr, at_last, set_last, sh, sh1]
        repeat' (first | (refine (hκ _).mpr ?_; clear hκ) | refine kn1 ?_ | refine kr1 ?_ | refine ke1 ?_ | refine kn2 ?_ | refine kr2 ?_ | refine kx2 ?_ | refine ke2 rfl ?_ | refine kn3 ?_ | refine kr3 ?_ | refine ke3 ?_ | refine kn4 ?_ | refine kr4 ?_ | refine ke4 ?_ | refine w_seq ?_ | refine w_block ?_ | (refine aw_regk fun κ hκ => ?_; simp -implicitDefEqProofs only [avl, reduceCtorEq, ↓reduceIte, sevalprocAttr, at_last, set_last, sh, sh1]) | refine aw_exit ?_ | refine aw_ret ?_ | refine aw_skip ?_ | refine aw_label ?_ | refine condc_t ?_ | refine condc_f ?_ | (refine aw_cond2 (by simp -implicitDefEqProofs only [avl, reduceCtorEq, ↓reduceIte, sevalprocAttr, at_last, set_last, sh, sh1]; rfl) ?_) | ((first | refine gkc_fork ?_ ?_ | refine gkc_split ?_ ?_) <;> intro hq <;> simp -implicitDefEqProofs only [hq, avl, reduceCtorEq, ↓reduceIte, sevalprocAttr, at_last, set_last, sh, sh1]) | ((first | refine condc_fork ?_ ?_ | refine condc_bool ?_ ?_) <;> intro hq))
        try simp -implicitDefEqProofs only [avl, reduceCtorEq, ↓reduceIte, sevalprocAttr, nA, nC]
        refine ⟨trivial, [nA (some 0)], [nA (some 0)], F.length, [], b0 :: b1 :: (T0, sC a r) :: T, ?_, ?_, ?_, ?_, ?_, ?_, ?_⟩
        focus (first | rfl | (simp [resL, resOf, St.get, getT, ldAt, at_last, at_two, at_one, nA, nC]; done) | skip)
        rotate_left 3
        rotate_left 2
        rotate_left 1
        focus (first | exact Nat.le_refl _ | exact Nat.zero_le _ | (simp; done) | (simp; omega))
        focus (first | exact Nat.le_refl _ | exact Nat.zero_le _ | (simp; done) | (simp; omega))
        focus (first | exact Nat.le_refl _ | exact Nat.zero_le _ | (simp; done) | (simp; omega))
        all_goals first | exact ⟨.same _ rfl, trivial⟩ | exact ⟨rfl, rfl, by simp⟩ | exact wkB_keep (B := _ :: _ :: (_, _) :: _) (hk _ _) | exact wkB_keep2 (B := _ :: _ :: (_, _) :: _) (hk _ _) | (simp; done) | skip
theorem each_clo_acs (g : FuncId) (f : Int → Int → Int → List UInt8 → Int × Int × Option Int) (b0 b1 : TypeId × List AV) (T0 : TypeId) (T : List (TypeId × List AV)) (F : List (TypeId × Nat)) (a0 r0 : Int) (l0 : List UInt8) (hB : okBx F.length (T.length + 3) (b0 :: b1 :: T) = true)
    (hg : ∀ a r k b, ACs Try.prog g [.int .i64 k, .slice .imm 1 (b.map bA), .ptr 2 0] (b0 :: b1 :: (T0, sC a r) :: (T ++ [(29, nC 0 0)])) F
      fun v B' F' => v = nA (f a r k b).2.2 ∧ B' = b0 :: b1 :: (T0, sC (f a r k b).1 (f a r k b).2.1) :: (T ++ [(29, nC 0 0)]) ∧ F' = F) :
    ACs Try.prog 65 [.slice .imm 1 (l0.map bA), .clo g [.ptr 2 0]] (b0 :: b1 :: (T0, sC a0 r0) :: T) F
      fun v B' F' => v = nA (eachS f a0 r0 l0).2.2 ∧ B' = b0 :: b1 :: (T0, sC (eachS f a0 r0 l0).1 (eachS f a0 r0 l0).2.1) :: T ∧ F' = F := by
  have hk : ∀ a r, okBx F.length (T.length + 3) (b0 :: b1 :: (T0, sC a r) :: T) = true := fun a r => by
    unfold okBx at hB ⊢
    simp only [List.all_cons, Bool.and_eq_true] at hB ⊢
    exact ⟨hB.1, hB.2.1, rfl, hB.2.2⟩
  have hk2 : ∀ a r, okBx F.length (b0 :: b1 :: (T0, sC a r) :: (T ++ [(29, nC 0 0)])).length (b0 :: b1 :: (T0, sC a r) :: (T ++ [(29, nC 0 0)])) = true := fun a r => by
    have h := okBx_mono (Nat.le_refl F.length) (Nat.le_succ _) (hk a r)
    rw [show (b0 :: b1 :: (T0, sC a r) :: (T ++ [(29, nC 0 0)])).length = T.length + 3 + 1 by simp, show (b0 :: b1 :: (T0, sC a r) :: (T ++ [(29, nC 0 0)])) = (b0 :: b1 :: (T0, sC a r) :: T) ++ [(29, nC 0 0)] from rfl, okBx_append, h]
    rfl
  generalize hres : eachS f a0 r0 l0 = res
  unfold sC
  refine acs_w p_open_each (by simp [c_open_each]) ?_
  show AW _ b_open_each (RetW [.cell 4 (some 3)] _) { n := 52, tm := [(0, _), (1, _)], box := b0 :: b1 :: (T0, [.int .i64 a0, .int .i64 r0]) :: T, fr := F, p := _ }
  unfold b_open_each
  try simp -implicitDefEqProofs only [avl, reduceCtorEq, ↓reduceIte, sevalprocAttr, at_last, set_last]
  repeat' (first | (refine (hκ _).mpr ?_; clear hκ) | refine kn1 ?_ | refine kr1 ?_ | refine ke1 ?_ | refine kn2 ?_ | refine kr2 ?_ | refine kx2 ?_ | refine ke2 rfl ?_ | refine kn3 ?_ | refine kr3 ?_ | refine ke3 ?_ | refine kn4 ?_ | refine kr4 ?_ | refine ke4 ?_ | refine w_seq ?_ | refine w_block ?_ | (refine aw_regk fun κ hκ => ?_; simp -implicitDefEqProofs only [avl, reduceCtorEq, ↓reduceIte, sevalprocAttr, at_last, set_last]) | refine aw_exit ?_ | refine aw_ret ?_ | refine aw_skip ?_ | refine aw_label ?_ | refine condc_t ?_ | refine condc_f ?_ | (refine aw_cond2 (by simp -implicitDefEqProofs only [avl, reduceCtorEq, ↓reduceIte, sevalprocAttr, at_last, set_last]; rfl) ?_) | ((first | refine gkc_fork ?_ ?_ | refine gkc_split ?_ ?_) <;> intro hq <;> simp -implicitDefEqProofs only [hq, avl, reduceCtorEq, ↓reduceIte, sevalprocAttr, at_last, set_last]) | ((first | refine condc_fork ?_ ?_ | refine condc_bool ?_ ?_) <;> intro hq))
  refine w_loop (fun (i : Int × Int × List UInt8) => eachS f i.1 i.2.1 i.2.2 = res) (fun (i : Int × Int × List UInt8) => { n := 52, tm := [(0, .slice .imm 1 (i.2.2.map bA)), (1, .clo g [.ptr 2 0]), (4, .ptr (T.length + 1 + 1 + 1) 0)], box := b0 :: b1 :: (T0, sC i.1 i.2.1) :: (T ++ [(29, nC 0 0)]), fr := F, p := (T.length + 1 + 1 + 1, F.length) }) (fun i => i.2.2.length) (a0, r0, l0) hres ?_ ?_
  · refine wk_of F.length [] ?_ ?_ rfl rfl ?_ ?_ ?_
    rotate_left 3
    rotate_left 2
    focus (first | rfl | (simp; done) | (simp; omega))
    focus (first | rfl | (simp; done) | (simp; omega) | exact Nat.zero_le _)
    focus (first | exact ⟨Nat.zero_le _, Nat.zero_le _⟩ | (simp; done) | (simp; omega))
    rotate_left 1
    focus (exact wkB_refl (hk2 a0 r0))
    all_goals (repeat' (first | exact trivial | apply And.intro))
    all_goals first
      | exact rfl
      | exact .same _ rfl
      | exact .und _
      | (refine .same _ ?_; (focus (simp [okB, okBL]; done)))
      | (refine .same _ (okB_pur ?_); (focus (simp [purs]; done)))
      | (refine .same _ (ok_app ?_ ?_); (focus (simp; done)); (focus (simp [purs]; done)))
      | (simp -implicitDefEqProofs only [List.append_assoc, avl, reduceCtorEq, ↓reduceIte, sevalprocAttr]; first | exact .same _ rfl | (refine .same _ ?_; (focus (simp [okB, okBL]; done))) | (refine .same _ (okB_pur ?_); (focus (simp [purs]; done))) | (refine .same _ (ok_app ?_ ?_); (focus (simp; done)); (focus (simp [purs]; done))) | (refine .tag _ _ _ _ _ ?_ ?_ (fr_at rfl ?_) (okBL_pur ?_); (focus (first | exact .inl rfl | (simp; done))); (focus (simp; done)); (focus (first | rfl | (simp; done) | (simp; omega))); (focus (simp [purs]; done))) | (refine .imm _ _ _ _ ?_ (okBL_pur ?_); (focus (first | exact .inl rfl | (simp; done))); (focus (simp [purs]; done))) | skip)
      | skip
  · rintro ⟨a, r, l⟩ hr
    simp only at hr
    unfold sC nC
    rcases l with _ | ⟨k, _ | ⟨c, t⟩⟩
    · rw [eachS] at hr
      subst hr
      try simp -implicitDefEqProofs only [avl, reduceCtorEq, ↓reduceIte, sevalprocAttr, at_last, set_last, List.map_nil, (show ((0 : Nat) : Int) = 0 from rfl)]
      repeat' (first | (refine (hκ _).mpr ?_; clear hκ) | refine kn1 ?_ | refine kr1 ?_ | refine ke1 ?_ | refine kn2 ?_ | refine kr2 ?_ | refine kx2 ?_ | refine ke2 rfl ?_ | refine kn3 ?_ | refine kr3 ?_ | refine ke3 ?_ | refine kn4 ?_ | refine kr4 ?_ | refine ke4 ?_ | refine w_seq ?_ | refine w_block ?_ | (refine aw_regk fun κ hκ => ?_; simp -implicitDefEqProofs only [avl, reduceCtorEq, ↓reduceIte, sevalprocAttr, at_last, set_last, List.map_nil, (show ((0 : Nat) : Int) = 0 from rfl)]) | refine aw_exit ?_ | refine aw_ret ?_ | refine aw_skip ?_ | refine aw_label ?_ | refine condc_t ?_ | refine condc_f ?_ | (refine aw_cond2 (by simp -implicitDefEqProofs only [avl, reduceCtorEq, ↓reduceIte, sevalprocAttr, at_last, set_last, List.map_nil, (show ((0 : Nat) : Int) = 0 from rfl)]; rfl) ?_) | ((first | refine gkc_fork ?_ ?_ | refine gkc_split ?_ ?_) <;> intro hq <;> simp -implicitDefEqProofs only [hq, avl, reduceCtorEq, ↓reduceIte, sevalprocAttr, at_last, set_last, List.map_nil, (show ((0 : Nat) : Int) = 0 from rfl)]) | ((first | refine condc_fork ?_ ?_ | refine condc_bool ?_ ?_) <;> intro hq))
      try simp -implicitDefEqProofs only [avl, reduceCtorEq, ↓reduceIte, sevalprocAttr, nA, nC]
      refine ⟨trivial, [nA none], [nA none], F.length, [], b0 :: b1 :: (T0, sC a r) :: T, ?_, ?_, ?_, ?_, ?_, ?_, ?_⟩
      focus (first | rfl | (simp [resL, resOf, St.get, getT, ldAt, at_last, at_two, at_one, nA, nC]; done) | skip)
      rotate_left 3
      rotate_left 2
      rotate_left 1
      focus (first | exact Nat.le_refl _ | exact Nat.zero_le _ | (simp; done) | (simp; omega))
      focus (first | exact Nat.le_refl _ | exact Nat.zero_le _ | (simp; done) | (simp; omega))
      focus (first | exact Nat.le_refl _ | exact Nat.zero_le _ | (simp; done) | (simp; omega))
      all_goals first | exact ⟨.same _ rfl, trivial⟩ | exact ⟨rfl, rfl, by simp⟩ | exact wkB_keep (B := _ :: _ :: (_, _) :: _) (hk _ _) | exact wkB_keep2 (B := _ :: _ :: (_, _) :: _) (hk _ _) | (simp; done) | skip
    · rw [eachS] at hr
      subst hr
      have hg1 := octGet_ac [k] 1 (by omega) (by omega)
      rw [get1] at hg1
      have hg0 := octGet_ac [] 1 (by omega) (by omega)
      rw [get0] at hg0
      have ht := octTake_ac [] 0
      rw [if_pos (by simp)] at ht
      try simp -implicitDefEqProofs only [avl, reduceCtorEq, ↓reduceIte, sevalprocAttr, at_last, set_last, (show ((1 : Nat) : Int) > 0 by decide)]
      repeat' (first | (refine (hκ _).mpr ?_; clear hκ) | refine kn1 ?_ | refine kr1 ?_ | refine ke1 ?_ | refine kn2 ?_ | refine kr2 ?_ | refine kx2 ?_ | refine ke2 rfl ?_ | refine kn3 ?_ | refine kr3 ?_ | refine ke3 ?_ | refine kn4 ?_ | refine kr4 ?_ | refine ke4 ?_ | refine w_seq ?_ | refine w_block ?_ | (refine aw_regk fun κ hκ => ?_; simp -implicitDefEqProofs only [avl, reduceCtorEq, ↓reduceIte, sevalprocAttr, at_last, set_last, (show ((1 : Nat) : Int) > 0 by decide)]) | refine aw_exit ?_ | refine aw_ret ?_ | refine aw_skip ?_ | refine aw_label ?_ | refine condc_t ?_ | refine condc_f ?_ | (refine aw_cond2 (by simp -implicitDefEqProofs only [avl, reduceCtorEq, ↓reduceIte, sevalprocAttr, at_last, set_last, (show ((1 : Nat) : Int) > 0 by decide)]; rfl) ?_) | ((first | refine gkc_fork ?_ ?_ | refine gkc_split ?_ ?_) <;> intro hq <;> simp -implicitDefEqProofs only [hq, avl, reduceCtorEq, ↓reduceIte, sevalprocAttr, at_last, set_last, (show ((1 : Nat) : Int) > 0 by decide)]) | ((first | refine condc_fork ?_ ?_ | refine condc_bool ?_ ?_) <;> intro hq))
      first | refine callsc (hg1) ?_ ?_ | refine callc (hg1) ?_ ?_ | ((first | refine callsc (act_le (hg1) ?_) ?_ ?_ | refine callc (act_le (hg1) ?_) ?_ ?_); (focus (repeat' (first | exact trivial | exact le_same _ | exact le_imm (.inl rfl) | exact le_imm (.inr rfl) | (refine le_agg ?_) | apply And.intro))))
      (focus (simp [purs]; done))
      try simp -implicitDefEqProofs only [avl, reduceCtorEq, ↓reduceIte, sevalprocAttr, at_last, set_last, sh, sh1, List.map_nil]
      repeat' (first | (refine (hκ _).mpr ?_; clear hκ) | refine kn1 ?_ | refine kr1 ?_ | refine ke1 ?_ | refine kn2 ?_ | refine kr2 ?_ | refine kx2 ?_ | refine ke2 rfl ?_ | refine kn3 ?_ | refine kr3 ?_ | refine ke3 ?_ | refine kn4 ?_ | refine kr4 ?_ | refine ke4 ?_ | refine w_seq ?_ | refine w_block ?_ | (refine aw_regk fun κ hκ => ?_; simp -implicitDefEqProofs only [avl, reduceCtorEq, ↓reduceIte, sevalprocAttr, at_last, set_last, sh, sh1, List.map_nil]) | refine aw_exit ?_ | refine aw_ret ?_ | refine aw_skip ?_ | refine aw_label ?_ | refine condc_t ?_ | refine condc_f ?_ | (refine aw_cond2 (by simp -implicitDefEqProofs only [avl, reduceCtorEq, ↓reduceIte, sevalprocAttr, at_last, set_last, sh, sh1, List.map_nil]; rfl) ?_) | ((first | refine gkc_fork ?_ ?_ | refine gkc_split ?_ ?_) <;> intro hq <;> simp -implicitDefEqProofs only [hq, avl, reduceCtorEq, ↓reduceIte, sevalprocAttr, at_last, set_last, sh, sh1, List.map_nil]) | ((first | refine condc_fork ?_ ?_ | refine condc_bool ?_ ?_) <;> intro hq))
      first | refine callsc (hg0) ?_ ?_ | refine callc (hg0) ?_ ?_ | ((first | refine callsc (act_le (hg0) ?_) ?_ ?_ | refine callc (act_le (hg0) ?_) ?_ ?_); (focus (repeat' (first | exact trivial | exact le_same _ | exact le_imm (.inl rfl) | exact le_imm (.inr rfl) | (refine le_agg ?_) | apply And.intro))))
      (focus (simp [purs]; done))
      try simp -implicitDefEqProofs only [avl, reduceCtorEq, ↓reduceIte, sevalprocAttr, at_last, set_last, sh, sh1]
      repeat' (first | (refine (hκ _).mpr ?_; clear hκ) | refine kn1 ?_ | refine kr1 ?_ | refine ke1 ?_ | refine kn2 ?_ | refine kr2 ?_ | refine kx2 ?_ | refine ke2 rfl ?_ | refine kn3 ?_ | refine kr3 ?_ | refine ke3 ?_ | refine kn4 ?_ | refine kr4 ?_ | refine ke4 ?_ | refine w_seq ?_ | refine w_block ?_ | (refine aw_regk fun κ hκ => ?_; simp -implicitDefEqProofs only [avl, reduceCtorEq, ↓reduceIte, sevalprocAttr, at_last, set_last, sh, sh1]) | refine aw_exit ?_ | refine aw_ret ?_ | refine aw_skip ?_ | refine aw_label ?_ | refine condc_t ?_ | refine condc_f ?_ | (refine aw_cond2 (by simp -implicitDefEqProofs only [avl, reduceCtorEq, ↓reduceIte, sevalprocAttr, at_last, set_last, sh, sh1]; rfl) ?_) | ((first | refine gkc_fork ?_ ?_ | refine gkc_split ?_ ?_) <;> intro hq <;> simp -implicitDefEqProofs only [hq, avl, reduceCtorEq, ↓reduceIte, sevalprocAttr, at_last, set_last, sh, sh1]) | ((first | refine condc_fork ?_ ?_ | refine condc_bool ?_ ?_) <;> intro hq))
      first | refine callsc (ht) ?_ ?_ | refine callc (ht) ?_ ?_ | ((first | refine callsc (act_le (ht) ?_) ?_ ?_ | refine callc (act_le (ht) ?_) ?_ ?_); (focus (repeat' (first | exact trivial | exact le_same _ | exact le_imm (.inl rfl) | exact le_imm (.inr rfl) | (refine le_agg ?_) | apply And.intro))))
      (focus (simp [purs]; done))
      try simp -implicitDefEqProofs only [avl, reduceCtorEq, ↓reduceIte, sevalprocAttr, at_last, set_last, sh, sh1]
      repeat' (first | (refine (hκ _).mpr ?_; clear hκ) | refine kn1 ?_ | refine kr1 ?_ | refine ke1 ?_ | refine kn2 ?_ | refine kr2 ?_ | refine kx2 ?_ | refine ke2 rfl ?_ | refine kn3 ?_ | refine kr3 ?_ | refine ke3 ?_ | refine kn4 ?_ | refine kr4 ?_ | refine ke4 ?_ | refine w_seq ?_ | refine w_block ?_ | (refine aw_regk fun κ hκ => ?_; simp -implicitDefEqProofs only [avl, reduceCtorEq, ↓reduceIte, sevalprocAttr, at_last, set_last, sh, sh1]) | refine aw_exit ?_ | refine aw_ret ?_ | refine aw_skip ?_ | refine aw_label ?_ | refine condc_t ?_ | refine condc_f ?_ | (refine aw_cond2 (by simp -implicitDefEqProofs only [avl, reduceCtorEq, ↓reduceIte, sevalprocAttr, at_last, set_last, sh, sh1]; rfl) ?_) | ((first | refine gkc_fork ?_ ?_ | refine gkc_split ?_ ?_) <;> intro hq <;> simp -implicitDefEqProofs only [hq, avl, reduceCtorEq, ↓reduceIte, sevalprocAttr, at_last, set_last, sh, sh1]) | ((first | refine condc_fork ?_ ?_ | refine condc_bool ?_ ?_) <;> intro hq))
      try simp -implicitDefEqProofs only [avl, reduceCtorEq, ↓reduceIte, sevalprocAttr, nA, nC]
      refine ⟨trivial, [nA (some 0)], [nA (some 0)], F.length, [], b0 :: b1 :: (T0, sC a r) :: T, ?_, ?_, ?_, ?_, ?_, ?_, ?_⟩
      focus (first | rfl | (simp [resL, resOf, St.get, getT, ldAt, at_last, at_two, at_one, nA, nC]; done) | skip)
      rotate_left 3
      rotate_left 2
      rotate_left 1
      focus (first | exact Nat.le_refl _ | exact Nat.zero_le _ | (simp; done) | (simp; omega))
      focus (first | exact Nat.le_refl _ | exact Nat.zero_le _ | (simp; done) | (simp; omega))
      focus (first | exact Nat.le_refl _ | exact Nat.zero_le _ | (simp; done) | (simp; omega))
      all_goals first | exact ⟨.same _ rfl, trivial⟩ | exact ⟨rfl, rfl, by simp⟩ | exact wkB_keep (B := _ :: _ :: (_, _) :: _) (hk _ _) | exact wkB_keep2 (B := _ :: _ :: (_, _) :: _) (hk _ _) | (simp; done) | skip
    · have hpos : ((t.length + 1 + 1 : Nat) : Int) > 0 := by omega
      have hg1 := octGet_ac (k :: c :: t) 1 (by omega) (by omega)
      rw [get1] at hg1
      have hg2 := octGet_ac (c :: t) 1 (by omega) (by omega)
      rw [get1] at hg2
      have ht := octTake_ac t c.toNat
      by_cases hct : c.toNat ≤ t.length
      · rw [if_pos (by omega), Int.toNat_natCast] at ht
        have hgg := hg a r (k.toNat : Int) (t.take c.toNat)
        rcases hf : f a r (k.toNat : Int) (t.take c.toNat) with ⟨a', r', _ | e⟩
        · rw [eachS, if_pos hct, hf] at hr
          rw [hf] at hgg
          unfold sC nC at hgg
          try simp -implicitDefEqProofs only [avl, reduceCtorEq, ↓reduceIte, sevalprocAttr, at_last, set_last, hpos]
          repeat' (first | (refine (hκ _).mpr ?_; clear hκ) | refine kn1 ?_ | refine kr1 ?_ | refine ke1 ?_ | refine kn2 ?_ | refine kr2 ?_ | refine kx2 ?_ | refine ke2 rfl ?_ | refine kn3 ?_ | refine kr3 ?_ | refine ke3 ?_ | refine kn4 ?_ | refine kr4 ?_ | refine ke4 ?_ | refine w_seq ?_ | refine w_block ?_ | (refine aw_regk fun κ hκ => ?_; simp -implicitDefEqProofs only [avl, reduceCtorEq, ↓reduceIte, sevalprocAttr, at_last, set_last, hpos]) | refine aw_exit ?_ | refine aw_ret ?_ | refine aw_skip ?_ | refine aw_label ?_ | refine condc_t ?_ | refine condc_f ?_ | (refine aw_cond2 (by simp -implicitDefEqProofs only [avl, reduceCtorEq, ↓reduceIte, sevalprocAttr, at_last, set_last, hpos]; rfl) ?_) | ((first | refine gkc_fork ?_ ?_ | refine gkc_split ?_ ?_) <;> intro hq <;> simp -implicitDefEqProofs only [hq, avl, reduceCtorEq, ↓reduceIte, sevalprocAttr, at_last, set_last, hpos]) | ((first | refine condc_fork ?_ ?_ | refine condc_bool ?_ ?_) <;> intro hq))
          first | refine callsc (hg1) ?_ ?_ | refine callc (hg1) ?_ ?_ | ((first | refine callsc (act_le (hg1) ?_) ?_ ?_ | refine callc (act_le (hg1) ?_) ?_ ?_); (focus (repeat' (first | exact trivial | exact le_same _ | exact le_imm (.inl rfl) | exact le_imm (.inr rfl) | (refine le_agg ?_) | apply And.intro))))
          (focus (simp [purs]; done))
          try simp -implicitDefEqProofs only [avl, reduceCtorEq, ↓reduceIte, sevalprocAttr, at_last, set_last, sh, sh1]
          repeat' (first | (refine (hκ _).mpr ?_; clear hκ) | refine kn1 ?_ | refine kr1 ?_ | refine ke1 ?_ | refine kn2 ?_ | refine kr2 ?_ | refine kx2 ?_ | refine ke2 rfl ?_ | refine kn3 ?_ | refine kr3 ?_ | refine ke3 ?_ | refine kn4 ?_ | refine kr4 ?_ | refine ke4 ?_ | refine w_seq ?_ | refine w_block ?_ | (refine aw_regk fun κ hκ => ?_; simp -implicitDefEqProofs only [avl, reduceCtorEq, ↓reduceIte, sevalprocAttr, at_last, set_last, sh, sh1]) | refine aw_exit ?_ | refine aw_ret ?_ | refine aw_skip ?_ | refine aw_label ?_ | refine condc_t ?_ | refine condc_f ?_ | (refine aw_cond2 (by simp -implicitDefEqProofs only [avl, reduceCtorEq, ↓reduceIte, sevalprocAttr, at_last, set_last, sh, sh1]; rfl) ?_) | ((first | refine gkc_fork ?_ ?_ | refine gkc_split ?_ ?_) <;> intro hq <;> simp -implicitDefEqProofs only [hq, avl, reduceCtorEq, ↓reduceIte, sevalprocAttr, at_last, set_last, sh, sh1]) | ((first | refine condc_fork ?_ ?_ | refine condc_bool ?_ ?_) <;> intro hq))
          first | refine callsc (hg2) ?_ ?_ | refine callc (hg2) ?_ ?_ | ((first | refine callsc (act_le (hg2) ?_) ?_ ?_ | refine callc (act_le (hg2) ?_) ?_ ?_); (focus (repeat' (first | exact trivial | exact le_same _ | exact le_imm (.inl rfl) | exact le_imm (.inr rfl) | (refine le_agg ?_) | apply And.intro))))
          (focus (simp [purs]; done))
          try simp -implicitDefEqProofs only [avl, reduceCtorEq, ↓reduceIte, sevalprocAttr, at_last, set_last, sh, sh1]
          repeat' (first | (refine (hκ _).mpr ?_; clear hκ) | refine kn1 ?_ | refine kr1 ?_ | refine ke1 ?_ | refine kn2 ?_ | refine kr2 ?_ | refine kx2 ?_ | refine ke2 rfl ?_ | refine kn3 ?_ | refine kr3 ?_ | refine ke3 ?_ | refine kn4 ?_ | refine kr4 ?_ | refine ke4 ?_ | refine w_seq ?_ | refine w_block ?_ | (refine aw_regk fun κ hκ => ?_; simp -implicitDefEqProofs only [avl, reduceCtorEq, ↓reduceIte, sevalprocAttr, at_last, set_last, sh, sh1]) | refine aw_exit ?_ | refine aw_ret ?_ | refine aw_skip ?_ | refine aw_label ?_ | refine condc_t ?_ | refine condc_f ?_ | (refine aw_cond2 (by simp -implicitDefEqProofs only [avl, reduceCtorEq, ↓reduceIte, sevalprocAttr, at_last, set_last, sh, sh1]; rfl) ?_) | ((first | refine gkc_fork ?_ ?_ | refine gkc_split ?_ ?_) <;> intro hq <;> simp -implicitDefEqProofs only [hq, avl, reduceCtorEq, ↓reduceIte, sevalprocAttr, at_last, set_last, sh, sh1]) | ((first | refine condc_fork ?_ ?_ | refine condc_bool ?_ ?_) <;> intro hq))
          first | refine callsc (ht) ?_ ?_ | refine callc (ht) ?_ ?_ | ((first | refine callsc (act_le (ht) ?_) ?_ ?_ | refine callc (act_le (ht) ?_) ?_ ?_); (focus (repeat' (first | exact trivial | exact le_same _ | exact le_imm (.inl rfl) | exact le_imm (.inr rfl) | (refine le_agg ?_) | apply And.intro))))
          (focus (simp [purs]; done))
          try simp -implicitDefEqProofs only [avl, reduceCtorEq, ↓reduceIte, sevalprocAttr, at_last, set_last, sh, sh1]
          repeat' (first | (refine (hκ _).mpr ?_; clear hκ) | refine kn1 ?_ | refine kr1 ?_ | refine ke1 ?_ | refine kn2 ?_ | refine kr2 ?_ | refine kx2 ?_ | refine ke2 rfl ?_ | refine kn3 ?_ | refine kr3 ?_ | refine ke3 ?_ | refine kn4 ?_ | refine kr4 ?_ | refine ke4 ?_ | refine w_seq ?_ | refine w_block ?_ | (refine aw_regk fun κ hκ => ?_; simp -implicitDefEqProofs only [avl, reduceCtorEq, ↓reduceIte, sevalprocAttr, at_last, set_last, sh, sh1]) | refine aw_exit ?_ | refine aw_ret ?_ | refine aw_skip ?_ | refine aw_label ?_ | refine condc_t ?_ | refine condc_f ?_ | (refine aw_cond2 (by simp -implicitDefEqProofs only [avl, reduceCtorEq, ↓reduceIte, sevalprocAttr, at_last, set_last, sh, sh1]; rfl) ?_) | ((first | refine gkc_fork ?_ ?_ | refine gkc_split ?_ ?_) <;> intro hq <;> simp -implicitDefEqProofs only [hq, avl, reduceCtorEq, ↓reduceIte, sevalprocAttr, at_last, set_last, sh, sh1]) | ((first | refine condc_fork ?_ ?_ | refine condc_bool ?_ ?_) <;> intro hq))
          refine callss hgg ?_
          rintro v B' F' ⟨e1, e2, e3⟩
          subst e1 e2
          rw [e3]
          try simp -implicitDefEqProofs only [avl, reduceCtorEq, ↓reduceIte, sevalprocAttr, at_last, set_last, at_two, at_one, set_two, set_one, nA, nC]
          repeat' (first | (refine (hκ _).mpr ?_; clear hκ) | refine kn1 ?_ | refine kr1 ?_ | refine ke1 ?_ | refine kn2 ?_ | refine kr2 ?_ | refine kx2 ?_ | refine ke2 rfl ?_ | refine kn3 ?_ | refine kr3 ?_ | refine ke3 ?_ | refine kn4 ?_ | refine kr4 ?_ | refine ke4 ?_ | refine w_seq ?_ | refine w_block ?_ | (refine aw_regk fun κ hκ => ?_; simp -implicitDefEqProofs only [avl, reduceCtorEq, ↓reduceIte, sevalprocAttr, at_last, set_last, at_two, at_one, set_two, set_one, nA, nC]) | refine aw_exit ?_ | refine aw_ret ?_ | refine aw_skip ?_ | refine aw_label ?_ | refine condc_t ?_ | refine condc_f ?_ | (refine aw_cond2 (by simp -implicitDefEqProofs only [avl, reduceCtorEq, ↓reduceIte, sevalprocAttr, at_last, set_last, at_two, at_one, set_two, set_one, nA, nC]; rfl) ?_) | ((first | refine gkc_fork ?_ ?_ | refine gkc_split ?_ ?_) <;> intro hq <;> simp -implicitDefEqProofs only [hq, avl, reduceCtorEq, ↓reduceIte, sevalprocAttr, at_last, set_last, at_two, at_one, set_two, set_one, nA, nC]) | ((first | refine condc_fork ?_ ?_ | refine condc_bool ?_ ?_) <;> intro hq))
          refine ⟨(a', r', t.drop c.toNat), hr, ?_, by simp; omega⟩
          refine wk_of F.length [] ?_ ?_ rfl rfl ?_ ?_ ?_
          rotate_left 3
          rotate_left 2
          focus (first | rfl | (simp; done) | (simp; omega))
          focus (first | rfl | (simp; done) | (simp; omega) | exact Nat.zero_le _)
          focus (first | exact ⟨Nat.zero_le _, Nat.zero_le _⟩ | (simp; done) | (simp; omega))
          rotate_left 1
          focus (exact wkB_keep (hk2 a' r'))
          all_goals (repeat' (first | exact trivial | apply And.intro))
          all_goals first
            | exact rfl
            | exact .same _ rfl
            | exact .und _
            | (refine .same _ ?_; (focus (simp [okB, okBL]; done)))
            | (refine .same _ (okB_pur ?_); (focus (simp [purs]; done)))
            | (refine .same _ (ok_app ?_ ?_); (focus (simp; done)); (focus (simp [purs]; done)))
            | (simp -implicitDefEqProofs only [List.append_assoc, avl, reduceCtorEq, ↓reduceIte, sevalprocAttr]; first | exact .same _ rfl | (refine .same _ ?_; (focus (simp [okB, okBL]; done))) | (refine .same _ (okB_pur ?_); (focus (simp [purs]; done))) | (refine .same _ (ok_app ?_ ?_); (focus (simp; done)); (focus (simp [purs]; done))) | (refine .tag _ _ _ _ _ ?_ ?_ (fr_at rfl ?_) (okBL_pur ?_); (focus (first | exact .inl rfl | (simp; done))); (focus (simp; done)); (focus (first | rfl | (simp; done) | (simp; omega))); (focus (simp [purs]; done))) | (refine .imm _ _ _ _ ?_ (okBL_pur ?_); (focus (first | exact .inl rfl | (simp; done))); (focus (simp [purs]; done))) | skip)
            | skip
        · rw [eachS, if_pos hct, hf] at hr
          simp only at hr
          subst hr
          rw [hf] at hgg
          unfold sC nC at hgg
          try simp -implicitDefEqProofs only [avl, reduceCtorEq, ↓reduceIte, sevalprocAttr, at_last, set_last, hpos]
          repeat' (first | (refine (hκ _).mpr ?_; clear hκ) | refine kn1 ?_ | refine kr1 ?_ | refine ke1 ?_ | refine kn2 ?_ | refine kr2 ?_ | refine kx2 ?_ | refine ke2 rfl ?_ | refine kn3 ?_ | refine kr3 ?_ | refine ke3 ?_ | refine kn4 ?_ | refine kr4 ?_ | refine ke4 ?_ | refine w_seq ?_ | refine w_block ?_ | (refine aw_regk fun κ hκ => ?_; simp -implicitDefEqProofs only [avl, reduceCtorEq, ↓reduceIte, sevalprocAttr, at_last, set_last, hpos]) | refine aw_exit ?_ | refine aw_ret ?_ | refine aw_skip ?_ | refine aw_label ?_ | refine condc_t ?_ | refine condc_f ?_ | (refine aw_cond2 (by simp -implicitDefEqProofs only [avl, reduceCtorEq, ↓reduceIte, sevalprocAttr, at_last, set_last, hpos]; rfl) ?_) | ((first | refine gkc_fork ?_ ?_ | refine gkc_split ?_ ?_) <;> intro hq <;> simp -implicitDefEqProofs only [hq, avl, reduceCtorEq, ↓reduceIte, sevalprocAttr, at_last, set_last, hpos]) | ((first | refine condc_fork ?_ ?_ | refine condc_bool ?_ ?_) <;> intro hq))
          first | refine callsc (hg1) ?_ ?_ | refine callc (hg1) ?_ ?_ | ((first | refine callsc (act_le (hg1) ?_) ?_ ?_ | refine callc (act_le (hg1) ?_) ?_ ?_); (focus (repeat' (first | exact trivial | exact le_same _ | exact le_imm (.inl rfl) | exact le_imm (.inr rfl) | (refine le_agg ?_) | apply And.intro))))
          (focus (simp [purs]; done))
          try simp -implicitDefEqProofs only [avl, reduceCtorEq, ↓reduceIte, sevalprocAttr, at_last, set_last, sh, sh1]
          repeat' (first | (refine (hκ _).mpr ?_; clear hκ) | refine kn1 ?_ | refine kr1 ?_ | refine ke1 ?_ | refine kn2 ?_ | refine kr2 ?_ | refine kx2 ?_ | refine ke2 rfl ?_ | refine kn3 ?_ | refine kr3 ?_ | refine ke3 ?_ | refine kn4 ?_ | refine kr4 ?_ | refine ke4 ?_ | refine w_seq ?_ | refine w_block ?_ | (refine aw_regk fun κ hκ => ?_; simp -implicitDefEqProofs only [avl, reduceCtorEq, ↓reduceIte, sevalprocAttr, at_last, set_last, sh, sh1]) | refine aw_exit ?_ | refine aw_ret ?_ | refine aw_skip ?_ | refine aw_label ?_ | refine condc_t ?_ | refine condc_f ?_ | (refine aw_cond2 (by simp -implicitDefEqProofs only [avl, reduceCtorEq, ↓reduceIte, sevalprocAttr, at_last, set_last, sh, sh1]; rfl) ?_) | ((first | refine gkc_fork ?_ ?_ | refine gkc_split ?_ ?_) <;> intro hq <;> simp -implicitDefEqProofs only [hq, avl, reduceCtorEq, ↓reduceIte, sevalprocAttr, at_last, set_last, sh, sh1]) | ((first | refine condc_fork ?_ ?_ | refine condc_bool ?_ ?_) <;> intro hq))
          first | refine callsc (hg2) ?_ ?_ | refine callc (hg2) ?_ ?_ | ((first | refine callsc (act_le (hg2) ?_) ?_ ?_ | refine callc (act_le (hg2) ?_) ?_ ?_); (focus (repeat' (first | exact trivial | exact le_same _ | exact le_imm (.inl rfl) | exact le_imm (.inr rfl) | (refine le_agg ?_) | apply And.intro))))
          (focus (simp [purs]; done))
          try simp -implicitDefEqProofs only [avl, reduceCtorEq, ↓reduceIte, sevalprocAttr, at_last, set_last, sh, sh1]
          repeat' (first | (refine (hκ _).mpr ?_; clear hκ) | refine kn1 ?_ | refine kr1 ?_ | refine ke1 ?_ | refine kn2 ?_ | refine kr2 ?_ | refine kx2 ?_ | refine ke2 rfl ?_ | refine kn3 ?_ | refine kr3 ?_ | refine ke3 ?_ | refine kn4 ?_ | refine kr4 ?_ | refine ke4 ?_ | refine w_seq ?_ | refine w_block ?_ | (refine aw_regk fun κ hκ => ?_; simp -implicitDefEqProofs only [avl, reduceCtorEq, ↓reduceIte, sevalprocAttr, at_last, set_last, sh, sh1]) | refine aw_exit ?_ | refine aw_ret ?_ | refine aw_skip ?_ | refine aw_label ?_ | refine condc_t ?_ | refine condc_f ?_ | (refine aw_cond2 (by simp -implicitDefEqProofs only [avl, reduceCtorEq, ↓reduceIte, sevalprocAttr, at_last, set_last, sh, sh1]; rfl) ?_) | ((first | refine gkc_fork ?_ ?_ | refine gkc_split ?_ ?_) <;> intro hq <;> simp -implicitDefEqProofs only [hq, avl, reduceCtorEq, ↓reduceIte, sevalprocAttr, at_last, set_last, sh, sh1]) | ((first | refine condc_fork ?_ ?_ | refine condc_bool ?_ ?_) <;> intro hq))
          first | refine callsc (ht) ?_ ?_ | refine callc (ht) ?_ ?_ | ((first | refine callsc (act_le (ht) ?_) ?_ ?_ | refine callc (act_le (ht) ?_) ?_ ?_); (focus (repeat' (first | exact trivial | exact le_same _ | exact le_imm (.inl rfl) | exact le_imm (.inr rfl) | (refine le_agg ?_) | apply And.intro))))
          (focus (simp [purs]; done))
          try simp -implicitDefEqProofs only [avl, reduceCtorEq, ↓reduceIte, sevalprocAttr, at_last, set_last, sh, sh1]
          repeat' (first | (refine (hκ _).mpr ?_; clear hκ) | refine kn1 ?_ | refine kr1 ?_ | refine ke1 ?_ | refine kn2 ?_ | refine kr2 ?_ | refine kx2 ?_ | refine ke2 rfl ?_ | refine kn3 ?_ | refine kr3 ?_ | refine ke3 ?_ | refine kn4 ?_ | refine kr4 ?_ | refine ke4 ?_ | refine w_seq ?_ | refine w_block ?_ | (refine aw_regk fun κ hκ => ?_; simp -implicitDefEqProofs only [avl, reduceCtorEq, ↓reduceIte, sevalprocAttr, at_last, set_last, sh, sh1]) | refine aw_exit ?_ | refine aw_ret ?_ | refine aw_skip ?_ | refine aw_label ?_ | refine condc_t ?_ | refine condc_f ?_ | (refine aw_cond2 (by simp -implicitDefEqProofs only [avl, reduceCtorEq, ↓reduceIte, sevalprocAttr, at_last, set_last, sh, sh1]; rfl) ?_) | ((first | refine gkc_fork ?_ ?_ | refine gkc_split ?_ ?_) <;> intro hq <;> simp -implicitDefEqProofs only [hq, avl, reduceCtorEq, ↓reduceIte, sevalprocAttr, at_last, set_last, sh, sh1]) | ((first | refine condc_fork ?_ ?_ | refine condc_bool ?_ ?_) <;> intro hq))
          refine callss hgg ?_
          rintro v B' F' ⟨e1, e2, e3⟩
          subst e1 e2
          rw [e3]
          try simp -implicitDefEqProofs only [avl, reduceCtorEq, ↓reduceIte, sevalprocAttr, at_last, set_last, at_two, at_one, set_two, set_one, nA, nC]
          repeat' (first | (refine (hκ _).mpr ?_; clear hκ) | refine kn1 ?_ | refine kr1 ?_ | refine ke1 ?_ | refine kn2 ?_ | refine kr2 ?_ | refine kx2 ?_ | refine ke2 rfl ?_ | refine kn3 ?_ | refine kr3 ?_ | refine ke3 ?_ | refine kn4 ?_ | refine kr4 ?_ | refine ke4 ?_ | refine w_seq ?_ | refine w_block ?_ | (refine aw_regk fun κ hκ => ?_; simp -implicitDefEqProofs only [avl, reduceCtorEq, ↓reduceIte, sevalprocAttr, at_last, set_last, at_two, at_one, set_two, set_one, nA, nC]) | refine aw_exit ?_ | refine aw_ret ?_ | refine aw_skip ?_ | refine aw_label ?_ | refine condc_t ?_ | refine condc_f ?_ | (refine aw_cond2 (by simp -implicitDefEqProofs only [avl, reduceCtorEq, ↓reduceIte, sevalprocAttr, at_last, set_last, at_two, at_one, set_two, set_one, nA, nC]; rfl) ?_) | ((first | refine gkc_fork ?_ ?_ | refine gkc_split ?_ ?_) <;> intro hq <;> simp -implicitDefEqProofs only [hq, avl, reduceCtorEq, ↓reduceIte, sevalprocAttr, at_last, set_last, at_two, at_one, set_two, set_one, nA, nC]) | ((first | refine condc_fork ?_ ?_ | refine condc_bool ?_ ?_) <;> intro hq))
          try simp -implicitDefEqProofs only [avl, reduceCtorEq, ↓reduceIte, sevalprocAttr, nA, nC]
          refine ⟨trivial, [nA (some e)], [nA (some e)], F.length, [], b0 :: b1 :: (T0, sC a' r') :: T, ?_, ?_, ?_, ?_, ?_, ?_, ?_⟩
          focus (first | rfl | (simp [resL, resOf, St.get, getT, ldAt, at_last, at_two, at_one, nA, nC]; done) | skip)
          rotate_left 3
          rotate_left 2
          rotate_left 1
          focus (first | exact Nat.le_refl _ | exact Nat.zero_le _ | (simp; done) | (simp; omega))
          focus (first | exact Nat.le_refl _ | exact Nat.zero_le _ | (simp; done) | (simp; omega))
          focus (first | exact Nat.le_refl _ | exact Nat.zero_le _ | (simp; done) | (simp; omega))
          all_goals first | exact ⟨.same _ rfl, trivial⟩ | exact ⟨rfl, rfl, by simp⟩ | exact wkB_keep (B := _ :: _ :: (_, _) :: _) (hk _ _) | exact wkB_keep2 (B := _ :: _ :: (_, _) :: _) (hk _ _) | (simp; done) | skip
      · rw [eachS, if_neg hct] at hr
        subst hr
        rw [if_neg (by omega)] at ht
        try simp -implicitDefEqProofs only [avl, reduceCtorEq, ↓reduceIte, sevalprocAttr, at_last, set_last, hpos]
        repeat' (first | (refine (hκ _).mpr ?_; clear hκ) | refine kn1 ?_ | refine kr1 ?_ | refine ke1 ?_ | refine kn2 ?_ | refine kr2 ?_ | refine kx2 ?_ | refine ke2 rfl ?_ | refine kn3 ?_ | refine kr3 ?_ | refine ke3 ?_ | refine kn4 ?_ | refine kr4 ?_ | refine ke4 ?_ | refine w_seq ?_ | refine w_block ?_ | (refine aw_regk fun κ hκ => ?_; simp -implicitDefEqProofs only [avl, reduceCtorEq, ↓reduceIte, sevalprocAttr, at_last, set_last, hpos]) | refine aw_exit ?_ | refine aw_ret ?_ | refine aw_skip ?_ | refine aw_label ?_ | refine condc_t ?_ | refine condc_f ?_ | (refine aw_cond2 (by simp -implicitDefEqProofs only [avl, reduceCtorEq, ↓reduceIte, sevalprocAttr, at_last, set_last, hpos]; rfl) ?_) | ((first | refine gkc_fork ?_ ?_ | refine gkc_split ?_ ?_) <;> intro hq <;> simp -implicitDefEqProofs only [hq, avl, reduceCtorEq, ↓reduceIte, sevalprocAttr, at_last, set_last, hpos]) | ((first | refine condc_fork ?_ ?_ | refine condc_bool ?_ ?_) <;> intro hq))
        first | refine callsc (hg1) ?_ ?_ | refine callc (hg1) ?_ ?_ | ((first | refine callsc (act_le (hg1) ?_) ?_ ?_ | refine callc (act_le (hg1) ?_) ?_ ?_); (focus (repeat' (first | exact trivial | exact le_same _ | exact le_imm (.inl rfl) | exact le_imm (.inr rfl) | (refine le_agg ?_) | apply And.intro))))
        (focus (simp [purs]; done))
        try simp -implicitDefEqProofs only [avl, reduceCtorEq, ↓reduceIte, sevalprocAttr, at_last, set_last, sh, sh1]
        repeat' (first | (refine (hκ _).mpr ?_; clear hκ) | refine kn1 ?_ | refine kr1 ?_ | refine ke1 ?_ | refine kn2 ?_ | refine kr2 ?_ | refine kx2 ?_ | refine ke2 rfl ?_ | refine kn3 ?_ | refine kr3 ?_ | refine ke3 ?_ | refine kn4 ?_ | refine kr4 ?_ | refine ke4 ?_ | refine w_seq ?_ | refine w_block ?_ | (refine aw_regk fun κ hκ => ?_; simp -implicitDefEqProofs only [avl, reduceCtorEq, ↓reduceIte, sevalprocAttr, at_last, set_last, sh, sh1]) | refine aw_exit ?_ | refine aw_ret ?_ | refine aw_skip ?_ | refine aw_label ?_ | refine condc_t ?_ | refine condc_f ?_ | (refine aw_cond2 (by simp -implicitDefEqProofs only [avl, reduceCtorEq, ↓reduceIte, sevalprocAttr, at_last, set_last, sh, sh1]; rfl) ?_) | ((first | refine gkc_fork ?_ ?_ | refine gkc_split ?_ ?_) <;> intro hq <;> simp -implicitDefEqProofs only [hq, avl, reduceCtorEq, ↓reduceIte, sevalprocAttr, at_last, set_last, sh, sh1]) | ((first | refine condc_fork ?_ ?_ | refine condc_bool ?_ ?_) <;> intro hq))
        first | refine callsc (hg2) ?_ ?_ | refine callc (hg2) ?_ ?_ | ((first | refine callsc (act_le (hg2) ?_) ?_ ?_ | refine callc (act_le (hg2) ?_) ?_ ?_); (focus (repeat' (first | exact trivial | exact le_same _ | exact le_imm (.inl rfl) | exact le_imm (.inr rfl) | (refine le_agg ?_) | apply And.intro))))
        (focus (simp [purs]; done))
        try simp -implicitDefEqProofs only [avl, reduceCtorEq, ↓reduceIte, sevalprocAttr, at_last, set_last, sh, sh1]
        repeat' (first | (refine (hκ _).mpr ?_; clear hκ) | refine kn1 ?_ | refine kr1 ?_ | refine ke1 ?_ | refine kn2 ?_ | refine kr2 ?_ | refine kx2 ?_ | refine ke2 rfl ?_ | refine kn3 ?_ | refine kr3 ?_ | refine ke3 ?_ | refine kn4 ?_ | refine kr4 ?_ | refine ke4 ?_ | refine w_seq ?_ | refine w_block ?_ | (refine aw_regk fun κ hκ => ?_; simp -implicitDefEqProofs only [avl, reduceCtorEq, ↓reduceIte, sevalprocAttr, at_last, set_last, sh, sh1]) | refine aw_exit ?_ | refine aw_ret ?_ | refine aw_skip ?_ | refine aw_label ?_ | refine condc_t ?_ | refine condc_f ?_ | (refine aw_cond2 (by simp -implicitDefEqProofs only [avl, reduceCtorEq, ↓reduceIte, sevalprocAttr, at_last, set_last, sh, sh1]; rfl) ?_) | ((first | refine gkc_fork ?_ ?_ | refine gkc_split ?_ ?_) <;> intro hq <;> simp -implicitDefEqProofs only [hq, avl, reduceCtorEq, ↓reduceIte, sevalprocAttr, at_last, set_last, sh, sh1]) | ((first | refine condc_fork ?_ ?_ | refine condc_bool ?_ ?_) <;> intro hq))
        first | refine callsc (ht) ?_ ?_ | refine callc (ht) ?_ ?_ | ((first | refine callsc (act_le (ht) ?_) ?_ ?_ | refine callc (act_le (ht) ?_) ?_ ?_); (focus (repeat' (first | exact trivial | exact le_same _ | exact le_imm (.inl rfl) | exact le_imm (.inr rfl) | (refine le_agg ?_) | apply And.intro))))
        (focus (simp [purs]; done))
        try simp -implicitDefEqProofs only [avl, reduceCtorEq, ↓reduceIte, sevalprocAttr, at_last, set_last, sh, sh1]
        repeat' (first | (refine (hκ _).mpr ?_; clear hκ) | refine kn1 ?_ | refine kr1 ?_ | refine ke1 ?_ | refine kn2 ?_ | refine kr2 ?_ | refine kx2 ?_ | refine ke2 rfl ?_ | refine kn3 ?_ | refine kr3 ?_ | refine ke3 ?_ | refine kn4 ?_ | refine kr4 ?_ | refine ke4 ?_ | refine w_seq ?_ | refine w_block ?_ | (refine aw_regk fun κ hκ => ?_; simp -implicitDefEqProofs only [avl, reduceCtorEq, ↓reduceIte, sevalprocAttr, at_last, set_last, sh, sh1]) | refine aw_exit ?_ | refine aw_ret ?_ | refine aw_skip ?_ | refine aw_label ?_ | refine condc_t ?_ | refine condc_f ?_ | (refine aw_cond2 (by simp -implicitDefEqProofs only [avl, reduceCtorEq, ↓reduceIte, sevalprocAttr, at_last, set_last, sh, sh1]; rfl) ?_) | ((first | refine gkc_fork ?_ ?_ | refine gkc_split ?_ ?_) <;> intro hq <;> simp -implicitDefEqProofs only [hq, avl, reduceCtorEq, ↓reduceIte, sevalprocAttr, at_last, set_last, sh, sh1]) | ((first | refine condc_fork ?_ ?_ | refine condc_bool ?_ ?_) <;> intro hq))
        try simp -implicitDefEqProofs only [avl, reduceCtorEq, ↓reduceIte, sevalprocAttr, nA, nC]
        refine ⟨trivial, [nA (some 0)], [nA (some 0)], F.length, [], b0 :: b1 :: (T0, sC a r) :: T, ?_, ?_, ?_, ?_, ?_, ?_, ?_⟩
        focus (first | rfl | (simp [resL, resOf, St.get, getT, ldAt, at_last, at_two, at_one, nA, nC]; done) | skip)
        rotate_left 3
        rotate_left 2
        rotate_left 1
        focus (first | exact Nat.le_refl _ | exact Nat.zero_le _ | (simp; done) | (simp; omega))
        focus (first | exact Nat.le_refl _ | exact Nat.zero_le _ | (simp; done) | (simp; omega))
        focus (first | exact Nat.le_refl _ | exact Nat.zero_le _ | (simp; done) | (simp; omega))
        all_goals first | exact ⟨.same _ rfl, trivial⟩ | exact ⟨rfl, rfl, by simp⟩ | exact wkB_keep (B := _ :: _ :: (_, _) :: _) (hk _ _) | exact wkB_keep2 (B := _ :: _ :: (_, _) :: _) (hk _ _) | (simp; done) | skip

/-- What the capabilities of a parameter say. -/
def parS (a r k : Int) (b : List UInt8) : Int × Int × Option Int := if k = 2 then eachS takeS a r b else (a, r, some 4)
theorem read1_acs (b0 b1 : TypeId × List AV) (T0 : TypeId) (T : List (TypeId × List AV)) (F : List (TypeId × Nat)) (a r k : Int) (b : List UInt8) (hB : okBx F.length (T.length + 3) (b0 :: b1 :: T) = true) :
    ACs Try.prog 66 [.int .i64 k, .slice .imm 1 (b.map bA), .ptr 2 0] (b0 :: b1 :: (T0, sC a r) :: T) F
      fun v B' F' => v = nA (parS a r k b).2.2 ∧ B' = b0 :: b1 :: (T0, sC (parS a r k b).1 (parS a r k b).2.1) :: T ∧ F' = F := by
  have hk : ∀ a r, okBx F.length (T.length + 3) (b0 :: b1 :: (T0, sC a r) :: T) = true := fun a r => by
    unfold okBx at hB ⊢
    simp only [List.all_cons, Bool.and_eq_true] at hB ⊢
    exact ⟨hB.1, hB.2.1, rfl, hB.2.2⟩
  have hN : ∀ (T : List (TypeId × List AV)), okBx F.length (T.length + 3) (b0 :: b1 :: T) = true → okBx F.length ((T ++ [(29, nC 0 0)]).length + 3) (b0 :: b1 :: (T ++ [(29, nC 0 0)])) = true := fun T h => by
    have h := okBx_mono (Nat.le_refl F.length) (Nat.le_succ _) h
    have e : (T ++ [((29 : TypeId), nC 0 0)]).length + 3 = T.length + 3 + 1 := by simp
    rw [e, show (b0 :: b1 :: (T ++ [(29, nC 0 0)])) = (b0 :: b1 :: T) ++ [(29, nC 0 0)] from rfl, okBx_append, h]
    rfl
  have h1 := hN T hB
  have h2 := hN _ h1
  unfold parS
  by_cases h : k = 2
  · rw [if_pos h]
    have he := each_fn_acs 67 takeS b0 b1 T0 (T ++ [(29, nC 0 0)]) F a r b h1 (fun a r k b => take_acs b0 b1 T0 _ F a r k b h2)
    generalize eachS takeS a r b = res at he ⊢
    obtain ⟨a', r', n⟩ := res
    unfold sC nC at he
    unfold sC
    refine acs_w p_open_read_1 (by simp [c_open_read_1]) ?_
    show AW _ b_open_read_1 (RetW [.cell 5 (some 3)] _) { n := 12, tm := [(0, _), (1, _), (2, _)], box := b0 :: b1 :: (T0, [.int .i64 a, .int .i64 r]) :: T, fr := F, p := _ }
    unfold b_open_read_1
    try simp -implicitDefEqProofs only [avl, reduceCtorEq, ↓reduceIte, sevalprocAttr, at_last, set_last, h, not_true_eq_false]
    repeat' (first | (refine (hκ _).mpr ?_; clear hκ) | refine kn1 ?_ | refine kr1 ?_ | refine ke1 ?_ | refine kn2 ?_ | refine kr2 ?_ | refine kx2 ?_ | refine ke2 rfl ?_ | refine kn3 ?_ | refine kr3 ?_ | refine ke3 ?_ | refine kn4 ?_ | refine kr4 ?_ | refine ke4 ?_ | refine w_seq ?_ | refine w_block ?_ | (refine aw_regk fun κ hκ => ?_; simp -implicitDefEqProofs only [avl, reduceCtorEq, ↓reduceIte, sevalprocAttr, at_last, set_last, h, not_true_eq_false]) | refine aw_exit ?_ | refine aw_ret ?_ | refine aw_skip ?_ | refine aw_label ?_ | refine condc_t ?_ | refine condc_f ?_ | (refine aw_cond2 (by simp -implicitDefEqProofs only [avl, reduceCtorEq, ↓reduceIte, sevalprocAttr, at_last, set_last, h, not_true_eq_false]; rfl) ?_) | ((first | refine gkc_fork ?_ ?_ | refine gkc_split ?_ ?_) <;> intro hq <;> simp -implicitDefEqProofs only [hq, avl, reduceCtorEq, ↓reduceIte, sevalprocAttr, at_last, set_last, h, not_true_eq_false]) | ((first | refine condc_fork ?_ ?_ | refine condc_bool ?_ ?_) <;> intro hq))
    refine callss he ?_
    rintro v B' F' ⟨e1, e2, e3⟩
    subst e1 e2
    rw [e3]
    cases n with
    | none =>
      try simp -implicitDefEqProofs only [avl, reduceCtorEq, ↓reduceIte, sevalprocAttr, at_last, set_last, nA, nC]
      repeat' (first | (refine (hκ _).mpr ?_; clear hκ) | refine kn1 ?_ | refine kr1 ?_ | refine ke1 ?_ | refine kn2 ?_ | refine kr2 ?_ | refine kx2 ?_ | refine ke2 rfl ?_ | refine kn3 ?_ | refine kr3 ?_ | refine ke3 ?_ | refine kn4 ?_ | refine kr4 ?_ | refine ke4 ?_ | refine w_seq ?_ | refine w_block ?_ | (refine aw_regk fun κ hκ => ?_; simp -implicitDefEqProofs only [avl, reduceCtorEq, ↓reduceIte, sevalprocAttr, at_last, set_last, nA, nC]) | refine aw_exit ?_ | refine aw_ret ?_ | refine aw_skip ?_ | refine aw_label ?_ | refine condc_t ?_ | refine condc_f ?_ | (refine aw_cond2 (by simp -implicitDefEqProofs only [avl, reduceCtorEq, ↓reduceIte, sevalprocAttr, at_last, set_last, nA, nC]; rfl) ?_) | ((first | refine gkc_fork ?_ ?_ | refine gkc_split ?_ ?_) <;> intro hq <;> simp -implicitDefEqProofs only [hq, avl, reduceCtorEq, ↓reduceIte, sevalprocAttr, at_last, set_last, nA, nC]) | ((first | refine condc_fork ?_ ?_ | refine condc_bool ?_ ?_) <;> intro hq))
      try simp -implicitDefEqProofs only [avl, reduceCtorEq, ↓reduceIte, sevalprocAttr, nA, nC]
      refine ⟨trivial, [nA none], [nA none], F.length, [], b0 :: b1 :: (T0, sC a' r') :: T, ?_, ?_, ?_, ?_, ?_, ?_, ?_⟩
      focus (first | rfl | (simp [resL, resOf, St.get, getT, ldAt, at_last, at_two, at_one, nA, nC]; done) | skip)
      rotate_left 3
      rotate_left 2
      rotate_left 1
      focus (first | exact Nat.le_refl _ | exact Nat.zero_le _ | (simp; done) | (simp; omega))
      focus (first | exact Nat.le_refl _ | exact Nat.zero_le _ | (simp; done) | (simp; omega))
      focus (first | exact Nat.le_refl _ | exact Nat.zero_le _ | (simp; done) | (simp; omega))
      all_goals first | exact ⟨.same _ rfl, trivial⟩ | exact ⟨rfl, rfl, by simp⟩ | exact wkB_keep (B := _ :: _ :: (_, _) :: _) (hk _ _) | exact wkB_keep2 (B := _ :: _ :: (_, _) :: _) (hk _ _) | (simp; done) | skip
    | some e =>
      try simp -implicitDefEqProofs only [avl, reduceCtorEq, ↓reduceIte, sevalprocAttr, at_last, set_last, nA, nC]
      repeat' (first | (refine (hκ _).mpr ?_; clear hκ) | refine kn1 ?_ | refine kr1 ?_ | refine ke1 ?_ | refine kn2 ?_ | refine kr2 ?_ | refine kx2 ?_ | refine ke2 rfl ?_ | refine kn3 ?_ | refine kr3 ?_ | refine ke3 ?_ | refine kn4 ?_ | refine kr4 ?_ | refine ke4 ?_ | refine w_seq ?_ | refine w_block ?_ | (refine aw_regk fun κ hκ => ?_; simp -implicitDefEqProofs only [avl, reduceCtorEq, ↓reduceIte, sevalprocAttr, at_last, set_last, nA, nC]) | refine aw_exit ?_ | refine aw_ret ?_ | refine aw_skip ?_ | refine aw_label ?_ | refine condc_t ?_ | refine condc_f ?_ | (refine aw_cond2 (by simp -implicitDefEqProofs only [avl, reduceCtorEq, ↓reduceIte, sevalprocAttr, at_last, set_last, nA, nC]; rfl) ?_) | ((first | refine gkc_fork ?_ ?_ | refine gkc_split ?_ ?_) <;> intro hq <;> simp -implicitDefEqProofs only [hq, avl, reduceCtorEq, ↓reduceIte, sevalprocAttr, at_last, set_last, nA, nC]) | ((first | refine condc_fork ?_ ?_ | refine condc_bool ?_ ?_) <;> intro hq))
      try simp -implicitDefEqProofs only [avl, reduceCtorEq, ↓reduceIte, sevalprocAttr, nA, nC]
      refine ⟨trivial, [nA (some e)], [nA (some e)], F.length, [], b0 :: b1 :: (T0, sC a' r') :: T, ?_, ?_, ?_, ?_, ?_, ?_, ?_⟩
      focus (first | rfl | (simp [resL, resOf, St.get, getT, ldAt, at_last, at_two, at_one, nA, nC]; done) | skip)
      rotate_left 3
      rotate_left 2
      rotate_left 1
      focus (first | exact Nat.le_refl _ | exact Nat.zero_le _ | (simp; done) | (simp; omega))
      focus (first | exact Nat.le_refl _ | exact Nat.zero_le _ | (simp; done) | (simp; omega))
      focus (first | exact Nat.le_refl _ | exact Nat.zero_le _ | (simp; done) | (simp; omega))
      all_goals first | exact ⟨.same _ rfl, trivial⟩ | exact ⟨rfl, rfl, by simp⟩ | exact wkB_keep (B := _ :: _ :: (_, _) :: _) (hk _ _) | exact wkB_keep2 (B := _ :: _ :: (_, _) :: _) (hk _ _) | (simp; done) | skip
  · rw [if_neg h]
    unfold sC
    refine acs_w p_open_read_1 (by simp [c_open_read_1]) ?_
    show AW _ b_open_read_1 (RetW [.cell 5 (some 3)] _) { n := 12, tm := [(0, _), (1, _), (2, _)], box := b0 :: b1 :: (T0, [.int .i64 a, .int .i64 r]) :: T, fr := F, p := _ }
    unfold b_open_read_1
    try simp -implicitDefEqProofs only [avl, reduceCtorEq, ↓reduceIte, sevalprocAttr, at_last, set_last, h, not_false_eq_true]
    repeat' (first | (refine (hκ _).mpr ?_; clear hκ) | refine kn1 ?_ | refine kr1 ?_ | refine ke1 ?_ | refine kn2 ?_ | refine kr2 ?_ | refine kx2 ?_ | refine ke2 rfl ?_ | refine kn3 ?_ | refine kr3 ?_ | refine ke3 ?_ | refine kn4 ?_ | refine kr4 ?_ | refine ke4 ?_ | refine w_seq ?_ | refine w_block ?_ | (refine aw_regk fun κ hκ => ?_; simp -implicitDefEqProofs only [avl, reduceCtorEq, ↓reduceIte, sevalprocAttr, at_last, set_last, h, not_false_eq_true]) | refine aw_exit ?_ | refine aw_ret ?_ | refine aw_skip ?_ | refine aw_label ?_ | refine condc_t ?_ | refine condc_f ?_ | (refine aw_cond2 (by simp -implicitDefEqProofs only [avl, reduceCtorEq, ↓reduceIte, sevalprocAttr, at_last, set_last, h, not_false_eq_true]; rfl) ?_) | ((first | refine gkc_fork ?_ ?_ | refine gkc_split ?_ ?_) <;> intro hq <;> simp -implicitDefEqProofs only [hq, avl, reduceCtorEq, ↓reduceIte, sevalprocAttr, at_last, set_last, h, not_false_eq_true]) | ((first | refine condc_fork ?_ ?_ | refine condc_bool ?_ ?_) <;> intro hq))
    try simp -implicitDefEqProofs only [avl, reduceCtorEq, ↓reduceIte, sevalprocAttr, nA, nC]
    refine ⟨trivial, [nA (some 4)], [nA (some 4)], F.length, [], b0 :: b1 :: (T0, sC a r) :: T, ?_, ?_, ?_, ?_, ?_, ?_, ?_⟩
    focus (first | rfl | (simp [resL, resOf, St.get, getT, ldAt, at_last, at_two, at_one, nA, nC]; done) | skip)
    rotate_left 3
    rotate_left 2
    rotate_left 1
    focus (first | exact Nat.le_refl _ | exact Nat.zero_le _ | (simp; done) | (simp; omega))
    focus (first | exact Nat.le_refl _ | exact Nat.zero_le _ | (simp; done) | (simp; omega))
    focus (first | exact Nat.le_refl _ | exact Nat.zero_le _ | (simp; done) | (simp; omega))
    all_goals first | exact ⟨.same _ rfl, trivial⟩ | exact ⟨rfl, rfl, by simp⟩ | exact wkB_keep (B := _ :: _ :: (_, _) :: _) (hk _ _) | exact wkB_keep2 (B := _ :: _ :: (_, _) :: _) (hk _ _) | (simp; done) | skip
def readS (l : List UInt8) : Int × Int × Option Int := eachS parS (-1) (-1) l
theorem read_ac (l : List UInt8) : ACt Try.prog 43 [.slice .imm 1 (l.map bA)] (.tup [.agg (sC (readS l).1 (readS l).2.1), nA (readS l).2.2]) [] := by
  unfold readS
  have he := each_clo_acs 66 parS (68, [.int .i64 0, .int .i64 0]) (29, nC 0 0) 68 [] [] (-1) (-1) l rfl (fun a r k b => read1_acs _ _ _ _ [] a r k b rfl)
  generalize eachS parS (-1) (-1) l = res at he ⊢
  obtain ⟨a', r', n⟩ := res
  unfold sC nC at he
  unfold sC
  refine act_of p_open_read (by simp [c_open_read]) ?_
  show AW _ b_open_read (RetOk [.cell 2 (some 2), .cell 3 (some 3)] _ _) { n := 12, tm := [(0, _)], box := [], fr := [] }
  unfold b_open_read
  try simp -implicitDefEqProofs only [avl, reduceCtorEq, ↓reduceIte, sevalprocAttr]
  repeat' (first | (refine (hκ _).mpr ?_; clear hκ) | refine kn1 ?_ | refine kr1 ?_ | refine ke1 ?_ | refine kn2 ?_ | refine kr2 ?_ | refine kx2 ?_ | refine ke2 rfl ?_ | refine kn3 ?_ | refine kr3 ?_ | refine ke3 ?_ | refine kn4 ?_ | refine kr4 ?_ | refine ke4 ?_ | refine w_seq ?_ | refine w_block ?_ | (refine aw_regk fun κ hκ => ?_; simp -implicitDefEqProofs only [avl, reduceCtorEq, ↓reduceIte, sevalprocAttr]) | refine aw_exit ?_ | refine aw_ret ?_ | refine aw_skip ?_ | refine aw_label ?_ | refine condc_t ?_ | refine condc_f ?_ | (refine aw_cond2 (by simp -implicitDefEqProofs only [avl, reduceCtorEq, ↓reduceIte, sevalprocAttr]; rfl) ?_) | ((first | refine gkc_fork ?_ ?_ | refine gkc_split ?_ ?_) <;> intro hq <;> simp -implicitDefEqProofs only [hq, avl, reduceCtorEq, ↓reduceIte, sevalprocAttr]) | ((first | refine condc_fork ?_ ?_ | refine condc_bool ?_ ?_) <;> intro hq))
  refine callss he ?_
  rintro v B' F' ⟨e1, e2, e3⟩
  subst e1 e2 e3
  cases n with
  | none =>
    try simp -implicitDefEqProofs only [avl, reduceCtorEq, ↓reduceIte, sevalprocAttr, nA, nC, eqk_same]
    repeat' (first | (refine (hκ _).mpr ?_; clear hκ) | refine kn1 ?_ | refine kr1 ?_ | refine ke1 ?_ | refine kn2 ?_ | refine kr2 ?_ | refine kx2 ?_ | refine ke2 rfl ?_ | refine kn3 ?_ | refine kr3 ?_ | refine ke3 ?_ | refine kn4 ?_ | refine kr4 ?_ | refine ke4 ?_ | refine w_seq ?_ | refine w_block ?_ | (refine aw_regk fun κ hκ => ?_; simp -implicitDefEqProofs only [avl, reduceCtorEq, ↓reduceIte, sevalprocAttr, nA, nC, eqk_same]) | refine aw_exit ?_ | refine aw_ret ?_ | refine aw_skip ?_ | refine aw_label ?_ | refine condc_t ?_ | refine condc_f ?_ | (refine aw_cond2 (by simp -implicitDefEqProofs only [avl, reduceCtorEq, ↓reduceIte, sevalprocAttr, nA, nC, eqk_same]; rfl) ?_) | ((first | refine gkc_fork ?_ ?_ | refine gkc_split ?_ ?_) <;> intro hq <;> simp -implicitDefEqProofs only [hq, avl, reduceCtorEq, ↓reduceIte, sevalprocAttr, nA, nC, eqk_same]) | ((first | refine condc_fork ?_ ?_ | refine condc_bool ?_ ?_) <;> intro hq))
    try simp -implicitDefEqProofs only [List.append_assoc, avl, reduceCtorEq, ↓reduceIte, sevalprocAttr, nA, nC]
    first | refine retLt (by first | exact .inr rfl | exact .inl rfl) (by rfl) ?_ | refine retL1 (by first | exact .inr rfl | exact .inl rfl) (by rfl) ?_
    repeat' (first | exact trivial | apply And.intro)
    all_goals first
      | exact .same _ rfl
      | (refine .same _ ?_; (focus (simp [purs]; done)))
      | (refine .imm _ _ _ ?_; (focus (simp [purs]; done)))
      | (refine .le _ _ ?_ ?_; (focus (repeat' (first | exact trivial | exact le_same _ | exact le_imm (.inl rfl) | exact le_imm (.inr rfl) | (refine le_agg ?_) | apply And.intro))); (focus (simp [purs]; done)))
      | skip
  | some e =>
    try simp -implicitDefEqProofs only [avl, reduceCtorEq, ↓reduceIte, sevalprocAttr, nA, nC, eqk_same]
    repeat' (first | (refine (hκ _).mpr ?_; clear hκ) | refine kn1 ?_ | refine kr1 ?_ | refine ke1 ?_ | refine kn2 ?_ | refine kr2 ?_ | refine kx2 ?_ | refine ke2 rfl ?_ | refine kn3 ?_ | refine kr3 ?_ | refine ke3 ?_ | refine kn4 ?_ | refine kr4 ?_ | refine ke4 ?_ | refine w_seq ?_ | refine w_block ?_ | (refine aw_regk fun κ hκ => ?_; simp -implicitDefEqProofs only [avl, reduceCtorEq, ↓reduceIte, sevalprocAttr, nA, nC, eqk_same]) | refine aw_exit ?_ | refine aw_ret ?_ | refine aw_skip ?_ | refine aw_label ?_ | refine condc_t ?_ | refine condc_f ?_ | (refine aw_cond2 (by simp -implicitDefEqProofs only [avl, reduceCtorEq, ↓reduceIte, sevalprocAttr, nA, nC, eqk_same]; rfl) ?_) | ((first | refine gkc_fork ?_ ?_ | refine gkc_split ?_ ?_) <;> intro hq <;> simp -implicitDefEqProofs only [hq, avl, reduceCtorEq, ↓reduceIte, sevalprocAttr, nA, nC, eqk_same]) | ((first | refine condc_fork ?_ ?_ | refine condc_bool ?_ ?_) <;> intro hq))
    try simp -implicitDefEqProofs only [List.append_assoc, avl, reduceCtorEq, ↓reduceIte, sevalprocAttr, nA, nC]
    first | refine retLt (by first | exact .inr rfl | exact .inl rfl) (by rfl) ?_ | refine retL1 (by first | exact .inr rfl | exact .inl rfl) (by rfl) ?_
    repeat' (first | exact trivial | apply And.intro)
    all_goals first
      | exact .same _ rfl
      | (refine .same _ ?_; (focus (simp [purs]; done)))
      | (refine .imm _ _ _ ?_; (focus (simp [purs]; done)))
      | (refine .le _ _ ?_ ?_; (focus (repeat' (first | exact trivial | exact le_same _ | exact le_imm (.inl rfl) | exact le_imm (.inr rfl) | (refine le_agg ?_) | apply And.intro))); (focus (simp [purs]; done)))
      | skip
end Go.Proofs.Ytgakgilaikgboaa
