/- The reference's Compare. -/
import Derived.Test.YtmlhbmlppgoklacAcR1
import Derived.Test.YtmlhbmlppgoklacRou1
namespace Go.Proofs.Ytmlhbmlppgoklac
open Go.RowKit
set_option maxHeartbeats 1000000
set_option maxRecDepth 100000
set_option linter.unusedSimpArgs false
set_option linter.unusedVariables false

def iA (x : Int) : AV := .int .i64 x
def rtA (r : Rt) : AV := .agg [.int .i64 r.pref, .int .i64 r.origin, .slice .imm 1 (r.as.map iA), .int .i64 r.hop, .int .i64 r.otc, .int .i64 r.frm]

theorem less_ac (a b : Int) : ACt Try.prog 27 [.int .i64 a, .int .i64 b] (.int .i64 (cmpI a b)) [] := by
  refine act_of p_ridgewayref09_less (by simp [c_ridgewayref09_less]) ?_
  show AW _ b_ridgewayref09_less (RetOk [.tmp 4] _ _) ⟨11, [(0, _), (1, _)], [], []⟩
  unfold b_ridgewayref09_less
  try simp (config := {implicitDefEqProofs := false}) only [avl1, avl2, avl3, avl4, avl5, if_true, if_false, beq_self_eq_true, ne_eq, reduceCtorEq, ↓reduceIte, Nat.reduceAdd, Nat.reduceLT, Nat.reduceEqDiff, Nat.reduceLeDiff, List.cons_ne_nil]
  repeat (first
    | (refine (hκ _).mpr ?_; clear hκ)
    | refine kn1 ?_
    | refine kr1 ?_
    | refine ke1 ?_
    | refine kn2 ?_
    | refine kr2 ?_
    | refine kx2 ?_
    | refine ke2 rfl ?_
    | refine kn3 ?_
    | refine kr3 ?_
    | refine ke3 ?_
    | refine w_seq ?_
    | refine w_block ?_
    | (refine aw_regk fun κ hκ => ?_; simp (config := {implicitDefEqProofs := false}) only [avl1, avl2, avl3, avl4, avl5, if_true, if_false, beq_self_eq_true, ne_eq, reduceCtorEq, ↓reduceIte, Nat.reduceAdd, Nat.reduceLT, Nat.reduceEqDiff, Nat.reduceLeDiff, List.cons_ne_nil])
    | refine aw_exit ?_
    | refine aw_ret ?_
    | refine aw_skip ?_
    | refine aw_label ?_
    | refine condc_t ?_
    | refine condc_f ?_)
  refine aw_if ⟨_, rfl, ?_, ?_⟩ <;> intro h <;> simp only [decide_eq_true_eq, decide_eq_false_iff_not] at h
  · try simp (config := {implicitDefEqProofs := false}) only [avl1, avl2, avl3, avl4, avl5, if_true, if_false, beq_self_eq_true, ne_eq, reduceCtorEq, ↓reduceIte, Nat.reduceAdd, Nat.reduceLT, Nat.reduceEqDiff, Nat.reduceLeDiff, List.cons_ne_nil]
    repeat (first
      | (refine (hκ _).mpr ?_; clear hκ)
      | refine kn1 ?_
      | refine kr1 ?_
      | refine ke1 ?_
      | refine kn2 ?_
      | refine kr2 ?_
      | refine kx2 ?_
      | refine ke2 rfl ?_
      | refine kn3 ?_
      | refine kr3 ?_
      | refine ke3 ?_
      | refine w_seq ?_
      | refine w_block ?_
      | (refine aw_regk fun κ hκ => ?_; simp (config := {implicitDefEqProofs := false}) only [avl1, avl2, avl3, avl4, avl5, if_true, if_false, beq_self_eq_true, ne_eq, reduceCtorEq, ↓reduceIte, Nat.reduceAdd, Nat.reduceLT, Nat.reduceEqDiff, Nat.reduceLeDiff, List.cons_ne_nil])
      | refine aw_exit ?_
      | refine aw_ret ?_
      | refine aw_skip ?_
      | refine aw_label ?_
      | refine condc_t ?_
      | refine condc_f ?_)
    refine ret1 (.inr rfl) ?_ rfl
    simp [resL, resOf, St.get, getT, cmpI, h]
  · try simp (config := {implicitDefEqProofs := false}) only [avl1, avl2, avl3, avl4, avl5, if_true, if_false, beq_self_eq_true, ne_eq, reduceCtorEq, ↓reduceIte, Nat.reduceAdd, Nat.reduceLT, Nat.reduceEqDiff, Nat.reduceLeDiff, List.cons_ne_nil]
    repeat (first
      | (refine (hκ _).mpr ?_; clear hκ)
      | refine kn1 ?_
      | refine kr1 ?_
      | refine ke1 ?_
      | refine kn2 ?_
      | refine kr2 ?_
      | refine kx2 ?_
      | refine ke2 rfl ?_
      | refine kn3 ?_
      | refine kr3 ?_
      | refine ke3 ?_
      | refine w_seq ?_
      | refine w_block ?_
      | (refine aw_regk fun κ hκ => ?_; simp (config := {implicitDefEqProofs := false}) only [avl1, avl2, avl3, avl4, avl5, if_true, if_false, beq_self_eq_true, ne_eq, reduceCtorEq, ↓reduceIte, Nat.reduceAdd, Nat.reduceLT, Nat.reduceEqDiff, Nat.reduceLeDiff, List.cons_ne_nil])
      | refine aw_exit ?_
      | refine aw_ret ?_
      | refine aw_skip ?_
      | refine aw_label ?_
      | refine condc_t ?_
      | refine condc_f ?_)
    refine aw_if ⟨_, rfl, ?_, ?_⟩ <;> intro h2 <;> simp only [decide_eq_true_eq, decide_eq_false_iff_not] at h2
    · try simp (config := {implicitDefEqProofs := false}) only [avl1, avl2, avl3, avl4, avl5, if_true, if_false, beq_self_eq_true, ne_eq, reduceCtorEq, ↓reduceIte, Nat.reduceAdd, Nat.reduceLT, Nat.reduceEqDiff, Nat.reduceLeDiff, List.cons_ne_nil]
      repeat (first
        | (refine (hκ _).mpr ?_; clear hκ)
        | refine kn1 ?_
        | refine kr1 ?_
        | refine ke1 ?_
        | refine kn2 ?_
        | refine kr2 ?_
        | refine kx2 ?_
        | refine ke2 rfl ?_
        | refine kn3 ?_
        | refine kr3 ?_
        | refine ke3 ?_
        | refine w_seq ?_
        | refine w_block ?_
        | (refine aw_regk fun κ hκ => ?_; simp (config := {implicitDefEqProofs := false}) only [avl1, avl2, avl3, avl4, avl5, if_true, if_false, beq_self_eq_true, ne_eq, reduceCtorEq, ↓reduceIte, Nat.reduceAdd, Nat.reduceLT, Nat.reduceEqDiff, Nat.reduceLeDiff, List.cons_ne_nil])
        | refine aw_exit ?_
        | refine aw_ret ?_
        | refine aw_skip ?_
        | refine aw_label ?_
        | refine condc_t ?_
        | refine condc_f ?_)
      refine ret1 (.inr rfl) ?_ rfl
      simp [resL, resOf, St.get, getT, cmpI, h]
      omega
    · try simp (config := {implicitDefEqProofs := false}) only [avl1, avl2, avl3, avl4, avl5, if_true, if_false, beq_self_eq_true, ne_eq, reduceCtorEq, ↓reduceIte, Nat.reduceAdd, Nat.reduceLT, Nat.reduceEqDiff, Nat.reduceLeDiff, List.cons_ne_nil]
      repeat (first
        | (refine (hκ _).mpr ?_; clear hκ)
        | refine kn1 ?_
        | refine kr1 ?_
        | refine ke1 ?_
        | refine kn2 ?_
        | refine kr2 ?_
        | refine kx2 ?_
        | refine ke2 rfl ?_
        | refine kn3 ?_
        | refine kr3 ?_
        | refine ke3 ?_
        | refine w_seq ?_
        | refine w_block ?_
        | (refine aw_regk fun κ hκ => ?_; simp (config := {implicitDefEqProofs := false}) only [avl1, avl2, avl3, avl4, avl5, if_true, if_false, beq_self_eq_true, ne_eq, reduceCtorEq, ↓reduceIte, Nat.reduceAdd, Nat.reduceLT, Nat.reduceEqDiff, Nat.reduceLeDiff, List.cons_ne_nil])
        | refine aw_exit ?_
        | refine aw_ret ?_
        | refine aw_skip ?_
        | refine aw_label ?_
        | refine condc_t ?_
        | refine condc_f ?_)
      refine ret1 (.inr rfl) ?_ rfl
      simp [resL, resOf, St.get, getT, cmpI, h]
      omega

def heads (a b : Rt) : List Int := [cmpI b.pref a.pref, cmpI a.as.length b.as.length, cmpI a.origin b.origin]
def mids (a b : Rt) : List Int := List.zipWith cmpI a.as b.as
def tails (a b : Rt) : List Int := [cmpI a.hop b.hop, cmpI a.otc b.otc, cmpI a.frm b.frm]

def rtC (r : Rt) : List AV := [.int .i64 r.pref, .int .i64 r.origin, .slice .imm 1 (r.as.map iA), .int .i64 r.hop, .int .i64 r.otc, .int .i64 r.frm]
theorem mids_succ {a b : Rt} {k : Nat} {x y : Int} (hx : a.as[k]? = some x) (hy : b.as[k]? = some y) : (mids a b).take (k + 1) = (mids a b).take k ++ [cmpI x y] := by
  have h : (mids a b)[k]? = some (cmpI x y) := by simp [mids, List.getElem?_zipWith, hx, hy]
  rw [List.take_add_one, h]
  rfl
def firstNZ : List Int → Int
  | [] => 0
  | x :: l => if x = 0 then firstNZ l else x
theorem firstNZ_append : ∀ l m : List Int, firstNZ (l ++ m) = if firstNZ l = 0 then firstNZ m else firstNZ l
  | [], m => by simp [firstNZ]
  | x :: l, m => by
    by_cases h : x = 0 <;> simp [firstNZ, h, firstNZ_append l m]
theorem firstNZ_zip : ∀ {l m : List Int}, l.length = m.length → firstNZ (List.zipWith cmpI l m) = cmpL l m
  | [], [], _ => by simp [firstNZ, cmpL]
  | x :: l, y :: m, h => by
    simp only [List.length_cons, Nat.add_right_cancel_iff] at h
    by_cases e : cmpI x y = 0
    · rw [cmpL_step e]; simp [firstNZ, e, firstNZ_zip h]
    · rw [cmpL_stop e]; simp [firstNZ, e]
theorem cmpI_zero {a b : Int} : cmpI a b = 0 ↔ a = b := by
  unfold cmpI
  constructor <;> intro h
  · split at h <;> first | omega | (split at h <;> omega)
  · subst h; simp
theorem firstNZ_zero {l : List Int} {k : Nat} (h : ∀ j < k, l[j]? = some 0) : firstNZ l = firstNZ (l.drop k) := by
  induction k generalizing l with
  | zero => rfl
  | succ k ih =>
    have h0 := h 0 (by omega)
    cases l with
    | nil => cases h0
    | cons x l =>
      simp at h0
      subst h0
      simp only [firstNZ, if_true, List.drop_succ_cons]
      exact ih fun j hj => by have := h (j + 1) (by omega); simpa using this
theorem compareR_first (a b : Rt) : compareR a b = firstNZ (heads a b ++ mids a b ++ tails a b) := by
  unfold compareR thenC heads tails mids
  by_cases h1 : cmpI b.pref a.pref = 0
  · by_cases h2 : cmpI a.as.length b.as.length = 0
    · have hl : a.as.length = b.as.length := by have := cmpI_zero.1 h2; omega
      by_cases h3 : cmpI a.origin b.origin = 0
      · rw [List.append_assoc, firstNZ_append, firstNZ_append, firstNZ_zip hl]
        by_cases h4 : cmpL a.as b.as = 0 <;> by_cases h5 : cmpI a.hop b.hop = 0 <;> by_cases h6 : cmpI a.otc b.otc = 0 <;> by_cases h7 : cmpI a.frm b.frm = 0 <;> simp [firstNZ, h1, h2, h3, h4, h5, h6, h7]
      · simp [firstNZ, h1, h2, h3]
    · simp [firstNZ, h1, h2]
  · simp [firstNZ, h1]

theorem refcmp_ac (a b : Rt) (ha : a.as.length ≤ 1000) : ACt Try.prog 11 [rtA a, rtA b] (.int .i64 (compareR a b)) [] := by
  refine act_of p_ridgewayref09_Compare (by simp [c_ridgewayref09_Compare]) ?_
  show AW _ b_ridgewayref09_Compare (RetOk [.tmp 4] _ _) ⟨99, [(0, _), (1, _)], [], []⟩
  unfold b_ridgewayref09_Compare rtA
  try simp (config := {implicitDefEqProofs := false}) only [avl1, avl2, avl3, avl4, avl5, if_true, if_false, beq_self_eq_true, ne_eq, reduceCtorEq, ↓reduceIte, Nat.reduceAdd, Nat.reduceLT, Nat.reduceEqDiff, Nat.reduceLeDiff, List.cons_ne_nil]
  repeat (first
    | (refine (hκ _).mpr ?_; clear hκ)
    | refine kn1 ?_
    | refine kr1 ?_
    | refine ke1 ?_
    | refine kn2 ?_
    | refine kr2 ?_
    | refine kx2 ?_
    | refine ke2 rfl ?_
    | refine kn3 ?_
    | refine kr3 ?_
    | refine ke3 ?_
    | refine w_seq ?_
    | refine w_block ?_
    | (refine aw_regk fun κ hκ => ?_; simp (config := {implicitDefEqProofs := false}) only [avl1, avl2, avl3, avl4, avl5, if_true, if_false, beq_self_eq_true, ne_eq, reduceCtorEq, ↓reduceIte, Nat.reduceAdd, Nat.reduceLT, Nat.reduceEqDiff, Nat.reduceLeDiff, List.cons_ne_nil])
    | refine aw_exit ?_
    | refine aw_ret ?_
    | refine aw_skip ?_
    | refine aw_label ?_
    | refine condc_t ?_
    | refine condc_f ?_)
  refine callc (less_ac _ _) rfl ?_
  simp (config := {implicitDefEqProofs := false}) only [avl1, avl2, avl3, avl4, avl5, if_true, if_false, beq_self_eq_true, ne_eq, reduceCtorEq, ↓reduceIte, Nat.reduceAdd, Nat.reduceLT, Nat.reduceEqDiff, Nat.reduceLeDiff, List.cons_ne_nil]
  refine callc (less_ac _ _) rfl ?_
  simp (config := {implicitDefEqProofs := false}) only [avl1, avl2, avl3, avl4, avl5, if_true, if_false, beq_self_eq_true, ne_eq, reduceCtorEq, ↓reduceIte, Nat.reduceAdd, Nat.reduceLT, Nat.reduceEqDiff, Nat.reduceLeDiff, List.cons_ne_nil]
  refine callc (less_ac _ _) rfl ?_
  simp (config := {implicitDefEqProofs := false}) only [avl1, avl2, avl3, avl4, avl5, if_true, if_false, beq_self_eq_true, ne_eq, reduceCtorEq, ↓reduceIte, Nat.reduceAdd, Nat.reduceLT, Nat.reduceEqDiff, Nat.reduceLeDiff, List.cons_ne_nil]
  try simp (config := {implicitDefEqProofs := false}) only [avl1, avl2, avl3, avl4, avl5, if_true, if_false, beq_self_eq_true, ne_eq, reduceCtorEq, ↓reduceIte, Nat.reduceAdd, Nat.reduceLT, Nat.reduceEqDiff, Nat.reduceLeDiff, List.cons_ne_nil]
  repeat (first
    | (refine (hκ _).mpr ?_; clear hκ)
    | refine kn1 ?_
    | refine kr1 ?_
    | refine ke1 ?_
    | refine kn2 ?_
    | refine kr2 ?_
    | refine kx2 ?_
    | refine ke2 rfl ?_
    | refine kn3 ?_
    | refine kr3 ?_
    | refine ke3 ?_
    | refine w_seq ?_
    | refine w_block ?_
    | (refine aw_regk fun κ hκ => ?_; simp (config := {implicitDefEqProofs := false}) only [avl1, avl2, avl3, avl4, avl5, if_true, if_false, beq_self_eq_true, ne_eq, reduceCtorEq, ↓reduceIte, Nat.reduceAdd, Nat.reduceLT, Nat.reduceEqDiff, Nat.reduceLeDiff, List.cons_ne_nil])
    | refine aw_exit ?_
    | refine aw_ret ?_
    | refine aw_skip ?_
    | refine aw_label ?_
    | refine condc_t ?_
    | refine condc_f ?_)
  refine w_loop (fun k => k ≤ (mids a b).length) (fun k => ⟨99, [(2, .ptr 0 0), (3, .ptr 1 0), (5, .slice (.app 0) 1 ((heads a b ++ (mids a b).take k).map iA)), (6, .int .i64 k)], [(27, rtC a), (27, rtC b)], [(3, 3 + k)]⟩) (fun k => (mids a b).length - k) 0 (Nat.zero_le _) ?_ ?_
  · refine ⟨rfl, 0, [(3, 3)], rfl, Nat.zero_le _, ⟨.same _ rfl, .same _ rfl, ?_, .same _ rfl, trivial⟩, ⟨rfl, ?_, rfl, ?_, trivial⟩⟩
    · exact .tag 1 1 _ 0 3 (.inl rfl) (Nat.le_refl _) rfl rfl
    · repeat (first
        | exact trivial
        | exact rfl
        | refine ⟨.same _ (by first | rfl | exact okBL_pur (purL_map fun _ => rfl)), ?_⟩
        | refine ⟨rfl, ?_⟩
        | refine ⟨?_, ?_⟩)
    · repeat (first
        | exact trivial
        | exact rfl
        | refine ⟨.same _ (by first | rfl | exact okBL_pur (purL_map fun _ => rfl)), ?_⟩
        | refine ⟨rfl, ?_⟩
        | refine ⟨?_, ?_⟩)
  · intro k hk
    by_cases hlt : k < (mids a b).length
    · have hk2 : k < a.as.length ∧ k < b.as.length := by simp only [mids, List.length_zipWith] at hlt; omega
      obtain ⟨h1, h2⟩ := hk2
      obtain ⟨x, hx⟩ : ∃ x, a.as[k]? = some x := ⟨_, List.getElem?_eq_getElem h1⟩
      obtain ⟨y, hy⟩ : ∃ y, b.as[k]? = some y := ⟨_, List.getElem?_eq_getElem h2⟩
      have hw : IntKind.i64.wrap ((k : Int) + 1) = ((k + 1 : Nat) : Int) := by rw [wrap64 (by omega) (by omega)]; omega
      have hlen : (heads a b).length = 3 := rfl
      have htk : ((mids a b).take k).length = k := by rw [List.length_take]; omega
      unfold rtC
      try simp (config := {implicitDefEqProofs := false}) only [avl1, avl2, avl3, avl4, avl5, if_true, if_false, beq_self_eq_true, ne_eq, reduceCtorEq, ↓reduceIte, Nat.reduceAdd, Nat.reduceLT, Nat.reduceEqDiff, Nat.reduceLeDiff, List.cons_ne_nil, iA, h1, h2, hx, hy, hw]
      repeat (first
        | (refine (hκ _).mpr ?_; clear hκ)
        | refine kn1 ?_
        | refine kr1 ?_
        | refine ke1 ?_
        | refine kn2 ?_
        | refine kr2 ?_
        | refine kx2 ?_
        | refine ke2 rfl ?_
        | refine kn3 ?_
        | refine kr3 ?_
        | refine ke3 ?_
        | refine w_seq ?_
        | refine w_block ?_
        | (refine aw_regk fun κ hκ => ?_; simp (config := {implicitDefEqProofs := false}) only [avl1, avl2, avl3, avl4, avl5, if_true, if_false, beq_self_eq_true, ne_eq, reduceCtorEq, ↓reduceIte, Nat.reduceAdd, Nat.reduceLT, Nat.reduceEqDiff, Nat.reduceLeDiff, List.cons_ne_nil, iA, h1, h2, hx, hy, hw])
        | refine aw_exit ?_
        | refine aw_ret ?_
        | refine aw_skip ?_
        | refine aw_label ?_
        | refine condc_t ?_
        | refine condc_f ?_)
      refine aw_if ⟨_, rfl, fun _ => ?_, fun h => by cases h⟩
      try simp (config := {implicitDefEqProofs := false}) only [avl1, avl2, avl3, avl4, avl5, if_true, if_false, beq_self_eq_true, ne_eq, reduceCtorEq, ↓reduceIte, Nat.reduceAdd, Nat.reduceLT, Nat.reduceEqDiff, Nat.reduceLeDiff, List.cons_ne_nil, iA, h1, h2, hx, hy, hw]
      repeat (first
        | (refine (hκ _).mpr ?_; clear hκ)
        | refine kn1 ?_
        | refine kr1 ?_
        | refine ke1 ?_
        | refine kn2 ?_
        | refine kr2 ?_
        | refine kx2 ?_
        | refine ke2 rfl ?_
        | refine kn3 ?_
        | refine kr3 ?_
        | refine ke3 ?_
        | refine w_seq ?_
        | refine w_block ?_
        | (refine aw_regk fun κ hκ => ?_; simp (config := {implicitDefEqProofs := false}) only [avl1, avl2, avl3, avl4, avl5, if_true, if_false, beq_self_eq_true, ne_eq, reduceCtorEq, ↓reduceIte, Nat.reduceAdd, Nat.reduceLT, Nat.reduceEqDiff, Nat.reduceLeDiff, List.cons_ne_nil, iA, h1, h2, hx, hy, hw])
        | refine aw_exit ?_
        | refine aw_ret ?_
        | refine aw_skip ?_
        | refine aw_label ?_
        | refine condc_t ?_
        | refine condc_f ?_)
      refine callc (less_ac _ _) rfl ?_
      have happ : 3 + k + 1 ≤ maxLen := by unfold maxLen; omega
      have hbyt : (3 + k + 1) * 8 ≤ 140737488355328 := by omega
      try simp (config := {implicitDefEqProofs := false}) only [avl1, avl2, avl3, avl4, avl5, if_true, if_false, beq_self_eq_true, ne_eq, reduceCtorEq, ↓reduceIte, Nat.reduceAdd, Nat.reduceLT, Nat.reduceEqDiff, Nat.reduceLeDiff, List.cons_ne_nil, hlen, htk, happ, hbyt, hw]
      repeat (first
        | (refine (hκ _).mpr ?_; clear hκ)
        | refine kn1 ?_
        | refine kr1 ?_
        | refine ke1 ?_
        | refine kn2 ?_
        | refine kr2 ?_
        | refine kx2 ?_
        | refine ke2 rfl ?_
        | refine kn3 ?_
        | refine kr3 ?_
        | refine ke3 ?_
        | refine w_seq ?_
        | refine w_block ?_
        | (refine aw_regk fun κ hκ => ?_; simp (config := {implicitDefEqProofs := false}) only [avl1, avl2, avl3, avl4, avl5, if_true, if_false, beq_self_eq_true, ne_eq, reduceCtorEq, ↓reduceIte, Nat.reduceAdd, Nat.reduceLT, Nat.reduceEqDiff, Nat.reduceLeDiff, List.cons_ne_nil, hlen, htk, happ, hbyt, hw])
        | refine aw_exit ?_
        | refine aw_ret ?_
        | refine aw_skip ?_
        | refine aw_label ?_
        | refine condc_t ?_
        | refine condc_f ?_)
      refine ⟨k + 1, by omega, ⟨rfl, 1, [], rfl, by simp, ⟨.same _ rfl, .same _ rfl, ?_, .same _ rfl, trivial⟩, ⟨rfl, ?_, rfl, ?_, trivial⟩⟩, by omega⟩
      · have e : List.map iA (heads a b) ++ List.map iA ((mids a b).take (k + 1)) = List.map iA (heads a b) ++ List.map iA (List.take k (mids a b)) ++ [AV.int IntKind.i64 (cmpI x y)] := by
          rw [mids_succ hx hy, List.map_append, List.append_assoc]
          rfl
        rw [e]
        exact .same _ (ok_app (by decide) (by simp [purL_append, purL_map_eq, purL, pur, iA, ← List.map_take]))
      · repeat (first
          | exact trivial
          | exact rfl
          | refine ⟨.same _ (by first | rfl | exact okBL_pur (purL_map fun _ => rfl)), ?_⟩
          | refine ⟨rfl, ?_⟩
          | refine ⟨?_, ?_⟩)
      · repeat (first
          | exact trivial
          | exact rfl
          | refine ⟨.same _ (by first | rfl | exact okBL_pur (purL_map fun _ => rfl)), ?_⟩
          | refine ⟨rfl, ?_⟩
          | refine ⟨?_, ?_⟩)
    · obtain rfl : k = (mids a b).length := by omega
      have hml : (mids a b).length = min a.as.length b.as.length := by simp [mids]
      rw [List.take_of_length_le (Nat.le_refl _)]
      have hno : ¬ ((mids a b).length < a.as.length ∧ (mids a b).length < b.as.length) := by omega
      have hk3 : (mids a b).length ≤ 1000 := by omega
      generalize hN : (mids a b).length = N at *
      have hlen : (heads a b).length = 3 := rfl
      unfold rtC
      have hN2 := hN
      have hlt2 : (tails a b).length = 3 := rfl
      have happ : 3 + N + 3 ≤ maxLen := by unfold maxLen; omega
      have hbyt : (3 + N + 3) * 8 ≤ 140737488355328 := by omega
      have hL : ∀ l, l = heads a b ++ mids a b ++ tails a b → l.length = 6 + N := by
        intro l e; subst e; simp [hlen, hlt2, hN2]; omega
      have hfst : ∀ l, l = heads a b ++ mids a b ++ tails a b → compareR a b = firstNZ l := by
        intro l e; subst e; exact compareR_first a b
      generalize hLe : heads a b ++ mids a b ++ tails a b = L at hL hfst
      have hL := hL L rfl
      have hfst := hfst L rfl
      have hb1 : N < a.as.length → ¬ N < b.as.length := by omega
      have hLm : L.map iA = List.map iA (heads a b) ++ List.map iA (mids a b) ++ [.int .i64 (cmpI a.hop b.hop), .int .i64 (cmpI a.otc b.otc), .int .i64 (cmpI a.frm b.frm)] := by
        rw [← hLe, List.map_append, List.map_append]; rfl
      have hpL : purL (L.map iA) = true := purL_map fun _ => rfl
      have hLk : (List.map iA (heads a b) ++ List.map iA (mids a b) ++ [AV.int .i64 (cmpI a.hop b.hop), .int .i64 (cmpI a.otc b.otc), .int .i64 (cmpI a.frm b.frm)]).length = 6 + N := by rw [← hLm, List.length_map]; exact hL
      by_cases ha1 : N < a.as.length
      · replace hb1 := hb1 ha1
        try simp (config := {implicitDefEqProofs := false}) only [avl1, avl2, avl3, avl4, avl5, if_true, if_false, beq_self_eq_true, ne_eq, reduceCtorEq, ↓reduceIte, Nat.reduceAdd, Nat.reduceLT, Nat.reduceEqDiff, Nat.reduceLeDiff, List.cons_ne_nil, ha1, hb1]
        repeat (first
          | (refine (hκ _).mpr ?_; clear hκ)
          | refine kn1 ?_
          | refine kr1 ?_
          | refine ke1 ?_
          | refine kn2 ?_
          | refine kr2 ?_
          | refine kx2 ?_
          | refine ke2 rfl ?_
          | refine kn3 ?_
          | refine kr3 ?_
          | refine ke3 ?_
          | refine w_seq ?_
          | refine w_block ?_
          | (refine aw_regk fun κ hκ => ?_; simp (config := {implicitDefEqProofs := false}) only [avl1, avl2, avl3, avl4, avl5, if_true, if_false, beq_self_eq_true, ne_eq, reduceCtorEq, ↓reduceIte, Nat.reduceAdd, Nat.reduceLT, Nat.reduceEqDiff, Nat.reduceLeDiff, List.cons_ne_nil, ha1, hb1])
          | refine aw_exit ?_
          | refine aw_ret ?_
          | refine aw_skip ?_
          | refine aw_label ?_
          | refine condc_t ?_
          | refine condc_f ?_)
        refine aw_if ⟨_, rfl, fun h => (by cases h), fun _ => ?_⟩
        try simp (config := {implicitDefEqProofs := false}) only [avl1, avl2, avl3, avl4, avl5, if_true, if_false, beq_self_eq_true, ne_eq, reduceCtorEq, ↓reduceIte, Nat.reduceAdd, Nat.reduceLT, Nat.reduceEqDiff, Nat.reduceLeDiff, List.cons_ne_nil]
        repeat (first
          | (refine (hκ _).mpr ?_; clear hκ)
          | refine kn1 ?_
          | refine kr1 ?_
          | refine ke1 ?_
          | refine kn2 ?_
          | refine kr2 ?_
          | refine kx2 ?_
          | refine ke2 rfl ?_
          | refine kn3 ?_
          | refine kr3 ?_
          | refine ke3 ?_
          | refine w_seq ?_
          | refine w_block ?_
          | (refine aw_regk fun κ hκ => ?_; simp (config := {implicitDefEqProofs := false}) only [avl1, avl2, avl3, avl4, avl5, if_true, if_false, beq_self_eq_true, ne_eq, reduceCtorEq, ↓reduceIte, Nat.reduceAdd, Nat.reduceLT, Nat.reduceEqDiff, Nat.reduceLeDiff, List.cons_ne_nil])
          | refine aw_exit ?_
          | refine aw_ret ?_
          | refine aw_skip ?_
          | refine aw_label ?_
          | refine condc_t ?_
          | refine condc_f ?_)
        refine callc (less_ac _ _) rfl ?_
        simp (config := {implicitDefEqProofs := false}) only [avl1, avl2, avl3, avl4, avl5, if_true, if_false, beq_self_eq_true, ne_eq, reduceCtorEq, ↓reduceIte, Nat.reduceAdd, Nat.reduceLT, Nat.reduceEqDiff, Nat.reduceLeDiff, List.cons_ne_nil]
        refine callc (less_ac _ _) rfl ?_
        simp (config := {implicitDefEqProofs := false}) only [avl1, avl2, avl3, avl4, avl5, if_true, if_false, beq_self_eq_true, ne_eq, reduceCtorEq, ↓reduceIte, Nat.reduceAdd, Nat.reduceLT, Nat.reduceEqDiff, Nat.reduceLeDiff, List.cons_ne_nil]
        refine callc (less_ac _ _) rfl ?_
        try simp (config := {implicitDefEqProofs := false}) only [avl1, avl2, avl3, avl4, avl5, if_true, if_false, beq_self_eq_true, ne_eq, reduceCtorEq, ↓reduceIte, Nat.reduceAdd, Nat.reduceLT, Nat.reduceEqDiff, Nat.reduceLeDiff, List.cons_ne_nil, hlen, hN2, happ, hbyt]
        repeat (first
          | (refine (hκ _).mpr ?_; clear hκ)
          | refine kn1 ?_
          | refine kr1 ?_
          | refine ke1 ?_
          | refine kn2 ?_
          | refine kr2 ?_
          | refine kx2 ?_
          | refine ke2 rfl ?_
          | refine kn3 ?_
          | refine kr3 ?_
          | refine ke3 ?_
          | refine w_seq ?_
          | refine w_block ?_
          | (refine aw_regk fun κ hκ => ?_; simp (config := {implicitDefEqProofs := false}) only [avl1, avl2, avl3, avl4, avl5, if_true, if_false, beq_self_eq_true, ne_eq, reduceCtorEq, ↓reduceIte, Nat.reduceAdd, Nat.reduceLT, Nat.reduceEqDiff, Nat.reduceLeDiff, List.cons_ne_nil, hlen, hN2, happ, hbyt])
          | refine aw_exit ?_
          | refine aw_ret ?_
          | refine aw_skip ?_
          | refine aw_label ?_
          | refine condc_t ?_
          | refine condc_f ?_)
        refine w_loop (fun k => k ≤ L.length ∧ ∀ j < k, L[j]? = some 0) (fun k => ⟨99, [(5, .slice (.app 0) 1 (L.map iA)), (7, .int .i64 k)], [(27, rtC a), (27, rtC b)], [(3, 3 + N + 3)]⟩) (fun k => L.length - k) 0 ⟨Nat.zero_le _, fun j hj => by omega⟩ ?_ ?_
        · refine ⟨rfl, 1, [], rfl, by simp, ⟨?_, .same _ rfl, trivial⟩, ⟨rfl, ?_, rfl, ?_, trivial⟩⟩
          · show WkA _ _ _ (.slice (.app 0) 1 (List.map iA (heads a b) ++ List.map iA (mids a b) ++ _)) _
            rw [hLm]
            exact .same _ (ok_app (by decide) (by rw [← hLm]; exact hpL))
          · repeat (first
              | exact trivial
              | exact rfl
              | refine ⟨.same _ (by first | rfl | exact okBL_pur (purL_map fun _ => rfl)), ?_⟩
              | refine ⟨rfl, ?_⟩
              | refine ⟨?_, ?_⟩)
          · repeat (first
              | exact trivial
              | exact rfl
              | refine ⟨.same _ (by first | rfl | exact okBL_pur (purL_map fun _ => rfl)), ?_⟩
              | refine ⟨rfl, ?_⟩
              | refine ⟨?_, ?_⟩)
        · intro k ⟨hk, hz⟩
          have hw : IntKind.i64.wrap ((k : Int) + 1) = ((k + 1 : Nat) : Int) := by rw [wrap64 (by omega) (by omega)]; omega
          by_cases hlt : k < L.length
          · obtain ⟨x, hx⟩ : ∃ x, L[k]? = some x := ⟨_, List.getElem?_eq_getElem hlt⟩
            try simp (config := {implicitDefEqProofs := false}) only [avl1, avl2, avl3, avl4, avl5, if_true, if_false, beq_self_eq_true, ne_eq, reduceCtorEq, ↓reduceIte, Nat.reduceAdd, Nat.reduceLT, Nat.reduceEqDiff, Nat.reduceLeDiff, List.cons_ne_nil, iA, hlt, hx]
            repeat (first
              | (refine (hκ _).mpr ?_; clear hκ)
              | refine kn1 ?_
              | refine kr1 ?_
              | refine ke1 ?_
              | refine kn2 ?_
              | refine kr2 ?_
              | refine kx2 ?_
              | refine ke2 rfl ?_
              | refine kn3 ?_
              | refine kr3 ?_
              | refine ke3 ?_
              | refine w_seq ?_
              | refine w_block ?_
              | (refine aw_regk fun κ hκ => ?_; simp (config := {implicitDefEqProofs := false}) only [avl1, avl2, avl3, avl4, avl5, if_true, if_false, beq_self_eq_true, ne_eq, reduceCtorEq, ↓reduceIte, Nat.reduceAdd, Nat.reduceLT, Nat.reduceEqDiff, Nat.reduceLeDiff, List.cons_ne_nil, iA, hlt, hx])
              | refine aw_exit ?_
              | refine aw_ret ?_
              | refine aw_skip ?_
              | refine aw_label ?_
              | refine condc_t ?_
              | refine condc_f ?_)
            refine aw_if ⟨_, rfl, fun _ => ?_, fun h => by cases h⟩
            try simp (config := {implicitDefEqProofs := false}) only [avl1, avl2, avl3, avl4, avl5, if_true, if_false, beq_self_eq_true, ne_eq, reduceCtorEq, ↓reduceIte, Nat.reduceAdd, Nat.reduceLT, Nat.reduceEqDiff, Nat.reduceLeDiff, List.cons_ne_nil, iA, hlt, hx]
            repeat (first
              | (refine (hκ _).mpr ?_; clear hκ)
              | refine kn1 ?_
              | refine kr1 ?_
              | refine ke1 ?_
              | refine kn2 ?_
              | refine kr2 ?_
              | refine kx2 ?_
              | refine ke2 rfl ?_
              | refine kn3 ?_
              | refine kr3 ?_
              | refine ke3 ?_
              | refine w_seq ?_
              | refine w_block ?_
              | (refine aw_regk fun κ hκ => ?_; simp (config := {implicitDefEqProofs := false}) only [avl1, avl2, avl3, avl4, avl5, if_true, if_false, beq_self_eq_true, ne_eq, reduceCtorEq, ↓reduceIte, Nat.reduceAdd, Nat.reduceLT, Nat.reduceEqDiff, Nat.reduceLeDiff, List.cons_ne_nil, iA, hlt, hx])
              | refine aw_exit ?_
              | refine aw_ret ?_
              | refine aw_skip ?_
              | refine aw_label ?_
              | refine condc_t ?_
              | refine condc_f ?_)
            refine aw_if ⟨_, rfl, ?_, ?_⟩ <;> intro h <;> simp at h
            · try simp (config := {implicitDefEqProofs := false}) only [avl1, avl2, avl3, avl4, avl5, if_true, if_false, beq_self_eq_true, ne_eq, reduceCtorEq, ↓reduceIte, Nat.reduceAdd, Nat.reduceLT, Nat.reduceEqDiff, Nat.reduceLeDiff, List.cons_ne_nil, iA, hlt, hx]
              repeat (first
                | (refine (hκ _).mpr ?_; clear hκ)
                | refine kn1 ?_
                | refine kr1 ?_
                | refine ke1 ?_
                | refine kn2 ?_
                | refine kr2 ?_
                | refine kx2 ?_
                | refine ke2 rfl ?_
                | refine kn3 ?_
                | refine kr3 ?_
                | refine ke3 ?_
                | refine w_seq ?_
                | refine w_block ?_
                | (refine aw_regk fun κ hκ => ?_; simp (config := {implicitDefEqProofs := false}) only [avl1, avl2, avl3, avl4, avl5, if_true, if_false, beq_self_eq_true, ne_eq, reduceCtorEq, ↓reduceIte, Nat.reduceAdd, Nat.reduceLT, Nat.reduceEqDiff, Nat.reduceLeDiff, List.cons_ne_nil, iA, hlt, hx])
                | refine aw_exit ?_
                | refine aw_ret ?_
                | refine aw_skip ?_
                | refine aw_label ?_
                | refine condc_t ?_
                | refine condc_f ?_)
              refine ret1 (.inr rfl) ?_ rfl
              have e : compareR a b = x := by
                rw [hfst, firstNZ_zero hz, List.drop_eq_getElem_cons hlt]
                rw [List.getElem?_eq_getElem hlt] at hx
                simp only [Option.some.injEq] at hx
                simp [firstNZ, hx, h]
              simp [resL, resOf, St.get, getT, e]
            · try simp (config := {implicitDefEqProofs := false}) only [avl1, avl2, avl3, avl4, avl5, if_true, if_false, beq_self_eq_true, ne_eq, reduceCtorEq, ↓reduceIte, Nat.reduceAdd, Nat.reduceLT, Nat.reduceEqDiff, Nat.reduceLeDiff, List.cons_ne_nil, iA, hlt, hx, hw]
              repeat (first
                | (refine (hκ _).mpr ?_; clear hκ)
                | refine kn1 ?_
                | refine kr1 ?_
                | refine ke1 ?_
                | refine kn2 ?_
                | refine kr2 ?_
                | refine kx2 ?_
                | refine ke2 rfl ?_
                | refine kn3 ?_
                | refine kr3 ?_
                | refine ke3 ?_
                | refine w_seq ?_
                | refine w_block ?_
                | (refine aw_regk fun κ hκ => ?_; simp (config := {implicitDefEqProofs := false}) only [avl1, avl2, avl3, avl4, avl5, if_true, if_false, beq_self_eq_true, ne_eq, reduceCtorEq, ↓reduceIte, Nat.reduceAdd, Nat.reduceLT, Nat.reduceEqDiff, Nat.reduceLeDiff, List.cons_ne_nil, iA, hlt, hx, hw])
                | refine aw_exit ?_
                | refine aw_ret ?_
                | refine aw_skip ?_
                | refine aw_label ?_
                | refine condc_t ?_
                | refine condc_f ?_)
              refine ⟨k + 1, ⟨by omega, ?_⟩, ⟨rfl, 1, [], rfl, by simp, ⟨.same _ ?_, .same _ rfl, trivial⟩, ⟨rfl, ?_, rfl, ?_, trivial⟩⟩, by omega⟩
              · intro j hj
                rcases Nat.lt_or_ge j k with h1 | h1
                · exact hz j h1
                · obtain rfl : j = k := by omega
                  rw [hx, h]
              · exact ok_app (by decide) hpL
              · repeat (first
                  | exact trivial
                  | exact rfl
                  | refine ⟨.same _ (by first | rfl | exact okBL_pur (purL_map fun _ => rfl)), ?_⟩
                  | refine ⟨rfl, ?_⟩
                  | refine ⟨?_, ?_⟩)
              · repeat (first
                  | exact trivial
                  | exact rfl
                  | refine ⟨.same _ (by first | rfl | exact okBL_pur (purL_map fun _ => rfl)), ?_⟩
                  | refine ⟨rfl, ?_⟩
                  | refine ⟨?_, ?_⟩)
          · obtain rfl : k = L.length := by omega
            try simp (config := {implicitDefEqProofs := false}) only [avl1, avl2, avl3, avl4, avl5, if_true, if_false, beq_self_eq_true, ne_eq, reduceCtorEq, ↓reduceIte, Nat.reduceAdd, Nat.reduceLT, Nat.reduceEqDiff, Nat.reduceLeDiff, List.cons_ne_nil, Nat.lt_irrefl]
            repeat (first
              | (refine (hκ _).mpr ?_; clear hκ)
              | refine kn1 ?_
              | refine kr1 ?_
              | refine ke1 ?_
              | refine kn2 ?_
              | refine kr2 ?_
              | refine kx2 ?_
              | refine ke2 rfl ?_
              | refine kn3 ?_
              | refine kr3 ?_
              | refine ke3 ?_
              | refine w_seq ?_
              | refine w_block ?_
              | (refine aw_regk fun κ hκ => ?_; simp (config := {implicitDefEqProofs := false}) only [avl1, avl2, avl3, avl4, avl5, if_true, if_false, beq_self_eq_true, ne_eq, reduceCtorEq, ↓reduceIte, Nat.reduceAdd, Nat.reduceLT, Nat.reduceEqDiff, Nat.reduceLeDiff, List.cons_ne_nil, Nat.lt_irrefl])
              | refine aw_exit ?_
              | refine aw_ret ?_
              | refine aw_skip ?_
              | refine aw_label ?_
              | refine condc_t ?_
              | refine condc_f ?_)
            refine aw_if ⟨_, rfl, fun h => (by cases h), fun _ => ?_⟩
            try simp (config := {implicitDefEqProofs := false}) only [avl1, avl2, avl3, avl4, avl5, if_true, if_false, beq_self_eq_true, ne_eq, reduceCtorEq, ↓reduceIte, Nat.reduceAdd, Nat.reduceLT, Nat.reduceEqDiff, Nat.reduceLeDiff, List.cons_ne_nil]
            repeat (first
              | (refine (hκ _).mpr ?_; clear hκ)
              | refine kn1 ?_
              | refine kr1 ?_
              | refine ke1 ?_
              | refine kn2 ?_
              | refine kr2 ?_
              | refine kx2 ?_
              | refine ke2 rfl ?_
              | refine kn3 ?_
              | refine kr3 ?_
              | refine ke3 ?_
              | refine w_seq ?_
              | refine w_block ?_
              | (refine aw_regk fun κ hκ => ?_; simp (config := {implicitDefEqProofs := false}) only [avl1, avl2, avl3, avl4, avl5, if_true, if_false, beq_self_eq_true, ne_eq, reduceCtorEq, ↓reduceIte, Nat.reduceAdd, Nat.reduceLT, Nat.reduceEqDiff, Nat.reduceLeDiff, List.cons_ne_nil])
              | refine aw_exit ?_
              | refine aw_ret ?_
              | refine aw_skip ?_
              | refine aw_label ?_
              | refine condc_t ?_
              | refine condc_f ?_)
            refine ret1 (.inr rfl) ?_ rfl
            have e : compareR a b = 0 := by
              rw [hfst, firstNZ_zero hz, List.drop_length]; rfl
            simp [resL, resOf, St.get, getT, e]
      · clear hb1
        try simp (config := {implicitDefEqProofs := false}) only [avl1, avl2, avl3, avl4, avl5, if_true, if_false, beq_self_eq_true, ne_eq, reduceCtorEq, ↓reduceIte, Nat.reduceAdd, Nat.reduceLT, Nat.reduceEqDiff, Nat.reduceLeDiff, List.cons_ne_nil, ha1]
        repeat (first
          | (refine (hκ _).mpr ?_; clear hκ)
          | refine kn1 ?_
          | refine kr1 ?_
          | refine ke1 ?_
          | refine kn2 ?_
          | refine kr2 ?_
          | refine kx2 ?_
          | refine ke2 rfl ?_
          | refine kn3 ?_
          | refine kr3 ?_
          | refine ke3 ?_
          | refine w_seq ?_
          | refine w_block ?_
          | (refine aw_regk fun κ hκ => ?_; simp (config := {implicitDefEqProofs := false}) only [avl1, avl2, avl3, avl4, avl5, if_true, if_false, beq_self_eq_true, ne_eq, reduceCtorEq, ↓reduceIte, Nat.reduceAdd, Nat.reduceLT, Nat.reduceEqDiff, Nat.reduceLeDiff, List.cons_ne_nil, ha1])
          | refine aw_exit ?_
          | refine aw_ret ?_
          | refine aw_skip ?_
          | refine aw_label ?_
          | refine condc_t ?_
          | refine condc_f ?_)
        refine aw_if ⟨_, rfl, fun h => (by cases h), fun _ => ?_⟩
        try simp (config := {implicitDefEqProofs := false}) only [avl1, avl2, avl3, avl4, avl5, if_true, if_false, beq_self_eq_true, ne_eq, reduceCtorEq, ↓reduceIte, Nat.reduceAdd, Nat.reduceLT, Nat.reduceEqDiff, Nat.reduceLeDiff, List.cons_ne_nil]
        repeat (first
          | (refine (hκ _).mpr ?_; clear hκ)
          | refine kn1 ?_
          | refine kr1 ?_
          | refine ke1 ?_
          | refine kn2 ?_
          | refine kr2 ?_
          | refine kx2 ?_
          | refine ke2 rfl ?_
          | refine kn3 ?_
          | refine kr3 ?_
          | refine ke3 ?_
          | refine w_seq ?_
          | refine w_block ?_
          | (refine aw_regk fun κ hκ => ?_; simp (config := {implicitDefEqProofs := false}) only [avl1, avl2, avl3, avl4, avl5, if_true, if_false, beq_self_eq_true, ne_eq, reduceCtorEq, ↓reduceIte, Nat.reduceAdd, Nat.reduceLT, Nat.reduceEqDiff, Nat.reduceLeDiff, List.cons_ne_nil])
          | refine aw_exit ?_
          | refine aw_ret ?_
          | refine aw_skip ?_
          | refine aw_label ?_
          | refine condc_t ?_
          | refine condc_f ?_)
        refine callc (less_ac _ _) rfl ?_
        simp (config := {implicitDefEqProofs := false}) only [avl1, avl2, avl3, avl4, avl5, if_true, if_false, beq_self_eq_true, ne_eq, reduceCtorEq, ↓reduceIte, Nat.reduceAdd, Nat.reduceLT, Nat.reduceEqDiff, Nat.reduceLeDiff, List.cons_ne_nil]
        refine callc (less_ac _ _) rfl ?_
        simp (config := {implicitDefEqProofs := false}) only [avl1, avl2, avl3, avl4, avl5, if_true, if_false, beq_self_eq_true, ne_eq, reduceCtorEq, ↓reduceIte, Nat.reduceAdd, Nat.reduceLT, Nat.reduceEqDiff, Nat.reduceLeDiff, List.cons_ne_nil]
        refine callc (less_ac _ _) rfl ?_
        try simp (config := {implicitDefEqProofs := false}) only [avl1, avl2, avl3, avl4, avl5, if_true, if_false, beq_self_eq_true, ne_eq, reduceCtorEq, ↓reduceIte, Nat.reduceAdd, Nat.reduceLT, Nat.reduceEqDiff, Nat.reduceLeDiff, List.cons_ne_nil, hlen, hN2, happ, hbyt]
        repeat (first
          | (refine (hκ _).mpr ?_; clear hκ)
          | refine kn1 ?_
          | refine kr1 ?_
          | refine ke1 ?_
          | refine kn2 ?_
          | refine kr2 ?_
          | refine kx2 ?_
          | refine ke2 rfl ?_
          | refine kn3 ?_
          | refine kr3 ?_
          | refine ke3 ?_
          | refine w_seq ?_
          | refine w_block ?_
          | (refine aw_regk fun κ hκ => ?_; simp (config := {implicitDefEqProofs := false}) only [avl1, avl2, avl3, avl4, avl5, if_true, if_false, beq_self_eq_true, ne_eq, reduceCtorEq, ↓reduceIte, Nat.reduceAdd, Nat.reduceLT, Nat.reduceEqDiff, Nat.reduceLeDiff, List.cons_ne_nil, hlen, hN2, happ, hbyt])
          | refine aw_exit ?_
          | refine aw_ret ?_
          | refine aw_skip ?_
          | refine aw_label ?_
          | refine condc_t ?_
          | refine condc_f ?_)
        refine w_loop (fun k => k ≤ L.length ∧ ∀ j < k, L[j]? = some 0) (fun k => ⟨99, [(5, .slice (.app 0) 1 (L.map iA)), (7, .int .i64 k)], [(27, rtC a), (27, rtC b)], [(3, 3 + N + 3)]⟩) (fun k => L.length - k) 0 ⟨Nat.zero_le _, fun j hj => by omega⟩ ?_ ?_
        · refine ⟨rfl, 1, [], rfl, by simp, ⟨?_, .same _ rfl, trivial⟩, ⟨rfl, ?_, rfl, ?_, trivial⟩⟩
          · show WkA _ _ _ (.slice (.app 0) 1 (List.map iA (heads a b) ++ List.map iA (mids a b) ++ _)) _
            rw [hLm]
            exact .same _ (ok_app (by decide) (by rw [← hLm]; exact hpL))
          · repeat (first
              | exact trivial
              | exact rfl
              | refine ⟨.same _ (by first | rfl | exact okBL_pur (purL_map fun _ => rfl)), ?_⟩
              | refine ⟨rfl, ?_⟩
              | refine ⟨?_, ?_⟩)
          · repeat (first
              | exact trivial
              | exact rfl
              | refine ⟨.same _ (by first | rfl | exact okBL_pur (purL_map fun _ => rfl)), ?_⟩
              | refine ⟨rfl, ?_⟩
              | refine ⟨?_, ?_⟩)
        · intro k ⟨hk, hz⟩
          have hw : IntKind.i64.wrap ((k : Int) + 1) = ((k + 1 : Nat) : Int) := by rw [wrap64 (by omega) (by omega)]; omega
          by_cases hlt : k < L.length
          · obtain ⟨x, hx⟩ : ∃ x, L[k]? = some x := ⟨_, List.getElem?_eq_getElem hlt⟩
            try simp (config := {implicitDefEqProofs := false}) only [avl1, avl2, avl3, avl4, avl5, if_true, if_false, beq_self_eq_true, ne_eq, reduceCtorEq, ↓reduceIte, Nat.reduceAdd, Nat.reduceLT, Nat.reduceEqDiff, Nat.reduceLeDiff, List.cons_ne_nil, iA, hlt, hx]
            repeat (first
              | (refine (hκ _).mpr ?_; clear hκ)
              | refine kn1 ?_
              | refine kr1 ?_
              | refine ke1 ?_
              | refine kn2 ?_
              | refine kr2 ?_
              | refine kx2 ?_
              | refine ke2 rfl ?_
              | refine kn3 ?_
              | refine kr3 ?_
              | refine ke3 ?_
              | refine w_seq ?_
              | refine w_block ?_
              | (refine aw_regk fun κ hκ => ?_; simp (config := {implicitDefEqProofs := false}) only [avl1, avl2, avl3, avl4, avl5, if_true, if_false, beq_self_eq_true, ne_eq, reduceCtorEq, ↓reduceIte, Nat.reduceAdd, Nat.reduceLT, Nat.reduceEqDiff, Nat.reduceLeDiff, List.cons_ne_nil, iA, hlt, hx])
              | refine aw_exit ?_
              | refine aw_ret ?_
              | refine aw_skip ?_
              | refine aw_label ?_
              | refine condc_t ?_
              | refine condc_f ?_)
            refine aw_if ⟨_, rfl, fun _ => ?_, fun h => by cases h⟩
            try simp (config := {implicitDefEqProofs := false}) only [avl1, avl2, avl3, avl4, avl5, if_true, if_false, beq_self_eq_true, ne_eq, reduceCtorEq, ↓reduceIte, Nat.reduceAdd, Nat.reduceLT, Nat.reduceEqDiff, Nat.reduceLeDiff, List.cons_ne_nil, iA, hlt, hx]
            repeat (first
              | (refine (hκ _).mpr ?_; clear hκ)
              | refine kn1 ?_
              | refine kr1 ?_
              | refine ke1 ?_
              | refine kn2 ?_
              | refine kr2 ?_
              | refine kx2 ?_
              | refine ke2 rfl ?_
              | refine kn3 ?_
              | refine kr3 ?_
              | refine ke3 ?_
              | refine w_seq ?_
              | refine w_block ?_
              | (refine aw_regk fun κ hκ => ?_; simp (config := {implicitDefEqProofs := false}) only [avl1, avl2, avl3, avl4, avl5, if_true, if_false, beq_self_eq_true, ne_eq, reduceCtorEq, ↓reduceIte, Nat.reduceAdd, Nat.reduceLT, Nat.reduceEqDiff, Nat.reduceLeDiff, List.cons_ne_nil, iA, hlt, hx])
              | refine aw_exit ?_
              | refine aw_ret ?_
              | refine aw_skip ?_
              | refine aw_label ?_
              | refine condc_t ?_
              | refine condc_f ?_)
            refine aw_if ⟨_, rfl, ?_, ?_⟩ <;> intro h <;> simp at h
            · try simp (config := {implicitDefEqProofs := false}) only [avl1, avl2, avl3, avl4, avl5, if_true, if_false, beq_self_eq_true, ne_eq, reduceCtorEq, ↓reduceIte, Nat.reduceAdd, Nat.reduceLT, Nat.reduceEqDiff, Nat.reduceLeDiff, List.cons_ne_nil, iA, hlt, hx]
              repeat (first
                | (refine (hκ _).mpr ?_; clear hκ)
                | refine kn1 ?_
                | refine kr1 ?_
                | refine ke1 ?_
                | refine kn2 ?_
                | refine kr2 ?_
                | refine kx2 ?_
                | refine ke2 rfl ?_
                | refine kn3 ?_
                | refine kr3 ?_
                | refine ke3 ?_
                | refine w_seq ?_
                | refine w_block ?_
                | (refine aw_regk fun κ hκ => ?_; simp (config := {implicitDefEqProofs := false}) only [avl1, avl2, avl3, avl4, avl5, if_true, if_false, beq_self_eq_true, ne_eq, reduceCtorEq, ↓reduceIte, Nat.reduceAdd, Nat.reduceLT, Nat.reduceEqDiff, Nat.reduceLeDiff, List.cons_ne_nil, iA, hlt, hx])
                | refine aw_exit ?_
                | refine aw_ret ?_
                | refine aw_skip ?_
                | refine aw_label ?_
                | refine condc_t ?_
                | refine condc_f ?_)
              refine ret1 (.inr rfl) ?_ rfl
              have e : compareR a b = x := by
                rw [hfst, firstNZ_zero hz, List.drop_eq_getElem_cons hlt]
                rw [List.getElem?_eq_getElem hlt] at hx
                simp only [Option.some.injEq] at hx
                simp [firstNZ, hx, h]
              simp [resL, resOf, St.get, getT, e]
            · try simp (config := {implicitDefEqProofs := false}) only [avl1, avl2, avl3, avl4, avl5, if_true, if_false, beq_self_eq_true, ne_eq, reduceCtorEq, ↓reduceIte, Nat.reduceAdd, Nat.reduceLT, Nat.reduceEqDiff, Nat.reduceLeDiff, List.cons_ne_nil, iA, hlt, hx, hw]
              repeat (first
                | (refine (hκ _).mpr ?_; clear hκ)
                | refine kn1 ?_
                | refine kr1 ?_
                | refine ke1 ?_
                | refine kn2 ?_
                | refine kr2 ?_
                | refine kx2 ?_
                | refine ke2 rfl ?_
                | refine kn3 ?_
                | refine kr3 ?_
                | refine ke3 ?_
                | refine w_seq ?_
                | refine w_block ?_
                | (refine aw_regk fun κ hκ => ?_; simp (config := {implicitDefEqProofs := false}) only [avl1, avl2, avl3, avl4, avl5, if_true, if_false, beq_self_eq_true, ne_eq, reduceCtorEq, ↓reduceIte, Nat.reduceAdd, Nat.reduceLT, Nat.reduceEqDiff, Nat.reduceLeDiff, List.cons_ne_nil, iA, hlt, hx, hw])
                | refine aw_exit ?_
                | refine aw_ret ?_
                | refine aw_skip ?_
                | refine aw_label ?_
                | refine condc_t ?_
                | refine condc_f ?_)
              refine ⟨k + 1, ⟨by omega, ?_⟩, ⟨rfl, 1, [], rfl, by simp, ⟨.same _ ?_, .same _ rfl, trivial⟩, ⟨rfl, ?_, rfl, ?_, trivial⟩⟩, by omega⟩
              · intro j hj
                rcases Nat.lt_or_ge j k with h1 | h1
                · exact hz j h1
                · obtain rfl : j = k := by omega
                  rw [hx, h]
              · exact ok_app (by decide) hpL
              · repeat (first
                  | exact trivial
                  | exact rfl
                  | refine ⟨.same _ (by first | rfl | exact okBL_pur (purL_map fun _ => rfl)), ?_⟩
                  | refine ⟨rfl, ?_⟩
                  | refine ⟨?_, ?_⟩)
              · repeat (first
                  | exact trivial
                  | exact rfl
                  | refine ⟨.same _ (by first | rfl | exact okBL_pur (purL_map fun _ => rfl)), ?_⟩
                  | refine ⟨rfl, ?_⟩
                  | refine ⟨?_, ?_⟩)
          · obtain rfl : k = L.length := by omega
            try simp (config := {implicitDefEqProofs := false}) only [avl1, avl2, avl3, avl4, avl5, if_true, if_false, beq_self_eq_true, ne_eq, reduceCtorEq, ↓reduceIte, Nat.reduceAdd, Nat.reduceLT, Nat.reduceEqDiff, Nat.reduceLeDiff, List.cons_ne_nil, Nat.lt_irrefl]
            repeat (first
              | (refine (hκ _).mpr ?_; clear hκ)
              | refine kn1 ?_
              | refine kr1 ?_
              | refine ke1 ?_
              | refine kn2 ?_
              | refine kr2 ?_
              | refine kx2 ?_
              | refine ke2 rfl ?_
              | refine kn3 ?_
              | refine kr3 ?_
              | refine ke3 ?_
              | refine w_seq ?_
              | refine w_block ?_
              | (refine aw_regk fun κ hκ => ?_; simp (config := {implicitDefEqProofs := false}) only [avl1, avl2, avl3, avl4, avl5, if_true, if_false, beq_self_eq_true, ne_eq, reduceCtorEq, ↓reduceIte, Nat.reduceAdd, Nat.reduceLT, Nat.reduceEqDiff, Nat.reduceLeDiff, List.cons_ne_nil, Nat.lt_irrefl])
              | refine aw_exit ?_
              | refine aw_ret ?_
              | refine aw_skip ?_
              | refine aw_label ?_
              | refine condc_t ?_
              | refine condc_f ?_)
            refine aw_if ⟨_, rfl, fun h => (by cases h), fun _ => ?_⟩
            try simp (config := {implicitDefEqProofs := false}) only [avl1, avl2, avl3, avl4, avl5, if_true, if_false, beq_self_eq_true, ne_eq, reduceCtorEq, ↓reduceIte, Nat.reduceAdd, Nat.reduceLT, Nat.reduceEqDiff, Nat.reduceLeDiff, List.cons_ne_nil]
            repeat (first
              | (refine (hκ _).mpr ?_; clear hκ)
              | refine kn1 ?_
              | refine kr1 ?_
              | refine ke1 ?_
              | refine kn2 ?_
              | refine kr2 ?_
              | refine kx2 ?_
              | refine ke2 rfl ?_
              | refine kn3 ?_
              | refine kr3 ?_
              | refine ke3 ?_
              | refine w_seq ?_
              | refine w_block ?_
              | (refine aw_regk fun κ hκ => ?_; simp (config := {implicitDefEqProofs := false}) only [avl1, avl2, avl3, avl4, avl5, if_true, if_false, beq_self_eq_true, ne_eq, reduceCtorEq, ↓reduceIte, Nat.reduceAdd, Nat.reduceLT, Nat.reduceEqDiff, Nat.reduceLeDiff, List.cons_ne_nil])
              | refine aw_exit ?_
              | refine aw_ret ?_
              | refine aw_skip ?_
              | refine aw_label ?_
              | refine condc_t ?_
              | refine condc_f ?_)
            refine ret1 (.inr rfl) ?_ rfl
            have e : compareR a b = 0 := by
              rw [hfst, firstNZ_zero hz, List.drop_length]; rfl
            simp [resL, resOf, St.get, getT, e]
end Go.Proofs.Ytmlhbmlppgoklac
