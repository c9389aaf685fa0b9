/- What the reference takes for the same; RouteIs over plain values. -/
import Derived.Test.YtmlhbmlppgoklacRc7
import Derived.Test.YtmlhbmlppgoklacAwk
namespace Go.Proofs.Ytmlhbmlppgoklac
open Go.RowKit
set_option maxHeartbeats 4000000
set_option maxRecDepth 100000
set_option linter.unusedSimpArgs false
set_option linter.unusedVariables false

def pathB (a b : Rt) : Bool := decide (a.origin = b.origin ∧ a.hop = b.hop ∧ a.otc = b.otc ∧ a.as = b.as)
theorem spath_ac (a b : Rt) (hn : a.as.length ≤ 1000000) : ACt Try.prog 28 [paA a, paA b] (.bool (pathB a b)) [] := by
  refine act_of p_ridgewayref07_SamePath (by simp [c_ridgewayref07_SamePath]) ?_
  show AW _ b_ridgewayref07_SamePath (RetOk [.tmp 4] _ _) ⟨52, [(0, _), (1, _)], [], []⟩
  unfold b_ridgewayref07_SamePath paA paC
  generalize hB : pathB a b = B
  have hBi : B = true ↔ (a.origin = b.origin ∧ a.hop = b.hop ∧ a.otc = b.otc ∧ a.as = b.as) := by rw [← hB]; unfold pathB; exact decide_eq_true_iff
  by_cases h1 : a.origin = b.origin
  rotate_left
  · try simp (config := {implicitDefEqProofs := false}) only [avl1, avl2, avl3, avl4, avl5, if_true, if_false, beq_self_eq_true, ne_eq, reduceCtorEq, ↓reduceIte, Nat.reduceAdd, Nat.reduceLT, Nat.reduceEqDiff, Nat.reduceLeDiff, List.cons_ne_nil, h1, not_false_eq_true]
    repeat' (first
      | (refine (hκ _).mpr ?_; clear hκ)
      | refine kn1 ?_
      | refine kr1 ?_
      | refine ke1 ?_
      | refine kn2 ?_
      | refine kr2 ?_
      | refine kx2 ?_
      | refine ke2 rfl ?_
      | refine kn3 ?_
      | refine kr3 ?_
      | refine ke3 ?_
      | refine w_seq ?_
      | refine w_block ?_
      | (refine aw_regk fun κ hκ => ?_; simp (config := {implicitDefEqProofs := false}) only [avl1, avl2, avl3, avl4, avl5, if_true, if_false, beq_self_eq_true, ne_eq, reduceCtorEq, ↓reduceIte, Nat.reduceAdd, Nat.reduceLT, Nat.reduceEqDiff, Nat.reduceLeDiff, List.cons_ne_nil, h1, not_false_eq_true])
      | refine aw_exit ?_
      | refine aw_ret ?_
      | refine aw_skip ?_
      | refine aw_label ?_
      | refine condc_t ?_
      | refine condc_f ?_
      | (refine aw_cond2 (by simp (config := {implicitDefEqProofs := false}) only [avl1, avl2, avl3, avl4, avl5, if_true, if_false, beq_self_eq_true, ne_eq, reduceCtorEq, ↓reduceIte, Nat.reduceAdd, Nat.reduceLT, Nat.reduceEqDiff, Nat.reduceLeDiff, List.cons_ne_nil, h1, not_false_eq_true]; rfl) ?_)
      | (refine gkc_fork ?_ ?_ <;> intro hq <;> (simp (config := {implicitDefEqProofs := false}) only [hq, avl1, avl2, avl3, avl4, avl5, if_true, if_false, beq_self_eq_true, ne_eq, reduceCtorEq, ↓reduceIte, Nat.reduceAdd, Nat.reduceLT, Nat.reduceEqDiff, Nat.reduceLeDiff, List.cons_ne_nil, h1, not_false_eq_true]))
      | (refine condc_fork ?_ ?_ <;> intro hq)
      | (refine gkc_split ?_ ?_ <;> intro hq <;> (simp (config := {implicitDefEqProofs := false}) only [hq, avl1, avl2, avl3, avl4, avl5, if_true, if_false, beq_self_eq_true, ne_eq, reduceCtorEq, ↓reduceIte, Nat.reduceAdd, Nat.reduceLT, Nat.reduceEqDiff, Nat.reduceLeDiff, List.cons_ne_nil, h1, not_false_eq_true]))
      | (refine condc_bool ?_ ?_ <;> intro hq))
    exact ret_bool rfl (by symm; rw [Bool.eq_false_iff]; intro h; exact h1 (hBi.1 h).1)
  by_cases h2 : a.hop = b.hop
  rotate_left
  · try simp (config := {implicitDefEqProofs := false}) only [avl1, avl2, avl3, avl4, avl5, if_true, if_false, beq_self_eq_true, ne_eq, reduceCtorEq, ↓reduceIte, Nat.reduceAdd, Nat.reduceLT, Nat.reduceEqDiff, Nat.reduceLeDiff, List.cons_ne_nil, h1, h2, eq_self, not_true_eq_false, not_false_eq_true]
    repeat' (first
      | (refine (hκ _).mpr ?_; clear hκ)
      | refine kn1 ?_
      | refine kr1 ?_
      | refine ke1 ?_
      | refine kn2 ?_
      | refine kr2 ?_
      | refine kx2 ?_
      | refine ke2 rfl ?_
      | refine kn3 ?_
      | refine kr3 ?_
      | refine ke3 ?_
      | refine w_seq ?_
      | refine w_block ?_
      | (refine aw_regk fun κ hκ => ?_; simp (config := {implicitDefEqProofs := false}) only [avl1, avl2, avl3, avl4, avl5, if_true, if_false, beq_self_eq_true, ne_eq, reduceCtorEq, ↓reduceIte, Nat.reduceAdd, Nat.reduceLT, Nat.reduceEqDiff, Nat.reduceLeDiff, List.cons_ne_nil, h1, h2, eq_self, not_true_eq_false, not_false_eq_true])
      | refine aw_exit ?_
      | refine aw_ret ?_
      | refine aw_skip ?_
      | refine aw_label ?_
      | refine condc_t ?_
      | refine condc_f ?_
      | (refine aw_cond2 (by simp (config := {implicitDefEqProofs := false}) only [avl1, avl2, avl3, avl4, avl5, if_true, if_false, beq_self_eq_true, ne_eq, reduceCtorEq, ↓reduceIte, Nat.reduceAdd, Nat.reduceLT, Nat.reduceEqDiff, Nat.reduceLeDiff, List.cons_ne_nil, h1, h2, eq_self, not_true_eq_false, not_false_eq_true]; rfl) ?_)
      | (refine gkc_fork ?_ ?_ <;> intro hq <;> (simp (config := {implicitDefEqProofs := false}) only [hq, avl1, avl2, avl3, avl4, avl5, if_true, if_false, beq_self_eq_true, ne_eq, reduceCtorEq, ↓reduceIte, Nat.reduceAdd, Nat.reduceLT, Nat.reduceEqDiff, Nat.reduceLeDiff, List.cons_ne_nil, h1, h2, eq_self, not_true_eq_false, not_false_eq_true]))
      | (refine condc_fork ?_ ?_ <;> intro hq)
      | (refine gkc_split ?_ ?_ <;> intro hq <;> (simp (config := {implicitDefEqProofs := false}) only [hq, avl1, avl2, avl3, avl4, avl5, if_true, if_false, beq_self_eq_true, ne_eq, reduceCtorEq, ↓reduceIte, Nat.reduceAdd, Nat.reduceLT, Nat.reduceEqDiff, Nat.reduceLeDiff, List.cons_ne_nil, h1, h2, eq_self, not_true_eq_false, not_false_eq_true]))
      | (refine condc_bool ?_ ?_ <;> intro hq))
    exact ret_bool rfl (by symm; rw [Bool.eq_false_iff]; intro h; exact h2 (hBi.1 h).2.1)
  by_cases h3 : a.otc = b.otc
  rotate_left
  · try simp (config := {implicitDefEqProofs := false}) only [avl1, avl2, avl3, avl4, avl5, if_true, if_false, beq_self_eq_true, ne_eq, reduceCtorEq, ↓reduceIte, Nat.reduceAdd, Nat.reduceLT, Nat.reduceEqDiff, Nat.reduceLeDiff, List.cons_ne_nil, h1, h2, h3, eq_self, not_true_eq_false, not_false_eq_true]
    repeat' (first
      | (refine (hκ _).mpr ?_; clear hκ)
      | refine kn1 ?_
      | refine kr1 ?_
      | refine ke1 ?_
      | refine kn2 ?_
      | refine kr2 ?_
      | refine kx2 ?_
      | refine ke2 rfl ?_
      | refine kn3 ?_
      | refine kr3 ?_
      | refine ke3 ?_
      | refine w_seq ?_
      | refine w_block ?_
      | (refine aw_regk fun κ hκ => ?_; simp (config := {implicitDefEqProofs := false}) only [avl1, avl2, avl3, avl4, avl5, if_true, if_false, beq_self_eq_true, ne_eq, reduceCtorEq, ↓reduceIte, Nat.reduceAdd, Nat.reduceLT, Nat.reduceEqDiff, Nat.reduceLeDiff, List.cons_ne_nil, h1, h2, h3, eq_self, not_true_eq_false, not_false_eq_true])
      | refine aw_exit ?_
      | refine aw_ret ?_
      | refine aw_skip ?_
      | refine aw_label ?_
      | refine condc_t ?_
      | refine condc_f ?_
      | (refine aw_cond2 (by simp (config := {implicitDefEqProofs := false}) only [avl1, avl2, avl3, avl4, avl5, if_true, if_false, beq_self_eq_true, ne_eq, reduceCtorEq, ↓reduceIte, Nat.reduceAdd, Nat.reduceLT, Nat.reduceEqDiff, Nat.reduceLeDiff, List.cons_ne_nil, h1, h2, h3, eq_self, not_true_eq_false, not_false_eq_true]; rfl) ?_)
      | (refine gkc_fork ?_ ?_ <;> intro hq <;> (simp (config := {implicitDefEqProofs := false}) only [hq, avl1, avl2, avl3, avl4, avl5, if_true, if_false, beq_self_eq_true, ne_eq, reduceCtorEq, ↓reduceIte, Nat.reduceAdd, Nat.reduceLT, Nat.reduceEqDiff, Nat.reduceLeDiff, List.cons_ne_nil, h1, h2, h3, eq_self, not_true_eq_false, not_false_eq_true]))
      | (refine condc_fork ?_ ?_ <;> intro hq)
      | (refine gkc_split ?_ ?_ <;> intro hq <;> (simp (config := {implicitDefEqProofs := false}) only [hq, avl1, avl2, avl3, avl4, avl5, if_true, if_false, beq_self_eq_true, ne_eq, reduceCtorEq, ↓reduceIte, Nat.reduceAdd, Nat.reduceLT, Nat.reduceEqDiff, Nat.reduceLeDiff, List.cons_ne_nil, h1, h2, h3, eq_self, not_true_eq_false, not_false_eq_true]))
      | (refine condc_bool ?_ ?_ <;> intro hq))
    exact ret_bool rfl (by symm; rw [Bool.eq_false_iff]; intro h; exact h3 (hBi.1 h).2.2.1)
  by_cases h4 : (a.as.length : Int) = (b.as.length : Int)
  rotate_left
  · try simp (config := {implicitDefEqProofs := false}) only [avl1, avl2, avl3, avl4, avl5, if_true, if_false, beq_self_eq_true, ne_eq, reduceCtorEq, ↓reduceIte, Nat.reduceAdd, Nat.reduceLT, Nat.reduceEqDiff, Nat.reduceLeDiff, List.cons_ne_nil, h1, h2, h3, h4, eq_self, not_true_eq_false, not_false_eq_true]
    repeat' (first
      | (refine (hκ _).mpr ?_; clear hκ)
      | refine kn1 ?_
      | refine kr1 ?_
      | refine ke1 ?_
      | refine kn2 ?_
      | refine kr2 ?_
      | refine kx2 ?_
      | refine ke2 rfl ?_
      | refine kn3 ?_
      | refine kr3 ?_
      | refine ke3 ?_
      | refine w_seq ?_
      | refine w_block ?_
      | (refine aw_regk fun κ hκ => ?_; simp (config := {implicitDefEqProofs := false}) only [avl1, avl2, avl3, avl4, avl5, if_true, if_false, beq_self_eq_true, ne_eq, reduceCtorEq, ↓reduceIte, Nat.reduceAdd, Nat.reduceLT, Nat.reduceEqDiff, Nat.reduceLeDiff, List.cons_ne_nil, h1, h2, h3, h4, eq_self, not_true_eq_false, not_false_eq_true])
      | refine aw_exit ?_
      | refine aw_ret ?_
      | refine aw_skip ?_
      | refine aw_label ?_
      | refine condc_t ?_
      | refine condc_f ?_
      | (refine aw_cond2 (by simp (config := {implicitDefEqProofs := false}) only [avl1, avl2, avl3, avl4, avl5, if_true, if_false, beq_self_eq_true, ne_eq, reduceCtorEq, ↓reduceIte, Nat.reduceAdd, Nat.reduceLT, Nat.reduceEqDiff, Nat.reduceLeDiff, List.cons_ne_nil, h1, h2, h3, h4, eq_self, not_true_eq_false, not_false_eq_true]; rfl) ?_)
      | (refine gkc_fork ?_ ?_ <;> intro hq <;> (simp (config := {implicitDefEqProofs := false}) only [hq, avl1, avl2, avl3, avl4, avl5, if_true, if_false, beq_self_eq_true, ne_eq, reduceCtorEq, ↓reduceIte, Nat.reduceAdd, Nat.reduceLT, Nat.reduceEqDiff, Nat.reduceLeDiff, List.cons_ne_nil, h1, h2, h3, h4, eq_self, not_true_eq_false, not_false_eq_true]))
      | (refine condc_fork ?_ ?_ <;> intro hq)
      | (refine gkc_split ?_ ?_ <;> intro hq <;> (simp (config := {implicitDefEqProofs := false}) only [hq, avl1, avl2, avl3, avl4, avl5, if_true, if_false, beq_self_eq_true, ne_eq, reduceCtorEq, ↓reduceIte, Nat.reduceAdd, Nat.reduceLT, Nat.reduceEqDiff, Nat.reduceLeDiff, List.cons_ne_nil, h1, h2, h3, h4, eq_self, not_true_eq_false, not_false_eq_true]))
      | (refine condc_bool ?_ ?_ <;> intro hq))
    exact ret_bool rfl (by symm; rw [Bool.eq_false_iff]; intro h; exact h4 (by rw [(hBi.1 h).2.2.2]))
  try simp (config := {implicitDefEqProofs := false}) only [avl1, avl2, avl3, avl4, avl5, if_true, if_false, beq_self_eq_true, ne_eq, reduceCtorEq, ↓reduceIte, Nat.reduceAdd, Nat.reduceLT, Nat.reduceEqDiff, Nat.reduceLeDiff, List.cons_ne_nil, h1, h2, h3, h4, eq_self, not_true_eq_false, not_false_eq_true]
  repeat' (first
    | (refine (hκ _).mpr ?_; clear hκ)
    | refine kn1 ?_
    | refine kr1 ?_
    | refine ke1 ?_
    | refine kn2 ?_
    | refine kr2 ?_
    | refine kx2 ?_
    | refine ke2 rfl ?_
    | refine kn3 ?_
    | refine kr3 ?_
    | refine ke3 ?_
    | refine w_seq ?_
    | refine w_block ?_
    | (refine aw_regk fun κ hκ => ?_; simp (config := {implicitDefEqProofs := false}) only [avl1, avl2, avl3, avl4, avl5, if_true, if_false, beq_self_eq_true, ne_eq, reduceCtorEq, ↓reduceIte, Nat.reduceAdd, Nat.reduceLT, Nat.reduceEqDiff, Nat.reduceLeDiff, List.cons_ne_nil, h1, h2, h3, h4, eq_self, not_true_eq_false, not_false_eq_true])
    | refine aw_exit ?_
    | refine aw_ret ?_
    | refine aw_skip ?_
    | refine aw_label ?_
    | refine condc_t ?_
    | refine condc_f ?_
    | (refine aw_cond2 (by simp (config := {implicitDefEqProofs := false}) only [avl1, avl2, avl3, avl4, avl5, if_true, if_false, beq_self_eq_true, ne_eq, reduceCtorEq, ↓reduceIte, Nat.reduceAdd, Nat.reduceLT, Nat.reduceEqDiff, Nat.reduceLeDiff, List.cons_ne_nil, h1, h2, h3, h4, eq_self, not_true_eq_false, not_false_eq_true]; rfl) ?_)
    | (refine gkc_fork ?_ ?_ <;> intro hq <;> (simp (config := {implicitDefEqProofs := false}) only [hq, avl1, avl2, avl3, avl4, avl5, if_true, if_false, beq_self_eq_true, ne_eq, reduceCtorEq, ↓reduceIte, Nat.reduceAdd, Nat.reduceLT, Nat.reduceEqDiff, Nat.reduceLeDiff, List.cons_ne_nil, h1, h2, h3, h4, eq_self, not_true_eq_false, not_false_eq_true]))
    | (refine condc_fork ?_ ?_ <;> intro hq)
    | (refine gkc_split ?_ ?_ <;> intro hq <;> (simp (config := {implicitDefEqProofs := false}) only [hq, avl1, avl2, avl3, avl4, avl5, if_true, if_false, beq_self_eq_true, ne_eq, reduceCtorEq, ↓reduceIte, Nat.reduceAdd, Nat.reduceLT, Nat.reduceEqDiff, Nat.reduceLeDiff, List.cons_ne_nil, h1, h2, h3, h4, eq_self, not_true_eq_false, not_false_eq_true]))
    | (refine condc_bool ?_ ?_ <;> intro hq))
  refine w_loop (fun (k : Nat) => k ≤ a.as.length ∧ ∀ (j : Nat) (x y : Int), j < k → a.as[j]? = some x → b.as[j]? = some y → x = y) (fun (k : Nat) => ⟨52, [(2, .ptr 0 0), (3, .ptr 1 0), (5, .int .i64 k)], [(25, paC a), (25, paC b)], []⟩) (fun (k : Nat) => a.as.length - k) 0 ⟨Nat.zero_le _, fun j x y hj => by omega⟩ ?_ ?_
  · refine ⟨rfl, 0, [], rfl, Nat.zero_le _, ⟨.same _ rfl, .same _ rfl, .same _ rfl, trivial⟩, ⟨rfl, ?_, rfl, ?_, trivial⟩⟩
    · rw [show paC a = [.int .i64 b.origin, .slice .imm 1 (a.as.map iA), .int .i64 b.hop, .int .i64 b.otc] by rw [← h1, ← h2, ← h3]; rfl]
      repeat (first
        | exact trivial
        | exact rfl
        | refine ⟨.same _ (by first | rfl | exact okBL_pur (purL_map fun _ => rfl)), ?_⟩
        | refine ⟨rfl, ?_⟩
        | refine ⟨?_, ?_⟩)
    · repeat (first
        | exact trivial
        | exact rfl
        | refine ⟨.same _ (by first | rfl | exact okBL_pur (purL_map fun _ => rfl)), ?_⟩
        | refine ⟨rfl, ?_⟩
        | refine ⟨?_, ?_⟩)
  · intro k ⟨hk, hz⟩
    unfold paC
    have hw : IntKind.i64.wrap ((k : Int) + 1) = ((k + 1 : Nat) : Int) := by rw [wrap64 (by omega) (by omega)]; omega
    by_cases hlt : k < a.as.length
    · have hlb : k < b.as.length := by omega
      obtain ⟨x, hx⟩ : ∃ x, a.as[k]? = some x := ⟨_, List.getElem?_eq_getElem hlt⟩
      obtain ⟨y, hy⟩ : ∃ y, b.as[k]? = some y := ⟨_, List.getElem?_eq_getElem hlb⟩
      try simp (config := {implicitDefEqProofs := false}) only [avl1, avl2, avl3, avl4, avl5, if_true, if_false, beq_self_eq_true, ne_eq, reduceCtorEq, ↓reduceIte, Nat.reduceAdd, Nat.reduceLT, Nat.reduceEqDiff, Nat.reduceLeDiff, List.cons_ne_nil, iA, hlt, hlb, hx, hy, hw]
      repeat' (first
        | (refine (hκ _).mpr ?_; clear hκ)
        | refine kn1 ?_
        | refine kr1 ?_
        | refine ke1 ?_
        | refine kn2 ?_
        | refine kr2 ?_
        | refine kx2 ?_
        | refine ke2 rfl ?_
        | refine kn3 ?_
        | refine kr3 ?_
        | refine ke3 ?_
        | refine w_seq ?_
        | refine w_block ?_
        | (refine aw_regk fun κ hκ => ?_; simp (config := {implicitDefEqProofs := false}) only [avl1, avl2, avl3, avl4, avl5, if_true, if_false, beq_self_eq_true, ne_eq, reduceCtorEq, ↓reduceIte, Nat.reduceAdd, Nat.reduceLT, Nat.reduceEqDiff, Nat.reduceLeDiff, List.cons_ne_nil, iA, hlt, hlb, hx, hy, hw])
        | refine aw_exit ?_
        | refine aw_ret ?_
        | refine aw_skip ?_
        | refine aw_label ?_
        | refine condc_t ?_
        | refine condc_f ?_
        | (refine aw_cond2 (by simp (config := {implicitDefEqProofs := false}) only [avl1, avl2, avl3, avl4, avl5, if_true, if_false, beq_self_eq_true, ne_eq, reduceCtorEq, ↓reduceIte, Nat.reduceAdd, Nat.reduceLT, Nat.reduceEqDiff, Nat.reduceLeDiff, List.cons_ne_nil, iA, hlt, hlb, hx, hy, hw]; rfl) ?_)
        | (refine gkc_fork ?_ ?_ <;> intro hq <;> (simp (config := {implicitDefEqProofs := false}) only [hq, avl1, avl2, avl3, avl4, avl5, if_true, if_false, beq_self_eq_true, ne_eq, reduceCtorEq, ↓reduceIte, Nat.reduceAdd, Nat.reduceLT, Nat.reduceEqDiff, Nat.reduceLeDiff, List.cons_ne_nil, iA, hlt, hlb, hx, hy, hw]))
        | (refine condc_fork ?_ ?_ <;> intro hq)
        | (refine gkc_split ?_ ?_ <;> intro hq <;> (simp (config := {implicitDefEqProofs := false}) only [hq, avl1, avl2, avl3, avl4, avl5, if_true, if_false, beq_self_eq_true, ne_eq, reduceCtorEq, ↓reduceIte, Nat.reduceAdd, Nat.reduceLT, Nat.reduceEqDiff, Nat.reduceLeDiff, List.cons_ne_nil, iA, hlt, hlb, hx, hy, hw]))
        | (refine condc_bool ?_ ?_ <;> intro hq))
      · refine ret_bool rfl ?_
        symm
        rw [Bool.eq_false_iff]
        intro h
        rw [(hBi.1 h).2.2.2, hy] at hx
        injection hx with hx
        exact hq hx.symm
      · refine ⟨k + 1, ⟨by omega, ?_⟩, ⟨rfl, 0, [], rfl, Nat.zero_le _, ⟨.same _ rfl, .same _ rfl, .same _ rfl, trivial⟩, ⟨rfl, ?_, rfl, ?_, trivial⟩⟩, by omega⟩
        · intro j u v hj hu hv
          rcases Nat.lt_or_ge j k with h | h
          · exact hz j u v h hu hv
          · obtain rfl : j = k := by omega
            rw [hx] at hu
            rw [hy] at hv
            injection hu with hu
            injection hv with hv
            subst hu hv
            exact Classical.not_not.1 hq
        · try unfold paC
          repeat (first
            | exact trivial
            | exact rfl
            | refine ⟨.same _ (by first | rfl | exact okBL_pur (purL_map fun _ => rfl)), ?_⟩
            | refine ⟨rfl, ?_⟩
            | refine ⟨?_, ?_⟩)
        · try unfold paC
          repeat (first
            | exact trivial
            | exact rfl
            | refine ⟨.same _ (by first | rfl | exact okBL_pur (purL_map fun _ => rfl)), ?_⟩
            | refine ⟨rfl, ?_⟩
            | refine ⟨?_, ?_⟩)
    · obtain rfl : k = a.as.length := by omega
      try simp (config := {implicitDefEqProofs := false}) only [avl1, avl2, avl3, avl4, avl5, if_true, if_false, beq_self_eq_true, ne_eq, reduceCtorEq, ↓reduceIte, Nat.reduceAdd, Nat.reduceLT, Nat.reduceEqDiff, Nat.reduceLeDiff, List.cons_ne_nil, Nat.lt_irrefl]
      repeat' (first
        | (refine (hκ _).mpr ?_; clear hκ)
        | refine kn1 ?_
        | refine kr1 ?_
        | refine ke1 ?_
        | refine kn2 ?_
        | refine kr2 ?_
        | refine kx2 ?_
        | refine ke2 rfl ?_
        | refine kn3 ?_
        | refine kr3 ?_
        | refine ke3 ?_
        | refine w_seq ?_
        | refine w_block ?_
        | (refine aw_regk fun κ hκ => ?_; simp (config := {implicitDefEqProofs := false}) only [avl1, avl2, avl3, avl4, avl5, if_true, if_false, beq_self_eq_true, ne_eq, reduceCtorEq, ↓reduceIte, Nat.reduceAdd, Nat.reduceLT, Nat.reduceEqDiff, Nat.reduceLeDiff, List.cons_ne_nil, Nat.lt_irrefl])
        | refine aw_exit ?_
        | refine aw_ret ?_
        | refine aw_skip ?_
        | refine aw_label ?_
        | refine condc_t ?_
        | refine condc_f ?_
        | (refine aw_cond2 (by simp (config := {implicitDefEqProofs := false}) only [avl1, avl2, avl3, avl4, avl5, if_true, if_false, beq_self_eq_true, ne_eq, reduceCtorEq, ↓reduceIte, Nat.reduceAdd, Nat.reduceLT, Nat.reduceEqDiff, Nat.reduceLeDiff, List.cons_ne_nil, Nat.lt_irrefl]; rfl) ?_)
        | (refine gkc_fork ?_ ?_ <;> intro hq <;> (simp (config := {implicitDefEqProofs := false}) only [hq, avl1, avl2, avl3, avl4, avl5, if_true, if_false, beq_self_eq_true, ne_eq, reduceCtorEq, ↓reduceIte, Nat.reduceAdd, Nat.reduceLT, Nat.reduceEqDiff, Nat.reduceLeDiff, List.cons_ne_nil, Nat.lt_irrefl]))
        | (refine condc_fork ?_ ?_ <;> intro hq)
        | (refine gkc_split ?_ ?_ <;> intro hq <;> (simp (config := {implicitDefEqProofs := false}) only [hq, avl1, avl2, avl3, avl4, avl5, if_true, if_false, beq_self_eq_true, ne_eq, reduceCtorEq, ↓reduceIte, Nat.reduceAdd, Nat.reduceLT, Nat.reduceEqDiff, Nat.reduceLeDiff, List.cons_ne_nil, Nat.lt_irrefl]))
        | (refine condc_bool ?_ ?_ <;> intro hq))
      refine ret_bool rfl ?_
      symm
      refine hBi.2 ⟨h1, h2, h3, List.ext_getElem? fun j => ?_⟩
      rcases Nat.lt_or_ge j a.as.length with h | h
      · have hb : j < b.as.length := by omega
        rw [List.getElem?_eq_getElem h, List.getElem?_eq_getElem hb]
        rw [hz j _ _ h (List.getElem?_eq_getElem h) (List.getElem?_eq_getElem hb)]
      · rw [List.getElem?_eq_none h, List.getElem?_eq_none (by omega)]
theorem fsame_ac (a b : Rt) (hn : a.as.length ≤ 1000000) : ACt Try.prog 13 [rtA a, rtA b] (.bool (sameB a b)) [] := by
  refine act_of p_ridgewayref09_Same (by simp [c_ridgewayref09_Same]) ?_
  show AW _ b_ridgewayref09_Same (RetOk [.tmp 4] _ _) ⟨24, [(0, _), (1, _)], [], []⟩
  unfold b_ridgewayref09_Same rtA
  have hs : sameB a b = (decide (a.pref = b.pref) && (decide (a.frm = b.frm) && pathB a b)) := by
    unfold sameB pathB
    rw [Bool.eq_iff_iff]
    simp only [beq_iff_eq, Bool.and_eq_true, decide_eq_true_eq]
    constructor
    · rintro ⟨h1, h2, h3, h4, h5, h6⟩; exact ⟨h1, h2, h3, h5, h6, h4⟩
    · rintro ⟨h1, h2, h3, h5, h6, h4⟩; exact ⟨h1, h2, h3, h4, h5, h6⟩
  rw [hs]
  by_cases h1 : a.pref = b.pref
  rotate_left
  · try simp (config := {implicitDefEqProofs := false}) only [avl1, avl2, avl3, avl4, avl5, if_true, if_false, beq_self_eq_true, ne_eq, reduceCtorEq, ↓reduceIte, Nat.reduceAdd, Nat.reduceLT, Nat.reduceEqDiff, Nat.reduceLeDiff, List.cons_ne_nil, h1, not_false_eq_true]
    repeat' (first
      | (refine (hκ _).mpr ?_; clear hκ)
      | refine kn1 ?_
      | refine kr1 ?_
      | refine ke1 ?_
      | refine kn2 ?_
      | refine kr2 ?_
      | refine kx2 ?_
      | refine ke2 rfl ?_
      | refine kn3 ?_
      | refine kr3 ?_
      | refine ke3 ?_
      | refine w_seq ?_
      | refine w_block ?_
      | (refine aw_regk fun κ hκ => ?_; simp (config := {implicitDefEqProofs := false}) only [avl1, avl2, avl3, avl4, avl5, if_true, if_false, beq_self_eq_true, ne_eq, reduceCtorEq, ↓reduceIte, Nat.reduceAdd, Nat.reduceLT, Nat.reduceEqDiff, Nat.reduceLeDiff, List.cons_ne_nil, h1, not_false_eq_true])
      | refine aw_exit ?_
      | refine aw_ret ?_
      | refine aw_skip ?_
      | refine aw_label ?_
      | refine condc_t ?_
      | refine condc_f ?_
      | (refine aw_cond2 (by simp (config := {implicitDefEqProofs := false}) only [avl1, avl2, avl3, avl4, avl5, if_true, if_false, beq_self_eq_true, ne_eq, reduceCtorEq, ↓reduceIte, Nat.reduceAdd, Nat.reduceLT, Nat.reduceEqDiff, Nat.reduceLeDiff, List.cons_ne_nil, h1, not_false_eq_true]; rfl) ?_)
      | (refine gkc_fork ?_ ?_ <;> intro hq <;> (simp (config := {implicitDefEqProofs := false}) only [hq, avl1, avl2, avl3, avl4, avl5, if_true, if_false, beq_self_eq_true, ne_eq, reduceCtorEq, ↓reduceIte, Nat.reduceAdd, Nat.reduceLT, Nat.reduceEqDiff, Nat.reduceLeDiff, List.cons_ne_nil, h1, not_false_eq_true]))
      | (refine condc_fork ?_ ?_ <;> intro hq)
      | (refine gkc_split ?_ ?_ <;> intro hq <;> (simp (config := {implicitDefEqProofs := false}) only [hq, avl1, avl2, avl3, avl4, avl5, if_true, if_false, beq_self_eq_true, ne_eq, reduceCtorEq, ↓reduceIte, Nat.reduceAdd, Nat.reduceLT, Nat.reduceEqDiff, Nat.reduceLeDiff, List.cons_ne_nil, h1, not_false_eq_true]))
      | (refine condc_bool ?_ ?_ <;> intro hq))
    exact ret_bool rfl (by simp [h1])
  by_cases h2 : a.frm = b.frm
  rotate_left
  · try simp (config := {implicitDefEqProofs := false}) only [avl1, avl2, avl3, avl4, avl5, if_true, if_false, beq_self_eq_true, ne_eq, reduceCtorEq, ↓reduceIte, Nat.reduceAdd, Nat.reduceLT, Nat.reduceEqDiff, Nat.reduceLeDiff, List.cons_ne_nil, h1, h2, eq_self, not_true_eq_false, not_false_eq_true]
    repeat' (first
      | (refine (hκ _).mpr ?_; clear hκ)
      | refine kn1 ?_
      | refine kr1 ?_
      | refine ke1 ?_
      | refine kn2 ?_
      | refine kr2 ?_
      | refine kx2 ?_
      | refine ke2 rfl ?_
      | refine kn3 ?_
      | refine kr3 ?_
      | refine ke3 ?_
      | refine w_seq ?_
      | refine w_block ?_
      | (refine aw_regk fun κ hκ => ?_; simp (config := {implicitDefEqProofs := false}) only [avl1, avl2, avl3, avl4, avl5, if_true, if_false, beq_self_eq_true, ne_eq, reduceCtorEq, ↓reduceIte, Nat.reduceAdd, Nat.reduceLT, Nat.reduceEqDiff, Nat.reduceLeDiff, List.cons_ne_nil, h1, h2, eq_self, not_true_eq_false, not_false_eq_true])
      | refine aw_exit ?_
      | refine aw_ret ?_
      | refine aw_skip ?_
      | refine aw_label ?_
      | refine condc_t ?_
      | refine condc_f ?_
      | (refine aw_cond2 (by simp (config := {implicitDefEqProofs := false}) only [avl1, avl2, avl3, avl4, avl5, if_true, if_false, beq_self_eq_true, ne_eq, reduceCtorEq, ↓reduceIte, Nat.reduceAdd, Nat.reduceLT, Nat.reduceEqDiff, Nat.reduceLeDiff, List.cons_ne_nil, h1, h2, eq_self, not_true_eq_false, not_false_eq_true]; rfl) ?_)
      | (refine gkc_fork ?_ ?_ <;> intro hq <;> (simp (config := {implicitDefEqProofs := false}) only [hq, avl1, avl2, avl3, avl4, avl5, if_true, if_false, beq_self_eq_true, ne_eq, reduceCtorEq, ↓reduceIte, Nat.reduceAdd, Nat.reduceLT, Nat.reduceEqDiff, Nat.reduceLeDiff, List.cons_ne_nil, h1, h2, eq_self, not_true_eq_false, not_false_eq_true]))
      | (refine condc_fork ?_ ?_ <;> intro hq)
      | (refine gkc_split ?_ ?_ <;> intro hq <;> (simp (config := {implicitDefEqProofs := false}) only [hq, avl1, avl2, avl3, avl4, avl5, if_true, if_false, beq_self_eq_true, ne_eq, reduceCtorEq, ↓reduceIte, Nat.reduceAdd, Nat.reduceLT, Nat.reduceEqDiff, Nat.reduceLeDiff, List.cons_ne_nil, h1, h2, eq_self, not_true_eq_false, not_false_eq_true]))
      | (refine condc_bool ?_ ?_ <;> intro hq))
    exact ret_bool rfl (by simp [h2])
  try simp (config := {implicitDefEqProofs := false}) only [avl1, avl2, avl3, avl4, avl5, if_true, if_false, beq_self_eq_true, ne_eq, reduceCtorEq, ↓reduceIte, Nat.reduceAdd, Nat.reduceLT, Nat.reduceEqDiff, Nat.reduceLeDiff, List.cons_ne_nil, h1, h2, eq_self, not_true_eq_false, not_false_eq_true]
  repeat' (first
    | (refine (hκ _).mpr ?_; clear hκ)
    | refine kn1 ?_
    | refine kr1 ?_
    | refine ke1 ?_
    | refine kn2 ?_
    | refine kr2 ?_
    | refine kx2 ?_
    | refine ke2 rfl ?_
    | refine kn3 ?_
    | refine kr3 ?_
    | refine ke3 ?_
    | refine w_seq ?_
    | refine w_block ?_
    | (refine aw_regk fun κ hκ => ?_; simp (config := {implicitDefEqProofs := false}) only [avl1, avl2, avl3, avl4, avl5, if_true, if_false, beq_self_eq_true, ne_eq, reduceCtorEq, ↓reduceIte, Nat.reduceAdd, Nat.reduceLT, Nat.reduceEqDiff, Nat.reduceLeDiff, List.cons_ne_nil, h1, h2, eq_self, not_true_eq_false, not_false_eq_true])
    | refine aw_exit ?_
    | refine aw_ret ?_
    | refine aw_skip ?_
    | refine aw_label ?_
    | refine condc_t ?_
    | refine condc_f ?_
    | (refine aw_cond2 (by simp (config := {implicitDefEqProofs := false}) only [avl1, avl2, avl3, avl4, avl5, if_true, if_false, beq_self_eq_true, ne_eq, reduceCtorEq, ↓reduceIte, Nat.reduceAdd, Nat.reduceLT, Nat.reduceEqDiff, Nat.reduceLeDiff, List.cons_ne_nil, h1, h2, eq_self, not_true_eq_false, not_false_eq_true]; rfl) ?_)
    | (refine gkc_fork ?_ ?_ <;> intro hq <;> (simp (config := {implicitDefEqProofs := false}) only [hq, avl1, avl2, avl3, avl4, avl5, if_true, if_false, beq_self_eq_true, ne_eq, reduceCtorEq, ↓reduceIte, Nat.reduceAdd, Nat.reduceLT, Nat.reduceEqDiff, Nat.reduceLeDiff, List.cons_ne_nil, h1, h2, eq_self, not_true_eq_false, not_false_eq_true]))
    | (refine condc_fork ?_ ?_ <;> intro hq)
    | (refine gkc_split ?_ ?_ <;> intro hq <;> (simp (config := {implicitDefEqProofs := false}) only [hq, avl1, avl2, avl3, avl4, avl5, if_true, if_false, beq_self_eq_true, ne_eq, reduceCtorEq, ↓reduceIte, Nat.reduceAdd, Nat.reduceLT, Nat.reduceEqDiff, Nat.reduceLeDiff, List.cons_ne_nil, h1, h2, eq_self, not_true_eq_false, not_false_eq_true]))
    | (refine condc_bool ?_ ?_ <;> intro hq))
  refine callc (spath_ac a b hn) (by simp [purL, pur, purL_map_eq, iA]) ?_
  try simp (config := {implicitDefEqProofs := false}) only [avl1, avl2, avl3, avl4, avl5, if_true, if_false, beq_self_eq_true, ne_eq, reduceCtorEq, ↓reduceIte, Nat.reduceAdd, Nat.reduceLT, Nat.reduceEqDiff, Nat.reduceLeDiff, List.cons_ne_nil]
  repeat' (first
    | (refine (hκ _).mpr ?_; clear hκ)
    | refine kn1 ?_
    | refine kr1 ?_
    | refine ke1 ?_
    | refine kn2 ?_
    | refine kr2 ?_
    | refine kx2 ?_
    | refine ke2 rfl ?_
    | refine kn3 ?_
    | refine kr3 ?_
    | refine ke3 ?_
    | refine w_seq ?_
    | refine w_block ?_
    | (refine aw_regk fun κ hκ => ?_; simp (config := {implicitDefEqProofs := false}) only [avl1, avl2, avl3, avl4, avl5, if_true, if_false, beq_self_eq_true, ne_eq, reduceCtorEq, ↓reduceIte, Nat.reduceAdd, Nat.reduceLT, Nat.reduceEqDiff, Nat.reduceLeDiff, List.cons_ne_nil])
    | refine aw_exit ?_
    | refine aw_ret ?_
    | refine aw_skip ?_
    | refine aw_label ?_
    | refine condc_t ?_
    | refine condc_f ?_
    | (refine aw_cond2 (by simp (config := {implicitDefEqProofs := false}) only [avl1, avl2, avl3, avl4, avl5, if_true, if_false, beq_self_eq_true, ne_eq, reduceCtorEq, ↓reduceIte, Nat.reduceAdd, Nat.reduceLT, Nat.reduceEqDiff, Nat.reduceLeDiff, List.cons_ne_nil]; rfl) ?_)
    | (refine gkc_fork ?_ ?_ <;> intro hq <;> (simp (config := {implicitDefEqProofs := false}) only [hq, avl1, avl2, avl3, avl4, avl5, if_true, if_false, beq_self_eq_true, ne_eq, reduceCtorEq, ↓reduceIte, Nat.reduceAdd, Nat.reduceLT, Nat.reduceEqDiff, Nat.reduceLeDiff, List.cons_ne_nil]))
    | (refine condc_fork ?_ ?_ <;> intro hq)
    | (refine gkc_split ?_ ?_ <;> intro hq <;> (simp (config := {implicitDefEqProofs := false}) only [hq, avl1, avl2, avl3, avl4, avl5, if_true, if_false, beq_self_eq_true, ne_eq, reduceCtorEq, ↓reduceIte, Nat.reduceAdd, Nat.reduceLT, Nat.reduceEqDiff, Nat.reduceLeDiff, List.cons_ne_nil]))
    | (refine condc_bool ?_ ?_ <;> intro hq))
  exact ret_bool rfl (by simp)
def zpC (o h c : Int) : List AV := [.int .i64 o, .slice .full 0 [], .int .i64 h, .int .i64 c]
def zrC (p o h c f : Int) : List AV := [.int .i64 p, .int .i64 o, .slice .full 0 [], .int .i64 h, .int .i64 c, .int .i64 f]
theorem zpath_ac (o h c : Int) : ACt Try.prog 28 [.agg (zpC o h c), .agg (zpC o h c)] (.bool true) [] := by
  refine act_of p_ridgewayref07_SamePath (by simp [c_ridgewayref07_SamePath]) ?_
  show AW _ b_ridgewayref07_SamePath (RetOk [.tmp 4] _ _) ⟨52, [(0, _), (1, _)], [], []⟩
  unfold b_ridgewayref07_SamePath zpC
  try simp (config := {implicitDefEqProofs := false}) only [avl1, avl2, avl3, avl4, avl5, if_true, if_false, beq_self_eq_true, ne_eq, reduceCtorEq, ↓reduceIte, Nat.reduceAdd, Nat.reduceLT, Nat.reduceEqDiff, Nat.reduceLeDiff, List.cons_ne_nil, eq_self, not_true_eq_false, not_false_eq_true, (show ((0 : Nat) : Int) = 0 from rfl)]
  repeat' (first
    | (refine (hκ _).mpr ?_; clear hκ)
    | refine kn1 ?_
    | refine kr1 ?_
    | refine ke1 ?_
    | refine kn2 ?_
    | refine kr2 ?_
    | refine kx2 ?_
    | refine ke2 rfl ?_
    | refine kn3 ?_
    | refine kr3 ?_
    | refine ke3 ?_
    | refine w_seq ?_
    | refine w_block ?_
    | (refine aw_regk fun κ hκ => ?_; simp (config := {implicitDefEqProofs := false}) only [avl1, avl2, avl3, avl4, avl5, if_true, if_false, beq_self_eq_true, ne_eq, reduceCtorEq, ↓reduceIte, Nat.reduceAdd, Nat.reduceLT, Nat.reduceEqDiff, Nat.reduceLeDiff, List.cons_ne_nil, eq_self, not_true_eq_false, not_false_eq_true, (show ((0 : Nat) : Int) = 0 from rfl)])
    | refine aw_exit ?_
    | refine aw_ret ?_
    | refine aw_skip ?_
    | refine aw_label ?_
    | refine condc_t ?_
    | refine condc_f ?_
    | (refine aw_cond2 (by simp (config := {implicitDefEqProofs := false}) only [avl1, avl2, avl3, avl4, avl5, if_true, if_false, beq_self_eq_true, ne_eq, reduceCtorEq, ↓reduceIte, Nat.reduceAdd, Nat.reduceLT, Nat.reduceEqDiff, Nat.reduceLeDiff, List.cons_ne_nil, eq_self, not_true_eq_false, not_false_eq_true, (show ((0 : Nat) : Int) = 0 from rfl)]; rfl) ?_)
    | (refine gkc_fork ?_ ?_ <;> intro hq <;> (simp (config := {implicitDefEqProofs := false}) only [hq, avl1, avl2, avl3, avl4, avl5, if_true, if_false, beq_self_eq_true, ne_eq, reduceCtorEq, ↓reduceIte, Nat.reduceAdd, Nat.reduceLT, Nat.reduceEqDiff, Nat.reduceLeDiff, List.cons_ne_nil, eq_self, not_true_eq_false, not_false_eq_true, (show ((0 : Nat) : Int) = 0 from rfl)]))
    | (refine condc_fork ?_ ?_ <;> intro hq)
    | (refine gkc_split ?_ ?_ <;> intro hq <;> (simp (config := {implicitDefEqProofs := false}) only [hq, avl1, avl2, avl3, avl4, avl5, if_true, if_false, beq_self_eq_true, ne_eq, reduceCtorEq, ↓reduceIte, Nat.reduceAdd, Nat.reduceLT, Nat.reduceEqDiff, Nat.reduceLeDiff, List.cons_ne_nil, eq_self, not_true_eq_false, not_false_eq_true, (show ((0 : Nat) : Int) = 0 from rfl)]))
    | (refine condc_bool ?_ ?_ <;> intro hq))
  refine w_loop (fun (k : Unit) => True) (fun (k : Unit) => ⟨52, [(2, .ptr 0 0), (3, .ptr 1 0), (5, .int .i64 0)], [(25, zpC o h c), (25, zpC o h c)], []⟩) (fun (k : Unit) => 0) () trivial ?_ ?_
  · exact ⟨rfl, 0, [], rfl, Nat.zero_le _, ⟨.same _ rfl, .same _ rfl, .same _ rfl, trivial⟩, ⟨rfl, ⟨.same _ rfl, .same _ rfl, .same _ rfl, .same _ rfl, trivial⟩, rfl, ⟨.same _ rfl, .same _ rfl, .same _ rfl, .same _ rfl, trivial⟩, trivial⟩⟩
  · intro _ _
    unfold zpC
    try simp (config := {implicitDefEqProofs := false}) only [avl1, avl2, avl3, avl4, avl5, if_true, if_false, beq_self_eq_true, ne_eq, reduceCtorEq, ↓reduceIte, Nat.reduceAdd, Nat.reduceLT, Nat.reduceEqDiff, Nat.reduceLeDiff, List.cons_ne_nil, eq_self, not_true_eq_false, not_false_eq_true, (show ((0 : Nat) : Int) = 0 from rfl), Int.lt_irrefl]
    repeat' (first
      | (refine (hκ _).mpr ?_; clear hκ)
      | refine kn1 ?_
      | refine kr1 ?_
      | refine ke1 ?_
      | refine kn2 ?_
      | refine kr2 ?_
      | refine kx2 ?_
      | refine ke2 rfl ?_
      | refine kn3 ?_
      | refine kr3 ?_
      | refine ke3 ?_
      | refine w_seq ?_
      | refine w_block ?_
      | (refine aw_regk fun κ hκ => ?_; simp (config := {implicitDefEqProofs := false}) only [avl1, avl2, avl3, avl4, avl5, if_true, if_false, beq_self_eq_true, ne_eq, reduceCtorEq, ↓reduceIte, Nat.reduceAdd, Nat.reduceLT, Nat.reduceEqDiff, Nat.reduceLeDiff, List.cons_ne_nil, eq_self, not_true_eq_false, not_false_eq_true, (show ((0 : Nat) : Int) = 0 from rfl), Int.lt_irrefl])
      | refine aw_exit ?_
      | refine aw_ret ?_
      | refine aw_skip ?_
      | refine aw_label ?_
      | refine condc_t ?_
      | refine condc_f ?_
      | (refine aw_cond2 (by simp (config := {implicitDefEqProofs := false}) only [avl1, avl2, avl3, avl4, avl5, if_true, if_false, beq_self_eq_true, ne_eq, reduceCtorEq, ↓reduceIte, Nat.reduceAdd, Nat.reduceLT, Nat.reduceEqDiff, Nat.reduceLeDiff, List.cons_ne_nil, eq_self, not_true_eq_false, not_false_eq_true, (show ((0 : Nat) : Int) = 0 from rfl), Int.lt_irrefl]; rfl) ?_)
      | (refine gkc_fork ?_ ?_ <;> intro hq <;> (simp (config := {implicitDefEqProofs := false}) only [hq, avl1, avl2, avl3, avl4, avl5, if_true, if_false, beq_self_eq_true, ne_eq, reduceCtorEq, ↓reduceIte, Nat.reduceAdd, Nat.reduceLT, Nat.reduceEqDiff, Nat.reduceLeDiff, List.cons_ne_nil, eq_self, not_true_eq_false, not_false_eq_true, (show ((0 : Nat) : Int) = 0 from rfl), Int.lt_irrefl]))
      | (refine condc_fork ?_ ?_ <;> intro hq)
      | (refine gkc_split ?_ ?_ <;> intro hq <;> (simp (config := {implicitDefEqProofs := false}) only [hq, avl1, avl2, avl3, avl4, avl5, if_true, if_false, beq_self_eq_true, ne_eq, reduceCtorEq, ↓reduceIte, Nat.reduceAdd, Nat.reduceLT, Nat.reduceEqDiff, Nat.reduceLeDiff, List.cons_ne_nil, eq_self, not_true_eq_false, not_false_eq_true, (show ((0 : Nat) : Int) = 0 from rfl), Int.lt_irrefl]))
      | (refine condc_bool ?_ ?_ <;> intro hq))
    exact ret_bool rfl rfl
theorem zsame_ac (p o h c f : Int) : ACt Try.prog 13 [.agg (zrC p o h c f), .agg (zrC p o h c f)] (.bool true) [] := by
  refine act_of p_ridgewayref09_Same (by simp [c_ridgewayref09_Same]) ?_
  show AW _ b_ridgewayref09_Same (RetOk [.tmp 4] _ _) ⟨24, [(0, _), (1, _)], [], []⟩
  unfold b_ridgewayref09_Same zrC
  try simp (config := {implicitDefEqProofs := false}) only [avl1, avl2, avl3, avl4, avl5, if_true, if_false, beq_self_eq_true, ne_eq, reduceCtorEq, ↓reduceIte, Nat.reduceAdd, Nat.reduceLT, Nat.reduceEqDiff, Nat.reduceLeDiff, List.cons_ne_nil, eq_self, not_true_eq_false, not_false_eq_true]
  repeat' (first
    | (refine (hκ _).mpr ?_; clear hκ)
    | refine kn1 ?_
    | refine kr1 ?_
    | refine ke1 ?_
    | refine kn2 ?_
    | refine kr2 ?_
    | refine kx2 ?_
    | refine ke2 rfl ?_
    | refine kn3 ?_
    | refine kr3 ?_
    | refine ke3 ?_
    | refine w_seq ?_
    | refine w_block ?_
    | (refine aw_regk fun κ hκ => ?_; simp (config := {implicitDefEqProofs := false}) only [avl1, avl2, avl3, avl4, avl5, if_true, if_false, beq_self_eq_true, ne_eq, reduceCtorEq, ↓reduceIte, Nat.reduceAdd, Nat.reduceLT, Nat.reduceEqDiff, Nat.reduceLeDiff, List.cons_ne_nil, eq_self, not_true_eq_false, not_false_eq_true])
    | refine aw_exit ?_
    | refine aw_ret ?_
    | refine aw_skip ?_
    | refine aw_label ?_
    | refine condc_t ?_
    | refine condc_f ?_
    | (refine aw_cond2 (by simp (config := {implicitDefEqProofs := false}) only [avl1, avl2, avl3, avl4, avl5, if_true, if_false, beq_self_eq_true, ne_eq, reduceCtorEq, ↓reduceIte, Nat.reduceAdd, Nat.reduceLT, Nat.reduceEqDiff, Nat.reduceLeDiff, List.cons_ne_nil, eq_self, not_true_eq_false, not_false_eq_true]; rfl) ?_)
    | (refine gkc_fork ?_ ?_ <;> intro hq <;> (simp (config := {implicitDefEqProofs := false}) only [hq, avl1, avl2, avl3, avl4, avl5, if_true, if_false, beq_self_eq_true, ne_eq, reduceCtorEq, ↓reduceIte, Nat.reduceAdd, Nat.reduceLT, Nat.reduceEqDiff, Nat.reduceLeDiff, List.cons_ne_nil, eq_self, not_true_eq_false, not_false_eq_true]))
    | (refine condc_fork ?_ ?_ <;> intro hq)
    | (refine gkc_split ?_ ?_ <;> intro hq <;> (simp (config := {implicitDefEqProofs := false}) only [hq, avl1, avl2, avl3, avl4, avl5, if_true, if_false, beq_self_eq_true, ne_eq, reduceCtorEq, ↓reduceIte, Nat.reduceAdd, Nat.reduceLT, Nat.reduceEqDiff, Nat.reduceLeDiff, List.cons_ne_nil, eq_self, not_true_eq_false, not_false_eq_true]))
    | (refine condc_bool ?_ ?_ <;> intro hq))
  refine callc (zpath_ac o h c) rfl ?_
  try simp (config := {implicitDefEqProofs := false}) only [avl1, avl2, avl3, avl4, avl5, if_true, if_false, beq_self_eq_true, ne_eq, reduceCtorEq, ↓reduceIte, Nat.reduceAdd, Nat.reduceLT, Nat.reduceEqDiff, Nat.reduceLeDiff, List.cons_ne_nil]
  repeat' (first
    | (refine (hκ _).mpr ?_; clear hκ)
    | refine kn1 ?_
    | refine kr1 ?_
    | refine ke1 ?_
    | refine kn2 ?_
    | refine kr2 ?_
    | refine kx2 ?_
    | refine ke2 rfl ?_
    | refine kn3 ?_
    | refine kr3 ?_
    | refine ke3 ?_
    | refine w_seq ?_
    | refine w_block ?_
    | (refine aw_regk fun κ hκ => ?_; simp (config := {implicitDefEqProofs := false}) only [avl1, avl2, avl3, avl4, avl5, if_true, if_false, beq_self_eq_true, ne_eq, reduceCtorEq, ↓reduceIte, Nat.reduceAdd, Nat.reduceLT, Nat.reduceEqDiff, Nat.reduceLeDiff, List.cons_ne_nil])
    | refine aw_exit ?_
    | refine aw_ret ?_
    | refine aw_skip ?_
    | refine aw_label ?_
    | refine condc_t ?_
    | refine condc_f ?_
    | (refine aw_cond2 (by simp (config := {implicitDefEqProofs := false}) only [avl1, avl2, avl3, avl4, avl5, if_true, if_false, beq_self_eq_true, ne_eq, reduceCtorEq, ↓reduceIte, Nat.reduceAdd, Nat.reduceLT, Nat.reduceEqDiff, Nat.reduceLeDiff, List.cons_ne_nil]; rfl) ?_)
    | (refine gkc_fork ?_ ?_ <;> intro hq <;> (simp (config := {implicitDefEqProofs := false}) only [hq, avl1, avl2, avl3, avl4, avl5, if_true, if_false, beq_self_eq_true, ne_eq, reduceCtorEq, ↓reduceIte, Nat.reduceAdd, Nat.reduceLT, Nat.reduceEqDiff, Nat.reduceLeDiff, List.cons_ne_nil]))
    | (refine condc_fork ?_ ?_ <;> intro hq)
    | (refine gkc_split ?_ ?_ <;> intro hq <;> (simp (config := {implicitDefEqProofs := false}) only [hq, avl1, avl2, avl3, avl4, avl5, if_true, if_false, beq_self_eq_true, ne_eq, reduceCtorEq, ↓reduceIte, Nat.reduceAdd, Nat.reduceLT, Nat.reduceEqDiff, Nat.reduceLeDiff, List.cons_ne_nil]))
    | (refine condc_bool ?_ ?_ <;> intro hq))
  exact ret_bool rfl rfl
theorem few1_ac (a : Rt) : ACt Try.prog 9 [.slice .full 6 [rtA a]] (.bool (decide (a.as.length ≤ 100))) [] := by
  refine act_of p_ridgewayref09_Few (by simp [c_ridgewayref09_Few]) ?_
  show AW _ b_ridgewayref09_Few (RetOk [.tmp 2] _ _) ⟨21, [(0, _)], [], []⟩
  unfold b_ridgewayref09_Few
  have hpl := pur_rt a
  try simp (config := {implicitDefEqProofs := false}) only [avl1, avl2, avl3, avl4, avl5, if_true, if_false, beq_self_eq_true, ne_eq, reduceCtorEq, ↓reduceIte, Nat.reduceAdd, Nat.reduceLT, Nat.reduceEqDiff, Nat.reduceLeDiff, List.cons_ne_nil]
  repeat (first
    | (refine (hκ _).mpr ?_; clear hκ)
    | refine kn1 ?_
    | refine kr1 ?_
    | refine ke1 ?_
    | refine kn2 ?_
    | refine kr2 ?_
    | refine kx2 ?_
    | refine ke2 rfl ?_
    | refine kn3 ?_
    | refine kr3 ?_
    | refine ke3 ?_
    | refine w_seq ?_
    | refine w_block ?_
    | (refine aw_regk fun κ hκ => ?_; simp (config := {implicitDefEqProofs := false}) only [avl1, avl2, avl3, avl4, avl5, if_true, if_false, beq_self_eq_true, ne_eq, reduceCtorEq, ↓reduceIte, Nat.reduceAdd, Nat.reduceLT, Nat.reduceEqDiff, Nat.reduceLeDiff, List.cons_ne_nil])
    | refine aw_exit ?_
    | refine aw_ret ?_
    | refine aw_skip ?_
    | refine aw_label ?_
    | refine condc_t ?_
    | refine condc_f ?_)
  refine w_loop (fun (k : Nat) => k = 0 ∨ (k = 1 ∧ a.as.length ≤ 100)) (fun (k : Nat) => ⟨21, [(0, .slice .full 6 [rtA a]), (3, .int .i64 k)], [], []⟩) (fun (k : Nat) => 1 - k) 0 (.inl rfl) ?_ ?_
  · exact ⟨rfl, 0, [], rfl, Nat.zero_le _, ⟨.same (.slice .full 6 [rtA a]) (okB_pur (by simp [pur, purL, hpl])), .same _ rfl, trivial⟩, trivial⟩
  · rintro k (rfl | ⟨rfl, h⟩)
    · try simp (config := {implicitDefEqProofs := false}) only [avl1, avl2, avl3, avl4, avl5, if_true, if_false, beq_self_eq_true, ne_eq, reduceCtorEq, ↓reduceIte, Nat.reduceAdd, Nat.reduceLT, Nat.reduceEqDiff, Nat.reduceLeDiff, List.cons_ne_nil, rtA, (show ((0 : Nat) : Int) = 0 from rfl), (show ((1 : Nat) : Int) = 1 from rfl), Int.reduceLT, Int.reduceLE, Int.reduceToNat]
      repeat' (first
        | (refine (hκ _).mpr ?_; clear hκ)
        | refine kn1 ?_
        | refine kr1 ?_
        | refine ke1 ?_
        | refine kn2 ?_
        | refine kr2 ?_
        | refine kx2 ?_
        | refine ke2 rfl ?_
        | refine kn3 ?_
        | refine kr3 ?_
        | refine ke3 ?_
        | refine w_seq ?_
        | refine w_block ?_
        | (refine aw_regk fun κ hκ => ?_; simp (config := {implicitDefEqProofs := false}) only [avl1, avl2, avl3, avl4, avl5, if_true, if_false, beq_self_eq_true, ne_eq, reduceCtorEq, ↓reduceIte, Nat.reduceAdd, Nat.reduceLT, Nat.reduceEqDiff, Nat.reduceLeDiff, List.cons_ne_nil, rtA, (show ((0 : Nat) : Int) = 0 from rfl), (show ((1 : Nat) : Int) = 1 from rfl), Int.reduceLT, Int.reduceLE, Int.reduceToNat])
        | refine aw_exit ?_
        | refine aw_ret ?_
        | refine aw_skip ?_
        | refine aw_label ?_
        | refine condc_t ?_
        | refine condc_f ?_
        | (refine aw_cond2 (by simp (config := {implicitDefEqProofs := false}) only [avl1, avl2, avl3, avl4, avl5, if_true, if_false, beq_self_eq_true, ne_eq, reduceCtorEq, ↓reduceIte, Nat.reduceAdd, Nat.reduceLT, Nat.reduceEqDiff, Nat.reduceLeDiff, List.cons_ne_nil, rtA, (show ((0 : Nat) : Int) = 0 from rfl), (show ((1 : Nat) : Int) = 1 from rfl), Int.reduceLT, Int.reduceLE, Int.reduceToNat]; rfl) ?_)
        | (refine gkc_fork ?_ ?_ <;> intro hq <;> (simp (config := {implicitDefEqProofs := false}) only [hq, avl1, avl2, avl3, avl4, avl5, if_true, if_false, beq_self_eq_true, ne_eq, reduceCtorEq, ↓reduceIte, Nat.reduceAdd, Nat.reduceLT, Nat.reduceEqDiff, Nat.reduceLeDiff, List.cons_ne_nil, rtA, (show ((0 : Nat) : Int) = 0 from rfl), (show ((1 : Nat) : Int) = 1 from rfl), Int.reduceLT, Int.reduceLE, Int.reduceToNat]))
        | (refine condc_fork ?_ ?_ <;> intro hq)
        | (refine gkc_split ?_ ?_ <;> intro hq <;> (simp (config := {implicitDefEqProofs := false}) only [hq, avl1, avl2, avl3, avl4, avl5, if_true, if_false, beq_self_eq_true, ne_eq, reduceCtorEq, ↓reduceIte, Nat.reduceAdd, Nat.reduceLT, Nat.reduceEqDiff, Nat.reduceLeDiff, List.cons_ne_nil, rtA, (show ((0 : Nat) : Int) = 0 from rfl), (show ((1 : Nat) : Int) = 1 from rfl), Int.reduceLT, Int.reduceLE, Int.reduceToNat]))
        | (refine condc_bool ?_ ?_ <;> intro hq))
      · exact ret_bool rfl (by simp; omega)
      · refine ⟨1, .inr ⟨rfl, by omega⟩, ⟨rfl, 0, [], rfl, Nat.zero_le _, ⟨.same (.slice .full 6 [rtA a]) (okB_pur (by simp [pur, purL, hpl])), .same _ rfl, trivial⟩, trivial⟩, by omega⟩
    · try simp (config := {implicitDefEqProofs := false}) only [avl1, avl2, avl3, avl4, avl5, if_true, if_false, beq_self_eq_true, ne_eq, reduceCtorEq, ↓reduceIte, Nat.reduceAdd, Nat.reduceLT, Nat.reduceEqDiff, Nat.reduceLeDiff, List.cons_ne_nil, (show ((1 : Nat) : Int) = 1 from rfl), Int.lt_irrefl, Int.reduceLE, Int.reduceLT]
      repeat' (first
        | (refine (hκ _).mpr ?_; clear hκ)
        | refine kn1 ?_
        | refine kr1 ?_
        | refine ke1 ?_
        | refine kn2 ?_
        | refine kr2 ?_
        | refine kx2 ?_
        | refine ke2 rfl ?_
        | refine kn3 ?_
        | refine kr3 ?_
        | refine ke3 ?_
        | refine w_seq ?_
        | refine w_block ?_
        | (refine aw_regk fun κ hκ => ?_; simp (config := {implicitDefEqProofs := false}) only [avl1, avl2, avl3, avl4, avl5, if_true, if_false, beq_self_eq_true, ne_eq, reduceCtorEq, ↓reduceIte, Nat.reduceAdd, Nat.reduceLT, Nat.reduceEqDiff, Nat.reduceLeDiff, List.cons_ne_nil, (show ((1 : Nat) : Int) = 1 from rfl), Int.lt_irrefl, Int.reduceLE, Int.reduceLT])
        | refine aw_exit ?_
        | refine aw_ret ?_
        | refine aw_skip ?_
        | refine aw_label ?_
        | refine condc_t ?_
        | refine condc_f ?_
        | (refine aw_cond2 (by simp (config := {implicitDefEqProofs := false}) only [avl1, avl2, avl3, avl4, avl5, if_true, if_false, beq_self_eq_true, ne_eq, reduceCtorEq, ↓reduceIte, Nat.reduceAdd, Nat.reduceLT, Nat.reduceEqDiff, Nat.reduceLeDiff, List.cons_ne_nil, (show ((1 : Nat) : Int) = 1 from rfl), Int.lt_irrefl, Int.reduceLE, Int.reduceLT]; rfl) ?_)
        | (refine gkc_fork ?_ ?_ <;> intro hq <;> (simp (config := {implicitDefEqProofs := false}) only [hq, avl1, avl2, avl3, avl4, avl5, if_true, if_false, beq_self_eq_true, ne_eq, reduceCtorEq, ↓reduceIte, Nat.reduceAdd, Nat.reduceLT, Nat.reduceEqDiff, Nat.reduceLeDiff, List.cons_ne_nil, (show ((1 : Nat) : Int) = 1 from rfl), Int.lt_irrefl, Int.reduceLE, Int.reduceLT]))
        | (refine condc_fork ?_ ?_ <;> intro hq)
        | (refine gkc_split ?_ ?_ <;> intro hq <;> (simp (config := {implicitDefEqProofs := false}) only [hq, avl1, avl2, avl3, avl4, avl5, if_true, if_false, beq_self_eq_true, ne_eq, reduceCtorEq, ↓reduceIte, Nat.reduceAdd, Nat.reduceLT, Nat.reduceEqDiff, Nat.reduceLeDiff, List.cons_ne_nil, (show ((1 : Nat) : Int) = 1 from rfl), Int.lt_irrefl, Int.reduceLE, Int.reduceLT]))
        | (refine condc_bool ?_ ?_ <;> intro hq))
      exact ret_bool rfl (by simp; omega)
end Go.Proofs.Ytmlhbmlppgoklac
