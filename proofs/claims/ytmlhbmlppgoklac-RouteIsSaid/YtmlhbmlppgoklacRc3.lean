/- Is a path, a route sane? -/
import Derived.Test.YtmlhbmlppgoklacRc2
namespace Go.Proofs.Ytmlhbmlppgoklac
open Go.RowKit
set_option maxHeartbeats 1000000
set_option maxRecDepth 100000
set_option linter.unusedSimpArgs false
set_option linter.unusedVariables false


/-- A sane AS. -/
def oneB (x : Int) : Bool := decide (1 ≤ x) && decide (x ≤ 4294967295)
theorem all_of {α : Type} {p : α → Bool} {l : List α} (h : ∀ (j : Nat) (x : α), j < l.length → l[j]? = some x → p x = true) : l.all p = true :=
  List.all_eq_true.2 fun x hx => by
    obtain ⟨j, hj, rfl⟩ := List.getElem_of_mem hx
    exact h j _ hj (List.getElem?_eq_getElem hj)
theorem all_not {α : Type} {p : α → Bool} {l : List α} {j : Nat} {x : α} (h : l[j]? = some x) (hx : p x = false) : l.all p = false := by
  apply Bool.eq_false_iff.2
  intro ha
  have := List.all_eq_true.1 ha x (List.mem_of_getElem? h)
  rw [hx] at this
  cases this
theorem asane_ac (r : Rt) (hn : r.as.length ≤ 1000000) : ACt Try.prog 29 [paA r] (.bool (paB r)) [] := by
  refine act_of p_attr_Sane (by simp [c_attr_Sane]) ?_
  show AW _ b_attr_Sane (RetOk [.tmp 2] _ _) ⟨53, [(0, _)], [], []⟩
  unfold b_attr_Sane paA paC
  try simp (config := {implicitDefEqProofs := false}) only [avl1, avl2, avl3, avl4, avl5, if_true, if_false, beq_self_eq_true, ne_eq, reduceCtorEq, ↓reduceIte, Nat.reduceAdd, Nat.reduceLT, Nat.reduceEqDiff, Nat.reduceLeDiff, List.cons_ne_nil]
  repeat (first
    | (refine (hκ _).mpr ?_; clear hκ)
    | refine kn1 ?_
    | refine kr1 ?_
    | refine ke1 ?_
    | refine kn2 ?_
    | refine kr2 ?_
    | refine kx2 ?_
    | refine ke2 rfl ?_
    | refine kn3 ?_
    | refine kr3 ?_
    | refine ke3 ?_
    | refine w_seq ?_
    | refine w_block ?_
    | (refine aw_regk fun κ hκ => ?_; simp (config := {implicitDefEqProofs := false}) only [avl1, avl2, avl3, avl4, avl5, if_true, if_false, beq_self_eq_true, ne_eq, reduceCtorEq, ↓reduceIte, Nat.reduceAdd, Nat.reduceLT, Nat.reduceEqDiff, Nat.reduceLeDiff, List.cons_ne_nil])
    | refine aw_exit ?_
    | refine aw_ret ?_
    | refine aw_skip ?_
    | refine aw_label ?_
    | refine condc_t ?_
    | refine condc_f ?_)
  refine w_loop (fun k => k ≤ r.as.length ∧ ∀ (j : Nat) (x : Int), j < k → r.as[j]? = some x → oneB x = true) (fun k => ⟨53, [(1,  .ptr 0 0),  (6,  .slice .imm 1 (r.as.map iA)),  (7,  .int .i64 r.as.length),  (8,  .int .i64 k)], [(25, paC r)], []⟩) (fun k => r.as.length - k) 0 ⟨Nat.zero_le _, fun j x hj => by omega⟩ ?_ ?_
  · refine ⟨rfl, 0, [], rfl, Nat.zero_le _, ⟨.same _ rfl, ?_⟩, ⟨rfl, ?_, trivial⟩⟩
    · first
        | exact ⟨.same (.slice .imm 1 (r.as.map iA)) (okB_pur (by simp [purL_map_eq, pur, iA])), .same _ rfl, .same _ rfl, trivial⟩
        | exact ⟨.same _ rfl, trivial⟩
    · repeat (first
        | exact trivial
        | exact rfl
        | refine ⟨.same _ (by first | rfl | exact okBL_pur (purL_map fun _ => rfl)), ?_⟩
        | refine ⟨rfl, ?_⟩
        | refine ⟨?_, ?_⟩)
  · intro k ⟨hk, hz⟩
    unfold paC
    have hw : IntKind.i64.wrap ((k : Int) + 1) = ((k + 1 : Nat) : Int) := by rw [wrap64 (by omega) (by omega)]; omega
    by_cases hlt : k < r.as.length
    · obtain ⟨x, hx⟩ : ∃ x, r.as[k]? = some x := ⟨_, List.getElem?_eq_getElem hlt⟩
      try simp (config := {implicitDefEqProofs := false}) only [avl1, avl2, avl3, avl4, avl5, if_true, if_false, beq_self_eq_true, ne_eq, reduceCtorEq, ↓reduceIte, Nat.reduceAdd, Nat.reduceLT, Nat.reduceEqDiff, Nat.reduceLeDiff, List.cons_ne_nil, iA, hlt, hx, hw]
      repeat' (first
        | (refine (hκ _).mpr ?_; clear hκ)
        | refine kn1 ?_
        | refine kr1 ?_
        | refine ke1 ?_
        | refine kn2 ?_
        | refine kr2 ?_
        | refine kx2 ?_
        | refine ke2 rfl ?_
        | refine kn3 ?_
        | refine kr3 ?_
        | refine ke3 ?_
        | refine w_seq ?_
        | refine w_block ?_
        | (refine aw_regk fun κ hκ => ?_; simp (config := {implicitDefEqProofs := false}) only [avl1, avl2, avl3, avl4, avl5, if_true, if_false, beq_self_eq_true, ne_eq, reduceCtorEq, ↓reduceIte, Nat.reduceAdd, Nat.reduceLT, Nat.reduceEqDiff, Nat.reduceLeDiff, List.cons_ne_nil, iA, hlt, hx, hw])
        | refine aw_exit ?_
        | refine aw_ret ?_
        | refine aw_skip ?_
        | refine aw_label ?_
        | refine condc_t ?_
        | refine condc_f ?_
        | (refine aw_cond2 (by simp (config := {implicitDefEqProofs := false}) only [avl1, avl2, avl3, avl4, avl5, if_true, if_false, beq_self_eq_true, ne_eq, reduceCtorEq, ↓reduceIte, Nat.reduceAdd, Nat.reduceLT, Nat.reduceEqDiff, Nat.reduceLeDiff, List.cons_ne_nil, iA, hlt, hx, hw]; rfl) ?_)
        | (refine gkc_fork ?_ ?_ <;> intro hq <;> (simp (config := {implicitDefEqProofs := false}) only [hq, avl1, avl2, avl3, avl4, avl5, if_true, if_false, beq_self_eq_true, ne_eq, reduceCtorEq, ↓reduceIte, Nat.reduceAdd, Nat.reduceLT, Nat.reduceEqDiff, Nat.reduceLeDiff, List.cons_ne_nil, iA, hlt, hx, hw]))
        | (refine condc_fork ?_ ?_ <;> intro hq)
        | (refine gkc_split ?_ ?_ <;> intro hq <;> (simp (config := {implicitDefEqProofs := false}) only [hq, avl1, avl2, avl3, avl4, avl5, if_true, if_false, beq_self_eq_true, ne_eq, reduceCtorEq, ↓reduceIte, Nat.reduceAdd, Nat.reduceLT, Nat.reduceEqDiff, Nat.reduceLeDiff, List.cons_ne_nil, iA, hlt, hx, hw]))
        | (refine condc_bool ?_ ?_ <;> intro hq))
      · refine ret_bool rfl ?_
        symm
        unfold paB asB
        rw [Bool.and_eq_false_iff]
        exact .inl (all_not hx (by simp; omega))
      · refine ret_bool rfl ?_
        symm
        unfold paB asB
        rw [Bool.and_eq_false_iff]
        exact .inl (all_not hx (by simp; omega))
      · refine ⟨k + 1, ⟨by omega, ?_⟩, ⟨rfl, 0, [], rfl, by simp, ⟨.same _ rfl, ?_⟩, ⟨rfl, ?_, trivial⟩⟩, by omega⟩
        · intro j y hj hy
          rcases Nat.lt_or_ge j k with h1 | h1
          · exact hz j y h1 hy
          · obtain rfl : j = k := by omega
            rw [hx] at hy
            injection hy with hy
            subst hy
            simp [oneB]
            omega
        · first
            | exact ⟨.same (.slice .imm 1 (r.as.map iA)) (okB_pur (by simp [purL_map_eq, pur, iA])), .same _ rfl, .same _ rfl, trivial⟩
            | exact ⟨.same _ rfl, trivial⟩
        · repeat (first
            | exact trivial
            | exact rfl
            | refine ⟨.same _ (by first | rfl | exact okBL_pur (purL_map fun _ => rfl)), ?_⟩
            | refine ⟨rfl, ?_⟩
            | refine ⟨?_, ?_⟩)
    · obtain rfl : k = r.as.length := by omega
      have hall : asB r = true := all_of hz
      try simp (config := {implicitDefEqProofs := false}) only [avl1, avl2, avl3, avl4, avl5, if_true, if_false, beq_self_eq_true, ne_eq, reduceCtorEq, ↓reduceIte, Nat.reduceAdd, Nat.reduceLT, Nat.reduceEqDiff, Nat.reduceLeDiff, List.cons_ne_nil, Nat.lt_irrefl]
      repeat' (first
        | (refine (hκ _).mpr ?_; clear hκ)
        | refine kn1 ?_
        | refine kr1 ?_
        | refine ke1 ?_
        | refine kn2 ?_
        | refine kr2 ?_
        | refine kx2 ?_
        | refine ke2 rfl ?_
        | refine kn3 ?_
        | refine kr3 ?_
        | refine ke3 ?_
        | refine w_seq ?_
        | refine w_block ?_
        | (refine aw_regk fun κ hκ => ?_; simp (config := {implicitDefEqProofs := false}) only [avl1, avl2, avl3, avl4, avl5, if_true, if_false, beq_self_eq_true, ne_eq, reduceCtorEq, ↓reduceIte, Nat.reduceAdd, Nat.reduceLT, Nat.reduceEqDiff, Nat.reduceLeDiff, List.cons_ne_nil, Nat.lt_irrefl])
        | refine aw_exit ?_
        | refine aw_ret ?_
        | refine aw_skip ?_
        | refine aw_label ?_
        | refine condc_t ?_
        | refine condc_f ?_
        | (refine aw_cond2 (by simp (config := {implicitDefEqProofs := false}) only [avl1, avl2, avl3, avl4, avl5, if_true, if_false, beq_self_eq_true, ne_eq, reduceCtorEq, ↓reduceIte, Nat.reduceAdd, Nat.reduceLT, Nat.reduceEqDiff, Nat.reduceLeDiff, List.cons_ne_nil, Nat.lt_irrefl]; rfl) ?_)
        | (refine gkc_fork ?_ ?_ <;> intro hq <;> (simp (config := {implicitDefEqProofs := false}) only [hq, avl1, avl2, avl3, avl4, avl5, if_true, if_false, beq_self_eq_true, ne_eq, reduceCtorEq, ↓reduceIte, Nat.reduceAdd, Nat.reduceLT, Nat.reduceEqDiff, Nat.reduceLeDiff, List.cons_ne_nil, Nat.lt_irrefl]))
        | (refine condc_fork ?_ ?_ <;> intro hq)
        | (refine gkc_split ?_ ?_ <;> intro hq <;> (simp (config := {implicitDefEqProofs := false}) only [hq, avl1, avl2, avl3, avl4, avl5, if_true, if_false, beq_self_eq_true, ne_eq, reduceCtorEq, ↓reduceIte, Nat.reduceAdd, Nat.reduceLT, Nat.reduceEqDiff, Nat.reduceLeDiff, List.cons_ne_nil, Nat.lt_irrefl]))
        | (refine condc_bool ?_ ?_ <;> intro hq))
      all_goals (first | refine ret_bool rfl ?_ | (trace_state; sorry))
      all_goals (rw [Bool.eq_iff_iff]; unfold paB; simp only [hall, Bool.and_eq_true, decide_eq_true_eq, Bool.false_eq_true, true_and, false_iff, true_iff] <;> omega)
theorem psane_ac (r : Rt) (hn : r.as.length ≤ 1000000) : ACt Try.prog 30 [paA r] (.bool (paB r)) [] := by
  refine act_of p_ridgewayref07_Sane (by simp [c_ridgewayref07_Sane]) ?_
  show AW _ b_ridgewayref07_Sane (RetOk [.tmp 2] _ _) ⟨59, [(0, _)], [], []⟩
  unfold b_ridgewayref07_Sane paA paC
  try simp (config := {implicitDefEqProofs := false}) only [avl1, avl2, avl3, avl4, avl5, if_true, if_false, beq_self_eq_true, ne_eq, reduceCtorEq, ↓reduceIte, Nat.reduceAdd, Nat.reduceLT, Nat.reduceEqDiff, Nat.reduceLeDiff, List.cons_ne_nil]
  repeat (first
    | (refine (hκ _).mpr ?_; clear hκ)
    | refine kn1 ?_
    | refine kr1 ?_
    | refine ke1 ?_
    | refine kn2 ?_
    | refine kr2 ?_
    | refine kx2 ?_
    | refine ke2 rfl ?_
    | refine kn3 ?_
    | refine kr3 ?_
    | refine ke3 ?_
    | refine w_seq ?_
    | refine w_block ?_
    | (refine aw_regk fun κ hκ => ?_; simp (config := {implicitDefEqProofs := false}) only [avl1, avl2, avl3, avl4, avl5, if_true, if_false, beq_self_eq_true, ne_eq, reduceCtorEq, ↓reduceIte, Nat.reduceAdd, Nat.reduceLT, Nat.reduceEqDiff, Nat.reduceLeDiff, List.cons_ne_nil])
    | refine aw_exit ?_
    | refine aw_ret ?_
    | refine aw_skip ?_
    | refine aw_label ?_
    | refine condc_t ?_
    | refine condc_f ?_)
  refine w_loop (fun k => k ≤ r.as.length ∧ ∀ (j : Nat) (x : Int), j < k → r.as[j]? = some x → oneB x = true) (fun k => ⟨59, [(1,  .ptr 0 0),  (3,  .int .i64 k)], [(25, paC r)], []⟩) (fun k => r.as.length - k) 0 ⟨Nat.zero_le _, fun j x hj => by omega⟩ ?_ ?_
  · refine ⟨rfl, 0, [], rfl, Nat.zero_le _, ⟨.same _ rfl, ?_⟩, ⟨rfl, ?_, trivial⟩⟩
    · first
        | exact ⟨.same (.slice .imm 1 (r.as.map iA)) (okB_pur (by simp [purL_map_eq, pur, iA])), .same _ rfl, .same _ rfl, trivial⟩
        | exact ⟨.same _ rfl, trivial⟩
    · repeat (first
        | exact trivial
        | exact rfl
        | refine ⟨.same _ (by first | rfl | exact okBL_pur (purL_map fun _ => rfl)), ?_⟩
        | refine ⟨rfl, ?_⟩
        | refine ⟨?_, ?_⟩)
  · intro k ⟨hk, hz⟩
    unfold paC
    have hw : IntKind.i64.wrap ((k : Int) + 1) = ((k + 1 : Nat) : Int) := by rw [wrap64 (by omega) (by omega)]; omega
    by_cases hlt : k < r.as.length
    · obtain ⟨x, hx⟩ : ∃ x, r.as[k]? = some x := ⟨_, List.getElem?_eq_getElem hlt⟩
      try simp (config := {implicitDefEqProofs := false}) only [avl1, avl2, avl3, avl4, avl5, if_true, if_false, beq_self_eq_true, ne_eq, reduceCtorEq, ↓reduceIte, Nat.reduceAdd, Nat.reduceLT, Nat.reduceEqDiff, Nat.reduceLeDiff, List.cons_ne_nil, iA, hlt, hx, hw]
      repeat' (first
        | (refine (hκ _).mpr ?_; clear hκ)
        | refine kn1 ?_
        | refine kr1 ?_
        | refine ke1 ?_
        | refine kn2 ?_
        | refine kr2 ?_
        | refine kx2 ?_
        | refine ke2 rfl ?_
        | refine kn3 ?_
        | refine kr3 ?_
        | refine ke3 ?_
        | refine w_seq ?_
        | refine w_block ?_
        | (refine aw_regk fun κ hκ => ?_; simp (config := {implicitDefEqProofs := false}) only [avl1, avl2, avl3, avl4, avl5, if_true, if_false, beq_self_eq_true, ne_eq, reduceCtorEq, ↓reduceIte, Nat.reduceAdd, Nat.reduceLT, Nat.reduceEqDiff, Nat.reduceLeDiff, List.cons_ne_nil, iA, hlt, hx, hw])
        | refine aw_exit ?_
        | refine aw_ret ?_
        | refine aw_skip ?_
        | refine aw_label ?_
        | refine condc_t ?_
        | refine condc_f ?_
        | (refine aw_cond2 (by simp (config := {implicitDefEqProofs := false}) only [avl1, avl2, avl3, avl4, avl5, if_true, if_false, beq_self_eq_true, ne_eq, reduceCtorEq, ↓reduceIte, Nat.reduceAdd, Nat.reduceLT, Nat.reduceEqDiff, Nat.reduceLeDiff, List.cons_ne_nil, iA, hlt, hx, hw]; rfl) ?_)
        | (refine gkc_fork ?_ ?_ <;> intro hq <;> (simp (config := {implicitDefEqProofs := false}) only [hq, avl1, avl2, avl3, avl4, avl5, if_true, if_false, beq_self_eq_true, ne_eq, reduceCtorEq, ↓reduceIte, Nat.reduceAdd, Nat.reduceLT, Nat.reduceEqDiff, Nat.reduceLeDiff, List.cons_ne_nil, iA, hlt, hx, hw]))
        | (refine condc_fork ?_ ?_ <;> intro hq)
        | (refine gkc_split ?_ ?_ <;> intro hq <;> (simp (config := {implicitDefEqProofs := false}) only [hq, avl1, avl2, avl3, avl4, avl5, if_true, if_false, beq_self_eq_true, ne_eq, reduceCtorEq, ↓reduceIte, Nat.reduceAdd, Nat.reduceLT, Nat.reduceEqDiff, Nat.reduceLeDiff, List.cons_ne_nil, iA, hlt, hx, hw]))
        | (refine condc_bool ?_ ?_ <;> intro hq))
      · refine ret_bool rfl ?_
        symm
        unfold paB asB
        rw [Bool.and_eq_false_iff]
        exact .inl (all_not hx (by simp; omega))
      · refine ret_bool rfl ?_
        symm
        unfold paB asB
        rw [Bool.and_eq_false_iff]
        exact .inl (all_not hx (by simp; omega))
      · refine ⟨k + 1, ⟨by omega, ?_⟩, ⟨rfl, 0, [], rfl, by simp, ⟨.same _ rfl, ?_⟩, ⟨rfl, ?_, trivial⟩⟩, by omega⟩
        · intro j y hj hy
          rcases Nat.lt_or_ge j k with h1 | h1
          · exact hz j y h1 hy
          · obtain rfl : j = k := by omega
            rw [hx] at hy
            injection hy with hy
            subst hy
            simp [oneB]
            omega
        · first
            | exact ⟨.same (.slice .imm 1 (r.as.map iA)) (okB_pur (by simp [purL_map_eq, pur, iA])), .same _ rfl, .same _ rfl, trivial⟩
            | exact ⟨.same _ rfl, trivial⟩
        · repeat (first
            | exact trivial
            | exact rfl
            | refine ⟨.same _ (by first | rfl | exact okBL_pur (purL_map fun _ => rfl)), ?_⟩
            | refine ⟨rfl, ?_⟩
            | refine ⟨?_, ?_⟩)
    · obtain rfl : k = r.as.length := by omega
      have hall : asB r = true := all_of hz
      try simp (config := {implicitDefEqProofs := false}) only [avl1, avl2, avl3, avl4, avl5, if_true, if_false, beq_self_eq_true, ne_eq, reduceCtorEq, ↓reduceIte, Nat.reduceAdd, Nat.reduceLT, Nat.reduceEqDiff, Nat.reduceLeDiff, List.cons_ne_nil, Nat.lt_irrefl]
      repeat' (first
        | (refine (hκ _).mpr ?_; clear hκ)
        | refine kn1 ?_
        | refine kr1 ?_
        | refine ke1 ?_
        | refine kn2 ?_
        | refine kr2 ?_
        | refine kx2 ?_
        | refine ke2 rfl ?_
        | refine kn3 ?_
        | refine kr3 ?_
        | refine ke3 ?_
        | refine w_seq ?_
        | refine w_block ?_
        | (refine aw_regk fun κ hκ => ?_; simp (config := {implicitDefEqProofs := false}) only [avl1, avl2, avl3, avl4, avl5, if_true, if_false, beq_self_eq_true, ne_eq, reduceCtorEq, ↓reduceIte, Nat.reduceAdd, Nat.reduceLT, Nat.reduceEqDiff, Nat.reduceLeDiff, List.cons_ne_nil, Nat.lt_irrefl])
        | refine aw_exit ?_
        | refine aw_ret ?_
        | refine aw_skip ?_
        | refine aw_label ?_
        | refine condc_t ?_
        | refine condc_f ?_
        | (refine aw_cond2 (by simp (config := {implicitDefEqProofs := false}) only [avl1, avl2, avl3, avl4, avl5, if_true, if_false, beq_self_eq_true, ne_eq, reduceCtorEq, ↓reduceIte, Nat.reduceAdd, Nat.reduceLT, Nat.reduceEqDiff, Nat.reduceLeDiff, List.cons_ne_nil, Nat.lt_irrefl]; rfl) ?_)
        | (refine gkc_fork ?_ ?_ <;> intro hq <;> (simp (config := {implicitDefEqProofs := false}) only [hq, avl1, avl2, avl3, avl4, avl5, if_true, if_false, beq_self_eq_true, ne_eq, reduceCtorEq, ↓reduceIte, Nat.reduceAdd, Nat.reduceLT, Nat.reduceEqDiff, Nat.reduceLeDiff, List.cons_ne_nil, Nat.lt_irrefl]))
        | (refine condc_fork ?_ ?_ <;> intro hq)
        | (refine gkc_split ?_ ?_ <;> intro hq <;> (simp (config := {implicitDefEqProofs := false}) only [hq, avl1, avl2, avl3, avl4, avl5, if_true, if_false, beq_self_eq_true, ne_eq, reduceCtorEq, ↓reduceIte, Nat.reduceAdd, Nat.reduceLT, Nat.reduceEqDiff, Nat.reduceLeDiff, List.cons_ne_nil, Nat.lt_irrefl]))
        | (refine condc_bool ?_ ?_ <;> intro hq))
      all_goals (first | refine ret_bool rfl ?_ | (trace_state; sorry))
      all_goals (rw [Bool.eq_iff_iff]; unfold paB; simp only [hall, Bool.and_eq_true, decide_eq_true_eq, Bool.false_eq_true, true_and, false_iff, true_iff] <;> omega)
end Go.Proofs.Ytmlhbmlppgoklac
