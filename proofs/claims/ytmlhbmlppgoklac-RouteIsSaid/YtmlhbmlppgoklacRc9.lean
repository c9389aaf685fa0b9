/- RouteIs over plain values. -/
import Derived.Test.YtmlhbmlppgoklacRc8
namespace Go.Proofs.Ytmlhbmlppgoklac
open Go.RowKit
set_option maxHeartbeats 4000000
set_option maxRecDepth 100000
set_option linter.unusedSimpArgs false
set_option linter.unusedVariables false

theorem bst_mem : ∀ (b : Rt) (l : List Rt), bst b l = b ∨ bst b l ∈ l
  | b, [] => .inl rfl
  | b, x :: t => by
    show bst (if compareR x b < 0 then x else b) t = b ∨ _
    rcases bst_mem (if compareR x b < 0 then x else b) t with h | h
    · rw [show bst b (x :: t) = bst (if compareR x b < 0 then x else b) t from rfl, h]
      by_cases hq : compareR x b < 0
      · rw [if_pos hq]; exact .inr (.head _)
      · rw [if_neg hq]; exact .inl rfl
    · exact .inr (.tail _ h)
theorem routeIs_ac (l : List Rt) (a : Rt) (hop : Int) (hbig : (l.length : Int) ≤ 9223372036854775807) : ACt Try.prog 3 [.slice .imm 6 (l.map rtA), rtA a, .int .i64 hop] (.bool true) [] := by
  refine act_of p_ridgewaylaw09_RouteIs (by simp [c_ridgewaylaw09_RouteIs]) ?_
  show AW _ b_ridgewaylaw09_RouteIs (RetOk [.tmp 6] _ _) ⟨106, [(0, _), (1, _), (2, _)], [], []⟩
  unfold b_ridgewaylaw09_RouteIs
  have hpl := pur_rts l
  have hpa := pur_rt a
  have hpal : purL [AV.slice .imm 6 (l.map rtA)] = true := by show (pur (AV.slice .imm 6 (l.map rtA)) && true) = true; rw [hpl]; rfl
  have hpaa : purL [rtA a] = true := by show (pur (rtA a) && true) = true; rw [hpa]; rfl
  have hfw := few_ac l hbig
  have hf1 := few1_ac a
  try simp (config := {implicitDefEqProofs := false}) only [avl1, avl2, avl3, avl4, avl5, if_true, if_false, beq_self_eq_true, ne_eq, reduceCtorEq, ↓reduceIte, Nat.reduceAdd, Nat.reduceLT, Nat.reduceEqDiff, Nat.reduceLeDiff, List.cons_ne_nil, rtA]
  repeat' (first
    | (refine (hκ _).mpr ?_; clear hκ)
    | refine kn1 ?_
    | refine kr1 ?_
    | refine ke1 ?_
    | refine kn2 ?_
    | refine kr2 ?_
    | refine kx2 ?_
    | refine ke2 rfl ?_
    | refine kn3 ?_
    | refine kr3 ?_
    | refine ke3 ?_
    | refine w_seq ?_
    | refine w_block ?_
    | (refine aw_regk fun κ hκ => ?_; simp (config := {implicitDefEqProofs := false}) only [avl1, avl2, avl3, avl4, avl5, if_true, if_false, beq_self_eq_true, ne_eq, reduceCtorEq, ↓reduceIte, Nat.reduceAdd, Nat.reduceLT, Nat.reduceEqDiff, Nat.reduceLeDiff, List.cons_ne_nil, rtA])
    | refine aw_exit ?_
    | refine aw_ret ?_
    | refine aw_skip ?_
    | refine aw_label ?_
    | refine condc_t ?_
    | refine condc_f ?_
    | (refine aw_cond2 (by simp (config := {implicitDefEqProofs := false}) only [avl1, avl2, avl3, avl4, avl5, if_true, if_false, beq_self_eq_true, ne_eq, reduceCtorEq, ↓reduceIte, Nat.reduceAdd, Nat.reduceLT, Nat.reduceEqDiff, Nat.reduceLeDiff, List.cons_ne_nil, rtA]; rfl) ?_)
    | (refine gkc_fork ?_ ?_ <;> intro hq <;> (simp (config := {implicitDefEqProofs := false}) only [hq, avl1, avl2, avl3, avl4, avl5, if_true, if_false, beq_self_eq_true, ne_eq, reduceCtorEq, ↓reduceIte, Nat.reduceAdd, Nat.reduceLT, Nat.reduceEqDiff, Nat.reduceLeDiff, List.cons_ne_nil, rtA]))
    | (refine condc_fork ?_ ?_ <;> intro hq)
    | (refine gkc_split ?_ ?_ <;> intro hq <;> (simp (config := {implicitDefEqProofs := false}) only [hq, avl1, avl2, avl3, avl4, avl5, if_true, if_false, beq_self_eq_true, ne_eq, reduceCtorEq, ↓reduceIte, Nat.reduceAdd, Nat.reduceLT, Nat.reduceEqDiff, Nat.reduceLeDiff, List.cons_ne_nil, rtA]))
    | (refine condc_bool ?_ ?_ <;> intro hq))
  refine callc awake_ac rfl ?_
  try simp (config := {implicitDefEqProofs := false}) only [avl1, avl2, avl3, avl4, avl5, if_true, if_false, beq_self_eq_true, ne_eq, reduceCtorEq, ↓reduceIte, Nat.reduceAdd, Nat.reduceLT, Nat.reduceEqDiff, Nat.reduceLeDiff, List.cons_ne_nil]
  repeat' (first
    | (refine (hκ _).mpr ?_; clear hκ)
    | refine kn1 ?_
    | refine kr1 ?_
    | refine ke1 ?_
    | refine kn2 ?_
    | refine kr2 ?_
    | refine kx2 ?_
    | refine ke2 rfl ?_
    | refine kn3 ?_
    | refine kr3 ?_
    | refine ke3 ?_
    | refine w_seq ?_
    | refine w_block ?_
    | (refine aw_regk fun κ hκ => ?_; simp (config := {implicitDefEqProofs := false}) only [avl1, avl2, avl3, avl4, avl5, if_true, if_false, beq_self_eq_true, ne_eq, reduceCtorEq, ↓reduceIte, Nat.reduceAdd, Nat.reduceLT, Nat.reduceEqDiff, Nat.reduceLeDiff, List.cons_ne_nil])
    | refine aw_exit ?_
    | refine aw_ret ?_
    | refine aw_skip ?_
    | refine aw_label ?_
    | refine condc_t ?_
    | refine condc_f ?_
    | (refine aw_cond2 (by simp (config := {implicitDefEqProofs := false}) only [avl1, avl2, avl3, avl4, avl5, if_true, if_false, beq_self_eq_true, ne_eq, reduceCtorEq, ↓reduceIte, Nat.reduceAdd, Nat.reduceLT, Nat.reduceEqDiff, Nat.reduceLeDiff, List.cons_ne_nil]; rfl) ?_)
    | (refine gkc_fork ?_ ?_ <;> intro hq <;> (simp (config := {implicitDefEqProofs := false}) only [hq, avl1, avl2, avl3, avl4, avl5, if_true, if_false, beq_self_eq_true, ne_eq, reduceCtorEq, ↓reduceIte, Nat.reduceAdd, Nat.reduceLT, Nat.reduceEqDiff, Nat.reduceLeDiff, List.cons_ne_nil]))
    | (refine condc_fork ?_ ?_ <;> intro hq)
    | (refine gkc_split ?_ ?_ <;> intro hq <;> (simp (config := {implicitDefEqProofs := false}) only [hq, avl1, avl2, avl3, avl4, avl5, if_true, if_false, beq_self_eq_true, ne_eq, reduceCtorEq, ↓reduceIte, Nat.reduceAdd, Nat.reduceLT, Nat.reduceEqDiff, Nat.reduceLeDiff, List.cons_ne_nil]))
    | (refine condc_bool ?_ ?_ <;> intro hq))
  refine callc hfw hpal ?_
  cases hf : fewB l
  · try simp (config := {implicitDefEqProofs := false}) only [avl1, avl2, avl3, avl4, avl5, if_true, if_false, beq_self_eq_true, ne_eq, reduceCtorEq, ↓reduceIte, Nat.reduceAdd, Nat.reduceLT, Nat.reduceEqDiff, Nat.reduceLeDiff, List.cons_ne_nil, Bool.not_false, Bool.not_true]
    repeat' (first
      | (refine (hκ _).mpr ?_; clear hκ)
      | refine kn1 ?_
      | refine kr1 ?_
      | refine ke1 ?_
      | refine kn2 ?_
      | refine kr2 ?_
      | refine kx2 ?_
      | refine ke2 rfl ?_
      | refine kn3 ?_
      | refine kr3 ?_
      | refine ke3 ?_
      | refine w_seq ?_
      | refine w_block ?_
      | (refine aw_regk fun κ hκ => ?_; simp (config := {implicitDefEqProofs := false}) only [avl1, avl2, avl3, avl4, avl5, if_true, if_false, beq_self_eq_true, ne_eq, reduceCtorEq, ↓reduceIte, Nat.reduceAdd, Nat.reduceLT, Nat.reduceEqDiff, Nat.reduceLeDiff, List.cons_ne_nil, Bool.not_false, Bool.not_true])
      | refine aw_exit ?_
      | refine aw_ret ?_
      | refine aw_skip ?_
      | refine aw_label ?_
      | refine condc_t ?_
      | refine condc_f ?_
      | (refine aw_cond2 (by simp (config := {implicitDefEqProofs := false}) only [avl1, avl2, avl3, avl4, avl5, if_true, if_false, beq_self_eq_true, ne_eq, reduceCtorEq, ↓reduceIte, Nat.reduceAdd, Nat.reduceLT, Nat.reduceEqDiff, Nat.reduceLeDiff, List.cons_ne_nil, Bool.not_false, Bool.not_true]; rfl) ?_)
      | (refine gkc_fork ?_ ?_ <;> intro hq <;> (simp (config := {implicitDefEqProofs := false}) only [hq, avl1, avl2, avl3, avl4, avl5, if_true, if_false, beq_self_eq_true, ne_eq, reduceCtorEq, ↓reduceIte, Nat.reduceAdd, Nat.reduceLT, Nat.reduceEqDiff, Nat.reduceLeDiff, List.cons_ne_nil, Bool.not_false, Bool.not_true]))
      | (refine condc_fork ?_ ?_ <;> intro hq)
      | (refine gkc_split ?_ ?_ <;> intro hq <;> (simp (config := {implicitDefEqProofs := false}) only [hq, avl1, avl2, avl3, avl4, avl5, if_true, if_false, beq_self_eq_true, ne_eq, reduceCtorEq, ↓reduceIte, Nat.reduceAdd, Nat.reduceLT, Nat.reduceEqDiff, Nat.reduceLeDiff, List.cons_ne_nil, Bool.not_false, Bool.not_true]))
      | (refine condc_bool ?_ ?_ <;> intro hq))
    exact ret_bool rfl rfl
  have hfew : (∀ r ∈ l, r.as.length ≤ 100) ∧ l.length ≤ 30 := by
    unfold fewB at hf
    simp only [Bool.and_eq_true, List.all_eq_true, decide_eq_true_eq] at hf
    exact hf
  try simp (config := {implicitDefEqProofs := false}) only [avl1, avl2, avl3, avl4, avl5, if_true, if_false, beq_self_eq_true, ne_eq, reduceCtorEq, ↓reduceIte, Nat.reduceAdd, Nat.reduceLT, Nat.reduceEqDiff, Nat.reduceLeDiff, List.cons_ne_nil, Bool.not_false, Bool.not_true]
  repeat' (first
    | (refine (hκ _).mpr ?_; clear hκ)
    | refine kn1 ?_
    | refine kr1 ?_
    | refine ke1 ?_
    | refine kn2 ?_
    | refine kr2 ?_
    | refine kx2 ?_
    | refine ke2 rfl ?_
    | refine kn3 ?_
    | refine kr3 ?_
    | refine ke3 ?_
    | refine w_seq ?_
    | refine w_block ?_
    | (refine aw_regk fun κ hκ => ?_; simp (config := {implicitDefEqProofs := false}) only [avl1, avl2, avl3, avl4, avl5, if_true, if_false, beq_self_eq_true, ne_eq, reduceCtorEq, ↓reduceIte, Nat.reduceAdd, Nat.reduceLT, Nat.reduceEqDiff, Nat.reduceLeDiff, List.cons_ne_nil, Bool.not_false, Bool.not_true])
    | refine aw_exit ?_
    | refine aw_ret ?_
    | refine aw_skip ?_
    | refine aw_label ?_
    | refine condc_t ?_
    | refine condc_f ?_
    | (refine aw_cond2 (by simp (config := {implicitDefEqProofs := false}) only [avl1, avl2, avl3, avl4, avl5, if_true, if_false, beq_self_eq_true, ne_eq, reduceCtorEq, ↓reduceIte, Nat.reduceAdd, Nat.reduceLT, Nat.reduceEqDiff, Nat.reduceLeDiff, List.cons_ne_nil, Bool.not_false, Bool.not_true]; rfl) ?_)
    | (refine gkc_fork ?_ ?_ <;> intro hq <;> (simp (config := {implicitDefEqProofs := false}) only [hq, avl1, avl2, avl3, avl4, avl5, if_true, if_false, beq_self_eq_true, ne_eq, reduceCtorEq, ↓reduceIte, Nat.reduceAdd, Nat.reduceLT, Nat.reduceEqDiff, Nat.reduceLeDiff, List.cons_ne_nil, Bool.not_false, Bool.not_true]))
    | (refine condc_fork ?_ ?_ <;> intro hq)
    | (refine gkc_split ?_ ?_ <;> intro hq <;> (simp (config := {implicitDefEqProofs := false}) only [hq, avl1, avl2, avl3, avl4, avl5, if_true, if_false, beq_self_eq_true, ne_eq, reduceCtorEq, ↓reduceIte, Nat.reduceAdd, Nat.reduceLT, Nat.reduceEqDiff, Nat.reduceLeDiff, List.cons_ne_nil, Bool.not_false, Bool.not_true]))
    | (refine condc_bool ?_ ?_ <;> intro hq))
  refine callc hf1 (by simp [purL, pur, purL_map_eq, iA]) ?_
  by_cases h1 : a.as.length ≤ 100
  rotate_left
  · try simp (config := {implicitDefEqProofs := false}) only [avl1, avl2, avl3, avl4, avl5, if_true, if_false, beq_self_eq_true, ne_eq, reduceCtorEq, ↓reduceIte, Nat.reduceAdd, Nat.reduceLT, Nat.reduceEqDiff, Nat.reduceLeDiff, List.cons_ne_nil, h1, Bool.not_false, Bool.not_true, not_false_eq_true]
    repeat' (first
      | (refine (hκ _).mpr ?_; clear hκ)
      | refine kn1 ?_
      | refine kr1 ?_
      | refine ke1 ?_
      | refine kn2 ?_
      | refine kr2 ?_
      | refine kx2 ?_
      | refine ke2 rfl ?_
      | refine kn3 ?_
      | refine kr3 ?_
      | refine ke3 ?_
      | refine w_seq ?_
      | refine w_block ?_
      | (refine aw_regk fun κ hκ => ?_; simp (config := {implicitDefEqProofs := false}) only [avl1, avl2, avl3, avl4, avl5, if_true, if_false, beq_self_eq_true, ne_eq, reduceCtorEq, ↓reduceIte, Nat.reduceAdd, Nat.reduceLT, Nat.reduceEqDiff, Nat.reduceLeDiff, List.cons_ne_nil, h1, Bool.not_false, Bool.not_true, not_false_eq_true])
      | refine aw_exit ?_
      | refine aw_ret ?_
      | refine aw_skip ?_
      | refine aw_label ?_
      | refine condc_t ?_
      | refine condc_f ?_
      | (refine aw_cond2 (by simp (config := {implicitDefEqProofs := false}) only [avl1, avl2, avl3, avl4, avl5, if_true, if_false, beq_self_eq_true, ne_eq, reduceCtorEq, ↓reduceIte, Nat.reduceAdd, Nat.reduceLT, Nat.reduceEqDiff, Nat.reduceLeDiff, List.cons_ne_nil, h1, Bool.not_false, Bool.not_true, not_false_eq_true]; rfl) ?_)
      | (refine gkc_fork ?_ ?_ <;> intro hq <;> (simp (config := {implicitDefEqProofs := false}) only [hq, avl1, avl2, avl3, avl4, avl5, if_true, if_false, beq_self_eq_true, ne_eq, reduceCtorEq, ↓reduceIte, Nat.reduceAdd, Nat.reduceLT, Nat.reduceEqDiff, Nat.reduceLeDiff, List.cons_ne_nil, h1, Bool.not_false, Bool.not_true, not_false_eq_true]))
      | (refine condc_fork ?_ ?_ <;> intro hq)
      | (refine gkc_split ?_ ?_ <;> intro hq <;> (simp (config := {implicitDefEqProofs := false}) only [hq, avl1, avl2, avl3, avl4, avl5, if_true, if_false, beq_self_eq_true, ne_eq, reduceCtorEq, ↓reduceIte, Nat.reduceAdd, Nat.reduceLT, Nat.reduceEqDiff, Nat.reduceLeDiff, List.cons_ne_nil, h1, Bool.not_false, Bool.not_true, not_false_eq_true]))
      | (refine condc_bool ?_ ?_ <;> intro hq))
    exact ret_bool rfl rfl
  try simp (config := {implicitDefEqProofs := false}) only [avl1, avl2, avl3, avl4, avl5, if_true, if_false, beq_self_eq_true, ne_eq, reduceCtorEq, ↓reduceIte, Nat.reduceAdd, Nat.reduceLT, Nat.reduceEqDiff, Nat.reduceLeDiff, List.cons_ne_nil, h1, Bool.not_false, Bool.not_true, not_true_eq_false, not_false_eq_true]
  repeat' (first
    | (refine (hκ _).mpr ?_; clear hκ)
    | refine kn1 ?_
    | refine kr1 ?_
    | refine ke1 ?_
    | refine kn2 ?_
    | refine kr2 ?_
    | refine kx2 ?_
    | refine ke2 rfl ?_
    | refine kn3 ?_
    | refine kr3 ?_
    | refine ke3 ?_
    | refine w_seq ?_
    | refine w_block ?_
    | (refine aw_regk fun κ hκ => ?_; simp (config := {implicitDefEqProofs := false}) only [avl1, avl2, avl3, avl4, avl5, if_true, if_false, beq_self_eq_true, ne_eq, reduceCtorEq, ↓reduceIte, Nat.reduceAdd, Nat.reduceLT, Nat.reduceEqDiff, Nat.reduceLeDiff, List.cons_ne_nil, h1, Bool.not_false, Bool.not_true, not_true_eq_false, not_false_eq_true])
    | refine aw_exit ?_
    | refine aw_ret ?_
    | refine aw_skip ?_
    | refine aw_label ?_
    | refine condc_t ?_
    | refine condc_f ?_
    | (refine aw_cond2 (by simp (config := {implicitDefEqProofs := false}) only [avl1, avl2, avl3, avl4, avl5, if_true, if_false, beq_self_eq_true, ne_eq, reduceCtorEq, ↓reduceIte, Nat.reduceAdd, Nat.reduceLT, Nat.reduceEqDiff, Nat.reduceLeDiff, List.cons_ne_nil, h1, Bool.not_false, Bool.not_true, not_true_eq_false, not_false_eq_true]; rfl) ?_)
    | (refine gkc_fork ?_ ?_ <;> intro hq <;> (simp (config := {implicitDefEqProofs := false}) only [hq, avl1, avl2, avl3, avl4, avl5, if_true, if_false, beq_self_eq_true, ne_eq, reduceCtorEq, ↓reduceIte, Nat.reduceAdd, Nat.reduceLT, Nat.reduceEqDiff, Nat.reduceLeDiff, List.cons_ne_nil, h1, Bool.not_false, Bool.not_true, not_true_eq_false, not_false_eq_true]))
    | (refine condc_fork ?_ ?_ <;> intro hq)
    | (refine gkc_split ?_ ?_ <;> intro hq <;> (simp (config := {implicitDefEqProofs := false}) only [hq, avl1, avl2, avl3, avl4, avl5, if_true, if_false, beq_self_eq_true, ne_eq, reduceCtorEq, ↓reduceIte, Nat.reduceAdd, Nat.reduceLT, Nat.reduceEqDiff, Nat.reduceLeDiff, List.cons_ne_nil, h1, Bool.not_false, Bool.not_true, not_true_eq_false, not_false_eq_true]))
    | (refine condc_bool ?_ ?_ <;> intro hq))
  refine w_loop (fun (k : Nat) => k ≤ l.length) (fun (k : Nat) => ⟨106, [(0, .slice .imm 6 (l.map rtA)), (2, .int .i64 hop), (4, .ptr 0 0), (7, .bool true), (8, .int .i64 k)], [(27, rtC a)], []⟩) (fun (k : Nat) => l.length - k) 0 (Nat.zero_le _) ?_ ?_
  · refine ⟨rfl, 0, [], rfl, Nat.zero_le _, ⟨.same (.slice .imm 6 (l.map rtA)) (okB_pur hpl), .same _ rfl, .same _ rfl, .same _ rfl, .same _ rfl, trivial⟩, ⟨rfl, ?_, trivial⟩⟩
    repeat (first
      | exact trivial
      | exact rfl
      | refine ⟨.same _ (by first | rfl | exact okBL_pur (purL_map fun _ => rfl)), ?_⟩
      | refine ⟨rfl, ?_⟩
      | refine ⟨?_, ?_⟩)
  · intro k hk
    unfold rtC
    by_cases hlt : k < l.length
    · have hw : IntKind.i64.wrap ((k : Int) + 1) = ((k + 1 : Nat) : Int) := by rw [wrap64 (by omega) (by omega)]; omega
      obtain ⟨x, hx⟩ : ∃ x, l[k]? = some x := ⟨_, List.getElem?_eq_getElem hlt⟩
      have hxm := hfew.1 x (List.mem_of_getElem? hx)
      try simp (config := {implicitDefEqProofs := false}) only [avl1, avl2, avl3, avl4, avl5, if_true, if_false, beq_self_eq_true, ne_eq, reduceCtorEq, ↓reduceIte, Nat.reduceAdd, Nat.reduceLT, Nat.reduceEqDiff, Nat.reduceLeDiff, List.cons_ne_nil, hlt, hx, hw, rtA]
      repeat' (first
        | (refine (hκ _).mpr ?_; clear hκ)
        | refine kn1 ?_
        | refine kr1 ?_
        | refine ke1 ?_
        | refine kn2 ?_
        | refine kr2 ?_
        | refine kx2 ?_
        | refine ke2 rfl ?_
        | refine kn3 ?_
        | refine kr3 ?_
        | refine ke3 ?_
        | refine w_seq ?_
        | refine w_block ?_
        | (refine aw_regk fun κ hκ => ?_; simp (config := {implicitDefEqProofs := false}) only [avl1, avl2, avl3, avl4, avl5, if_true, if_false, beq_self_eq_true, ne_eq, reduceCtorEq, ↓reduceIte, Nat.reduceAdd, Nat.reduceLT, Nat.reduceEqDiff, Nat.reduceLeDiff, List.cons_ne_nil, hlt, hx, hw, rtA])
        | refine aw_exit ?_
        | refine aw_ret ?_
        | refine aw_skip ?_
        | refine aw_label ?_
        | refine condc_t ?_
        | refine condc_f ?_
        | (refine aw_cond2 (by simp (config := {implicitDefEqProofs := false}) only [avl1, avl2, avl3, avl4, avl5, if_true, if_false, beq_self_eq_true, ne_eq, reduceCtorEq, ↓reduceIte, Nat.reduceAdd, Nat.reduceLT, Nat.reduceEqDiff, Nat.reduceLeDiff, List.cons_ne_nil, hlt, hx, hw, rtA]; rfl) ?_)
        | (refine gkc_fork ?_ ?_ <;> intro hq <;> (simp (config := {implicitDefEqProofs := false}) only [hq, avl1, avl2, avl3, avl4, avl5, if_true, if_false, beq_self_eq_true, ne_eq, reduceCtorEq, ↓reduceIte, Nat.reduceAdd, Nat.reduceLT, Nat.reduceEqDiff, Nat.reduceLeDiff, List.cons_ne_nil, hlt, hx, hw, rtA]))
        | (refine condc_fork ?_ ?_ <;> intro hq)
        | (refine gkc_split ?_ ?_ <;> intro hq <;> (simp (config := {implicitDefEqProofs := false}) only [hq, avl1, avl2, avl3, avl4, avl5, if_true, if_false, beq_self_eq_true, ne_eq, reduceCtorEq, ↓reduceIte, Nat.reduceAdd, Nat.reduceLT, Nat.reduceEqDiff, Nat.reduceLeDiff, List.cons_ne_nil, hlt, hx, hw, rtA]))
        | (refine condc_bool ?_ ?_ <;> intro hq))
      refine callc (compare_ac x a (by omega)) (by simp [purL, pur, purL_map_eq, iA]) ?_
      try simp (config := {implicitDefEqProofs := false}) only [avl1, avl2, avl3, avl4, avl5, if_true, if_false, beq_self_eq_true, ne_eq, reduceCtorEq, ↓reduceIte, Nat.reduceAdd, Nat.reduceLT, Nat.reduceEqDiff, Nat.reduceLeDiff, List.cons_ne_nil, hlt, hx, hw, rtA]
      repeat' (first
        | (refine (hκ _).mpr ?_; clear hκ)
        | refine kn1 ?_
        | refine kr1 ?_
        | refine ke1 ?_
        | refine kn2 ?_
        | refine kr2 ?_
        | refine kx2 ?_
        | refine ke2 rfl ?_
        | refine kn3 ?_
        | refine kr3 ?_
        | refine ke3 ?_
        | refine w_seq ?_
        | refine w_block ?_
        | (refine aw_regk fun κ hκ => ?_; simp (config := {implicitDefEqProofs := false}) only [avl1, avl2, avl3, avl4, avl5, if_true, if_false, beq_self_eq_true, ne_eq, reduceCtorEq, ↓reduceIte, Nat.reduceAdd, Nat.reduceLT, Nat.reduceEqDiff, Nat.reduceLeDiff, List.cons_ne_nil, hlt, hx, hw, rtA])
        | refine aw_exit ?_
        | refine aw_ret ?_
        | refine aw_skip ?_
        | refine aw_label ?_
        | refine condc_t ?_
        | refine condc_f ?_
        | (refine aw_cond2 (by simp (config := {implicitDefEqProofs := false}) only [avl1, avl2, avl3, avl4, avl5, if_true, if_false, beq_self_eq_true, ne_eq, reduceCtorEq, ↓reduceIte, Nat.reduceAdd, Nat.reduceLT, Nat.reduceEqDiff, Nat.reduceLeDiff, List.cons_ne_nil, hlt, hx, hw, rtA]; rfl) ?_)
        | (refine gkc_fork ?_ ?_ <;> intro hq <;> (simp (config := {implicitDefEqProofs := false}) only [hq, avl1, avl2, avl3, avl4, avl5, if_true, if_false, beq_self_eq_true, ne_eq, reduceCtorEq, ↓reduceIte, Nat.reduceAdd, Nat.reduceLT, Nat.reduceEqDiff, Nat.reduceLeDiff, List.cons_ne_nil, hlt, hx, hw, rtA]))
        | (refine condc_fork ?_ ?_ <;> intro hq)
        | (refine gkc_split ?_ ?_ <;> intro hq <;> (simp (config := {implicitDefEqProofs := false}) only [hq, avl1, avl2, avl3, avl4, avl5, if_true, if_false, beq_self_eq_true, ne_eq, reduceCtorEq, ↓reduceIte, Nat.reduceAdd, Nat.reduceLT, Nat.reduceEqDiff, Nat.reduceLeDiff, List.cons_ne_nil, hlt, hx, hw, rtA]))
        | (refine condc_bool ?_ ?_ <;> intro hq))
      refine callc (refcmp_ac x a (by omega)) (by simp [purL, pur, purL_map_eq, iA]) ?_
      try simp (config := {implicitDefEqProofs := false}) only [avl1, avl2, avl3, avl4, avl5, if_true, if_false, beq_self_eq_true, ne_eq, reduceCtorEq, ↓reduceIte, Nat.reduceAdd, Nat.reduceLT, Nat.reduceEqDiff, Nat.reduceLeDiff, List.cons_ne_nil, hlt, hx, hw, rtA, eq_self, not_true_eq_false]
      repeat' (first
        | (refine (hκ _).mpr ?_; clear hκ)
        | refine kn1 ?_
        | refine kr1 ?_
        | refine ke1 ?_
        | refine kn2 ?_
        | refine kr2 ?_
        | refine kx2 ?_
        | refine ke2 rfl ?_
        | refine kn3 ?_
        | refine kr3 ?_
        | refine ke3 ?_
        | refine w_seq ?_
        | refine w_block ?_
        | (refine aw_regk fun κ hκ => ?_; simp (config := {implicitDefEqProofs := false}) only [avl1, avl2, avl3, avl4, avl5, if_true, if_false, beq_self_eq_true, ne_eq, reduceCtorEq, ↓reduceIte, Nat.reduceAdd, Nat.reduceLT, Nat.reduceEqDiff, Nat.reduceLeDiff, List.cons_ne_nil, hlt, hx, hw, rtA, eq_self, not_true_eq_false])
        | refine aw_exit ?_
        | refine aw_ret ?_
        | refine aw_skip ?_
        | refine aw_label ?_
        | refine condc_t ?_
        | refine condc_f ?_
        | (refine aw_cond2 (by simp (config := {implicitDefEqProofs := false}) only [avl1, avl2, avl3, avl4, avl5, if_true, if_false, beq_self_eq_true, ne_eq, reduceCtorEq, ↓reduceIte, Nat.reduceAdd, Nat.reduceLT, Nat.reduceEqDiff, Nat.reduceLeDiff, List.cons_ne_nil, hlt, hx, hw, rtA, eq_self, not_true_eq_false]; rfl) ?_)
        | (refine gkc_fork ?_ ?_ <;> intro hq <;> (simp (config := {implicitDefEqProofs := false}) only [hq, avl1, avl2, avl3, avl4, avl5, if_true, if_false, beq_self_eq_true, ne_eq, reduceCtorEq, ↓reduceIte, Nat.reduceAdd, Nat.reduceLT, Nat.reduceEqDiff, Nat.reduceLeDiff, List.cons_ne_nil, hlt, hx, hw, rtA, eq_self, not_true_eq_false]))
        | (refine condc_fork ?_ ?_ <;> intro hq)
        | (refine gkc_split ?_ ?_ <;> intro hq <;> (simp (config := {implicitDefEqProofs := false}) only [hq, avl1, avl2, avl3, avl4, avl5, if_true, if_false, beq_self_eq_true, ne_eq, reduceCtorEq, ↓reduceIte, Nat.reduceAdd, Nat.reduceLT, Nat.reduceEqDiff, Nat.reduceLeDiff, List.cons_ne_nil, hlt, hx, hw, rtA, eq_self, not_true_eq_false]))
        | (refine condc_bool ?_ ?_ <;> intro hq))
      refine callc (same_ac x a (by omega)) (by simp [purL, pur, purL_map_eq, iA]) ?_
      try simp (config := {implicitDefEqProofs := false}) only [avl1, avl2, avl3, avl4, avl5, if_true, if_false, beq_self_eq_true, ne_eq, reduceCtorEq, ↓reduceIte, Nat.reduceAdd, Nat.reduceLT, Nat.reduceEqDiff, Nat.reduceLeDiff, List.cons_ne_nil, hlt, hx, hw, rtA, eq_self, not_true_eq_false]
      repeat' (first
        | (refine (hκ _).mpr ?_; clear hκ)
        | refine kn1 ?_
        | refine kr1 ?_
        | refine ke1 ?_
        | refine kn2 ?_
        | refine kr2 ?_
        | refine kx2 ?_
        | refine ke2 rfl ?_
        | refine kn3 ?_
        | refine kr3 ?_
        | refine ke3 ?_
        | refine w_seq ?_
        | refine w_block ?_
        | (refine aw_regk fun κ hκ => ?_; simp (config := {implicitDefEqProofs := false}) only [avl1, avl2, avl3, avl4, avl5, if_true, if_false, beq_self_eq_true, ne_eq, reduceCtorEq, ↓reduceIte, Nat.reduceAdd, Nat.reduceLT, Nat.reduceEqDiff, Nat.reduceLeDiff, List.cons_ne_nil, hlt, hx, hw, rtA, eq_self, not_true_eq_false])
        | refine aw_exit ?_
        | refine aw_ret ?_
        | refine aw_skip ?_
        | refine aw_label ?_
        | refine condc_t ?_
        | refine condc_f ?_
        | (refine aw_cond2 (by simp (config := {implicitDefEqProofs := false}) only [avl1, avl2, avl3, avl4, avl5, if_true, if_false, beq_self_eq_true, ne_eq, reduceCtorEq, ↓reduceIte, Nat.reduceAdd, Nat.reduceLT, Nat.reduceEqDiff, Nat.reduceLeDiff, List.cons_ne_nil, hlt, hx, hw, rtA, eq_self, not_true_eq_false]; rfl) ?_)
        | (refine gkc_fork ?_ ?_ <;> intro hq <;> (simp (config := {implicitDefEqProofs := false}) only [hq, avl1, avl2, avl3, avl4, avl5, if_true, if_false, beq_self_eq_true, ne_eq, reduceCtorEq, ↓reduceIte, Nat.reduceAdd, Nat.reduceLT, Nat.reduceEqDiff, Nat.reduceLeDiff, List.cons_ne_nil, hlt, hx, hw, rtA, eq_self, not_true_eq_false]))
        | (refine condc_fork ?_ ?_ <;> intro hq)
        | (refine gkc_split ?_ ?_ <;> intro hq <;> (simp (config := {implicitDefEqProofs := false}) only [hq, avl1, avl2, avl3, avl4, avl5, if_true, if_false, beq_self_eq_true, ne_eq, reduceCtorEq, ↓reduceIte, Nat.reduceAdd, Nat.reduceLT, Nat.reduceEqDiff, Nat.reduceLeDiff, List.cons_ne_nil, hlt, hx, hw, rtA, eq_self, not_true_eq_false]))
        | (refine condc_bool ?_ ?_ <;> intro hq))
      refine callc (fsame_ac x a (by omega)) (by simp [purL, pur, purL_map_eq, iA]) ?_
      try simp (config := {implicitDefEqProofs := false}) only [avl1, avl2, avl3, avl4, avl5, if_true, if_false, beq_self_eq_true, ne_eq, reduceCtorEq, ↓reduceIte, Nat.reduceAdd, Nat.reduceLT, Nat.reduceEqDiff, Nat.reduceLeDiff, List.cons_ne_nil, hlt, hx, hw, rtA, eq_self, not_true_eq_false, bne_self_eq_false, beq_self_eq_true, Bool.not_true]
      repeat' (first
        | (refine (hκ _).mpr ?_; clear hκ)
        | refine kn1 ?_
        | refine kr1 ?_
        | refine ke1 ?_
        | refine kn2 ?_
        | refine kr2 ?_
        | refine kx2 ?_
        | refine ke2 rfl ?_
        | refine kn3 ?_
        | refine kr3 ?_
        | refine ke3 ?_
        | refine w_seq ?_
        | refine w_block ?_
        | (refine aw_regk fun κ hκ => ?_; simp (config := {implicitDefEqProofs := false}) only [avl1, avl2, avl3, avl4, avl5, if_true, if_false, beq_self_eq_true, ne_eq, reduceCtorEq, ↓reduceIte, Nat.reduceAdd, Nat.reduceLT, Nat.reduceEqDiff, Nat.reduceLeDiff, List.cons_ne_nil, hlt, hx, hw, rtA, eq_self, not_true_eq_false, bne_self_eq_false, beq_self_eq_true, Bool.not_true])
        | refine aw_exit ?_
        | refine aw_ret ?_
        | refine aw_skip ?_
        | refine aw_label ?_
        | refine condc_t ?_
        | refine condc_f ?_
        | (refine aw_cond2 (by simp (config := {implicitDefEqProofs := false}) only [avl1, avl2, avl3, avl4, avl5, if_true, if_false, beq_self_eq_true, ne_eq, reduceCtorEq, ↓reduceIte, Nat.reduceAdd, Nat.reduceLT, Nat.reduceEqDiff, Nat.reduceLeDiff, List.cons_ne_nil, hlt, hx, hw, rtA, eq_self, not_true_eq_false, bne_self_eq_false, beq_self_eq_true, Bool.not_true]; rfl) ?_)
        | (refine gkc_fork ?_ ?_ <;> intro hq <;> (simp (config := {implicitDefEqProofs := false}) only [hq, avl1, avl2, avl3, avl4, avl5, if_true, if_false, beq_self_eq_true, ne_eq, reduceCtorEq, ↓reduceIte, Nat.reduceAdd, Nat.reduceLT, Nat.reduceEqDiff, Nat.reduceLeDiff, List.cons_ne_nil, hlt, hx, hw, rtA, eq_self, not_true_eq_false, bne_self_eq_false, beq_self_eq_true, Bool.not_true]))
        | (refine condc_fork ?_ ?_ <;> intro hq)
        | (refine gkc_split ?_ ?_ <;> intro hq <;> (simp (config := {implicitDefEqProofs := false}) only [hq, avl1, avl2, avl3, avl4, avl5, if_true, if_false, beq_self_eq_true, ne_eq, reduceCtorEq, ↓reduceIte, Nat.reduceAdd, Nat.reduceLT, Nat.reduceEqDiff, Nat.reduceLeDiff, List.cons_ne_nil, hlt, hx, hw, rtA, eq_self, not_true_eq_false, bne_self_eq_false, beq_self_eq_true, Bool.not_true]))
        | (refine condc_bool ?_ ?_ <;> intro hq))
      refine callc (rsane_ac x (asane_ac x (by omega))) (by simp [purL, pur, purL_map_eq, iA]) ?_
      try simp (config := {implicitDefEqProofs := false}) only [avl1, avl2, avl3, avl4, avl5, if_true, if_false, beq_self_eq_true, ne_eq, reduceCtorEq, ↓reduceIte, Nat.reduceAdd, Nat.reduceLT, Nat.reduceEqDiff, Nat.reduceLeDiff, List.cons_ne_nil, hlt, hx, hw, rtA, eq_self, not_true_eq_false]
      repeat' (first
        | (refine (hκ _).mpr ?_; clear hκ)
        | refine kn1 ?_
        | refine kr1 ?_
        | refine ke1 ?_
        | refine kn2 ?_
        | refine kr2 ?_
        | refine kx2 ?_
        | refine ke2 rfl ?_
        | refine kn3 ?_
        | refine kr3 ?_
        | refine ke3 ?_
        | refine w_seq ?_
        | refine w_block ?_
        | (refine aw_regk fun κ hκ => ?_; simp (config := {implicitDefEqProofs := false}) only [avl1, avl2, avl3, avl4, avl5, if_true, if_false, beq_self_eq_true, ne_eq, reduceCtorEq, ↓reduceIte, Nat.reduceAdd, Nat.reduceLT, Nat.reduceEqDiff, Nat.reduceLeDiff, List.cons_ne_nil, hlt, hx, hw, rtA, eq_self, not_true_eq_false])
        | refine aw_exit ?_
        | refine aw_ret ?_
        | refine aw_skip ?_
        | refine aw_label ?_
        | refine condc_t ?_
        | refine condc_f ?_
        | (refine aw_cond2 (by simp (config := {implicitDefEqProofs := false}) only [avl1, avl2, avl3, avl4, avl5, if_true, if_false, beq_self_eq_true, ne_eq, reduceCtorEq, ↓reduceIte, Nat.reduceAdd, Nat.reduceLT, Nat.reduceEqDiff, Nat.reduceLeDiff, List.cons_ne_nil, hlt, hx, hw, rtA, eq_self, not_true_eq_false]; rfl) ?_)
        | (refine gkc_fork ?_ ?_ <;> intro hq <;> (simp (config := {implicitDefEqProofs := false}) only [hq, avl1, avl2, avl3, avl4, avl5, if_true, if_false, beq_self_eq_true, ne_eq, reduceCtorEq, ↓reduceIte, Nat.reduceAdd, Nat.reduceLT, Nat.reduceEqDiff, Nat.reduceLeDiff, List.cons_ne_nil, hlt, hx, hw, rtA, eq_self, not_true_eq_false]))
        | (refine condc_fork ?_ ?_ <;> intro hq)
        | (refine gkc_split ?_ ?_ <;> intro hq <;> (simp (config := {implicitDefEqProofs := false}) only [hq, avl1, avl2, avl3, avl4, avl5, if_true, if_false, beq_self_eq_true, ne_eq, reduceCtorEq, ↓reduceIte, Nat.reduceAdd, Nat.reduceLT, Nat.reduceEqDiff, Nat.reduceLeDiff, List.cons_ne_nil, hlt, hx, hw, rtA, eq_self, not_true_eq_false]))
        | (refine condc_bool ?_ ?_ <;> intro hq))
      refine callc (fsane_ac x (psane_ac x (by omega))) (by simp [purL, pur, purL_map_eq, iA]) ?_
      try simp (config := {implicitDefEqProofs := false}) only [avl1, avl2, avl3, avl4, avl5, if_true, if_false, beq_self_eq_true, ne_eq, reduceCtorEq, ↓reduceIte, Nat.reduceAdd, Nat.reduceLT, Nat.reduceEqDiff, Nat.reduceLeDiff, List.cons_ne_nil, hlt, hx, hw, rtA, eq_self, not_true_eq_false, bne_self_eq_false, beq_self_eq_true, Bool.not_true]
      repeat' (first
        | (refine (hκ _).mpr ?_; clear hκ)
        | refine kn1 ?_
        | refine kr1 ?_
        | refine ke1 ?_
        | refine kn2 ?_
        | refine kr2 ?_
        | refine kx2 ?_
        | refine ke2 rfl ?_
        | refine kn3 ?_
        | refine kr3 ?_
        | refine ke3 ?_
        | refine w_seq ?_
        | refine w_block ?_
        | (refine aw_regk fun κ hκ => ?_; simp (config := {implicitDefEqProofs := false}) only [avl1, avl2, avl3, avl4, avl5, if_true, if_false, beq_self_eq_true, ne_eq, reduceCtorEq, ↓reduceIte, Nat.reduceAdd, Nat.reduceLT, Nat.reduceEqDiff, Nat.reduceLeDiff, List.cons_ne_nil, hlt, hx, hw, rtA, eq_self, not_true_eq_false, bne_self_eq_false, beq_self_eq_true, Bool.not_true])
        | refine aw_exit ?_
        | refine aw_ret ?_
        | refine aw_skip ?_
        | refine aw_label ?_
        | refine condc_t ?_
        | refine condc_f ?_
        | (refine aw_cond2 (by simp (config := {implicitDefEqProofs := false}) only [avl1, avl2, avl3, avl4, avl5, if_true, if_false, beq_self_eq_true, ne_eq, reduceCtorEq, ↓reduceIte, Nat.reduceAdd, Nat.reduceLT, Nat.reduceEqDiff, Nat.reduceLeDiff, List.cons_ne_nil, hlt, hx, hw, rtA, eq_self, not_true_eq_false, bne_self_eq_false, beq_self_eq_true, Bool.not_true]; rfl) ?_)
        | (refine gkc_fork ?_ ?_ <;> intro hq <;> (simp (config := {implicitDefEqProofs := false}) only [hq, avl1, avl2, avl3, avl4, avl5, if_true, if_false, beq_self_eq_true, ne_eq, reduceCtorEq, ↓reduceIte, Nat.reduceAdd, Nat.reduceLT, Nat.reduceEqDiff, Nat.reduceLeDiff, List.cons_ne_nil, hlt, hx, hw, rtA, eq_self, not_true_eq_false, bne_self_eq_false, beq_self_eq_true, Bool.not_true]))
        | (refine condc_fork ?_ ?_ <;> intro hq)
        | (refine gkc_split ?_ ?_ <;> intro hq <;> (simp (config := {implicitDefEqProofs := false}) only [hq, avl1, avl2, avl3, avl4, avl5, if_true, if_false, beq_self_eq_true, ne_eq, reduceCtorEq, ↓reduceIte, Nat.reduceAdd, Nat.reduceLT, Nat.reduceEqDiff, Nat.reduceLeDiff, List.cons_ne_nil, hlt, hx, hw, rtA, eq_self, not_true_eq_false, bne_self_eq_false, beq_self_eq_true, Bool.not_true]))
        | (refine condc_bool ?_ ?_ <;> intro hq))
      refine ⟨k + 1, by omega, ⟨rfl, 0, [], rfl, Nat.zero_le _, ⟨.same (.slice .imm 6 (l.map rtA)) (okB_pur hpl), .same _ rfl, .same _ rfl, .same _ rfl, .same _ rfl, trivial⟩, ⟨rfl, ?_, trivial⟩⟩, by omega⟩
      repeat (first
        | exact trivial
        | exact rfl
        | refine ⟨.same _ (by first | rfl | exact okBL_pur (purL_map fun _ => rfl)), ?_⟩
        | refine ⟨rfl, ?_⟩
        | refine ⟨?_, ?_⟩)
    · obtain rfl : k = l.length := by omega
      try simp (config := {implicitDefEqProofs := false}) only [avl1, avl2, avl3, avl4, avl5, if_true, if_false, beq_self_eq_true, ne_eq, reduceCtorEq, ↓reduceIte, Nat.reduceAdd, Nat.reduceLT, Nat.reduceEqDiff, Nat.reduceLeDiff, List.cons_ne_nil, Nat.lt_irrefl]
      repeat' (first
        | (refine (hκ _).mpr ?_; clear hκ)
        | refine kn1 ?_
        | refine kr1 ?_
        | refine ke1 ?_
        | refine kn2 ?_
        | refine kr2 ?_
        | refine kx2 ?_
        | refine ke2 rfl ?_
        | refine kn3 ?_
        | refine kr3 ?_
        | refine ke3 ?_
        | refine w_seq ?_
        | refine w_block ?_
        | (refine aw_regk fun κ hκ => ?_; simp (config := {implicitDefEqProofs := false}) only [avl1, avl2, avl3, avl4, avl5, if_true, if_false, beq_self_eq_true, ne_eq, reduceCtorEq, ↓reduceIte, Nat.reduceAdd, Nat.reduceLT, Nat.reduceEqDiff, Nat.reduceLeDiff, List.cons_ne_nil, Nat.lt_irrefl])
        | refine aw_exit ?_
        | refine aw_ret ?_
        | refine aw_skip ?_
        | refine aw_label ?_
        | refine condc_t ?_
        | refine condc_f ?_
        | (refine aw_cond2 (by simp (config := {implicitDefEqProofs := false}) only [avl1, avl2, avl3, avl4, avl5, if_true, if_false, beq_self_eq_true, ne_eq, reduceCtorEq, ↓reduceIte, Nat.reduceAdd, Nat.reduceLT, Nat.reduceEqDiff, Nat.reduceLeDiff, List.cons_ne_nil, Nat.lt_irrefl]; rfl) ?_)
        | (refine gkc_fork ?_ ?_ <;> intro hq <;> (simp (config := {implicitDefEqProofs := false}) only [hq, avl1, avl2, avl3, avl4, avl5, if_true, if_false, beq_self_eq_true, ne_eq, reduceCtorEq, ↓reduceIte, Nat.reduceAdd, Nat.reduceLT, Nat.reduceEqDiff, Nat.reduceLeDiff, List.cons_ne_nil, Nat.lt_irrefl]))
        | (refine condc_fork ?_ ?_ <;> intro hq)
        | (refine gkc_split ?_ ?_ <;> intro hq <;> (simp (config := {implicitDefEqProofs := false}) only [hq, avl1, avl2, avl3, avl4, avl5, if_true, if_false, beq_self_eq_true, ne_eq, reduceCtorEq, ↓reduceIte, Nat.reduceAdd, Nat.reduceLT, Nat.reduceEqDiff, Nat.reduceLeDiff, List.cons_ne_nil, Nat.lt_irrefl]))
        | (refine condc_bool ?_ ?_ <;> intro hq))
      have hb := best_ac l (by omega) (fun r hr => by have := hfew.1 r hr; omega)
      have hfb := fbest_ac l (by omega) (fun r hr => by have := hfew.1 r hr; omega)
      refine callc hb hpal ?_
      rcases hl : l with _ | ⟨x, t⟩
      · subst hl
        unfold bestA zC
        try simp (config := {implicitDefEqProofs := false}) only [avl1, avl2, avl3, avl4, avl5, if_true, if_false, beq_self_eq_true, ne_eq, reduceCtorEq, ↓reduceIte, Nat.reduceAdd, Nat.reduceLT, Nat.reduceEqDiff, Nat.reduceLeDiff, List.cons_ne_nil, sh, sh1, List.map_nil]
        repeat' (first
          | (refine (hκ _).mpr ?_; clear hκ)
          | refine kn1 ?_
          | refine kr1 ?_
          | refine ke1 ?_
          | refine kn2 ?_
          | refine kr2 ?_
          | refine kx2 ?_
          | refine ke2 rfl ?_
          | refine kn3 ?_
          | refine kr3 ?_
          | refine ke3 ?_
          | refine w_seq ?_
          | refine w_block ?_
          | (refine aw_regk fun κ hκ => ?_; simp (config := {implicitDefEqProofs := false}) only [avl1, avl2, avl3, avl4, avl5, if_true, if_false, beq_self_eq_true, ne_eq, reduceCtorEq, ↓reduceIte, Nat.reduceAdd, Nat.reduceLT, Nat.reduceEqDiff, Nat.reduceLeDiff, List.cons_ne_nil, sh, sh1, List.map_nil])
          | refine aw_exit ?_
          | refine aw_ret ?_
          | refine aw_skip ?_
          | refine aw_label ?_
          | refine condc_t ?_
          | refine condc_f ?_
          | (refine aw_cond2 (by simp (config := {implicitDefEqProofs := false}) only [avl1, avl2, avl3, avl4, avl5, if_true, if_false, beq_self_eq_true, ne_eq, reduceCtorEq, ↓reduceIte, Nat.reduceAdd, Nat.reduceLT, Nat.reduceEqDiff, Nat.reduceLeDiff, List.cons_ne_nil, sh, sh1, List.map_nil]; rfl) ?_)
          | (refine gkc_fork ?_ ?_ <;> intro hq <;> (simp (config := {implicitDefEqProofs := false}) only [hq, avl1, avl2, avl3, avl4, avl5, if_true, if_false, beq_self_eq_true, ne_eq, reduceCtorEq, ↓reduceIte, Nat.reduceAdd, Nat.reduceLT, Nat.reduceEqDiff, Nat.reduceLeDiff, List.cons_ne_nil, sh, sh1, List.map_nil]))
          | (refine condc_fork ?_ ?_ <;> intro hq)
          | (refine gkc_split ?_ ?_ <;> intro hq <;> (simp (config := {implicitDefEqProofs := false}) only [hq, avl1, avl2, avl3, avl4, avl5, if_true, if_false, beq_self_eq_true, ne_eq, reduceCtorEq, ↓reduceIte, Nat.reduceAdd, Nat.reduceLT, Nat.reduceEqDiff, Nat.reduceLeDiff, List.cons_ne_nil, sh, sh1, List.map_nil]))
          | (refine condc_bool ?_ ?_ <;> intro hq))
        refine callc hfb rfl ?_
        unfold bestA zC
        try simp (config := {implicitDefEqProofs := false}) only [avl1, avl2, avl3, avl4, avl5, if_true, if_false, beq_self_eq_true, ne_eq, reduceCtorEq, ↓reduceIte, Nat.reduceAdd, Nat.reduceLT, Nat.reduceEqDiff, Nat.reduceLeDiff, List.cons_ne_nil, sh, sh1, beq_self_eq_true, bne_self_eq_false, Bool.not_true, Bool.not_false]
        repeat' (first
          | (refine (hκ _).mpr ?_; clear hκ)
          | refine kn1 ?_
          | refine kr1 ?_
          | refine ke1 ?_
          | refine kn2 ?_
          | refine kr2 ?_
          | refine kx2 ?_
          | refine ke2 rfl ?_
          | refine kn3 ?_
          | refine kr3 ?_
          | refine ke3 ?_
          | refine w_seq ?_
          | refine w_block ?_
          | (refine aw_regk fun κ hκ => ?_; simp (config := {implicitDefEqProofs := false}) only [avl1, avl2, avl3, avl4, avl5, if_true, if_false, beq_self_eq_true, ne_eq, reduceCtorEq, ↓reduceIte, Nat.reduceAdd, Nat.reduceLT, Nat.reduceEqDiff, Nat.reduceLeDiff, List.cons_ne_nil, sh, sh1, beq_self_eq_true, bne_self_eq_false, Bool.not_true, Bool.not_false])
          | refine aw_exit ?_
          | refine aw_ret ?_
          | refine aw_skip ?_
          | refine aw_label ?_
          | refine condc_t ?_
          | refine condc_f ?_
          | (refine aw_cond2 (by simp (config := {implicitDefEqProofs := false}) only [avl1, avl2, avl3, avl4, avl5, if_true, if_false, beq_self_eq_true, ne_eq, reduceCtorEq, ↓reduceIte, Nat.reduceAdd, Nat.reduceLT, Nat.reduceEqDiff, Nat.reduceLeDiff, List.cons_ne_nil, sh, sh1, beq_self_eq_true, bne_self_eq_false, Bool.not_true, Bool.not_false]; rfl) ?_)
          | (refine gkc_fork ?_ ?_ <;> intro hq <;> (simp (config := {implicitDefEqProofs := false}) only [hq, avl1, avl2, avl3, avl4, avl5, if_true, if_false, beq_self_eq_true, ne_eq, reduceCtorEq, ↓reduceIte, Nat.reduceAdd, Nat.reduceLT, Nat.reduceEqDiff, Nat.reduceLeDiff, List.cons_ne_nil, sh, sh1, beq_self_eq_true, bne_self_eq_false, Bool.not_true, Bool.not_false]))
          | (refine condc_fork ?_ ?_ <;> intro hq)
          | (refine gkc_split ?_ ?_ <;> intro hq <;> (simp (config := {implicitDefEqProofs := false}) only [hq, avl1, avl2, avl3, avl4, avl5, if_true, if_false, beq_self_eq_true, ne_eq, reduceCtorEq, ↓reduceIte, Nat.reduceAdd, Nat.reduceLT, Nat.reduceEqDiff, Nat.reduceLeDiff, List.cons_ne_nil, sh, sh1, beq_self_eq_true, bne_self_eq_false, Bool.not_true, Bool.not_false]))
          | (refine condc_bool ?_ ?_ <;> intro hq))
        refine callc (zsame_ac 0 0 0 0 0) rfl ?_
        try simp (config := {implicitDefEqProofs := false}) only [avl1, avl2, avl3, avl4, avl5, if_true, if_false, beq_self_eq_true, ne_eq, reduceCtorEq, ↓reduceIte, Nat.reduceAdd, Nat.reduceLT, Nat.reduceEqDiff, Nat.reduceLeDiff, List.cons_ne_nil]
        repeat' (first
          | (refine (hκ _).mpr ?_; clear hκ)
          | refine kn1 ?_
          | refine kr1 ?_
          | refine ke1 ?_
          | refine kn2 ?_
          | refine kr2 ?_
          | refine kx2 ?_
          | refine ke2 rfl ?_
          | refine kn3 ?_
          | refine kr3 ?_
          | refine ke3 ?_
          | refine w_seq ?_
          | refine w_block ?_
          | (refine aw_regk fun κ hκ => ?_; simp (config := {implicitDefEqProofs := false}) only [avl1, avl2, avl3, avl4, avl5, if_true, if_false, beq_self_eq_true, ne_eq, reduceCtorEq, ↓reduceIte, Nat.reduceAdd, Nat.reduceLT, Nat.reduceEqDiff, Nat.reduceLeDiff, List.cons_ne_nil])
          | refine aw_exit ?_
          | refine aw_ret ?_
          | refine aw_skip ?_
          | refine aw_label ?_
          | refine condc_t ?_
          | refine condc_f ?_
          | (refine aw_cond2 (by simp (config := {implicitDefEqProofs := false}) only [avl1, avl2, avl3, avl4, avl5, if_true, if_false, beq_self_eq_true, ne_eq, reduceCtorEq, ↓reduceIte, Nat.reduceAdd, Nat.reduceLT, Nat.reduceEqDiff, Nat.reduceLeDiff, List.cons_ne_nil]; rfl) ?_)
          | (refine gkc_fork ?_ ?_ <;> intro hq <;> (simp (config := {implicitDefEqProofs := false}) only [hq, avl1, avl2, avl3, avl4, avl5, if_true, if_false, beq_self_eq_true, ne_eq, reduceCtorEq, ↓reduceIte, Nat.reduceAdd, Nat.reduceLT, Nat.reduceEqDiff, Nat.reduceLeDiff, List.cons_ne_nil]))
          | (refine condc_fork ?_ ?_ <;> intro hq)
          | (refine gkc_split ?_ ?_ <;> intro hq <;> (simp (config := {implicitDefEqProofs := false}) only [hq, avl1, avl2, avl3, avl4, avl5, if_true, if_false, beq_self_eq_true, ne_eq, reduceCtorEq, ↓reduceIte, Nat.reduceAdd, Nat.reduceLT, Nat.reduceEqDiff, Nat.reduceLeDiff, List.cons_ne_nil]))
          | (refine condc_bool ?_ ?_ <;> intro hq))
        refine callc (rsane_ac a (asane_ac a (by omega))) (by simp [purL, pur, purL_map_eq, iA]) ?_
        try simp (config := {implicitDefEqProofs := false}) only [avl1, avl2, avl3, avl4, avl5, if_true, if_false, beq_self_eq_true, ne_eq, reduceCtorEq, ↓reduceIte, Nat.reduceAdd, Nat.reduceLT, Nat.reduceEqDiff, Nat.reduceLeDiff, List.cons_ne_nil]
        repeat' (first
          | (refine (hκ _).mpr ?_; clear hκ)
          | refine kn1 ?_
          | refine kr1 ?_
          | refine ke1 ?_
          | refine kn2 ?_
          | refine kr2 ?_
          | refine kx2 ?_
          | refine ke2 rfl ?_
          | refine kn3 ?_
          | refine kr3 ?_
          | refine ke3 ?_
          | refine w_seq ?_
          | refine w_block ?_
          | (refine aw_regk fun κ hκ => ?_; simp (config := {implicitDefEqProofs := false}) only [avl1, avl2, avl3, avl4, avl5, if_true, if_false, beq_self_eq_true, ne_eq, reduceCtorEq, ↓reduceIte, Nat.reduceAdd, Nat.reduceLT, Nat.reduceEqDiff, Nat.reduceLeDiff, List.cons_ne_nil])
          | refine aw_exit ?_
          | refine aw_ret ?_
          | refine aw_skip ?_
          | refine aw_label ?_
          | refine condc_t ?_
          | refine condc_f ?_
          | (refine aw_cond2 (by simp (config := {implicitDefEqProofs := false}) only [avl1, avl2, avl3, avl4, avl5, if_true, if_false, beq_self_eq_true, ne_eq, reduceCtorEq, ↓reduceIte, Nat.reduceAdd, Nat.reduceLT, Nat.reduceEqDiff, Nat.reduceLeDiff, List.cons_ne_nil]; rfl) ?_)
          | (refine gkc_fork ?_ ?_ <;> intro hq <;> (simp (config := {implicitDefEqProofs := false}) only [hq, avl1, avl2, avl3, avl4, avl5, if_true, if_false, beq_self_eq_true, ne_eq, reduceCtorEq, ↓reduceIte, Nat.reduceAdd, Nat.reduceLT, Nat.reduceEqDiff, Nat.reduceLeDiff, List.cons_ne_nil]))
          | (refine condc_fork ?_ ?_ <;> intro hq)
          | (refine gkc_split ?_ ?_ <;> intro hq <;> (simp (config := {implicitDefEqProofs := false}) only [hq, avl1, avl2, avl3, avl4, avl5, if_true, if_false, beq_self_eq_true, ne_eq, reduceCtorEq, ↓reduceIte, Nat.reduceAdd, Nat.reduceLT, Nat.reduceEqDiff, Nat.reduceLeDiff, List.cons_ne_nil]))
          | (refine condc_bool ?_ ?_ <;> intro hq))
        refine callc (fsane_ac a (psane_ac a (by omega))) (by simp [purL, pur, purL_map_eq, iA]) ?_
        try simp (config := {implicitDefEqProofs := false}) only [avl1, avl2, avl3, avl4, avl5, if_true, if_false, beq_self_eq_true, ne_eq, reduceCtorEq, ↓reduceIte, Nat.reduceAdd, Nat.reduceLT, Nat.reduceEqDiff, Nat.reduceLeDiff, List.cons_ne_nil, beq_self_eq_true, bne_self_eq_false, Bool.not_true, Bool.not_false]
        repeat' (first
          | (refine (hκ _).mpr ?_; clear hκ)
          | refine kn1 ?_
          | refine kr1 ?_
          | refine ke1 ?_
          | refine kn2 ?_
          | refine kr2 ?_
          | refine kx2 ?_
          | refine ke2 rfl ?_
          | refine kn3 ?_
          | refine kr3 ?_
          | refine ke3 ?_
          | refine w_seq ?_
          | refine w_block ?_
          | (refine aw_regk fun κ hκ => ?_; simp (config := {implicitDefEqProofs := false}) only [avl1, avl2, avl3, avl4, avl5, if_true, if_false, beq_self_eq_true, ne_eq, reduceCtorEq, ↓reduceIte, Nat.reduceAdd, Nat.reduceLT, Nat.reduceEqDiff, Nat.reduceLeDiff, List.cons_ne_nil, beq_self_eq_true, bne_self_eq_false, Bool.not_true, Bool.not_false])
          | refine aw_exit ?_
          | refine aw_ret ?_
          | refine aw_skip ?_
          | refine aw_label ?_
          | refine condc_t ?_
          | refine condc_f ?_
          | (refine aw_cond2 (by simp (config := {implicitDefEqProofs := false}) only [avl1, avl2, avl3, avl4, avl5, if_true, if_false, beq_self_eq_true, ne_eq, reduceCtorEq, ↓reduceIte, Nat.reduceAdd, Nat.reduceLT, Nat.reduceEqDiff, Nat.reduceLeDiff, List.cons_ne_nil, beq_self_eq_true, bne_self_eq_false, Bool.not_true, Bool.not_false]; rfl) ?_)
          | (refine gkc_fork ?_ ?_ <;> intro hq <;> (simp (config := {implicitDefEqProofs := false}) only [hq, avl1, avl2, avl3, avl4, avl5, if_true, if_false, beq_self_eq_true, ne_eq, reduceCtorEq, ↓reduceIte, Nat.reduceAdd, Nat.reduceLT, Nat.reduceEqDiff, Nat.reduceLeDiff, List.cons_ne_nil, beq_self_eq_true, bne_self_eq_false, Bool.not_true, Bool.not_false]))
          | (refine condc_fork ?_ ?_ <;> intro hq)
          | (refine gkc_split ?_ ?_ <;> intro hq <;> (simp (config := {implicitDefEqProofs := false}) only [hq, avl1, avl2, avl3, avl4, avl5, if_true, if_false, beq_self_eq_true, ne_eq, reduceCtorEq, ↓reduceIte, Nat.reduceAdd, Nat.reduceLT, Nat.reduceEqDiff, Nat.reduceLeDiff, List.cons_ne_nil, beq_self_eq_true, bne_self_eq_false, Bool.not_true, Bool.not_false]))
          | (refine condc_bool ?_ ?_ <;> intro hq))
        refine callc (own_route_Own_ac hop) rfl ?_
        unfold ownC
        try simp (config := {implicitDefEqProofs := false}) only [avl1, avl2, avl3, avl4, avl5, if_true, if_false, beq_self_eq_true, ne_eq, reduceCtorEq, ↓reduceIte, Nat.reduceAdd, Nat.reduceLT, Nat.reduceEqDiff, Nat.reduceLeDiff, List.cons_ne_nil, sh, sh1]
        repeat' (first
          | (refine (hκ _).mpr ?_; clear hκ)
          | refine kn1 ?_
          | refine kr1 ?_
          | refine ke1 ?_
          | refine kn2 ?_
          | refine kr2 ?_
          | refine kx2 ?_
          | refine ke2 rfl ?_
          | refine kn3 ?_
          | refine kr3 ?_
          | refine ke3 ?_
          | refine w_seq ?_
          | refine w_block ?_
          | (refine aw_regk fun κ hκ => ?_; simp (config := {implicitDefEqProofs := false}) only [avl1, avl2, avl3, avl4, avl5, if_true, if_false, beq_self_eq_true, ne_eq, reduceCtorEq, ↓reduceIte, Nat.reduceAdd, Nat.reduceLT, Nat.reduceEqDiff, Nat.reduceLeDiff, List.cons_ne_nil, sh, sh1])
          | refine aw_exit ?_
          | refine aw_ret ?_
          | refine aw_skip ?_
          | refine aw_label ?_
          | refine condc_t ?_
          | refine condc_f ?_
          | (refine aw_cond2 (by simp (config := {implicitDefEqProofs := false}) only [avl1, avl2, avl3, avl4, avl5, if_true, if_false, beq_self_eq_true, ne_eq, reduceCtorEq, ↓reduceIte, Nat.reduceAdd, Nat.reduceLT, Nat.reduceEqDiff, Nat.reduceLeDiff, List.cons_ne_nil, sh, sh1]; rfl) ?_)
          | (refine gkc_fork ?_ ?_ <;> intro hq <;> (simp (config := {implicitDefEqProofs := false}) only [hq, avl1, avl2, avl3, avl4, avl5, if_true, if_false, beq_self_eq_true, ne_eq, reduceCtorEq, ↓reduceIte, Nat.reduceAdd, Nat.reduceLT, Nat.reduceEqDiff, Nat.reduceLeDiff, List.cons_ne_nil, sh, sh1]))
          | (refine condc_fork ?_ ?_ <;> intro hq)
          | (refine gkc_split ?_ ?_ <;> intro hq <;> (simp (config := {implicitDefEqProofs := false}) only [hq, avl1, avl2, avl3, avl4, avl5, if_true, if_false, beq_self_eq_true, ne_eq, reduceCtorEq, ↓reduceIte, Nat.reduceAdd, Nat.reduceLT, Nat.reduceEqDiff, Nat.reduceLeDiff, List.cons_ne_nil, sh, sh1]))
          | (refine condc_bool ?_ ?_ <;> intro hq))
        refine callc (own_ridgewayref09_Own_ac hop) rfl ?_
        unfold ownC
        try simp (config := {implicitDefEqProofs := false}) only [avl1, avl2, avl3, avl4, avl5, if_true, if_false, beq_self_eq_true, ne_eq, reduceCtorEq, ↓reduceIte, Nat.reduceAdd, Nat.reduceLT, Nat.reduceEqDiff, Nat.reduceLeDiff, List.cons_ne_nil, sh, sh1]
        repeat' (first
          | (refine (hκ _).mpr ?_; clear hκ)
          | refine kn1 ?_
          | refine kr1 ?_
          | refine ke1 ?_
          | refine kn2 ?_
          | refine kr2 ?_
          | refine kx2 ?_
          | refine ke2 rfl ?_
          | refine kn3 ?_
          | refine kr3 ?_
          | refine ke3 ?_
          | refine w_seq ?_
          | refine w_block ?_
          | (refine aw_regk fun κ hκ => ?_; simp (config := {implicitDefEqProofs := false}) only [avl1, avl2, avl3, avl4, avl5, if_true, if_false, beq_self_eq_true, ne_eq, reduceCtorEq, ↓reduceIte, Nat.reduceAdd, Nat.reduceLT, Nat.reduceEqDiff, Nat.reduceLeDiff, List.cons_ne_nil, sh, sh1])
          | refine aw_exit ?_
          | refine aw_ret ?_
          | refine aw_skip ?_
          | refine aw_label ?_
          | refine condc_t ?_
          | refine condc_f ?_
          | (refine aw_cond2 (by simp (config := {implicitDefEqProofs := false}) only [avl1, avl2, avl3, avl4, avl5, if_true, if_false, beq_self_eq_true, ne_eq, reduceCtorEq, ↓reduceIte, Nat.reduceAdd, Nat.reduceLT, Nat.reduceEqDiff, Nat.reduceLeDiff, List.cons_ne_nil, sh, sh1]; rfl) ?_)
          | (refine gkc_fork ?_ ?_ <;> intro hq <;> (simp (config := {implicitDefEqProofs := false}) only [hq, avl1, avl2, avl3, avl4, avl5, if_true, if_false, beq_self_eq_true, ne_eq, reduceCtorEq, ↓reduceIte, Nat.reduceAdd, Nat.reduceLT, Nat.reduceEqDiff, Nat.reduceLeDiff, List.cons_ne_nil, sh, sh1]))
          | (refine condc_fork ?_ ?_ <;> intro hq)
          | (refine gkc_split ?_ ?_ <;> intro hq <;> (simp (config := {implicitDefEqProofs := false}) only [hq, avl1, avl2, avl3, avl4, avl5, if_true, if_false, beq_self_eq_true, ne_eq, reduceCtorEq, ↓reduceIte, Nat.reduceAdd, Nat.reduceLT, Nat.reduceEqDiff, Nat.reduceLeDiff, List.cons_ne_nil, sh, sh1]))
          | (refine condc_bool ?_ ?_ <;> intro hq))
        refine callc (zsame_ac 400 0 hop 0 (-1)) rfl ?_
        try simp (config := {implicitDefEqProofs := false}) only [avl1, avl2, avl3, avl4, avl5, if_true, if_false, beq_self_eq_true, ne_eq, reduceCtorEq, ↓reduceIte, Nat.reduceAdd, Nat.reduceLT, Nat.reduceEqDiff, Nat.reduceLeDiff, List.cons_ne_nil]
        repeat' (first
          | (refine (hκ _).mpr ?_; clear hκ)
          | refine kn1 ?_
          | refine kr1 ?_
          | refine ke1 ?_
          | refine kn2 ?_
          | refine kr2 ?_
          | refine kx2 ?_
          | refine ke2 rfl ?_
          | refine kn3 ?_
          | refine kr3 ?_
          | refine ke3 ?_
          | refine w_seq ?_
          | refine w_block ?_
          | (refine aw_regk fun κ hκ => ?_; simp (config := {implicitDefEqProofs := false}) only [avl1, avl2, avl3, avl4, avl5, if_true, if_false, beq_self_eq_true, ne_eq, reduceCtorEq, ↓reduceIte, Nat.reduceAdd, Nat.reduceLT, Nat.reduceEqDiff, Nat.reduceLeDiff, List.cons_ne_nil])
          | refine aw_exit ?_
          | refine aw_ret ?_
          | refine aw_skip ?_
          | refine aw_label ?_
          | refine condc_t ?_
          | refine condc_f ?_
          | (refine aw_cond2 (by simp (config := {implicitDefEqProofs := false}) only [avl1, avl2, avl3, avl4, avl5, if_true, if_false, beq_self_eq_true, ne_eq, reduceCtorEq, ↓reduceIte, Nat.reduceAdd, Nat.reduceLT, Nat.reduceEqDiff, Nat.reduceLeDiff, List.cons_ne_nil]; rfl) ?_)
          | (refine gkc_fork ?_ ?_ <;> intro hq <;> (simp (config := {implicitDefEqProofs := false}) only [hq, avl1, avl2, avl3, avl4, avl5, if_true, if_false, beq_self_eq_true, ne_eq, reduceCtorEq, ↓reduceIte, Nat.reduceAdd, Nat.reduceLT, Nat.reduceEqDiff, Nat.reduceLeDiff, List.cons_ne_nil]))
          | (refine condc_fork ?_ ?_ <;> intro hq)
          | (refine gkc_split ?_ ?_ <;> intro hq <;> (simp (config := {implicitDefEqProofs := false}) only [hq, avl1, avl2, avl3, avl4, avl5, if_true, if_false, beq_self_eq_true, ne_eq, reduceCtorEq, ↓reduceIte, Nat.reduceAdd, Nat.reduceLT, Nat.reduceEqDiff, Nat.reduceLeDiff, List.cons_ne_nil]))
          | (refine condc_bool ?_ ?_ <;> intro hq))
        exact ret_bool rfl rfl
      · rw [← hl]
        rw [show bestA l = .tup [rtA (bst x t), .bool true] by rw [hl]; rfl] at hfb ⊢
        have hbm : (bst x t).as.length ≤ 1000000 := by
          rcases bst_mem x t with h | h
          · rw [h]; have := hfew.1 x (by rw [hl]; simp); omega
          · have := hfew.1 _ (show bst x t ∈ l by rw [hl]; exact .tail _ h); omega
        unfold rtA at hfb
        try simp (config := {implicitDefEqProofs := false}) only [avl1, avl2, avl3, avl4, avl5, if_true, if_false, beq_self_eq_true, ne_eq, reduceCtorEq, ↓reduceIte, Nat.reduceAdd, Nat.reduceLT, Nat.reduceEqDiff, Nat.reduceLeDiff, List.cons_ne_nil, sh, sh1, rtA]
        repeat' (first
          | (refine (hκ _).mpr ?_; clear hκ)
          | refine kn1 ?_
          | refine kr1 ?_
          | refine ke1 ?_
          | refine kn2 ?_
          | refine kr2 ?_
          | refine kx2 ?_
          | refine ke2 rfl ?_
          | refine kn3 ?_
          | refine kr3 ?_
          | refine ke3 ?_
          | refine w_seq ?_
          | refine w_block ?_
          | (refine aw_regk fun κ hκ => ?_; simp (config := {implicitDefEqProofs := false}) only [avl1, avl2, avl3, avl4, avl5, if_true, if_false, beq_self_eq_true, ne_eq, reduceCtorEq, ↓reduceIte, Nat.reduceAdd, Nat.reduceLT, Nat.reduceEqDiff, Nat.reduceLeDiff, List.cons_ne_nil, sh, sh1, rtA])
          | refine aw_exit ?_
          | refine aw_ret ?_
          | refine aw_skip ?_
          | refine aw_label ?_
          | refine condc_t ?_
          | refine condc_f ?_
          | (refine aw_cond2 (by simp (config := {implicitDefEqProofs := false}) only [avl1, avl2, avl3, avl4, avl5, if_true, if_false, beq_self_eq_true, ne_eq, reduceCtorEq, ↓reduceIte, Nat.reduceAdd, Nat.reduceLT, Nat.reduceEqDiff, Nat.reduceLeDiff, List.cons_ne_nil, sh, sh1, rtA]; rfl) ?_)
          | (refine gkc_fork ?_ ?_ <;> intro hq <;> (simp (config := {implicitDefEqProofs := false}) only [hq, avl1, avl2, avl3, avl4, avl5, if_true, if_false, beq_self_eq_true, ne_eq, reduceCtorEq, ↓reduceIte, Nat.reduceAdd, Nat.reduceLT, Nat.reduceEqDiff, Nat.reduceLeDiff, List.cons_ne_nil, sh, sh1, rtA]))
          | (refine condc_fork ?_ ?_ <;> intro hq)
          | (refine gkc_split ?_ ?_ <;> intro hq <;> (simp (config := {implicitDefEqProofs := false}) only [hq, avl1, avl2, avl3, avl4, avl5, if_true, if_false, beq_self_eq_true, ne_eq, reduceCtorEq, ↓reduceIte, Nat.reduceAdd, Nat.reduceLT, Nat.reduceEqDiff, Nat.reduceLeDiff, List.cons_ne_nil, sh, sh1, rtA]))
          | (refine condc_bool ?_ ?_ <;> intro hq))
        refine callc hfb hpal ?_
        try simp (config := {implicitDefEqProofs := false}) only [avl1, avl2, avl3, avl4, avl5, if_true, if_false, beq_self_eq_true, ne_eq, reduceCtorEq, ↓reduceIte, Nat.reduceAdd, Nat.reduceLT, Nat.reduceEqDiff, Nat.reduceLeDiff, List.cons_ne_nil, sh, sh1, beq_self_eq_true, bne_self_eq_false, Bool.not_true, Bool.not_false]
        repeat' (first
          | (refine (hκ _).mpr ?_; clear hκ)
          | refine kn1 ?_
          | refine kr1 ?_
          | refine ke1 ?_
          | refine kn2 ?_
          | refine kr2 ?_
          | refine kx2 ?_
          | refine ke2 rfl ?_
          | refine kn3 ?_
          | refine kr3 ?_
          | refine ke3 ?_
          | refine w_seq ?_
          | refine w_block ?_
          | (refine aw_regk fun κ hκ => ?_; simp (config := {implicitDefEqProofs := false}) only [avl1, avl2, avl3, avl4, avl5, if_true, if_false, beq_self_eq_true, ne_eq, reduceCtorEq, ↓reduceIte, Nat.reduceAdd, Nat.reduceLT, Nat.reduceEqDiff, Nat.reduceLeDiff, List.cons_ne_nil, sh, sh1, beq_self_eq_true, bne_self_eq_false, Bool.not_true, Bool.not_false])
          | refine aw_exit ?_
          | refine aw_ret ?_
          | refine aw_skip ?_
          | refine aw_label ?_
          | refine condc_t ?_
          | refine condc_f ?_
          | (refine aw_cond2 (by simp (config := {implicitDefEqProofs := false}) only [avl1, avl2, avl3, avl4, avl5, if_true, if_false, beq_self_eq_true, ne_eq, reduceCtorEq, ↓reduceIte, Nat.reduceAdd, Nat.reduceLT, Nat.reduceEqDiff, Nat.reduceLeDiff, List.cons_ne_nil, sh, sh1, beq_self_eq_true, bne_self_eq_false, Bool.not_true, Bool.not_false]; rfl) ?_)
          | (refine gkc_fork ?_ ?_ <;> intro hq <;> (simp (config := {implicitDefEqProofs := false}) only [hq, avl1, avl2, avl3, avl4, avl5, if_true, if_false, beq_self_eq_true, ne_eq, reduceCtorEq, ↓reduceIte, Nat.reduceAdd, Nat.reduceLT, Nat.reduceEqDiff, Nat.reduceLeDiff, List.cons_ne_nil, sh, sh1, beq_self_eq_true, bne_self_eq_false, Bool.not_true, Bool.not_false]))
          | (refine condc_fork ?_ ?_ <;> intro hq)
          | (refine gkc_split ?_ ?_ <;> intro hq <;> (simp (config := {implicitDefEqProofs := false}) only [hq, avl1, avl2, avl3, avl4, avl5, if_true, if_false, beq_self_eq_true, ne_eq, reduceCtorEq, ↓reduceIte, Nat.reduceAdd, Nat.reduceLT, Nat.reduceEqDiff, Nat.reduceLeDiff, List.cons_ne_nil, sh, sh1, beq_self_eq_true, bne_self_eq_false, Bool.not_true, Bool.not_false]))
          | (refine condc_bool ?_ ?_ <;> intro hq))
        refine callc (fsame_ac (bst x t) (bst x t) hbm) (by simp [purL, pur, purL_map_eq, iA]) ?_
        rw [show sameB (bst x t) (bst x t) = true by simp [sameB]]
        try simp (config := {implicitDefEqProofs := false}) only [avl1, avl2, avl3, avl4, avl5, if_true, if_false, beq_self_eq_true, ne_eq, reduceCtorEq, ↓reduceIte, Nat.reduceAdd, Nat.reduceLT, Nat.reduceEqDiff, Nat.reduceLeDiff, List.cons_ne_nil]
        repeat' (first
          | (refine (hκ _).mpr ?_; clear hκ)
          | refine kn1 ?_
          | refine kr1 ?_
          | refine ke1 ?_
          | refine kn2 ?_
          | refine kr2 ?_
          | refine kx2 ?_
          | refine ke2 rfl ?_
          | refine kn3 ?_
          | refine kr3 ?_
          | refine ke3 ?_
          | refine w_seq ?_
          | refine w_block ?_
          | (refine aw_regk fun κ hκ => ?_; simp (config := {implicitDefEqProofs := false}) only [avl1, avl2, avl3, avl4, avl5, if_true, if_false, beq_self_eq_true, ne_eq, reduceCtorEq, ↓reduceIte, Nat.reduceAdd, Nat.reduceLT, Nat.reduceEqDiff, Nat.reduceLeDiff, List.cons_ne_nil])
          | refine aw_exit ?_
          | refine aw_ret ?_
          | refine aw_skip ?_
          | refine aw_label ?_
          | refine condc_t ?_
          | refine condc_f ?_
          | (refine aw_cond2 (by simp (config := {implicitDefEqProofs := false}) only [avl1, avl2, avl3, avl4, avl5, if_true, if_false, beq_self_eq_true, ne_eq, reduceCtorEq, ↓reduceIte, Nat.reduceAdd, Nat.reduceLT, Nat.reduceEqDiff, Nat.reduceLeDiff, List.cons_ne_nil]; rfl) ?_)
          | (refine gkc_fork ?_ ?_ <;> intro hq <;> (simp (config := {implicitDefEqProofs := false}) only [hq, avl1, avl2, avl3, avl4, avl5, if_true, if_false, beq_self_eq_true, ne_eq, reduceCtorEq, ↓reduceIte, Nat.reduceAdd, Nat.reduceLT, Nat.reduceEqDiff, Nat.reduceLeDiff, List.cons_ne_nil]))
          | (refine condc_fork ?_ ?_ <;> intro hq)
          | (refine gkc_split ?_ ?_ <;> intro hq <;> (simp (config := {implicitDefEqProofs := false}) only [hq, avl1, avl2, avl3, avl4, avl5, if_true, if_false, beq_self_eq_true, ne_eq, reduceCtorEq, ↓reduceIte, Nat.reduceAdd, Nat.reduceLT, Nat.reduceEqDiff, Nat.reduceLeDiff, List.cons_ne_nil]))
          | (refine condc_bool ?_ ?_ <;> intro hq))
        refine callc (rsane_ac a (asane_ac a (by omega))) (by simp [purL, pur, purL_map_eq, iA]) ?_
        try simp (config := {implicitDefEqProofs := false}) only [avl1, avl2, avl3, avl4, avl5, if_true, if_false, beq_self_eq_true, ne_eq, reduceCtorEq, ↓reduceIte, Nat.reduceAdd, Nat.reduceLT, Nat.reduceEqDiff, Nat.reduceLeDiff, List.cons_ne_nil]
        repeat' (first
          | (refine (hκ _).mpr ?_; clear hκ)
          | refine kn1 ?_
          | refine kr1 ?_
          | refine ke1 ?_
          | refine kn2 ?_
          | refine kr2 ?_
          | refine kx2 ?_
          | refine ke2 rfl ?_
          | refine kn3 ?_
          | refine kr3 ?_
          | refine ke3 ?_
          | refine w_seq ?_
          | refine w_block ?_
          | (refine aw_regk fun κ hκ => ?_; simp (config := {implicitDefEqProofs := false}) only [avl1, avl2, avl3, avl4, avl5, if_true, if_false, beq_self_eq_true, ne_eq, reduceCtorEq, ↓reduceIte, Nat.reduceAdd, Nat.reduceLT, Nat.reduceEqDiff, Nat.reduceLeDiff, List.cons_ne_nil])
          | refine aw_exit ?_
          | refine aw_ret ?_
          | refine aw_skip ?_
          | refine aw_label ?_
          | refine condc_t ?_
          | refine condc_f ?_
          | (refine aw_cond2 (by simp (config := {implicitDefEqProofs := false}) only [avl1, avl2, avl3, avl4, avl5, if_true, if_false, beq_self_eq_true, ne_eq, reduceCtorEq, ↓reduceIte, Nat.reduceAdd, Nat.reduceLT, Nat.reduceEqDiff, Nat.reduceLeDiff, List.cons_ne_nil]; rfl) ?_)
          | (refine gkc_fork ?_ ?_ <;> intro hq <;> (simp (config := {implicitDefEqProofs := false}) only [hq, avl1, avl2, avl3, avl4, avl5, if_true, if_false, beq_self_eq_true, ne_eq, reduceCtorEq, ↓reduceIte, Nat.reduceAdd, Nat.reduceLT, Nat.reduceEqDiff, Nat.reduceLeDiff, List.cons_ne_nil]))
          | (refine condc_fork ?_ ?_ <;> intro hq)
          | (refine gkc_split ?_ ?_ <;> intro hq <;> (simp (config := {implicitDefEqProofs := false}) only [hq, avl1, avl2, avl3, avl4, avl5, if_true, if_false, beq_self_eq_true, ne_eq, reduceCtorEq, ↓reduceIte, Nat.reduceAdd, Nat.reduceLT, Nat.reduceEqDiff, Nat.reduceLeDiff, List.cons_ne_nil]))
          | (refine condc_bool ?_ ?_ <;> intro hq))
        refine callc (fsane_ac a (psane_ac a (by omega))) (by simp [purL, pur, purL_map_eq, iA]) ?_
        try simp (config := {implicitDefEqProofs := false}) only [avl1, avl2, avl3, avl4, avl5, if_true, if_false, beq_self_eq_true, ne_eq, reduceCtorEq, ↓reduceIte, Nat.reduceAdd, Nat.reduceLT, Nat.reduceEqDiff, Nat.reduceLeDiff, List.cons_ne_nil, beq_self_eq_true, bne_self_eq_false, Bool.not_true, Bool.not_false]
        repeat' (first
          | (refine (hκ _).mpr ?_; clear hκ)
          | refine kn1 ?_
          | refine kr1 ?_
          | refine ke1 ?_
          | refine kn2 ?_
          | refine kr2 ?_
          | refine kx2 ?_
          | refine ke2 rfl ?_
          | refine kn3 ?_
          | refine kr3 ?_
          | refine ke3 ?_
          | refine w_seq ?_
          | refine w_block ?_
          | (refine aw_regk fun κ hκ => ?_; simp (config := {implicitDefEqProofs := false}) only [avl1, avl2, avl3, avl4, avl5, if_true, if_false, beq_self_eq_true, ne_eq, reduceCtorEq, ↓reduceIte, Nat.reduceAdd, Nat.reduceLT, Nat.reduceEqDiff, Nat.reduceLeDiff, List.cons_ne_nil, beq_self_eq_true, bne_self_eq_false, Bool.not_true, Bool.not_false])
          | refine aw_exit ?_
          | refine aw_ret ?_
          | refine aw_skip ?_
          | refine aw_label ?_
          | refine condc_t ?_
          | refine condc_f ?_
          | (refine aw_cond2 (by simp (config := {implicitDefEqProofs := false}) only [avl1, avl2, avl3, avl4, avl5, if_true, if_false, beq_self_eq_true, ne_eq, reduceCtorEq, ↓reduceIte, Nat.reduceAdd, Nat.reduceLT, Nat.reduceEqDiff, Nat.reduceLeDiff, List.cons_ne_nil, beq_self_eq_true, bne_self_eq_false, Bool.not_true, Bool.not_false]; rfl) ?_)
          | (refine gkc_fork ?_ ?_ <;> intro hq <;> (simp (config := {implicitDefEqProofs := false}) only [hq, avl1, avl2, avl3, avl4, avl5, if_true, if_false, beq_self_eq_true, ne_eq, reduceCtorEq, ↓reduceIte, Nat.reduceAdd, Nat.reduceLT, Nat.reduceEqDiff, Nat.reduceLeDiff, List.cons_ne_nil, beq_self_eq_true, bne_self_eq_false, Bool.not_true, Bool.not_false]))
          | (refine condc_fork ?_ ?_ <;> intro hq)
          | (refine gkc_split ?_ ?_ <;> intro hq <;> (simp (config := {implicitDefEqProofs := false}) only [hq, avl1, avl2, avl3, avl4, avl5, if_true, if_false, beq_self_eq_true, ne_eq, reduceCtorEq, ↓reduceIte, Nat.reduceAdd, Nat.reduceLT, Nat.reduceEqDiff, Nat.reduceLeDiff, List.cons_ne_nil, beq_self_eq_true, bne_self_eq_false, Bool.not_true, Bool.not_false]))
          | (refine condc_bool ?_ ?_ <;> intro hq))
        refine callc (own_route_Own_ac hop) rfl ?_
        unfold ownC
        try simp (config := {implicitDefEqProofs := false}) only [avl1, avl2, avl3, avl4, avl5, if_true, if_false, beq_self_eq_true, ne_eq, reduceCtorEq, ↓reduceIte, Nat.reduceAdd, Nat.reduceLT, Nat.reduceEqDiff, Nat.reduceLeDiff, List.cons_ne_nil, sh, sh1]
        repeat' (first
          | (refine (hκ _).mpr ?_; clear hκ)
          | refine kn1 ?_
          | refine kr1 ?_
          | refine ke1 ?_
          | refine kn2 ?_
          | refine kr2 ?_
          | refine kx2 ?_
          | refine ke2 rfl ?_
          | refine kn3 ?_
          | refine kr3 ?_
          | refine ke3 ?_
          | refine w_seq ?_
          | refine w_block ?_
          | (refine aw_regk fun κ hκ => ?_; simp (config := {implicitDefEqProofs := false}) only [avl1, avl2, avl3, avl4, avl5, if_true, if_false, beq_self_eq_true, ne_eq, reduceCtorEq, ↓reduceIte, Nat.reduceAdd, Nat.reduceLT, Nat.reduceEqDiff, Nat.reduceLeDiff, List.cons_ne_nil, sh, sh1])
          | refine aw_exit ?_
          | refine aw_ret ?_
          | refine aw_skip ?_
          | refine aw_label ?_
          | refine condc_t ?_
          | refine condc_f ?_
          | (refine aw_cond2 (by simp (config := {implicitDefEqProofs := false}) only [avl1, avl2, avl3, avl4, avl5, if_true, if_false, beq_self_eq_true, ne_eq, reduceCtorEq, ↓reduceIte, Nat.reduceAdd, Nat.reduceLT, Nat.reduceEqDiff, Nat.reduceLeDiff, List.cons_ne_nil, sh, sh1]; rfl) ?_)
          | (refine gkc_fork ?_ ?_ <;> intro hq <;> (simp (config := {implicitDefEqProofs := false}) only [hq, avl1, avl2, avl3, avl4, avl5, if_true, if_false, beq_self_eq_true, ne_eq, reduceCtorEq, ↓reduceIte, Nat.reduceAdd, Nat.reduceLT, Nat.reduceEqDiff, Nat.reduceLeDiff, List.cons_ne_nil, sh, sh1]))
          | (refine condc_fork ?_ ?_ <;> intro hq)
          | (refine gkc_split ?_ ?_ <;> intro hq <;> (simp (config := {implicitDefEqProofs := false}) only [hq, avl1, avl2, avl3, avl4, avl5, if_true, if_false, beq_self_eq_true, ne_eq, reduceCtorEq, ↓reduceIte, Nat.reduceAdd, Nat.reduceLT, Nat.reduceEqDiff, Nat.reduceLeDiff, List.cons_ne_nil, sh, sh1]))
          | (refine condc_bool ?_ ?_ <;> intro hq))
        refine callc (own_ridgewayref09_Own_ac hop) rfl ?_
        unfold ownC
        try simp (config := {implicitDefEqProofs := false}) only [avl1, avl2, avl3, avl4, avl5, if_true, if_false, beq_self_eq_true, ne_eq, reduceCtorEq, ↓reduceIte, Nat.reduceAdd, Nat.reduceLT, Nat.reduceEqDiff, Nat.reduceLeDiff, List.cons_ne_nil, sh, sh1]
        repeat' (first
          | (refine (hκ _).mpr ?_; clear hκ)
          | refine kn1 ?_
          | refine kr1 ?_
          | refine ke1 ?_
          | refine kn2 ?_
          | refine kr2 ?_
          | refine kx2 ?_
          | refine ke2 rfl ?_
          | refine kn3 ?_
          | refine kr3 ?_
          | refine ke3 ?_
          | refine w_seq ?_
          | refine w_block ?_
          | (refine aw_regk fun κ hκ => ?_; simp (config := {implicitDefEqProofs := false}) only [avl1, avl2, avl3, avl4, avl5, if_true, if_false, beq_self_eq_true, ne_eq, reduceCtorEq, ↓reduceIte, Nat.reduceAdd, Nat.reduceLT, Nat.reduceEqDiff, Nat.reduceLeDiff, List.cons_ne_nil, sh, sh1])
          | refine aw_exit ?_
          | refine aw_ret ?_
          | refine aw_skip ?_
          | refine aw_label ?_
          | refine condc_t ?_
          | refine condc_f ?_
          | (refine aw_cond2 (by simp (config := {implicitDefEqProofs := false}) only [avl1, avl2, avl3, avl4, avl5, if_true, if_false, beq_self_eq_true, ne_eq, reduceCtorEq, ↓reduceIte, Nat.reduceAdd, Nat.reduceLT, Nat.reduceEqDiff, Nat.reduceLeDiff, List.cons_ne_nil, sh, sh1]; rfl) ?_)
          | (refine gkc_fork ?_ ?_ <;> intro hq <;> (simp (config := {implicitDefEqProofs := false}) only [hq, avl1, avl2, avl3, avl4, avl5, if_true, if_false, beq_self_eq_true, ne_eq, reduceCtorEq, ↓reduceIte, Nat.reduceAdd, Nat.reduceLT, Nat.reduceEqDiff, Nat.reduceLeDiff, List.cons_ne_nil, sh, sh1]))
          | (refine condc_fork ?_ ?_ <;> intro hq)
          | (refine gkc_split ?_ ?_ <;> intro hq <;> (simp (config := {implicitDefEqProofs := false}) only [hq, avl1, avl2, avl3, avl4, avl5, if_true, if_false, beq_self_eq_true, ne_eq, reduceCtorEq, ↓reduceIte, Nat.reduceAdd, Nat.reduceLT, Nat.reduceEqDiff, Nat.reduceLeDiff, List.cons_ne_nil, sh, sh1]))
          | (refine condc_bool ?_ ?_ <;> intro hq))
        refine callc (zsame_ac 400 0 hop 0 (-1)) rfl ?_
        try simp (config := {implicitDefEqProofs := false}) only [avl1, avl2, avl3, avl4, avl5, if_true, if_false, beq_self_eq_true, ne_eq, reduceCtorEq, ↓reduceIte, Nat.reduceAdd, Nat.reduceLT, Nat.reduceEqDiff, Nat.reduceLeDiff, List.cons_ne_nil]
        repeat' (first
          | (refine (hκ _).mpr ?_; clear hκ)
          | refine kn1 ?_
          | refine kr1 ?_
          | refine ke1 ?_
          | refine kn2 ?_
          | refine kr2 ?_
          | refine kx2 ?_
          | refine ke2 rfl ?_
          | refine kn3 ?_
          | refine kr3 ?_
          | refine ke3 ?_
          | refine w_seq ?_
          | refine w_block ?_
          | (refine aw_regk fun κ hκ => ?_; simp (config := {implicitDefEqProofs := false}) only [avl1, avl2, avl3, avl4, avl5, if_true, if_false, beq_self_eq_true, ne_eq, reduceCtorEq, ↓reduceIte, Nat.reduceAdd, Nat.reduceLT, Nat.reduceEqDiff, Nat.reduceLeDiff, List.cons_ne_nil])
          | refine aw_exit ?_
          | refine aw_ret ?_
          | refine aw_skip ?_
          | refine aw_label ?_
          | refine condc_t ?_
          | refine condc_f ?_
          | (refine aw_cond2 (by simp (config := {implicitDefEqProofs := false}) only [avl1, avl2, avl3, avl4, avl5, if_true, if_false, beq_self_eq_true, ne_eq, reduceCtorEq, ↓reduceIte, Nat.reduceAdd, Nat.reduceLT, Nat.reduceEqDiff, Nat.reduceLeDiff, List.cons_ne_nil]; rfl) ?_)
          | (refine gkc_fork ?_ ?_ <;> intro hq <;> (simp (config := {implicitDefEqProofs := false}) only [hq, avl1, avl2, avl3, avl4, avl5, if_true, if_false, beq_self_eq_true, ne_eq, reduceCtorEq, ↓reduceIte, Nat.reduceAdd, Nat.reduceLT, Nat.reduceEqDiff, Nat.reduceLeDiff, List.cons_ne_nil]))
          | (refine condc_fork ?_ ?_ <;> intro hq)
          | (refine gkc_split ?_ ?_ <;> intro hq <;> (simp (config := {implicitDefEqProofs := false}) only [hq, avl1, avl2, avl3, avl4, avl5, if_true, if_false, beq_self_eq_true, ne_eq, reduceCtorEq, ↓reduceIte, Nat.reduceAdd, Nat.reduceLT, Nat.reduceEqDiff, Nat.reduceLeDiff, List.cons_ne_nil]))
          | (refine condc_bool ?_ ?_ <;> intro hq))
        exact ret_bool rfl rfl
end Go.Proofs.Ytmlhbmlppgoklac
