/- Is a path, a route sane? -/
import Derived.Test.YtmlhbmlppgoklacRc1
namespace Go.Proofs.Ytmlhbmlppgoklac
open Go.RowKit
set_option maxHeartbeats 1000000
set_option maxRecDepth 100000
set_option linter.unusedSimpArgs false
set_option linter.unusedVariables false

def paC (r : Rt) : List AV := [.int .i64 r.origin, .slice .imm 1 (r.as.map iA), .int .i64 r.hop, .int .i64 r.otc]
def paA (r : Rt) : AV := .agg (paC r)
def asB (r : Rt) : Bool := r.as.all fun x => decide (1 ≤ x) && decide (x ≤ 4294967295)
def paB (r : Rt) : Bool := asB r && (decide (0 ≤ r.origin) && decide (r.origin ≤ 2) && decide (r.as.length ≤ 255) && decide (1 ≤ r.hop) && decide (r.hop ≤ 4294967295) && decide (0 ≤ r.otc) && decide (r.otc ≤ 4294967295))
def saB (r : Rt) : Bool := paB r && decide (r.as.length ≤ 32) && ((decide (r.frm = -1) && (decide (r.pref = 400) && decide (r.as.length = 0) && decide (r.origin = 0) && decide (r.otc = 0))) || (decide (¬ r.frm = -1) && (decide (0 ≤ r.frm) && decide (r.frm ≤ 7) && decide (1 ≤ r.pref) && decide (r.pref ≤ 399))))
theorem rsane_ac (r : Rt) (h7 : ACt Try.prog 29 [paA r] (.bool (paB r)) []) : ACt Try.prog 14 [rtA r] (.bool (saB r)) [] := by
  refine act_of p_route_Sane (by simp [c_route_Sane]) ?_
  show AW _ b_route_Sane (RetOk [.tmp 2] _ _) ⟨57, [(0, _)], [], []⟩
  unfold b_route_Sane rtA
  try simp (config := {implicitDefEqProofs := false}) only [avl1, avl2, avl3, avl4, avl5, if_true, if_false, beq_self_eq_true, ne_eq, reduceCtorEq, ↓reduceIte, Nat.reduceAdd, Nat.reduceLT, Nat.reduceEqDiff, Nat.reduceLeDiff, List.cons_ne_nil]
  repeat (first
    | (refine (hκ _).mpr ?_; clear hκ)
    | refine kn1 ?_
    | refine kr1 ?_
    | refine ke1 ?_
    | refine kn2 ?_
    | refine kr2 ?_
    | refine kx2 ?_
    | refine ke2 rfl ?_
    | refine kn3 ?_
    | refine kr3 ?_
    | refine ke3 ?_
    | refine w_seq ?_
    | refine w_block ?_
    | (refine aw_regk fun κ hκ => ?_; simp (config := {implicitDefEqProofs := false}) only [avl1, avl2, avl3, avl4, avl5, if_true, if_false, beq_self_eq_true, ne_eq, reduceCtorEq, ↓reduceIte, Nat.reduceAdd, Nat.reduceLT, Nat.reduceEqDiff, Nat.reduceLeDiff, List.cons_ne_nil])
    | refine aw_exit ?_
    | refine aw_ret ?_
    | refine aw_skip ?_
    | refine aw_label ?_
    | refine condc_t ?_
    | refine condc_f ?_)
  refine callc h7 (by simp [purL, pur, purL_map_eq, iA]) ?_
  clear h7
  try simp (config := {implicitDefEqProofs := false}) only [avl1, avl2, avl3, avl4, avl5, if_true, if_false, beq_self_eq_true, ne_eq, reduceCtorEq, ↓reduceIte, Nat.reduceAdd, Nat.reduceLT, Nat.reduceEqDiff, Nat.reduceLeDiff, List.cons_ne_nil]
  repeat' (first
    | (refine (hκ _).mpr ?_; clear hκ)
    | refine kn1 ?_
    | refine kr1 ?_
    | refine ke1 ?_
    | refine kn2 ?_
    | refine kr2 ?_
    | refine kx2 ?_
    | refine ke2 rfl ?_
    | refine kn3 ?_
    | refine kr3 ?_
    | refine ke3 ?_
    | refine w_seq ?_
    | refine w_block ?_
    | (refine aw_regk fun κ hκ => ?_; simp (config := {implicitDefEqProofs := false}) only [avl1, avl2, avl3, avl4, avl5, if_true, if_false, beq_self_eq_true, ne_eq, reduceCtorEq, ↓reduceIte, Nat.reduceAdd, Nat.reduceLT, Nat.reduceEqDiff, Nat.reduceLeDiff, List.cons_ne_nil])
    | refine aw_exit ?_
    | refine aw_ret ?_
    | refine aw_skip ?_
    | refine aw_label ?_
    | refine condc_t ?_
    | refine condc_f ?_
    | (refine aw_cond2 (by simp (config := {implicitDefEqProofs := false}) only [avl1, avl2, avl3, avl4, avl5, if_true, if_false, beq_self_eq_true, ne_eq, reduceCtorEq, ↓reduceIte, Nat.reduceAdd, Nat.reduceLT, Nat.reduceEqDiff, Nat.reduceLeDiff, List.cons_ne_nil]; rfl) ?_)
    | (refine gkc_fork ?_ ?_ <;> intro hq <;> (simp (config := {implicitDefEqProofs := false}) only [hq, avl1, avl2, avl3, avl4, avl5, if_true, if_false, beq_self_eq_true, ne_eq, reduceCtorEq, ↓reduceIte, Nat.reduceAdd, Nat.reduceLT, Nat.reduceEqDiff, Nat.reduceLeDiff, List.cons_ne_nil]))
    | (refine condc_fork ?_ ?_ <;> intro hq)
    | (refine gkc_split ?_ ?_ <;> intro hq <;> (simp (config := {implicitDefEqProofs := false}) only [hq, avl1, avl2, avl3, avl4, avl5, if_true, if_false, beq_self_eq_true, ne_eq, reduceCtorEq, ↓reduceIte, Nat.reduceAdd, Nat.reduceLT, Nat.reduceEqDiff, Nat.reduceLeDiff, List.cons_ne_nil]))
    | (refine condc_bool ?_ ?_ <;> intro hq))
  all_goals refine ret_bool rfl ?_
  all_goals (rw [Bool.eq_iff_iff]; unfold saB; cases hp : paB r <;> simp only [hp, Bool.and_eq_true, Bool.or_eq_true, decide_eq_true_eq, Bool.not_true, Bool.not_false, Bool.false_eq_true, reduceCtorEq, true_and, false_and, and_true, iff_true, iff_false, true_iff, false_iff] at * <;> omega)
theorem fsane_ac (r : Rt) (h7 : ACt Try.prog 30 [paA r] (.bool (paB r)) []) : ACt Try.prog 15 [rtA r] (.bool (saB r)) [] := by
  refine act_of p_ridgewayref09_Sane (by simp [c_ridgewayref09_Sane]) ?_
  show AW _ b_ridgewayref09_Sane (RetOk [.tmp 2] _ _) ⟨57, [(0, _)], [], []⟩
  unfold b_ridgewayref09_Sane rtA
  try simp (config := {implicitDefEqProofs := false}) only [avl1, avl2, avl3, avl4, avl5, if_true, if_false, beq_self_eq_true, ne_eq, reduceCtorEq, ↓reduceIte, Nat.reduceAdd, Nat.reduceLT, Nat.reduceEqDiff, Nat.reduceLeDiff, List.cons_ne_nil]
  repeat (first
    | (refine (hκ _).mpr ?_; clear hκ)
    | refine kn1 ?_
    | refine kr1 ?_
    | refine ke1 ?_
    | refine kn2 ?_
    | refine kr2 ?_
    | refine kx2 ?_
    | refine ke2 rfl ?_
    | refine kn3 ?_
    | refine kr3 ?_
    | refine ke3 ?_
    | refine w_seq ?_
    | refine w_block ?_
    | (refine aw_regk fun κ hκ => ?_; simp (config := {implicitDefEqProofs := false}) only [avl1, avl2, avl3, avl4, avl5, if_true, if_false, beq_self_eq_true, ne_eq, reduceCtorEq, ↓reduceIte, Nat.reduceAdd, Nat.reduceLT, Nat.reduceEqDiff, Nat.reduceLeDiff, List.cons_ne_nil])
    | refine aw_exit ?_
    | refine aw_ret ?_
    | refine aw_skip ?_
    | refine aw_label ?_
    | refine condc_t ?_
    | refine condc_f ?_)
  refine callc h7 (by simp [purL, pur, purL_map_eq, iA]) ?_
  clear h7
  try simp (config := {implicitDefEqProofs := false}) only [avl1, avl2, avl3, avl4, avl5, if_true, if_false, beq_self_eq_true, ne_eq, reduceCtorEq, ↓reduceIte, Nat.reduceAdd, Nat.reduceLT, Nat.reduceEqDiff, Nat.reduceLeDiff, List.cons_ne_nil]
  repeat' (first
    | (refine (hκ _).mpr ?_; clear hκ)
    | refine kn1 ?_
    | refine kr1 ?_
    | refine ke1 ?_
    | refine kn2 ?_
    | refine kr2 ?_
    | refine kx2 ?_
    | refine ke2 rfl ?_
    | refine kn3 ?_
    | refine kr3 ?_
    | refine ke3 ?_
    | refine w_seq ?_
    | refine w_block ?_
    | (refine aw_regk fun κ hκ => ?_; simp (config := {implicitDefEqProofs := false}) only [avl1, avl2, avl3, avl4, avl5, if_true, if_false, beq_self_eq_true, ne_eq, reduceCtorEq, ↓reduceIte, Nat.reduceAdd, Nat.reduceLT, Nat.reduceEqDiff, Nat.reduceLeDiff, List.cons_ne_nil])
    | refine aw_exit ?_
    | refine aw_ret ?_
    | refine aw_skip ?_
    | refine aw_label ?_
    | refine condc_t ?_
    | refine condc_f ?_
    | (refine aw_cond2 (by simp (config := {implicitDefEqProofs := false}) only [avl1, avl2, avl3, avl4, avl5, if_true, if_false, beq_self_eq_true, ne_eq, reduceCtorEq, ↓reduceIte, Nat.reduceAdd, Nat.reduceLT, Nat.reduceEqDiff, Nat.reduceLeDiff, List.cons_ne_nil]; rfl) ?_)
    | (refine gkc_fork ?_ ?_ <;> intro hq <;> (simp (config := {implicitDefEqProofs := false}) only [hq, avl1, avl2, avl3, avl4, avl5, if_true, if_false, beq_self_eq_true, ne_eq, reduceCtorEq, ↓reduceIte, Nat.reduceAdd, Nat.reduceLT, Nat.reduceEqDiff, Nat.reduceLeDiff, List.cons_ne_nil]))
    | (refine condc_fork ?_ ?_ <;> intro hq)
    | (refine gkc_split ?_ ?_ <;> intro hq <;> (simp (config := {implicitDefEqProofs := false}) only [hq, avl1, avl2, avl3, avl4, avl5, if_true, if_false, beq_self_eq_true, ne_eq, reduceCtorEq, ↓reduceIte, Nat.reduceAdd, Nat.reduceLT, Nat.reduceEqDiff, Nat.reduceLeDiff, List.cons_ne_nil]))
    | (refine condc_bool ?_ ?_ <;> intro hq))
  all_goals refine ret_bool rfl ?_
  all_goals (rw [Bool.eq_iff_iff]; unfold saB; cases hp : paB r <;> simp only [hp, Bool.and_eq_true, Bool.or_eq_true, decide_eq_true_eq, Bool.not_true, Bool.not_false, Bool.false_eq_true, reduceCtorEq, true_and, false_and, and_true, iff_true, iff_false, true_iff, false_iff] at * <;> omega)
end Go.Proofs.Ytmlhbmlppgoklac
