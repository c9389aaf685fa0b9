/- The reference's Best, Same; the small ones. -/
import Derived.Test.YtmlhbmlppgoklacRc6
namespace Go.Proofs.Ytmlhbmlppgoklac
open Go.RowKit
set_option maxHeartbeats 4000000
set_option maxRecDepth 100000
set_option linter.unusedSimpArgs false
set_option linter.unusedVariables false

def zC : List AV := [.int .i64 0, .int .i64 0, .slice .full 0 [], .int .i64 0, .int .i64 0, .int .i64 0]
/-- What the best one of a list is, and whether there is one. -/
def bestA : List Rt → AV
  | [] => .tup [.agg zC, .bool false]
  | x :: t => .tup [rtA (bst x t), .bool true]
theorem ret2 {a b : AV} {k c : Nat} {n : Option Nat} {e : Exit} {s : St} (h1 : resOf s (.cell k n) = some a) (h2 : getT s.tm c = b) (hp : pur a = true) (hq : pur b = true) (he : e = .normal ∨ e = .ret := by first | exact .inr rfl | exact .inl rfl) : RetOk [.cell k n, .tmp c] (.tup [a, b]) [] e s :=
  retN he (rs := [a, b]) (by
    subst h2
    show (match resOf s (.cell k n), (match some (getT s.tm c), some ([] : List AV) with | some a, some q => some (a :: q) | _, _ => none) with | some a, some q => some (a :: q) | _, _ => none) = _
    rw [h1]) (by simp [purL, hp, hq]) rfl
theorem best_ac (l : List Rt) (hs : l.length ≤ 1000) (hn : ∀ r ∈ l, r.as.length ≤ 1000000) : ACt Try.prog 16 [.slice .imm 6 (l.map rtA)] (bestA l) [] := by
  refine act_of p_route_Best (by simp [c_route_Best]) ?_
  show AW _ b_route_Best (RetOk [.cell 2 (some 6), .tmp 3] _ _) ⟨10, [(0, _)], [], []⟩
  unfold b_route_Best
  cases l with
  | nil =>
    try simp (config := {implicitDefEqProofs := false}) only [avl1, avl2, avl3, avl4, avl5, if_true, if_false, beq_self_eq_true, ne_eq, reduceCtorEq, ↓reduceIte, Nat.reduceAdd, Nat.reduceLT, Nat.reduceEqDiff, Nat.reduceLeDiff, List.cons_ne_nil, List.map_nil, (show ((0 : Nat) : Int) = 0 from rfl)]
    repeat' (first
      | (refine (hκ _).mpr ?_; clear hκ)
      | refine kn1 ?_
      | refine kr1 ?_
      | refine ke1 ?_
      | refine kn2 ?_
      | refine kr2 ?_
      | refine kx2 ?_
      | refine ke2 rfl ?_
      | refine kn3 ?_
      | refine kr3 ?_
      | refine ke3 ?_
      | refine w_seq ?_
      | refine w_block ?_
      | (refine aw_regk fun κ hκ => ?_; simp (config := {implicitDefEqProofs := false}) only [avl1, avl2, avl3, avl4, avl5, if_true, if_false, beq_self_eq_true, ne_eq, reduceCtorEq, ↓reduceIte, Nat.reduceAdd, Nat.reduceLT, Nat.reduceEqDiff, Nat.reduceLeDiff, List.cons_ne_nil, List.map_nil, (show ((0 : Nat) : Int) = 0 from rfl)])
      | refine aw_exit ?_
      | refine aw_ret ?_
      | refine aw_skip ?_
      | refine aw_label ?_
      | refine condc_t ?_
      | refine condc_f ?_
      | (refine aw_cond2 (by simp (config := {implicitDefEqProofs := false}) only [avl1, avl2, avl3, avl4, avl5, if_true, if_false, beq_self_eq_true, ne_eq, reduceCtorEq, ↓reduceIte, Nat.reduceAdd, Nat.reduceLT, Nat.reduceEqDiff, Nat.reduceLeDiff, List.cons_ne_nil, List.map_nil, (show ((0 : Nat) : Int) = 0 from rfl)]; rfl) ?_)
      | (refine gkc_fork ?_ ?_ <;> intro hq <;> (simp (config := {implicitDefEqProofs := false}) only [hq, avl1, avl2, avl3, avl4, avl5, if_true, if_false, beq_self_eq_true, ne_eq, reduceCtorEq, ↓reduceIte, Nat.reduceAdd, Nat.reduceLT, Nat.reduceEqDiff, Nat.reduceLeDiff, List.cons_ne_nil, List.map_nil, (show ((0 : Nat) : Int) = 0 from rfl)]))
      | (refine condc_fork ?_ ?_ <;> intro hq)
      | (refine gkc_split ?_ ?_ <;> intro hq <;> (simp (config := {implicitDefEqProofs := false}) only [hq, avl1, avl2, avl3, avl4, avl5, if_true, if_false, beq_self_eq_true, ne_eq, reduceCtorEq, ↓reduceIte, Nat.reduceAdd, Nat.reduceLT, Nat.reduceEqDiff, Nat.reduceLeDiff, List.cons_ne_nil, List.map_nil, (show ((0 : Nat) : Int) = 0 from rfl)]))
      | (refine condc_bool ?_ ?_ <;> intro hq))
    exact ret2 rfl rfl rfl rfl
  | cons x t =>
    have hnz : ¬ ((t.length + 1 : Nat) : Int) = 0 := by omega
    try simp (config := {implicitDefEqProofs := false}) only [avl1, avl2, avl3, avl4, avl5, if_true, if_false, beq_self_eq_true, ne_eq, reduceCtorEq, ↓reduceIte, Nat.reduceAdd, Nat.reduceLT, Nat.reduceEqDiff, Nat.reduceLeDiff, List.cons_ne_nil, hnz]
    repeat' (first
      | (refine (hκ _).mpr ?_; clear hκ)
      | refine kn1 ?_
      | refine kr1 ?_
      | refine ke1 ?_
      | refine kn2 ?_
      | refine kr2 ?_
      | refine kx2 ?_
      | refine ke2 rfl ?_
      | refine kn3 ?_
      | refine kr3 ?_
      | refine ke3 ?_
      | refine w_seq ?_
      | refine w_block ?_
      | (refine aw_regk fun κ hκ => ?_; simp (config := {implicitDefEqProofs := false}) only [avl1, avl2, avl3, avl4, avl5, if_true, if_false, beq_self_eq_true, ne_eq, reduceCtorEq, ↓reduceIte, Nat.reduceAdd, Nat.reduceLT, Nat.reduceEqDiff, Nat.reduceLeDiff, List.cons_ne_nil, hnz])
      | refine aw_exit ?_
      | refine aw_ret ?_
      | refine aw_skip ?_
      | refine aw_label ?_
      | refine condc_t ?_
      | refine condc_f ?_
      | (refine aw_cond2 (by simp (config := {implicitDefEqProofs := false}) only [avl1, avl2, avl3, avl4, avl5, if_true, if_false, beq_self_eq_true, ne_eq, reduceCtorEq, ↓reduceIte, Nat.reduceAdd, Nat.reduceLT, Nat.reduceEqDiff, Nat.reduceLeDiff, List.cons_ne_nil, hnz]; rfl) ?_)
      | (refine gkc_fork ?_ ?_ <;> intro hq <;> (simp (config := {implicitDefEqProofs := false}) only [hq, avl1, avl2, avl3, avl4, avl5, if_true, if_false, beq_self_eq_true, ne_eq, reduceCtorEq, ↓reduceIte, Nat.reduceAdd, Nat.reduceLT, Nat.reduceEqDiff, Nat.reduceLeDiff, List.cons_ne_nil, hnz]))
      | (refine condc_fork ?_ ?_ <;> intro hq)
      | (refine gkc_split ?_ ?_ <;> intro hq <;> (simp (config := {implicitDefEqProofs := false}) only [hq, avl1, avl2, avl3, avl4, avl5, if_true, if_false, beq_self_eq_true, ne_eq, reduceCtorEq, ↓reduceIte, Nat.reduceAdd, Nat.reduceLT, Nat.reduceEqDiff, Nat.reduceLeDiff, List.cons_ne_nil, hnz]))
      | (refine condc_bool ?_ ?_ <;> intro hq))
    refine callc (min_ac x t hs hn) (by have := pur_rts (x :: t); simp only [pur] at this; simp [purL, pur] at this ⊢; exact this) ?_
    try simp (config := {implicitDefEqProofs := false}) only [avl1, avl2, avl3, avl4, avl5, if_true, if_false, beq_self_eq_true, ne_eq, reduceCtorEq, ↓reduceIte, Nat.reduceAdd, Nat.reduceLT, Nat.reduceEqDiff, Nat.reduceLeDiff, List.cons_ne_nil, rtA, sh, sh1]
    repeat' (first
      | (refine (hκ _).mpr ?_; clear hκ)
      | refine kn1 ?_
      | refine kr1 ?_
      | refine ke1 ?_
      | refine kn2 ?_
      | refine kr2 ?_
      | refine kx2 ?_
      | refine ke2 rfl ?_
      | refine kn3 ?_
      | refine kr3 ?_
      | refine ke3 ?_
      | refine w_seq ?_
      | refine w_block ?_
      | (refine aw_regk fun κ hκ => ?_; simp (config := {implicitDefEqProofs := false}) only [avl1, avl2, avl3, avl4, avl5, if_true, if_false, beq_self_eq_true, ne_eq, reduceCtorEq, ↓reduceIte, Nat.reduceAdd, Nat.reduceLT, Nat.reduceEqDiff, Nat.reduceLeDiff, List.cons_ne_nil, rtA, sh, sh1])
      | refine aw_exit ?_
      | refine aw_ret ?_
      | refine aw_skip ?_
      | refine aw_label ?_
      | refine condc_t ?_
      | refine condc_f ?_
      | (refine aw_cond2 (by simp (config := {implicitDefEqProofs := false}) only [avl1, avl2, avl3, avl4, avl5, if_true, if_false, beq_self_eq_true, ne_eq, reduceCtorEq, ↓reduceIte, Nat.reduceAdd, Nat.reduceLT, Nat.reduceEqDiff, Nat.reduceLeDiff, List.cons_ne_nil, rtA, sh, sh1]; rfl) ?_)
      | (refine gkc_fork ?_ ?_ <;> intro hq <;> (simp (config := {implicitDefEqProofs := false}) only [hq, avl1, avl2, avl3, avl4, avl5, if_true, if_false, beq_self_eq_true, ne_eq, reduceCtorEq, ↓reduceIte, Nat.reduceAdd, Nat.reduceLT, Nat.reduceEqDiff, Nat.reduceLeDiff, List.cons_ne_nil, rtA, sh, sh1]))
      | (refine condc_fork ?_ ?_ <;> intro hq)
      | (refine gkc_split ?_ ?_ <;> intro hq <;> (simp (config := {implicitDefEqProofs := false}) only [hq, avl1, avl2, avl3, avl4, avl5, if_true, if_false, beq_self_eq_true, ne_eq, reduceCtorEq, ↓reduceIte, Nat.reduceAdd, Nat.reduceLT, Nat.reduceEqDiff, Nat.reduceLeDiff, List.cons_ne_nil, rtA, sh, sh1]))
      | (refine condc_bool ?_ ?_ <;> intro hq))
    exact ret2 rfl rfl (pur_rt _) rfl
theorem fbest_ac (l : List Rt) (hs : l.length ≤ 1000) (hn : ∀ r ∈ l, r.as.length ≤ 1000) : ACt Try.prog 17 [.slice .imm 6 (l.map rtA)] (bestA l) [] := by
  refine act_of p_ridgewayref09_Best (by simp [c_ridgewayref09_Best]) ?_
  show AW _ b_ridgewayref09_Best (RetOk [.cell 2 (some 6), .tmp 3] _ _) ⟨31, [(0, _)], [], []⟩
  unfold b_ridgewayref09_Best
  rcases hl : l with _ | ⟨x0, t⟩
  · try simp (config := {implicitDefEqProofs := false}) only [avl1, avl2, avl3, avl4, avl5, if_true, if_false, beq_self_eq_true, ne_eq, reduceCtorEq, ↓reduceIte, Nat.reduceAdd, Nat.reduceLT, Nat.reduceEqDiff, Nat.reduceLeDiff, List.cons_ne_nil, List.map_nil, (show ((0 : Nat) : Int) = 0 from rfl)]
    repeat' (first
      | (refine (hκ _).mpr ?_; clear hκ)
      | refine kn1 ?_
      | refine kr1 ?_
      | refine ke1 ?_
      | refine kn2 ?_
      | refine kr2 ?_
      | refine kx2 ?_
      | refine ke2 rfl ?_
      | refine kn3 ?_
      | refine kr3 ?_
      | refine ke3 ?_
      | refine w_seq ?_
      | refine w_block ?_
      | (refine aw_regk fun κ hκ => ?_; simp (config := {implicitDefEqProofs := false}) only [avl1, avl2, avl3, avl4, avl5, if_true, if_false, beq_self_eq_true, ne_eq, reduceCtorEq, ↓reduceIte, Nat.reduceAdd, Nat.reduceLT, Nat.reduceEqDiff, Nat.reduceLeDiff, List.cons_ne_nil, List.map_nil, (show ((0 : Nat) : Int) = 0 from rfl)])
      | refine aw_exit ?_
      | refine aw_ret ?_
      | refine aw_skip ?_
      | refine aw_label ?_
      | refine condc_t ?_
      | refine condc_f ?_
      | (refine aw_cond2 (by simp (config := {implicitDefEqProofs := false}) only [avl1, avl2, avl3, avl4, avl5, if_true, if_false, beq_self_eq_true, ne_eq, reduceCtorEq, ↓reduceIte, Nat.reduceAdd, Nat.reduceLT, Nat.reduceEqDiff, Nat.reduceLeDiff, List.cons_ne_nil, List.map_nil, (show ((0 : Nat) : Int) = 0 from rfl)]; rfl) ?_)
      | (refine gkc_fork ?_ ?_ <;> intro hq <;> (simp (config := {implicitDefEqProofs := false}) only [hq, avl1, avl2, avl3, avl4, avl5, if_true, if_false, beq_self_eq_true, ne_eq, reduceCtorEq, ↓reduceIte, Nat.reduceAdd, Nat.reduceLT, Nat.reduceEqDiff, Nat.reduceLeDiff, List.cons_ne_nil, List.map_nil, (show ((0 : Nat) : Int) = 0 from rfl)]))
      | (refine condc_fork ?_ ?_ <;> intro hq)
      | (refine gkc_split ?_ ?_ <;> intro hq <;> (simp (config := {implicitDefEqProofs := false}) only [hq, avl1, avl2, avl3, avl4, avl5, if_true, if_false, beq_self_eq_true, ne_eq, reduceCtorEq, ↓reduceIte, Nat.reduceAdd, Nat.reduceLT, Nat.reduceEqDiff, Nat.reduceLeDiff, List.cons_ne_nil, List.map_nil, (show ((0 : Nat) : Int) = 0 from rfl)]))
      | (refine condc_bool ?_ ?_ <;> intro hq))
    exact ret2 rfl rfl rfl rfl
  · rw [← hl]
    have hpl := pur_rts l
    have hpos : 0 < l.length := by rw [hl]; simp
    have h0 : l[0]? = some x0 := by rw [hl]; rfl
    have hnl : ¬ (l.length : Int) = 0 := by omega
    have hpi : (0 : Int) < l.length := by omega
    try simp (config := {implicitDefEqProofs := false}) only [avl1, avl2, avl3, avl4, avl5, if_true, if_false, beq_self_eq_true, ne_eq, reduceCtorEq, ↓reduceIte, Nat.reduceAdd, Nat.reduceLT, Nat.reduceEqDiff, Nat.reduceLeDiff, List.cons_ne_nil, hnl, hpos, hpi, h0, rtA, Int.toNat_zero, Int.reduceLE]
    repeat' (first
      | (refine (hκ _).mpr ?_; clear hκ)
      | refine kn1 ?_
      | refine kr1 ?_
      | refine ke1 ?_
      | refine kn2 ?_
      | refine kr2 ?_
      | refine kx2 ?_
      | refine ke2 rfl ?_
      | refine kn3 ?_
      | refine kr3 ?_
      | refine ke3 ?_
      | refine w_seq ?_
      | refine w_block ?_
      | (refine aw_regk fun κ hκ => ?_; simp (config := {implicitDefEqProofs := false}) only [avl1, avl2, avl3, avl4, avl5, if_true, if_false, beq_self_eq_true, ne_eq, reduceCtorEq, ↓reduceIte, Nat.reduceAdd, Nat.reduceLT, Nat.reduceEqDiff, Nat.reduceLeDiff, List.cons_ne_nil, hnl, hpos, hpi, h0, rtA, Int.toNat_zero, Int.reduceLE])
      | refine aw_exit ?_
      | refine aw_ret ?_
      | refine aw_skip ?_
      | refine aw_label ?_
      | refine condc_t ?_
      | refine condc_f ?_
      | (refine aw_cond2 (by simp (config := {implicitDefEqProofs := false}) only [avl1, avl2, avl3, avl4, avl5, if_true, if_false, beq_self_eq_true, ne_eq, reduceCtorEq, ↓reduceIte, Nat.reduceAdd, Nat.reduceLT, Nat.reduceEqDiff, Nat.reduceLeDiff, List.cons_ne_nil, hnl, hpos, hpi, h0, rtA, Int.toNat_zero, Int.reduceLE]; rfl) ?_)
      | (refine gkc_fork ?_ ?_ <;> intro hq <;> (simp (config := {implicitDefEqProofs := false}) only [hq, avl1, avl2, avl3, avl4, avl5, if_true, if_false, beq_self_eq_true, ne_eq, reduceCtorEq, ↓reduceIte, Nat.reduceAdd, Nat.reduceLT, Nat.reduceEqDiff, Nat.reduceLeDiff, List.cons_ne_nil, hnl, hpos, hpi, h0, rtA, Int.toNat_zero, Int.reduceLE]))
      | (refine condc_fork ?_ ?_ <;> intro hq)
      | (refine gkc_split ?_ ?_ <;> intro hq <;> (simp (config := {implicitDefEqProofs := false}) only [hq, avl1, avl2, avl3, avl4, avl5, if_true, if_false, beq_self_eq_true, ne_eq, reduceCtorEq, ↓reduceIte, Nat.reduceAdd, Nat.reduceLT, Nat.reduceEqDiff, Nat.reduceLeDiff, List.cons_ne_nil, hnl, hpos, hpi, h0, rtA, Int.toNat_zero, Int.reduceLE]))
      | (refine condc_bool ?_ ?_ <;> intro hq))
    refine w_loop (fun (p : Nat × Rt) => 1 ≤ p.1 ∧ p.1 ≤ l.length ∧ p.2.as.length ≤ 1000 ∧ bst x0 t = bst p.2 (l.drop p.1)) (fun (p : Nat × Rt) => ⟨31, [(0, .slice .imm 6 (l.map rtA)), (2, .ptr 0 0), (4, .ptr 1 0), (3, .bool false), (5, .int .i64 p.1)], [(27, zC), (27, rtC p.2)], []⟩) (fun (p : Nat × Rt) => l.length - p.1) (1, x0) ⟨Nat.le_refl _, by omega, hn _ (by rw [hl]; simp), by rw [hl]; rfl⟩ ?_ ?_
    · refine ⟨rfl, 0, [], rfl, Nat.zero_le _, ⟨.same (.slice .imm 6 (l.map rtA)) (okB_pur hpl), .same _ rfl, .same _ rfl, .same _ rfl, .same _ rfl, trivial⟩, ⟨rfl, ?_, rfl, ?_, trivial⟩⟩
      · unfold zC
        repeat (first
          | exact trivial
          | exact rfl
          | refine ⟨.same _ (by first | rfl | exact okBL_pur (purL_map fun _ => rfl)), ?_⟩
          | refine ⟨rfl, ?_⟩
          | refine ⟨?_, ?_⟩)
      · repeat (first
          | exact trivial
          | exact rfl
          | refine ⟨.same _ (by first | rfl | exact okBL_pur (purL_map fun _ => rfl)), ?_⟩
          | refine ⟨rfl, ?_⟩
          | refine ⟨?_, ?_⟩)
    · intro ⟨k, b⟩ ⟨h1, hk, hbn, hb⟩
      unfold rtC zC
      have hw : IntKind.i64.wrap ((k : Int) + 1) = ((k + 1 : Nat) : Int) := by rw [wrap64 (by omega) (by omega)]; omega
      by_cases hlt : k < l.length
      · obtain ⟨x, hx⟩ : ∃ x, l[k]? = some x := ⟨_, List.getElem?_eq_getElem hlt⟩
        have hxm := hn x (List.mem_of_getElem? hx)
        try simp (config := {implicitDefEqProofs := false}) only [avl1, avl2, avl3, avl4, avl5, if_true, if_false, beq_self_eq_true, ne_eq, reduceCtorEq, ↓reduceIte, Nat.reduceAdd, Nat.reduceLT, Nat.reduceEqDiff, Nat.reduceLeDiff, List.cons_ne_nil, hlt, hx, hw, rtA]
        repeat' (first
          | (refine (hκ _).mpr ?_; clear hκ)
          | refine kn1 ?_
          | refine kr1 ?_
          | refine ke1 ?_
          | refine kn2 ?_
          | refine kr2 ?_
          | refine kx2 ?_
          | refine ke2 rfl ?_
          | refine kn3 ?_
          | refine kr3 ?_
          | refine ke3 ?_
          | refine w_seq ?_
          | refine w_block ?_
          | (refine aw_regk fun κ hκ => ?_; simp (config := {implicitDefEqProofs := false}) only [avl1, avl2, avl3, avl4, avl5, if_true, if_false, beq_self_eq_true, ne_eq, reduceCtorEq, ↓reduceIte, Nat.reduceAdd, Nat.reduceLT, Nat.reduceEqDiff, Nat.reduceLeDiff, List.cons_ne_nil, hlt, hx, hw, rtA])
          | refine aw_exit ?_
          | refine aw_ret ?_
          | refine aw_skip ?_
          | refine aw_label ?_
          | refine condc_t ?_
          | refine condc_f ?_
          | (refine aw_cond2 (by simp (config := {implicitDefEqProofs := false}) only [avl1, avl2, avl3, avl4, avl5, if_true, if_false, beq_self_eq_true, ne_eq, reduceCtorEq, ↓reduceIte, Nat.reduceAdd, Nat.reduceLT, Nat.reduceEqDiff, Nat.reduceLeDiff, List.cons_ne_nil, hlt, hx, hw, rtA]; rfl) ?_)
          | (refine gkc_fork ?_ ?_ <;> intro hq <;> (simp (config := {implicitDefEqProofs := false}) only [hq, avl1, avl2, avl3, avl4, avl5, if_true, if_false, beq_self_eq_true, ne_eq, reduceCtorEq, ↓reduceIte, Nat.reduceAdd, Nat.reduceLT, Nat.reduceEqDiff, Nat.reduceLeDiff, List.cons_ne_nil, hlt, hx, hw, rtA]))
          | (refine condc_fork ?_ ?_ <;> intro hq)
          | (refine gkc_split ?_ ?_ <;> intro hq <;> (simp (config := {implicitDefEqProofs := false}) only [hq, avl1, avl2, avl3, avl4, avl5, if_true, if_false, beq_self_eq_true, ne_eq, reduceCtorEq, ↓reduceIte, Nat.reduceAdd, Nat.reduceLT, Nat.reduceEqDiff, Nat.reduceLeDiff, List.cons_ne_nil, hlt, hx, hw, rtA]))
          | (refine condc_bool ?_ ?_ <;> intro hq))
        refine callc (refcmp_ac x b hxm) (by simp [purL, pur, purL_map_eq, iA]) ?_
        try simp (config := {implicitDefEqProofs := false}) only [avl1, avl2, avl3, avl4, avl5, if_true, if_false, beq_self_eq_true, ne_eq, reduceCtorEq, ↓reduceIte, Nat.reduceAdd, Nat.reduceLT, Nat.reduceEqDiff, Nat.reduceLeDiff, List.cons_ne_nil, hlt, hx, hw, rtA]
        repeat' (first
          | (refine (hκ _).mpr ?_; clear hκ)
          | refine kn1 ?_
          | refine kr1 ?_
          | refine ke1 ?_
          | refine kn2 ?_
          | refine kr2 ?_
          | refine kx2 ?_
          | refine ke2 rfl ?_
          | refine kn3 ?_
          | refine kr3 ?_
          | refine ke3 ?_
          | refine w_seq ?_
          | refine w_block ?_
          | (refine aw_regk fun κ hκ => ?_; simp (config := {implicitDefEqProofs := false}) only [avl1, avl2, avl3, avl4, avl5, if_true, if_false, beq_self_eq_true, ne_eq, reduceCtorEq, ↓reduceIte, Nat.reduceAdd, Nat.reduceLT, Nat.reduceEqDiff, Nat.reduceLeDiff, List.cons_ne_nil, hlt, hx, hw, rtA])
          | refine aw_exit ?_
          | refine aw_ret ?_
          | refine aw_skip ?_
          | refine aw_label ?_
          | refine condc_t ?_
          | refine condc_f ?_
          | (refine aw_cond2 (by simp (config := {implicitDefEqProofs := false}) only [avl1, avl2, avl3, avl4, avl5, if_true, if_false, beq_self_eq_true, ne_eq, reduceCtorEq, ↓reduceIte, Nat.reduceAdd, Nat.reduceLT, Nat.reduceEqDiff, Nat.reduceLeDiff, List.cons_ne_nil, hlt, hx, hw, rtA]; rfl) ?_)
          | (refine gkc_fork ?_ ?_ <;> intro hq <;> (simp (config := {implicitDefEqProofs := false}) only [hq, avl1, avl2, avl3, avl4, avl5, if_true, if_false, beq_self_eq_true, ne_eq, reduceCtorEq, ↓reduceIte, Nat.reduceAdd, Nat.reduceLT, Nat.reduceEqDiff, Nat.reduceLeDiff, List.cons_ne_nil, hlt, hx, hw, rtA]))
          | (refine condc_fork ?_ ?_ <;> intro hq)
          | (refine gkc_split ?_ ?_ <;> intro hq <;> (simp (config := {implicitDefEqProofs := false}) only [hq, avl1, avl2, avl3, avl4, avl5, if_true, if_false, beq_self_eq_true, ne_eq, reduceCtorEq, ↓reduceIte, Nat.reduceAdd, Nat.reduceLT, Nat.reduceEqDiff, Nat.reduceLeDiff, List.cons_ne_nil, hlt, hx, hw, rtA]))
          | (refine condc_bool ?_ ?_ <;> intro hq))
        · refine ⟨(k + 1, x), ⟨by omega, by show k + 1 ≤ _; omega, hxm, by rw [hb, bst_step hx, if_pos hq]⟩, ⟨rfl, 0, [], rfl, Nat.zero_le _, ⟨.same (.slice .imm 6 (l.map rtA)) (okB_pur hpl), .same _ rfl, .same _ rfl, .same _ rfl, .same _ rfl, trivial⟩, ⟨rfl, ?_, rfl, ?_, trivial⟩⟩, by show l.length - (k + 1) < l.length - k; omega⟩
          · repeat (first
              | exact trivial
              | exact rfl
              | refine ⟨.same _ (by first | rfl | exact okBL_pur (purL_map fun _ => rfl)), ?_⟩
              | refine ⟨rfl, ?_⟩
              | refine ⟨?_, ?_⟩)
          · repeat (first
              | exact trivial
              | exact rfl
              | refine ⟨.same _ (by first | rfl | exact okBL_pur (purL_map fun _ => rfl)), ?_⟩
              | refine ⟨rfl, ?_⟩
              | refine ⟨?_, ?_⟩)
        · refine ⟨(k + 1, b), ⟨by omega, by show k + 1 ≤ _; omega, hbn, by rw [hb, bst_step hx, if_neg hq]⟩, ⟨rfl, 0, [], rfl, Nat.zero_le _, ⟨.same (.slice .imm 6 (l.map rtA)) (okB_pur hpl), .same _ rfl, .same _ rfl, .same _ rfl, .same _ rfl, trivial⟩, ⟨rfl, ?_, rfl, ?_, trivial⟩⟩, by show l.length - (k + 1) < l.length - k; omega⟩
          · repeat (first
              | exact trivial
              | exact rfl
              | refine ⟨.same _ (by first | rfl | exact okBL_pur (purL_map fun _ => rfl)), ?_⟩
              | refine ⟨rfl, ?_⟩
              | refine ⟨?_, ?_⟩)
          · repeat (first
              | exact trivial
              | exact rfl
              | refine ⟨.same _ (by first | rfl | exact okBL_pur (purL_map fun _ => rfl)), ?_⟩
              | refine ⟨rfl, ?_⟩
              | refine ⟨?_, ?_⟩)
      · have hk : k = l.length := by have hk : k ≤ l.length := hk; omega
        subst hk
        try simp (config := {implicitDefEqProofs := false}) only [avl1, avl2, avl3, avl4, avl5, if_true, if_false, beq_self_eq_true, ne_eq, reduceCtorEq, ↓reduceIte, Nat.reduceAdd, Nat.reduceLT, Nat.reduceEqDiff, Nat.reduceLeDiff, List.cons_ne_nil, Nat.lt_irrefl]
        repeat' (first
          | (refine (hκ _).mpr ?_; clear hκ)
          | refine kn1 ?_
          | refine kr1 ?_
          | refine ke1 ?_
          | refine kn2 ?_
          | refine kr2 ?_
          | refine kx2 ?_
          | refine ke2 rfl ?_
          | refine kn3 ?_
          | refine kr3 ?_
          | refine ke3 ?_
          | refine w_seq ?_
          | refine w_block ?_
          | (refine aw_regk fun κ hκ => ?_; simp (config := {implicitDefEqProofs := false}) only [avl1, avl2, avl3, avl4, avl5, if_true, if_false, beq_self_eq_true, ne_eq, reduceCtorEq, ↓reduceIte, Nat.reduceAdd, Nat.reduceLT, Nat.reduceEqDiff, Nat.reduceLeDiff, List.cons_ne_nil, Nat.lt_irrefl])
          | refine aw_exit ?_
          | refine aw_ret ?_
          | refine aw_skip ?_
          | refine aw_label ?_
          | refine condc_t ?_
          | refine condc_f ?_
          | (refine aw_cond2 (by simp (config := {implicitDefEqProofs := false}) only [avl1, avl2, avl3, avl4, avl5, if_true, if_false, beq_self_eq_true, ne_eq, reduceCtorEq, ↓reduceIte, Nat.reduceAdd, Nat.reduceLT, Nat.reduceEqDiff, Nat.reduceLeDiff, List.cons_ne_nil, Nat.lt_irrefl]; rfl) ?_)
          | (refine gkc_fork ?_ ?_ <;> intro hq <;> (simp (config := {implicitDefEqProofs := false}) only [hq, avl1, avl2, avl3, avl4, avl5, if_true, if_false, beq_self_eq_true, ne_eq, reduceCtorEq, ↓reduceIte, Nat.reduceAdd, Nat.reduceLT, Nat.reduceEqDiff, Nat.reduceLeDiff, List.cons_ne_nil, Nat.lt_irrefl]))
          | (refine condc_fork ?_ ?_ <;> intro hq)
          | (refine gkc_split ?_ ?_ <;> intro hq <;> (simp (config := {implicitDefEqProofs := false}) only [hq, avl1, avl2, avl3, avl4, avl5, if_true, if_false, beq_self_eq_true, ne_eq, reduceCtorEq, ↓reduceIte, Nat.reduceAdd, Nat.reduceLT, Nat.reduceEqDiff, Nat.reduceLeDiff, List.cons_ne_nil, Nat.lt_irrefl]))
          | (refine condc_bool ?_ ?_ <;> intro hq))
        have hb : bst x0 t = b := by rw [hb]; simp [bst]
        have he : bestA l = .tup [rtA b, .bool true] := by rw [hl]; show AV.tup [rtA (bst x0 t), .bool true] = _; rw [hb]
        rw [he]
        exact ret2 rfl rfl (pur_rt _) rfl

def ownC (h : Int) : List AV := [.int .i64 400, .int .i64 0, .slice .full 0 [], .int .i64 h, .int .i64 0, .int .i64 (-1)]
theorem own_route_Own_ac (x : Int) : ACt Try.prog 18 [.int .i64 x] (.agg (ownC x)) [] := by
  refine act_of p_route_Own (by simp [c_route_Own]) ?_
  show AW _ b_route_Own (RetOk [.cell 2 (some 6)] _ _) ⟨6, [(0, _)], [], []⟩
  unfold b_route_Own
  try simp (config := {implicitDefEqProofs := false}) only [avl1, avl2, avl3, avl4, avl5, if_true, if_false, beq_self_eq_true, ne_eq, reduceCtorEq, ↓reduceIte, Nat.reduceAdd, Nat.reduceLT, Nat.reduceEqDiff, Nat.reduceLeDiff, List.cons_ne_nil]
  repeat' (first
    | (refine (hκ _).mpr ?_; clear hκ)
    | refine kn1 ?_
    | refine kr1 ?_
    | refine ke1 ?_
    | refine kn2 ?_
    | refine kr2 ?_
    | refine kx2 ?_
    | refine ke2 rfl ?_
    | refine kn3 ?_
    | refine kr3 ?_
    | refine ke3 ?_
    | refine w_seq ?_
    | refine w_block ?_
    | (refine aw_regk fun κ hκ => ?_; simp (config := {implicitDefEqProofs := false}) only [avl1, avl2, avl3, avl4, avl5, if_true, if_false, beq_self_eq_true, ne_eq, reduceCtorEq, ↓reduceIte, Nat.reduceAdd, Nat.reduceLT, Nat.reduceEqDiff, Nat.reduceLeDiff, List.cons_ne_nil])
    | refine aw_exit ?_
    | refine aw_ret ?_
    | refine aw_skip ?_
    | refine aw_label ?_
    | refine condc_t ?_
    | refine condc_f ?_
    | (refine aw_cond2 (by simp (config := {implicitDefEqProofs := false}) only [avl1, avl2, avl3, avl4, avl5, if_true, if_false, beq_self_eq_true, ne_eq, reduceCtorEq, ↓reduceIte, Nat.reduceAdd, Nat.reduceLT, Nat.reduceEqDiff, Nat.reduceLeDiff, List.cons_ne_nil]; rfl) ?_)
    | (refine gkc_fork ?_ ?_ <;> intro hq <;> (simp (config := {implicitDefEqProofs := false}) only [hq, avl1, avl2, avl3, avl4, avl5, if_true, if_false, beq_self_eq_true, ne_eq, reduceCtorEq, ↓reduceIte, Nat.reduceAdd, Nat.reduceLT, Nat.reduceEqDiff, Nat.reduceLeDiff, List.cons_ne_nil]))
    | (refine condc_fork ?_ ?_ <;> intro hq)
    | (refine gkc_split ?_ ?_ <;> intro hq <;> (simp (config := {implicitDefEqProofs := false}) only [hq, avl1, avl2, avl3, avl4, avl5, if_true, if_false, beq_self_eq_true, ne_eq, reduceCtorEq, ↓reduceIte, Nat.reduceAdd, Nat.reduceLT, Nat.reduceEqDiff, Nat.reduceLeDiff, List.cons_ne_nil]))
    | (refine condc_bool ?_ ?_ <;> intro hq))
  exact ret1 (.inr rfl) rfl rfl
theorem own_ridgewayref09_Own_ac (x : Int) : ACt Try.prog 19 [.int .i64 x] (.agg (ownC x)) [] := by
  refine act_of p_ridgewayref09_Own (by simp [c_ridgewayref09_Own]) ?_
  show AW _ b_ridgewayref09_Own (RetOk [.cell 2 (some 6)] _ _) ⟨6, [(0, _)], [], []⟩
  unfold b_ridgewayref09_Own
  try simp (config := {implicitDefEqProofs := false}) only [avl1, avl2, avl3, avl4, avl5, if_true, if_false, beq_self_eq_true, ne_eq, reduceCtorEq, ↓reduceIte, Nat.reduceAdd, Nat.reduceLT, Nat.reduceEqDiff, Nat.reduceLeDiff, List.cons_ne_nil]
  repeat' (first
    | (refine (hκ _).mpr ?_; clear hκ)
    | refine kn1 ?_
    | refine kr1 ?_
    | refine ke1 ?_
    | refine kn2 ?_
    | refine kr2 ?_
    | refine kx2 ?_
    | refine ke2 rfl ?_
    | refine kn3 ?_
    | refine kr3 ?_
    | refine ke3 ?_
    | refine w_seq ?_
    | refine w_block ?_
    | (refine aw_regk fun κ hκ => ?_; simp (config := {implicitDefEqProofs := false}) only [avl1, avl2, avl3, avl4, avl5, if_true, if_false, beq_self_eq_true, ne_eq, reduceCtorEq, ↓reduceIte, Nat.reduceAdd, Nat.reduceLT, Nat.reduceEqDiff, Nat.reduceLeDiff, List.cons_ne_nil])
    | refine aw_exit ?_
    | refine aw_ret ?_
    | refine aw_skip ?_
    | refine aw_label ?_
    | refine condc_t ?_
    | refine condc_f ?_
    | (refine aw_cond2 (by simp (config := {implicitDefEqProofs := false}) only [avl1, avl2, avl3, avl4, avl5, if_true, if_false, beq_self_eq_true, ne_eq, reduceCtorEq, ↓reduceIte, Nat.reduceAdd, Nat.reduceLT, Nat.reduceEqDiff, Nat.reduceLeDiff, List.cons_ne_nil]; rfl) ?_)
    | (refine gkc_fork ?_ ?_ <;> intro hq <;> (simp (config := {implicitDefEqProofs := false}) only [hq, avl1, avl2, avl3, avl4, avl5, if_true, if_false, beq_self_eq_true, ne_eq, reduceCtorEq, ↓reduceIte, Nat.reduceAdd, Nat.reduceLT, Nat.reduceEqDiff, Nat.reduceLeDiff, List.cons_ne_nil]))
    | (refine condc_fork ?_ ?_ <;> intro hq)
    | (refine gkc_split ?_ ?_ <;> intro hq <;> (simp (config := {implicitDefEqProofs := false}) only [hq, avl1, avl2, avl3, avl4, avl5, if_true, if_false, beq_self_eq_true, ne_eq, reduceCtorEq, ↓reduceIte, Nat.reduceAdd, Nat.reduceLT, Nat.reduceEqDiff, Nat.reduceLeDiff, List.cons_ne_nil]))
    | (refine condc_bool ?_ ?_ <;> intro hq))
  exact ret1 (.inr rfl) rfl rfl
def fewB (l : List Rt) : Bool := (l.all fun r => decide (r.as.length ≤ 100)) && decide (l.length ≤ 30)
theorem few_ac (l : List Rt) (hbig : (l.length : Int) ≤ 9223372036854775807) : ACt Try.prog 9 [.slice .imm 6 (l.map rtA)] (.bool (fewB l)) [] := by
  refine act_of p_ridgewayref09_Few (by simp [c_ridgewayref09_Few]) ?_
  show AW _ b_ridgewayref09_Few (RetOk [.tmp 2] _ _) ⟨21, [(0, _)], [], []⟩
  unfold b_ridgewayref09_Few
  have hpl := pur_rts l
  try simp (config := {implicitDefEqProofs := false}) only [avl1, avl2, avl3, avl4, avl5, if_true, if_false, beq_self_eq_true, ne_eq, reduceCtorEq, ↓reduceIte, Nat.reduceAdd, Nat.reduceLT, Nat.reduceEqDiff, Nat.reduceLeDiff, List.cons_ne_nil]
  repeat (first
    | (refine (hκ _).mpr ?_; clear hκ)
    | refine kn1 ?_
    | refine kr1 ?_
    | refine ke1 ?_
    | refine kn2 ?_
    | refine kr2 ?_
    | refine kx2 ?_
    | refine ke2 rfl ?_
    | refine kn3 ?_
    | refine kr3 ?_
    | refine ke3 ?_
    | refine w_seq ?_
    | refine w_block ?_
    | (refine aw_regk fun κ hκ => ?_; simp (config := {implicitDefEqProofs := false}) only [avl1, avl2, avl3, avl4, avl5, if_true, if_false, beq_self_eq_true, ne_eq, reduceCtorEq, ↓reduceIte, Nat.reduceAdd, Nat.reduceLT, Nat.reduceEqDiff, Nat.reduceLeDiff, List.cons_ne_nil])
    | refine aw_exit ?_
    | refine aw_ret ?_
    | refine aw_skip ?_
    | refine aw_label ?_
    | refine condc_t ?_
    | refine condc_f ?_)
  refine w_loop (fun (k : Nat) => k ≤ l.length ∧ ∀ (j : Nat) (x : Rt), j < k → l[j]? = some x → x.as.length ≤ 100) (fun (k : Nat) => ⟨21, [(0, .slice .imm 6 (l.map rtA)), (3, .int .i64 k)], [], []⟩) (fun (k : Nat) => l.length - k) 0 ⟨Nat.zero_le _, fun j x hj => by omega⟩ ?_ ?_
  · exact ⟨rfl, 0, [], rfl, Nat.zero_le _, ⟨.same (.slice .imm 6 (l.map rtA)) (okB_pur hpl), .same _ rfl, trivial⟩, trivial⟩
  · intro k ⟨hk, hz⟩
    by_cases hlt : k < l.length
    · have hw : IntKind.i64.wrap ((k : Int) + 1) = ((k + 1 : Nat) : Int) := by rw [wrap64 (by omega) (by omega)]; omega
      obtain ⟨x, hx⟩ : ∃ x, l[k]? = some x := ⟨_, List.getElem?_eq_getElem hlt⟩
      try simp (config := {implicitDefEqProofs := false}) only [avl1, avl2, avl3, avl4, avl5, if_true, if_false, beq_self_eq_true, ne_eq, reduceCtorEq, ↓reduceIte, Nat.reduceAdd, Nat.reduceLT, Nat.reduceEqDiff, Nat.reduceLeDiff, List.cons_ne_nil, hlt, hx, hw, rtA]
      repeat' (first
        | (refine (hκ _).mpr ?_; clear hκ)
        | refine kn1 ?_
        | refine kr1 ?_
        | refine ke1 ?_
        | refine kn2 ?_
        | refine kr2 ?_
        | refine kx2 ?_
        | refine ke2 rfl ?_
        | refine kn3 ?_
        | refine kr3 ?_
        | refine ke3 ?_
        | refine w_seq ?_
        | refine w_block ?_
        | (refine aw_regk fun κ hκ => ?_; simp (config := {implicitDefEqProofs := false}) only [avl1, avl2, avl3, avl4, avl5, if_true, if_false, beq_self_eq_true, ne_eq, reduceCtorEq, ↓reduceIte, Nat.reduceAdd, Nat.reduceLT, Nat.reduceEqDiff, Nat.reduceLeDiff, List.cons_ne_nil, hlt, hx, hw, rtA])
        | refine aw_exit ?_
        | refine aw_ret ?_
        | refine aw_skip ?_
        | refine aw_label ?_
        | refine condc_t ?_
        | refine condc_f ?_
        | (refine aw_cond2 (by simp (config := {implicitDefEqProofs := false}) only [avl1, avl2, avl3, avl4, avl5, if_true, if_false, beq_self_eq_true, ne_eq, reduceCtorEq, ↓reduceIte, Nat.reduceAdd, Nat.reduceLT, Nat.reduceEqDiff, Nat.reduceLeDiff, List.cons_ne_nil, hlt, hx, hw, rtA]; rfl) ?_)
        | (refine gkc_fork ?_ ?_ <;> intro hq <;> (simp (config := {implicitDefEqProofs := false}) only [hq, avl1, avl2, avl3, avl4, avl5, if_true, if_false, beq_self_eq_true, ne_eq, reduceCtorEq, ↓reduceIte, Nat.reduceAdd, Nat.reduceLT, Nat.reduceEqDiff, Nat.reduceLeDiff, List.cons_ne_nil, hlt, hx, hw, rtA]))
        | (refine condc_fork ?_ ?_ <;> intro hq)
        | (refine gkc_split ?_ ?_ <;> intro hq <;> (simp (config := {implicitDefEqProofs := false}) only [hq, avl1, avl2, avl3, avl4, avl5, if_true, if_false, beq_self_eq_true, ne_eq, reduceCtorEq, ↓reduceIte, Nat.reduceAdd, Nat.reduceLT, Nat.reduceEqDiff, Nat.reduceLeDiff, List.cons_ne_nil, hlt, hx, hw, rtA]))
        | (refine condc_bool ?_ ?_ <;> intro hq))
      · refine ret_bool rfl ?_
        symm
        unfold fewB
        rw [Bool.and_eq_false_iff]
        exact .inl (all_not hx (by simp; omega))
      · refine ⟨k + 1, ⟨by omega, ?_⟩, ⟨rfl, 0, [], rfl, Nat.zero_le _, ⟨.same (.slice .imm 6 (l.map rtA)) (okB_pur hpl), .same _ rfl, trivial⟩, trivial⟩, by omega⟩
        intro j y hj hy
        rcases Nat.lt_or_ge j k with h1 | h1
        · exact hz j y h1 hy
        · obtain rfl : j = k := by omega
          rw [hx] at hy
          injection hy with hy
          subst hy
          omega
    · obtain rfl : k = l.length := by omega
      try simp (config := {implicitDefEqProofs := false}) only [avl1, avl2, avl3, avl4, avl5, if_true, if_false, beq_self_eq_true, ne_eq, reduceCtorEq, ↓reduceIte, Nat.reduceAdd, Nat.reduceLT, Nat.reduceEqDiff, Nat.reduceLeDiff, List.cons_ne_nil, Nat.lt_irrefl]
      repeat' (first
        | (refine (hκ _).mpr ?_; clear hκ)
        | refine kn1 ?_
        | refine kr1 ?_
        | refine ke1 ?_
        | refine kn2 ?_
        | refine kr2 ?_
        | refine kx2 ?_
        | refine ke2 rfl ?_
        | refine kn3 ?_
        | refine kr3 ?_
        | refine ke3 ?_
        | refine w_seq ?_
        | refine w_block ?_
        | (refine aw_regk fun κ hκ => ?_; simp (config := {implicitDefEqProofs := false}) only [avl1, avl2, avl3, avl4, avl5, if_true, if_false, beq_self_eq_true, ne_eq, reduceCtorEq, ↓reduceIte, Nat.reduceAdd, Nat.reduceLT, Nat.reduceEqDiff, Nat.reduceLeDiff, List.cons_ne_nil, Nat.lt_irrefl])
        | refine aw_exit ?_
        | refine aw_ret ?_
        | refine aw_skip ?_
        | refine aw_label ?_
        | refine condc_t ?_
        | refine condc_f ?_
        | (refine aw_cond2 (by simp (config := {implicitDefEqProofs := false}) only [avl1, avl2, avl3, avl4, avl5, if_true, if_false, beq_self_eq_true, ne_eq, reduceCtorEq, ↓reduceIte, Nat.reduceAdd, Nat.reduceLT, Nat.reduceEqDiff, Nat.reduceLeDiff, List.cons_ne_nil, Nat.lt_irrefl]; rfl) ?_)
        | (refine gkc_fork ?_ ?_ <;> intro hq <;> (simp (config := {implicitDefEqProofs := false}) only [hq, avl1, avl2, avl3, avl4, avl5, if_true, if_false, beq_self_eq_true, ne_eq, reduceCtorEq, ↓reduceIte, Nat.reduceAdd, Nat.reduceLT, Nat.reduceEqDiff, Nat.reduceLeDiff, List.cons_ne_nil, Nat.lt_irrefl]))
        | (refine condc_fork ?_ ?_ <;> intro hq)
        | (refine gkc_split ?_ ?_ <;> intro hq <;> (simp (config := {implicitDefEqProofs := false}) only [hq, avl1, avl2, avl3, avl4, avl5, if_true, if_false, beq_self_eq_true, ne_eq, reduceCtorEq, ↓reduceIte, Nat.reduceAdd, Nat.reduceLT, Nat.reduceEqDiff, Nat.reduceLeDiff, List.cons_ne_nil, Nat.lt_irrefl]))
        | (refine condc_bool ?_ ?_ <;> intro hq))
      refine ret_bool rfl ?_
      have hall : (l.all fun r => decide (r.as.length ≤ 100)) = true := all_of (fun j x h1 h2 => by simpa using hz j x h1 h2)
      unfold fewB
      rw [hall]
      simp
      omega
end Go.Proofs.Ytmlhbmlppgoklac
