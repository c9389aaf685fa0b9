/- The best one, and whether two are the same. -/
import Derived.Test.YtmlhbmlppgoklacRc5
namespace Go.Proofs.Ytmlhbmlppgoklac
open Go.RowKit
set_option maxHeartbeats 4000000
set_option maxRecDepth 100000
set_option linter.unusedSimpArgs false
set_option linter.unusedVariables false

theorem cmpL_zero : ∀ {l m : List Int}, cmpL l m = 0 ↔ l = m
  | [], [] => by simp [cmpL]
  | [], _ :: _ => by simp [cmpL]
  | _ :: _, [] => by simp [cmpL]
  | x :: l, y :: m => by
    have ih := @cmpL_zero l m
    have h := @cmpI_zero x y
    unfold cmpL
    split
    · rename_i hc
      constructor
      · intro h1; exact absurd h1 hc
      · intro h1
        injection h1 with h1 h2
        exact absurd (h.2 h1) hc
    · rename_i hc
      have hc' : cmpI x y = 0 := by omega
      rw [ih]
      constructor
      · intro h1; rw [h.1 hc', h1]
      · intro h1; injection h1
theorem thenC_zero {α : Type} {c d : α → α → Int} {a b : α} : thenC c d a b = 0 ↔ c a b = 0 ∧ d a b = 0 := by
  unfold thenC
  split
  · rename_i h
    exact ⟨fun h1 => absurd h1 h, fun h1 => h1.1⟩
  · rename_i h
    exact ⟨fun h1 => ⟨by omega, h1⟩, fun h1 => h1.2⟩
theorem compareR_zero (a b : Rt) : compareR a b = 0 ↔ b.pref = a.pref ∧ (a.as.length : Int) = b.as.length ∧ a.origin = b.origin ∧ a.as = b.as ∧ a.hop = b.hop ∧ a.otc = b.otc ∧ a.frm = b.frm := by
  unfold compareR
  simp only [thenC_zero, cmpI_zero, cmpL_zero]
/-- Are two routes the same? -/
def sameB (a b : Rt) : Bool := a.pref == b.pref && (a.frm == b.frm && (a.origin == b.origin && (decide (a.as = b.as) && (a.hop == b.hop && a.otc == b.otc))))
theorem same_compare (a b : Rt) : (compareR a b == 0) = sameB a b := by
  unfold sameB
  rw [Bool.eq_iff_iff]
  simp only [beq_iff_eq, Bool.and_eq_true, decide_eq_true_eq, compareR_zero]
  constructor
  · rintro ⟨h1, _, h2, h3, h4, h5, h6⟩; exact ⟨h1.symm, h6, h2, h3, h4, h5⟩
  · rintro ⟨h1, h6, h2, h3, h4, h5⟩; exact ⟨h1.symm, by rw [h3], h2, h3, h4, h5, h6⟩

theorem pur_rt (r : Rt) : pur (rtA r) = true := by simp [rtA, pur, purL, purL_map_eq, iA]
theorem pur_rts (l : List Rt) : pur (.slice .imm 6 (l.map rtA)) = true := by
  show purL (l.map rtA) = true
  exact purL_map fun r => pur_rt r
theorem same_ac (a b : Rt) (hn : a.as.length ≤ 1000000) : ACt Try.prog 12 [rtA a, rtA b] (.bool (sameB a b)) [] := by
  refine act_of p_route_Same (by simp [c_route_Same]) ?_
  show AW _ b_route_Same (RetOk [.tmp 4] _ _) ⟨9, [(0, _), (1, _)], [], []⟩
  unfold b_route_Same rtA
  try simp (config := {implicitDefEqProofs := false}) only [avl1, avl2, avl3, avl4, avl5, if_true, if_false, beq_self_eq_true, ne_eq, reduceCtorEq, ↓reduceIte, Nat.reduceAdd, Nat.reduceLT, Nat.reduceEqDiff, Nat.reduceLeDiff, List.cons_ne_nil]
  repeat (first
    | (refine (hκ _).mpr ?_; clear hκ)
    | refine kn1 ?_
    | refine kr1 ?_
    | refine ke1 ?_
    | refine kn2 ?_
    | refine kr2 ?_
    | refine kx2 ?_
    | refine ke2 rfl ?_
    | refine kn3 ?_
    | refine kr3 ?_
    | refine ke3 ?_
    | refine w_seq ?_
    | refine w_block ?_
    | (refine aw_regk fun κ hκ => ?_; simp (config := {implicitDefEqProofs := false}) only [avl1, avl2, avl3, avl4, avl5, if_true, if_false, beq_self_eq_true, ne_eq, reduceCtorEq, ↓reduceIte, Nat.reduceAdd, Nat.reduceLT, Nat.reduceEqDiff, Nat.reduceLeDiff, List.cons_ne_nil])
    | refine aw_exit ?_
    | refine aw_ret ?_
    | refine aw_skip ?_
    | refine aw_label ?_
    | refine condc_t ?_
    | refine condc_f ?_)
  refine callc (compare_ac a b hn) (by simp [purL, pur, purL_map_eq, iA]) ?_
  try simp (config := {implicitDefEqProofs := false}) only [avl1, avl2, avl3, avl4, avl5, if_true, if_false, beq_self_eq_true, ne_eq, reduceCtorEq, ↓reduceIte, Nat.reduceAdd, Nat.reduceLT, Nat.reduceEqDiff, Nat.reduceLeDiff, List.cons_ne_nil]
  repeat (first
    | (refine (hκ _).mpr ?_; clear hκ)
    | refine kn1 ?_
    | refine kr1 ?_
    | refine ke1 ?_
    | refine kn2 ?_
    | refine kr2 ?_
    | refine kx2 ?_
    | refine ke2 rfl ?_
    | refine kn3 ?_
    | refine kr3 ?_
    | refine ke3 ?_
    | refine w_seq ?_
    | refine w_block ?_
    | (refine aw_regk fun κ hκ => ?_; simp (config := {implicitDefEqProofs := false}) only [avl1, avl2, avl3, avl4, avl5, if_true, if_false, beq_self_eq_true, ne_eq, reduceCtorEq, ↓reduceIte, Nat.reduceAdd, Nat.reduceLT, Nat.reduceEqDiff, Nat.reduceLeDiff, List.cons_ne_nil])
    | refine aw_exit ?_
    | refine aw_ret ?_
    | refine aw_skip ?_
    | refine aw_label ?_
    | refine condc_t ?_
    | refine condc_f ?_)
  exact ret_bool rfl (by rw [← same_compare]; by_cases h : compareR a b = 0 <;> simp [h])

/-- The better one of the ones that are left and of one. -/
def bst (b : Rt) : List Rt → Rt
  | [] => b
  | x :: t => bst (if compareR x b < 0 then x else b) t
theorem bst_step {b x : Rt} {l : List Rt} {k : Nat} (hx : l[k]? = some x) : bst b (l.drop k) = bst (if compareR x b < 0 then x else b) (l.drop (k + 1)) := by
  obtain ⟨hlt, h⟩ := List.getElem?_eq_some_iff.1 hx
  rw [List.drop_eq_getElem_cons hlt, h]
  rfl
theorem min_ac (x0 : Rt) (t : List Rt) (hs : (x0 :: t).length ≤ 1000) (hn : ∀ r ∈ x0 :: t, r.as.length ≤ 1000000) : ACt Try.prog 31 [.slice .imm 6 ((x0 :: t).map rtA), .fn 10 []] (rtA (bst x0 t)) [] := by
  refine act_of p_api_Route (by simp [c_api_Route]) ?_
  show AW _ b_api_Route (RetOk [.cell 4 (some 6)] _ _) ⟨33, [(0, _), (1, _)], [], []⟩
  unfold b_api_Route
  obtain ⟨l, hl⟩ : ∃ l, l = x0 :: t := ⟨_, rfl⟩
  rw [← hl] at hs hn ⊢
  have hpl := pur_rts l
  have hpos : 0 < l.length := by rw [hl]; simp
  have h0 : l[0]? = some x0 := by rw [hl]; rfl
  have hnl : ¬ (l.length : Int) < 1 := by omega
  have hpi : (0 : Int) < l.length := by omega
  try simp (config := {implicitDefEqProofs := false}) only [avl1, avl2, avl3, avl4, avl5, if_true, if_false, beq_self_eq_true, ne_eq, reduceCtorEq, ↓reduceIte, Nat.reduceAdd, Nat.reduceLT, Nat.reduceEqDiff, Nat.reduceLeDiff, List.cons_ne_nil, hnl, hpos, hpi, h0, rtA, Int.toNat_zero, Int.reduceLE]
  repeat' (first
    | (refine (hκ _).mpr ?_; clear hκ)
    | refine kn1 ?_
    | refine kr1 ?_
    | refine ke1 ?_
    | refine kn2 ?_
    | refine kr2 ?_
    | refine kx2 ?_
    | refine ke2 rfl ?_
    | refine kn3 ?_
    | refine kr3 ?_
    | refine ke3 ?_
    | refine w_seq ?_
    | refine w_block ?_
    | (refine aw_regk fun κ hκ => ?_; simp (config := {implicitDefEqProofs := false}) only [avl1, avl2, avl3, avl4, avl5, if_true, if_false, beq_self_eq_true, ne_eq, reduceCtorEq, ↓reduceIte, Nat.reduceAdd, Nat.reduceLT, Nat.reduceEqDiff, Nat.reduceLeDiff, List.cons_ne_nil, hnl, hpos, hpi, h0, rtA, Int.toNat_zero, Int.reduceLE])
    | refine aw_exit ?_
    | refine aw_ret ?_
    | refine aw_skip ?_
    | refine aw_label ?_
    | refine condc_t ?_
    | refine condc_f ?_
    | (refine aw_cond2 (by simp (config := {implicitDefEqProofs := false}) only [avl1, avl2, avl3, avl4, avl5, if_true, if_false, beq_self_eq_true, ne_eq, reduceCtorEq, ↓reduceIte, Nat.reduceAdd, Nat.reduceLT, Nat.reduceEqDiff, Nat.reduceLeDiff, List.cons_ne_nil, hnl, hpos, hpi, h0, rtA, Int.toNat_zero, Int.reduceLE]; rfl) ?_)
    | (refine gkc_fork ?_ ?_ <;> intro hq <;> (simp (config := {implicitDefEqProofs := false}) only [hq, avl1, avl2, avl3, avl4, avl5, if_true, if_false, beq_self_eq_true, ne_eq, reduceCtorEq, ↓reduceIte, Nat.reduceAdd, Nat.reduceLT, Nat.reduceEqDiff, Nat.reduceLeDiff, List.cons_ne_nil, hnl, hpos, hpi, h0, rtA, Int.toNat_zero, Int.reduceLE]))
    | (refine condc_fork ?_ ?_ <;> intro hq)
    | (refine gkc_split ?_ ?_ <;> intro hq <;> (simp (config := {implicitDefEqProofs := false}) only [hq, avl1, avl2, avl3, avl4, avl5, if_true, if_false, beq_self_eq_true, ne_eq, reduceCtorEq, ↓reduceIte, Nat.reduceAdd, Nat.reduceLT, Nat.reduceEqDiff, Nat.reduceLeDiff, List.cons_ne_nil, hnl, hpos, hpi, h0, rtA, Int.toNat_zero, Int.reduceLE]))
    | (refine condc_bool ?_ ?_ <;> intro hq))
  refine w_loop (fun (p : Nat × Rt) => 1 ≤ p.1 ∧ p.1 ≤ l.length ∧ bst x0 t = bst p.2 (l.drop p.1)) (fun (p : Nat × Rt) => ⟨33, [(0, .slice .imm 6 (l.map rtA)), (1, .fn 10 []), (4, .ptr 0 0), (5, .ptr 1 0), (6, .int .i64 p.1)], [(27, [.int .i64 0, .int .i64 0, .slice .full 0 [], .int .i64 0, .int .i64 0, .int .i64 0]), (27, rtC p.2)], []⟩) (fun (p : Nat × Rt) => l.length - p.1) (1, x0) ⟨Nat.le_refl _, by omega, by rw [hl]; rfl⟩ ?_ ?_
  · refine ⟨rfl, 0, [], rfl, Nat.zero_le _, ⟨.same (.slice .imm 6 (l.map rtA)) (okB_pur hpl), .same _ rfl, .same _ rfl, .same _ rfl, .same _ rfl, trivial⟩, ⟨rfl, ?_, rfl, ?_, trivial⟩⟩
    · repeat (first
        | exact trivial
        | exact rfl
        | refine ⟨.same _ (by first | rfl | exact okBL_pur (purL_map fun _ => rfl)), ?_⟩
        | refine ⟨rfl, ?_⟩
        | refine ⟨?_, ?_⟩)
    · repeat (first
        | exact trivial
        | exact rfl
        | refine ⟨.same _ (by first | rfl | exact okBL_pur (purL_map fun _ => rfl)), ?_⟩
        | refine ⟨rfl, ?_⟩
        | refine ⟨?_, ?_⟩)
  · intro ⟨k, b⟩ ⟨h1, hk, hb⟩
    unfold rtC
    have hw : IntKind.i64.wrap ((k : Int) + 1) = ((k + 1 : Nat) : Int) := by rw [wrap64 (by omega) (by omega)]; omega
    by_cases hlt : k < l.length
    · obtain ⟨x, hx⟩ : ∃ x, l[k]? = some x := ⟨_, List.getElem?_eq_getElem hlt⟩
      have hxm := hn x (List.mem_of_getElem? hx)
      try simp (config := {implicitDefEqProofs := false}) only [avl1, avl2, avl3, avl4, avl5, if_true, if_false, beq_self_eq_true, ne_eq, reduceCtorEq, ↓reduceIte, Nat.reduceAdd, Nat.reduceLT, Nat.reduceEqDiff, Nat.reduceLeDiff, List.cons_ne_nil, hlt, hx, hw, rtA]
      repeat' (first
        | (refine (hκ _).mpr ?_; clear hκ)
        | refine kn1 ?_
        | refine kr1 ?_
        | refine ke1 ?_
        | refine kn2 ?_
        | refine kr2 ?_
        | refine kx2 ?_
        | refine ke2 rfl ?_
        | refine kn3 ?_
        | refine kr3 ?_
        | refine ke3 ?_
        | refine w_seq ?_
        | refine w_block ?_
        | (refine aw_regk fun κ hκ => ?_; simp (config := {implicitDefEqProofs := false}) only [avl1, avl2, avl3, avl4, avl5, if_true, if_false, beq_self_eq_true, ne_eq, reduceCtorEq, ↓reduceIte, Nat.reduceAdd, Nat.reduceLT, Nat.reduceEqDiff, Nat.reduceLeDiff, List.cons_ne_nil, hlt, hx, hw, rtA])
        | refine aw_exit ?_
        | refine aw_ret ?_
        | refine aw_skip ?_
        | refine aw_label ?_
        | refine condc_t ?_
        | refine condc_f ?_
        | (refine aw_cond2 (by simp (config := {implicitDefEqProofs := false}) only [avl1, avl2, avl3, avl4, avl5, if_true, if_false, beq_self_eq_true, ne_eq, reduceCtorEq, ↓reduceIte, Nat.reduceAdd, Nat.reduceLT, Nat.reduceEqDiff, Nat.reduceLeDiff, List.cons_ne_nil, hlt, hx, hw, rtA]; rfl) ?_)
        | (refine gkc_fork ?_ ?_ <;> intro hq <;> (simp (config := {implicitDefEqProofs := false}) only [hq, avl1, avl2, avl3, avl4, avl5, if_true, if_false, beq_self_eq_true, ne_eq, reduceCtorEq, ↓reduceIte, Nat.reduceAdd, Nat.reduceLT, Nat.reduceEqDiff, Nat.reduceLeDiff, List.cons_ne_nil, hlt, hx, hw, rtA]))
        | (refine condc_fork ?_ ?_ <;> intro hq)
        | (refine gkc_split ?_ ?_ <;> intro hq <;> (simp (config := {implicitDefEqProofs := false}) only [hq, avl1, avl2, avl3, avl4, avl5, if_true, if_false, beq_self_eq_true, ne_eq, reduceCtorEq, ↓reduceIte, Nat.reduceAdd, Nat.reduceLT, Nat.reduceEqDiff, Nat.reduceLeDiff, List.cons_ne_nil, hlt, hx, hw, rtA]))
        | (refine condc_bool ?_ ?_ <;> intro hq))
      refine callc (compare_ac x b hxm) (by simp [purL, pur, purL_map_eq, iA]) ?_
      try simp (config := {implicitDefEqProofs := false}) only [avl1, avl2, avl3, avl4, avl5, if_true, if_false, beq_self_eq_true, ne_eq, reduceCtorEq, ↓reduceIte, Nat.reduceAdd, Nat.reduceLT, Nat.reduceEqDiff, Nat.reduceLeDiff, List.cons_ne_nil, hlt, hx, hw, rtA]
      repeat' (first
        | (refine (hκ _).mpr ?_; clear hκ)
        | refine kn1 ?_
        | refine kr1 ?_
        | refine ke1 ?_
        | refine kn2 ?_
        | refine kr2 ?_
        | refine kx2 ?_
        | refine ke2 rfl ?_
        | refine kn3 ?_
        | refine kr3 ?_
        | refine ke3 ?_
        | refine w_seq ?_
        | refine w_block ?_
        | (refine aw_regk fun κ hκ => ?_; simp (config := {implicitDefEqProofs := false}) only [avl1, avl2, avl3, avl4, avl5, if_true, if_false, beq_self_eq_true, ne_eq, reduceCtorEq, ↓reduceIte, Nat.reduceAdd, Nat.reduceLT, Nat.reduceEqDiff, Nat.reduceLeDiff, List.cons_ne_nil, hlt, hx, hw, rtA])
        | refine aw_exit ?_
        | refine aw_ret ?_
        | refine aw_skip ?_
        | refine aw_label ?_
        | refine condc_t ?_
        | refine condc_f ?_
        | (refine aw_cond2 (by simp (config := {implicitDefEqProofs := false}) only [avl1, avl2, avl3, avl4, avl5, if_true, if_false, beq_self_eq_true, ne_eq, reduceCtorEq, ↓reduceIte, Nat.reduceAdd, Nat.reduceLT, Nat.reduceEqDiff, Nat.reduceLeDiff, List.cons_ne_nil, hlt, hx, hw, rtA]; rfl) ?_)
        | (refine gkc_fork ?_ ?_ <;> intro hq <;> (simp (config := {implicitDefEqProofs := false}) only [hq, avl1, avl2, avl3, avl4, avl5, if_true, if_false, beq_self_eq_true, ne_eq, reduceCtorEq, ↓reduceIte, Nat.reduceAdd, Nat.reduceLT, Nat.reduceEqDiff, Nat.reduceLeDiff, List.cons_ne_nil, hlt, hx, hw, rtA]))
        | (refine condc_fork ?_ ?_ <;> intro hq)
        | (refine gkc_split ?_ ?_ <;> intro hq <;> (simp (config := {implicitDefEqProofs := false}) only [hq, avl1, avl2, avl3, avl4, avl5, if_true, if_false, beq_self_eq_true, ne_eq, reduceCtorEq, ↓reduceIte, Nat.reduceAdd, Nat.reduceLT, Nat.reduceEqDiff, Nat.reduceLeDiff, List.cons_ne_nil, hlt, hx, hw, rtA]))
        | (refine condc_bool ?_ ?_ <;> intro hq))
      · refine ⟨(k + 1, x), ⟨by omega, by show k + 1 ≤ _; omega, by rw [hb, bst_step hx, if_pos hq]⟩, ⟨rfl, 0, [], rfl, Nat.zero_le _, ⟨.same (.slice .imm 6 (l.map rtA)) (okB_pur hpl), .same _ rfl, .same _ rfl, .same _ rfl, .same _ rfl, trivial⟩, ⟨rfl, ?_, rfl, ?_, trivial⟩⟩, by show l.length - (k + 1) < l.length - k; omega⟩
        · repeat (first
            | exact trivial
            | exact rfl
            | refine ⟨.same _ (by first | rfl | exact okBL_pur (purL_map fun _ => rfl)), ?_⟩
            | refine ⟨rfl, ?_⟩
            | refine ⟨?_, ?_⟩)
        · repeat (first
            | exact trivial
            | exact rfl
            | refine ⟨.same _ (by first | rfl | exact okBL_pur (purL_map fun _ => rfl)), ?_⟩
            | refine ⟨rfl, ?_⟩
            | refine ⟨?_, ?_⟩)
      · refine ⟨(k + 1, b), ⟨by omega, by show k + 1 ≤ _; omega, by rw [hb, bst_step hx, if_neg hq]⟩, ⟨rfl, 0, [], rfl, Nat.zero_le _, ⟨.same (.slice .imm 6 (l.map rtA)) (okB_pur hpl), .same _ rfl, .same _ rfl, .same _ rfl, .same _ rfl, trivial⟩, ⟨rfl, ?_, rfl, ?_, trivial⟩⟩, by show l.length - (k + 1) < l.length - k; omega⟩
        · repeat (first
            | exact trivial
            | exact rfl
            | refine ⟨.same _ (by first | rfl | exact okBL_pur (purL_map fun _ => rfl)), ?_⟩
            | refine ⟨rfl, ?_⟩
            | refine ⟨?_, ?_⟩)
        · repeat (first
            | exact trivial
            | exact rfl
            | refine ⟨.same _ (by first | rfl | exact okBL_pur (purL_map fun _ => rfl)), ?_⟩
            | refine ⟨rfl, ?_⟩
            | refine ⟨?_, ?_⟩)
    · have hk : k = l.length := by have hk : k ≤ l.length := hk; omega
      subst hk
      try simp (config := {implicitDefEqProofs := false}) only [avl1, avl2, avl3, avl4, avl5, if_true, if_false, beq_self_eq_true, ne_eq, reduceCtorEq, ↓reduceIte, Nat.reduceAdd, Nat.reduceLT, Nat.reduceEqDiff, Nat.reduceLeDiff, List.cons_ne_nil, Nat.lt_irrefl]
      repeat' (first
        | (refine (hκ _).mpr ?_; clear hκ)
        | refine kn1 ?_
        | refine kr1 ?_
        | refine ke1 ?_
        | refine kn2 ?_
        | refine kr2 ?_
        | refine kx2 ?_
        | refine ke2 rfl ?_
        | refine kn3 ?_
        | refine kr3 ?_
        | refine ke3 ?_
        | refine w_seq ?_
        | refine w_block ?_
        | (refine aw_regk fun κ hκ => ?_; simp (config := {implicitDefEqProofs := false}) only [avl1, avl2, avl3, avl4, avl5, if_true, if_false, beq_self_eq_true, ne_eq, reduceCtorEq, ↓reduceIte, Nat.reduceAdd, Nat.reduceLT, Nat.reduceEqDiff, Nat.reduceLeDiff, List.cons_ne_nil, Nat.lt_irrefl])
        | refine aw_exit ?_
        | refine aw_ret ?_
        | refine aw_skip ?_
        | refine aw_label ?_
        | refine condc_t ?_
        | refine condc_f ?_
        | (refine aw_cond2 (by simp (config := {implicitDefEqProofs := false}) only [avl1, avl2, avl3, avl4, avl5, if_true, if_false, beq_self_eq_true, ne_eq, reduceCtorEq, ↓reduceIte, Nat.reduceAdd, Nat.reduceLT, Nat.reduceEqDiff, Nat.reduceLeDiff, List.cons_ne_nil, Nat.lt_irrefl]; rfl) ?_)
        | (refine gkc_fork ?_ ?_ <;> intro hq <;> (simp (config := {implicitDefEqProofs := false}) only [hq, avl1, avl2, avl3, avl4, avl5, if_true, if_false, beq_self_eq_true, ne_eq, reduceCtorEq, ↓reduceIte, Nat.reduceAdd, Nat.reduceLT, Nat.reduceEqDiff, Nat.reduceLeDiff, List.cons_ne_nil, Nat.lt_irrefl]))
        | (refine condc_fork ?_ ?_ <;> intro hq)
        | (refine gkc_split ?_ ?_ <;> intro hq <;> (simp (config := {implicitDefEqProofs := false}) only [hq, avl1, avl2, avl3, avl4, avl5, if_true, if_false, beq_self_eq_true, ne_eq, reduceCtorEq, ↓reduceIte, Nat.reduceAdd, Nat.reduceLT, Nat.reduceEqDiff, Nat.reduceLeDiff, List.cons_ne_nil, Nat.lt_irrefl]))
        | (refine condc_bool ?_ ?_ <;> intro hq))
      have hb : bst x0 t = b := by rw [hb]; simp [bst]
      rw [hb]
      refine ret1 (.inr rfl) ?_ (pur_rt _)
      simp [resL, resOf, St.get, getT, ldAt, rtA]
end Go.Proofs.Ytmlhbmlppgoklac
