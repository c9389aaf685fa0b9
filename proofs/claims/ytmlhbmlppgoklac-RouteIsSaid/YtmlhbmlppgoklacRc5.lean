/- Compare, Same, the best one. -/
import Derived.Test.YtmlhbmlppgoklacRc4
namespace Go.Proofs.Ytmlhbmlppgoklac
open Go.RowKit
set_option maxHeartbeats 4000000
set_option maxRecDepth 100000
set_option linter.unusedSimpArgs false
set_option linter.unusedVariables false

def cmps (a b : Rt) : List Int := [cmpI b.pref a.pref, cmpI a.as.length b.as.length, cmpI a.origin b.origin, cmpL a.as b.as, cmpI a.hop b.hop, cmpI a.otc b.otc, cmpI a.frm b.frm]
theorem compareR_cmps (a b : Rt) : compareR a b = firstNZ (cmps a b) := by
  unfold compareR thenC cmps
  simp only [firstNZ, ne_eq, ite_not]
  by_cases h : cmpI a.frm b.frm = 0 <;> simp [h]
theorem cmps_step {a b : Rt} {k : Nat} (hz : ∀ j < k, (cmps a b)[j]? = some 0) {v : Int} (hv : (cmps a b)[k]? = some v) (h : v = 0) : ∀ j < k + 1, (cmps a b)[j]? = some 0 := by
  intro j hj
  rcases Nat.lt_or_ge j k with h1 | h1
  · exact hz j h1
  · obtain rfl : j = k := by omega
    rw [hv, h]
theorem cmps_stop {a b : Rt} {k : Nat} (hz : ∀ j < k, (cmps a b)[j]? = some 0) {v : Int} (hv : (cmps a b)[k]? = some v) (h : ¬ v = 0) : v = compareR a b := by
  obtain ⟨hlt, hx⟩ := List.getElem?_eq_some_iff.1 hv
  rw [compareR_cmps, firstNZ_zero hz, List.drop_eq_getElem_cons hlt, hx]
  simp [firstNZ, h]
theorem compare_ac (a b : Rt) (hn : a.as.length ≤ 1000000) : ACt Try.prog 10 [rtA a, rtA b] (.int .i64 (compareR a b)) [] := by
  refine act_of p_route_Compare (by simp [c_route_Compare]) ?_
  show AW _ b_route_Compare (RetOk [.tmp 4] _ _) ⟨38, [(0, _), (1, _)], [], []⟩
  unfold b_route_Compare rtA
  try simp (config := {implicitDefEqProofs := false}) only [avl1, avl2, avl3, avl4, avl5, if_true, if_false, beq_self_eq_true, ne_eq, reduceCtorEq, ↓reduceIte, Nat.reduceAdd, Nat.reduceLT, Nat.reduceEqDiff, Nat.reduceLeDiff, List.cons_ne_nil]
  repeat (first
    | (refine (hκ _).mpr ?_; clear hκ)
    | refine kn1 ?_
    | refine kr1 ?_
    | refine ke1 ?_
    | refine kn2 ?_
    | refine kr2 ?_
    | refine kx2 ?_
    | refine ke2 rfl ?_
    | refine kn3 ?_
    | refine kr3 ?_
    | refine ke3 ?_
    | refine w_seq ?_
    | refine w_block ?_
    | (refine aw_regk fun κ hκ => ?_; simp (config := {implicitDefEqProofs := false}) only [avl1, avl2, avl3, avl4, avl5, if_true, if_false, beq_self_eq_true, ne_eq, reduceCtorEq, ↓reduceIte, Nat.reduceAdd, Nat.reduceLT, Nat.reduceEqDiff, Nat.reduceLeDiff, List.cons_ne_nil])
    | refine aw_exit ?_
    | refine aw_ret ?_
    | refine aw_skip ?_
    | refine aw_label ?_
    | refine condc_t ?_
    | refine condc_f ?_)
  have hpp : purL (rtC a ++ rtC b) = true := by simp [rtC, purL, pur, purL_map_eq, iA]
  refine w_loop (fun (k : Nat) => k ≤ 7 ∧ ∀ j < k, (cmps a b)[j]? = some 0) (fun (k : Nat) => ⟨38, [(26, .slice .full 1 [.fn 20 [prA a b], .fn 21 [prA a b], .fn 22 [prA a b], .fn 23 [prA a b], .fn 24 [prA a b], .fn 25 [prA a b], .fn 26 [prA a b]]), (27, .int .i64 7), (28, .int .i64 k)], [], []⟩) (fun (k : Nat) => 7 - k) 0 ⟨Nat.zero_le _, fun j hj => by omega⟩ ?_ ?_
  · refine ⟨rfl, 0, [], rfl, Nat.zero_le _, ⟨?_, .same _ rfl, .same _ rfl, trivial⟩, trivial⟩
    exact .same (.slice .full 1 [.fn 20 [prA a b], .fn 21 [prA a b], .fn 22 [prA a b], .fn 23 [prA a b], .fn 24 [prA a b], .fn 25 [prA a b], .fn 26 [prA a b]]) (okB_pur (by simp [pur, purL, prA, hpp]))
  · intro k ⟨hk, hz⟩
    obtain rfl | rfl | rfl | rfl | rfl | rfl | rfl | rfl : k = 0 ∨ k = 1 ∨ k = 2 ∨ k = 3 ∨ k = 4 ∨ k = 5 ∨ k = 6 ∨ k = 7 := by omega
    · try simp (config := {implicitDefEqProofs := false}) only [avl1, avl2, avl3, avl4, avl5, if_true, if_false, beq_self_eq_true, ne_eq, reduceCtorEq, ↓reduceIte, Nat.reduceAdd, Nat.reduceLT, Nat.reduceEqDiff, Nat.reduceLeDiff, List.cons_ne_nil, (show ((0 : Nat) : Int) = 0 from rfl), (show ((7 : Nat) : Int) = 7 from rfl), Int.reduceLT, Int.reduceLE, Int.reduceToNat]
      repeat' (first
        | (refine (hκ _).mpr ?_; clear hκ)
        | refine kn1 ?_
        | refine kr1 ?_
        | refine ke1 ?_
        | refine kn2 ?_
        | refine kr2 ?_
        | refine kx2 ?_
        | refine ke2 rfl ?_
        | refine kn3 ?_
        | refine kr3 ?_
        | refine ke3 ?_
        | refine w_seq ?_
        | refine w_block ?_
        | (refine aw_regk fun κ hκ => ?_; simp (config := {implicitDefEqProofs := false}) only [avl1, avl2, avl3, avl4, avl5, if_true, if_false, beq_self_eq_true, ne_eq, reduceCtorEq, ↓reduceIte, Nat.reduceAdd, Nat.reduceLT, Nat.reduceEqDiff, Nat.reduceLeDiff, List.cons_ne_nil, (show ((0 : Nat) : Int) = 0 from rfl), (show ((7 : Nat) : Int) = 7 from rfl), Int.reduceLT, Int.reduceLE, Int.reduceToNat])
        | refine aw_exit ?_
        | refine aw_ret ?_
        | refine aw_skip ?_
        | refine aw_label ?_
        | refine condc_t ?_
        | refine condc_f ?_
        | (refine aw_cond2 (by simp (config := {implicitDefEqProofs := false}) only [avl1, avl2, avl3, avl4, avl5, if_true, if_false, beq_self_eq_true, ne_eq, reduceCtorEq, ↓reduceIte, Nat.reduceAdd, Nat.reduceLT, Nat.reduceEqDiff, Nat.reduceLeDiff, List.cons_ne_nil, (show ((0 : Nat) : Int) = 0 from rfl), (show ((7 : Nat) : Int) = 7 from rfl), Int.reduceLT, Int.reduceLE, Int.reduceToNat]; rfl) ?_)
        | (refine gkc_fork ?_ ?_ <;> intro hq <;> (simp (config := {implicitDefEqProofs := false}) only [hq, avl1, avl2, avl3, avl4, avl5, if_true, if_false, beq_self_eq_true, ne_eq, reduceCtorEq, ↓reduceIte, Nat.reduceAdd, Nat.reduceLT, Nat.reduceEqDiff, Nat.reduceLeDiff, List.cons_ne_nil, (show ((0 : Nat) : Int) = 0 from rfl), (show ((7 : Nat) : Int) = 7 from rfl), Int.reduceLT, Int.reduceLE, Int.reduceToNat]))
        | (refine condc_fork ?_ ?_ <;> intro hq)
        | (refine gkc_split ?_ ?_ <;> intro hq <;> (simp (config := {implicitDefEqProofs := false}) only [hq, avl1, avl2, avl3, avl4, avl5, if_true, if_false, beq_self_eq_true, ne_eq, reduceCtorEq, ↓reduceIte, Nat.reduceAdd, Nat.reduceLT, Nat.reduceEqDiff, Nat.reduceLeDiff, List.cons_ne_nil, (show ((0 : Nat) : Int) = 0 from rfl), (show ((7 : Nat) : Int) = 7 from rfl), Int.reduceLT, Int.reduceLE, Int.reduceToNat]))
        | (refine condc_bool ?_ ?_ <;> intro hq))
      refine callc (pair_pref_ac a b) (by simp [purL, pur, prA, hpp]) ?_
      try simp (config := {implicitDefEqProofs := false}) only [avl1, avl2, avl3, avl4, avl5, if_true, if_false, beq_self_eq_true, ne_eq, reduceCtorEq, ↓reduceIte, Nat.reduceAdd, Nat.reduceLT, Nat.reduceEqDiff, Nat.reduceLeDiff, List.cons_ne_nil]
      repeat' (first
        | (refine (hκ _).mpr ?_; clear hκ)
        | refine kn1 ?_
        | refine kr1 ?_
        | refine ke1 ?_
        | refine kn2 ?_
        | refine kr2 ?_
        | refine kx2 ?_
        | refine ke2 rfl ?_
        | refine kn3 ?_
        | refine kr3 ?_
        | refine ke3 ?_
        | refine w_seq ?_
        | refine w_block ?_
        | (refine aw_regk fun κ hκ => ?_; simp (config := {implicitDefEqProofs := false}) only [avl1, avl2, avl3, avl4, avl5, if_true, if_false, beq_self_eq_true, ne_eq, reduceCtorEq, ↓reduceIte, Nat.reduceAdd, Nat.reduceLT, Nat.reduceEqDiff, Nat.reduceLeDiff, List.cons_ne_nil])
        | refine aw_exit ?_
        | refine aw_ret ?_
        | refine aw_skip ?_
        | refine aw_label ?_
        | refine condc_t ?_
        | refine condc_f ?_
        | (refine aw_cond2 (by simp (config := {implicitDefEqProofs := false}) only [avl1, avl2, avl3, avl4, avl5, if_true, if_false, beq_self_eq_true, ne_eq, reduceCtorEq, ↓reduceIte, Nat.reduceAdd, Nat.reduceLT, Nat.reduceEqDiff, Nat.reduceLeDiff, List.cons_ne_nil]; rfl) ?_)
        | (refine gkc_fork ?_ ?_ <;> intro hq <;> (simp (config := {implicitDefEqProofs := false}) only [hq, avl1, avl2, avl3, avl4, avl5, if_true, if_false, beq_self_eq_true, ne_eq, reduceCtorEq, ↓reduceIte, Nat.reduceAdd, Nat.reduceLT, Nat.reduceEqDiff, Nat.reduceLeDiff, List.cons_ne_nil]))
        | (refine condc_fork ?_ ?_ <;> intro hq)
        | (refine gkc_split ?_ ?_ <;> intro hq <;> (simp (config := {implicitDefEqProofs := false}) only [hq, avl1, avl2, avl3, avl4, avl5, if_true, if_false, beq_self_eq_true, ne_eq, reduceCtorEq, ↓reduceIte, Nat.reduceAdd, Nat.reduceLT, Nat.reduceEqDiff, Nat.reduceLeDiff, List.cons_ne_nil]))
        | (refine condc_bool ?_ ?_ <;> intro hq))
      · exact ret_int rfl (cmps_stop hz rfl hq)
      · refine ⟨0 + 1, ⟨by omega, cmps_step hz rfl (Classical.not_not.1 hq)⟩, ⟨rfl, 0, [], rfl, Nat.zero_le _, ⟨?_, .same _ rfl, .same _ rfl, trivial⟩, trivial⟩, by omega⟩
        exact .same (.slice .full 1 [.fn 20 [prA a b], .fn 21 [prA a b], .fn 22 [prA a b], .fn 23 [prA a b], .fn 24 [prA a b], .fn 25 [prA a b], .fn 26 [prA a b]]) (okB_pur (by simp [pur, purL, prA, hpp]))
    · try simp (config := {implicitDefEqProofs := false}) only [avl1, avl2, avl3, avl4, avl5, if_true, if_false, beq_self_eq_true, ne_eq, reduceCtorEq, ↓reduceIte, Nat.reduceAdd, Nat.reduceLT, Nat.reduceEqDiff, Nat.reduceLeDiff, List.cons_ne_nil, (show ((1 : Nat) : Int) = 1 from rfl), (show ((7 : Nat) : Int) = 7 from rfl), Int.reduceLT, Int.reduceLE, Int.reduceToNat]
      repeat' (first
        | (refine (hκ _).mpr ?_; clear hκ)
        | refine kn1 ?_
        | refine kr1 ?_
        | refine ke1 ?_
        | refine kn2 ?_
        | refine kr2 ?_
        | refine kx2 ?_
        | refine ke2 rfl ?_
        | refine kn3 ?_
        | refine kr3 ?_
        | refine ke3 ?_
        | refine w_seq ?_
        | refine w_block ?_
        | (refine aw_regk fun κ hκ => ?_; simp (config := {implicitDefEqProofs := false}) only [avl1, avl2, avl3, avl4, avl5, if_true, if_false, beq_self_eq_true, ne_eq, reduceCtorEq, ↓reduceIte, Nat.reduceAdd, Nat.reduceLT, Nat.reduceEqDiff, Nat.reduceLeDiff, List.cons_ne_nil, (show ((1 : Nat) : Int) = 1 from rfl), (show ((7 : Nat) : Int) = 7 from rfl), Int.reduceLT, Int.reduceLE, Int.reduceToNat])
        | refine aw_exit ?_
        | refine aw_ret ?_
        | refine aw_skip ?_
        | refine aw_label ?_
        | refine condc_t ?_
        | refine condc_f ?_
        | (refine aw_cond2 (by simp (config := {implicitDefEqProofs := false}) only [avl1, avl2, avl3, avl4, avl5, if_true, if_false, beq_self_eq_true, ne_eq, reduceCtorEq, ↓reduceIte, Nat.reduceAdd, Nat.reduceLT, Nat.reduceEqDiff, Nat.reduceLeDiff, List.cons_ne_nil, (show ((1 : Nat) : Int) = 1 from rfl), (show ((7 : Nat) : Int) = 7 from rfl), Int.reduceLT, Int.reduceLE, Int.reduceToNat]; rfl) ?_)
        | (refine gkc_fork ?_ ?_ <;> intro hq <;> (simp (config := {implicitDefEqProofs := false}) only [hq, avl1, avl2, avl3, avl4, avl5, if_true, if_false, beq_self_eq_true, ne_eq, reduceCtorEq, ↓reduceIte, Nat.reduceAdd, Nat.reduceLT, Nat.reduceEqDiff, Nat.reduceLeDiff, List.cons_ne_nil, (show ((1 : Nat) : Int) = 1 from rfl), (show ((7 : Nat) : Int) = 7 from rfl), Int.reduceLT, Int.reduceLE, Int.reduceToNat]))
        | (refine condc_fork ?_ ?_ <;> intro hq)
        | (refine gkc_split ?_ ?_ <;> intro hq <;> (simp (config := {implicitDefEqProofs := false}) only [hq, avl1, avl2, avl3, avl4, avl5, if_true, if_false, beq_self_eq_true, ne_eq, reduceCtorEq, ↓reduceIte, Nat.reduceAdd, Nat.reduceLT, Nat.reduceEqDiff, Nat.reduceLeDiff, List.cons_ne_nil, (show ((1 : Nat) : Int) = 1 from rfl), (show ((7 : Nat) : Int) = 7 from rfl), Int.reduceLT, Int.reduceLE, Int.reduceToNat]))
        | (refine condc_bool ?_ ?_ <;> intro hq))
      refine callc (pair_length_ac a b) (by simp [purL, pur, prA, hpp]) ?_
      try simp (config := {implicitDefEqProofs := false}) only [avl1, avl2, avl3, avl4, avl5, if_true, if_false, beq_self_eq_true, ne_eq, reduceCtorEq, ↓reduceIte, Nat.reduceAdd, Nat.reduceLT, Nat.reduceEqDiff, Nat.reduceLeDiff, List.cons_ne_nil]
      repeat' (first
        | (refine (hκ _).mpr ?_; clear hκ)
        | refine kn1 ?_
        | refine kr1 ?_
        | refine ke1 ?_
        | refine kn2 ?_
        | refine kr2 ?_
        | refine kx2 ?_
        | refine ke2 rfl ?_
        | refine kn3 ?_
        | refine kr3 ?_
        | refine ke3 ?_
        | refine w_seq ?_
        | refine w_block ?_
        | (refine aw_regk fun κ hκ => ?_; simp (config := {implicitDefEqProofs := false}) only [avl1, avl2, avl3, avl4, avl5, if_true, if_false, beq_self_eq_true, ne_eq, reduceCtorEq, ↓reduceIte, Nat.reduceAdd, Nat.reduceLT, Nat.reduceEqDiff, Nat.reduceLeDiff, List.cons_ne_nil])
        | refine aw_exit ?_
        | refine aw_ret ?_
        | refine aw_skip ?_
        | refine aw_label ?_
        | refine condc_t ?_
        | refine condc_f ?_
        | (refine aw_cond2 (by simp (config := {implicitDefEqProofs := false}) only [avl1, avl2, avl3, avl4, avl5, if_true, if_false, beq_self_eq_true, ne_eq, reduceCtorEq, ↓reduceIte, Nat.reduceAdd, Nat.reduceLT, Nat.reduceEqDiff, Nat.reduceLeDiff, List.cons_ne_nil]; rfl) ?_)
        | (refine gkc_fork ?_ ?_ <;> intro hq <;> (simp (config := {implicitDefEqProofs := false}) only [hq, avl1, avl2, avl3, avl4, avl5, if_true, if_false, beq_self_eq_true, ne_eq, reduceCtorEq, ↓reduceIte, Nat.reduceAdd, Nat.reduceLT, Nat.reduceEqDiff, Nat.reduceLeDiff, List.cons_ne_nil]))
        | (refine condc_fork ?_ ?_ <;> intro hq)
        | (refine gkc_split ?_ ?_ <;> intro hq <;> (simp (config := {implicitDefEqProofs := false}) only [hq, avl1, avl2, avl3, avl4, avl5, if_true, if_false, beq_self_eq_true, ne_eq, reduceCtorEq, ↓reduceIte, Nat.reduceAdd, Nat.reduceLT, Nat.reduceEqDiff, Nat.reduceLeDiff, List.cons_ne_nil]))
        | (refine condc_bool ?_ ?_ <;> intro hq))
      · exact ret_int rfl (cmps_stop hz rfl hq)
      · refine ⟨1 + 1, ⟨by omega, cmps_step hz rfl (Classical.not_not.1 hq)⟩, ⟨rfl, 0, [], rfl, Nat.zero_le _, ⟨?_, .same _ rfl, .same _ rfl, trivial⟩, trivial⟩, by omega⟩
        exact .same (.slice .full 1 [.fn 20 [prA a b], .fn 21 [prA a b], .fn 22 [prA a b], .fn 23 [prA a b], .fn 24 [prA a b], .fn 25 [prA a b], .fn 26 [prA a b]]) (okB_pur (by simp [pur, purL, prA, hpp]))
    · try simp (config := {implicitDefEqProofs := false}) only [avl1, avl2, avl3, avl4, avl5, if_true, if_false, beq_self_eq_true, ne_eq, reduceCtorEq, ↓reduceIte, Nat.reduceAdd, Nat.reduceLT, Nat.reduceEqDiff, Nat.reduceLeDiff, List.cons_ne_nil, (show ((2 : Nat) : Int) = 2 from rfl), (show ((7 : Nat) : Int) = 7 from rfl), Int.reduceLT, Int.reduceLE, Int.reduceToNat]
      repeat' (first
        | (refine (hκ _).mpr ?_; clear hκ)
        | refine kn1 ?_
        | refine kr1 ?_
        | refine ke1 ?_
        | refine kn2 ?_
        | refine kr2 ?_
        | refine kx2 ?_
        | refine ke2 rfl ?_
        | refine kn3 ?_
        | refine kr3 ?_
        | refine ke3 ?_
        | refine w_seq ?_
        | refine w_block ?_
        | (refine aw_regk fun κ hκ => ?_; simp (config := {implicitDefEqProofs := false}) only [avl1, avl2, avl3, avl4, avl5, if_true, if_false, beq_self_eq_true, ne_eq, reduceCtorEq, ↓reduceIte, Nat.reduceAdd, Nat.reduceLT, Nat.reduceEqDiff, Nat.reduceLeDiff, List.cons_ne_nil, (show ((2 : Nat) : Int) = 2 from rfl), (show ((7 : Nat) : Int) = 7 from rfl), Int.reduceLT, Int.reduceLE, Int.reduceToNat])
        | refine aw_exit ?_
        | refine aw_ret ?_
        | refine aw_skip ?_
        | refine aw_label ?_
        | refine condc_t ?_
        | refine condc_f ?_
        | (refine aw_cond2 (by simp (config := {implicitDefEqProofs := false}) only [avl1, avl2, avl3, avl4, avl5, if_true, if_false, beq_self_eq_true, ne_eq, reduceCtorEq, ↓reduceIte, Nat.reduceAdd, Nat.reduceLT, Nat.reduceEqDiff, Nat.reduceLeDiff, List.cons_ne_nil, (show ((2 : Nat) : Int) = 2 from rfl), (show ((7 : Nat) : Int) = 7 from rfl), Int.reduceLT, Int.reduceLE, Int.reduceToNat]; rfl) ?_)
        | (refine gkc_fork ?_ ?_ <;> intro hq <;> (simp (config := {implicitDefEqProofs := false}) only [hq, avl1, avl2, avl3, avl4, avl5, if_true, if_false, beq_self_eq_true, ne_eq, reduceCtorEq, ↓reduceIte, Nat.reduceAdd, Nat.reduceLT, Nat.reduceEqDiff, Nat.reduceLeDiff, List.cons_ne_nil, (show ((2 : Nat) : Int) = 2 from rfl), (show ((7 : Nat) : Int) = 7 from rfl), Int.reduceLT, Int.reduceLE, Int.reduceToNat]))
        | (refine condc_fork ?_ ?_ <;> intro hq)
        | (refine gkc_split ?_ ?_ <;> intro hq <;> (simp (config := {implicitDefEqProofs := false}) only [hq, avl1, avl2, avl3, avl4, avl5, if_true, if_false, beq_self_eq_true, ne_eq, reduceCtorEq, ↓reduceIte, Nat.reduceAdd, Nat.reduceLT, Nat.reduceEqDiff, Nat.reduceLeDiff, List.cons_ne_nil, (show ((2 : Nat) : Int) = 2 from rfl), (show ((7 : Nat) : Int) = 7 from rfl), Int.reduceLT, Int.reduceLE, Int.reduceToNat]))
        | (refine condc_bool ?_ ?_ <;> intro hq))
      refine callc (pair_origin_ac a b) (by simp [purL, pur, prA, hpp]) ?_
      try simp (config := {implicitDefEqProofs := false}) only [avl1, avl2, avl3, avl4, avl5, if_true, if_false, beq_self_eq_true, ne_eq, reduceCtorEq, ↓reduceIte, Nat.reduceAdd, Nat.reduceLT, Nat.reduceEqDiff, Nat.reduceLeDiff, List.cons_ne_nil]
      repeat' (first
        | (refine (hκ _).mpr ?_; clear hκ)
        | refine kn1 ?_
        | refine kr1 ?_
        | refine ke1 ?_
        | refine kn2 ?_
        | refine kr2 ?_
        | refine kx2 ?_
        | refine ke2 rfl ?_
        | refine kn3 ?_
        | refine kr3 ?_
        | refine ke3 ?_
        | refine w_seq ?_
        | refine w_block ?_
        | (refine aw_regk fun κ hκ => ?_; simp (config := {implicitDefEqProofs := false}) only [avl1, avl2, avl3, avl4, avl5, if_true, if_false, beq_self_eq_true, ne_eq, reduceCtorEq, ↓reduceIte, Nat.reduceAdd, Nat.reduceLT, Nat.reduceEqDiff, Nat.reduceLeDiff, List.cons_ne_nil])
        | refine aw_exit ?_
        | refine aw_ret ?_
        | refine aw_skip ?_
        | refine aw_label ?_
        | refine condc_t ?_
        | refine condc_f ?_
        | (refine aw_cond2 (by simp (config := {implicitDefEqProofs := false}) only [avl1, avl2, avl3, avl4, avl5, if_true, if_false, beq_self_eq_true, ne_eq, reduceCtorEq, ↓reduceIte, Nat.reduceAdd, Nat.reduceLT, Nat.reduceEqDiff, Nat.reduceLeDiff, List.cons_ne_nil]; rfl) ?_)
        | (refine gkc_fork ?_ ?_ <;> intro hq <;> (simp (config := {implicitDefEqProofs := false}) only [hq, avl1, avl2, avl3, avl4, avl5, if_true, if_false, beq_self_eq_true, ne_eq, reduceCtorEq, ↓reduceIte, Nat.reduceAdd, Nat.reduceLT, Nat.reduceEqDiff, Nat.reduceLeDiff, List.cons_ne_nil]))
        | (refine condc_fork ?_ ?_ <;> intro hq)
        | (refine gkc_split ?_ ?_ <;> intro hq <;> (simp (config := {implicitDefEqProofs := false}) only [hq, avl1, avl2, avl3, avl4, avl5, if_true, if_false, beq_self_eq_true, ne_eq, reduceCtorEq, ↓reduceIte, Nat.reduceAdd, Nat.reduceLT, Nat.reduceEqDiff, Nat.reduceLeDiff, List.cons_ne_nil]))
        | (refine condc_bool ?_ ?_ <;> intro hq))
      · exact ret_int rfl (cmps_stop hz rfl hq)
      · refine ⟨2 + 1, ⟨by omega, cmps_step hz rfl (Classical.not_not.1 hq)⟩, ⟨rfl, 0, [], rfl, Nat.zero_le _, ⟨?_, .same _ rfl, .same _ rfl, trivial⟩, trivial⟩, by omega⟩
        exact .same (.slice .full 1 [.fn 20 [prA a b], .fn 21 [prA a b], .fn 22 [prA a b], .fn 23 [prA a b], .fn 24 [prA a b], .fn 25 [prA a b], .fn 26 [prA a b]]) (okB_pur (by simp [pur, purL, prA, hpp]))
    · try simp (config := {implicitDefEqProofs := false}) only [avl1, avl2, avl3, avl4, avl5, if_true, if_false, beq_self_eq_true, ne_eq, reduceCtorEq, ↓reduceIte, Nat.reduceAdd, Nat.reduceLT, Nat.reduceEqDiff, Nat.reduceLeDiff, List.cons_ne_nil, (show ((3 : Nat) : Int) = 3 from rfl), (show ((7 : Nat) : Int) = 7 from rfl), Int.reduceLT, Int.reduceLE, Int.reduceToNat]
      repeat' (first
        | (refine (hκ _).mpr ?_; clear hκ)
        | refine kn1 ?_
        | refine kr1 ?_
        | refine ke1 ?_
        | refine kn2 ?_
        | refine kr2 ?_
        | refine kx2 ?_
        | refine ke2 rfl ?_
        | refine kn3 ?_
        | refine kr3 ?_
        | refine ke3 ?_
        | refine w_seq ?_
        | refine w_block ?_
        | (refine aw_regk fun κ hκ => ?_; simp (config := {implicitDefEqProofs := false}) only [avl1, avl2, avl3, avl4, avl5, if_true, if_false, beq_self_eq_true, ne_eq, reduceCtorEq, ↓reduceIte, Nat.reduceAdd, Nat.reduceLT, Nat.reduceEqDiff, Nat.reduceLeDiff, List.cons_ne_nil, (show ((3 : Nat) : Int) = 3 from rfl), (show ((7 : Nat) : Int) = 7 from rfl), Int.reduceLT, Int.reduceLE, Int.reduceToNat])
        | refine aw_exit ?_
        | refine aw_ret ?_
        | refine aw_skip ?_
        | refine aw_label ?_
        | refine condc_t ?_
        | refine condc_f ?_
        | (refine aw_cond2 (by simp (config := {implicitDefEqProofs := false}) only [avl1, avl2, avl3, avl4, avl5, if_true, if_false, beq_self_eq_true, ne_eq, reduceCtorEq, ↓reduceIte, Nat.reduceAdd, Nat.reduceLT, Nat.reduceEqDiff, Nat.reduceLeDiff, List.cons_ne_nil, (show ((3 : Nat) : Int) = 3 from rfl), (show ((7 : Nat) : Int) = 7 from rfl), Int.reduceLT, Int.reduceLE, Int.reduceToNat]; rfl) ?_)
        | (refine gkc_fork ?_ ?_ <;> intro hq <;> (simp (config := {implicitDefEqProofs := false}) only [hq, avl1, avl2, avl3, avl4, avl5, if_true, if_false, beq_self_eq_true, ne_eq, reduceCtorEq, ↓reduceIte, Nat.reduceAdd, Nat.reduceLT, Nat.reduceEqDiff, Nat.reduceLeDiff, List.cons_ne_nil, (show ((3 : Nat) : Int) = 3 from rfl), (show ((7 : Nat) : Int) = 7 from rfl), Int.reduceLT, Int.reduceLE, Int.reduceToNat]))
        | (refine condc_fork ?_ ?_ <;> intro hq)
        | (refine gkc_split ?_ ?_ <;> intro hq <;> (simp (config := {implicitDefEqProofs := false}) only [hq, avl1, avl2, avl3, avl4, avl5, if_true, if_false, beq_self_eq_true, ne_eq, reduceCtorEq, ↓reduceIte, Nat.reduceAdd, Nat.reduceLT, Nat.reduceEqDiff, Nat.reduceLeDiff, List.cons_ne_nil, (show ((3 : Nat) : Int) = 3 from rfl), (show ((7 : Nat) : Int) = 7 from rfl), Int.reduceLT, Int.reduceLE, Int.reduceToNat]))
        | (refine condc_bool ?_ ?_ <;> intro hq))
      refine callc (pair_as_ac a b hn) (by simp [purL, pur, prA, hpp]) ?_
      try simp (config := {implicitDefEqProofs := false}) only [avl1, avl2, avl3, avl4, avl5, if_true, if_false, beq_self_eq_true, ne_eq, reduceCtorEq, ↓reduceIte, Nat.reduceAdd, Nat.reduceLT, Nat.reduceEqDiff, Nat.reduceLeDiff, List.cons_ne_nil]
      repeat' (first
        | (refine (hκ _).mpr ?_; clear hκ)
        | refine kn1 ?_
        | refine kr1 ?_
        | refine ke1 ?_
        | refine kn2 ?_
        | refine kr2 ?_
        | refine kx2 ?_
        | refine ke2 rfl ?_
        | refine kn3 ?_
        | refine kr3 ?_
        | refine ke3 ?_
        | refine w_seq ?_
        | refine w_block ?_
        | (refine aw_regk fun κ hκ => ?_; simp (config := {implicitDefEqProofs := false}) only [avl1, avl2, avl3, avl4, avl5, if_true, if_false, beq_self_eq_true, ne_eq, reduceCtorEq, ↓reduceIte, Nat.reduceAdd, Nat.reduceLT, Nat.reduceEqDiff, Nat.reduceLeDiff, List.cons_ne_nil])
        | refine aw_exit ?_
        | refine aw_ret ?_
        | refine aw_skip ?_
        | refine aw_label ?_
        | refine condc_t ?_
        | refine condc_f ?_
        | (refine aw_cond2 (by simp (config := {implicitDefEqProofs := false}) only [avl1, avl2, avl3, avl4, avl5, if_true, if_false, beq_self_eq_true, ne_eq, reduceCtorEq, ↓reduceIte, Nat.reduceAdd, Nat.reduceLT, Nat.reduceEqDiff, Nat.reduceLeDiff, List.cons_ne_nil]; rfl) ?_)
        | (refine gkc_fork ?_ ?_ <;> intro hq <;> (simp (config := {implicitDefEqProofs := false}) only [hq, avl1, avl2, avl3, avl4, avl5, if_true, if_false, beq_self_eq_true, ne_eq, reduceCtorEq, ↓reduceIte, Nat.reduceAdd, Nat.reduceLT, Nat.reduceEqDiff, Nat.reduceLeDiff, List.cons_ne_nil]))
        | (refine condc_fork ?_ ?_ <;> intro hq)
        | (refine gkc_split ?_ ?_ <;> intro hq <;> (simp (config := {implicitDefEqProofs := false}) only [hq, avl1, avl2, avl3, avl4, avl5, if_true, if_false, beq_self_eq_true, ne_eq, reduceCtorEq, ↓reduceIte, Nat.reduceAdd, Nat.reduceLT, Nat.reduceEqDiff, Nat.reduceLeDiff, List.cons_ne_nil]))
        | (refine condc_bool ?_ ?_ <;> intro hq))
      · exact ret_int rfl (cmps_stop hz rfl hq)
      · refine ⟨3 + 1, ⟨by omega, cmps_step hz rfl (Classical.not_not.1 hq)⟩, ⟨rfl, 0, [], rfl, Nat.zero_le _, ⟨?_, .same _ rfl, .same _ rfl, trivial⟩, trivial⟩, by omega⟩
        exact .same (.slice .full 1 [.fn 20 [prA a b], .fn 21 [prA a b], .fn 22 [prA a b], .fn 23 [prA a b], .fn 24 [prA a b], .fn 25 [prA a b], .fn 26 [prA a b]]) (okB_pur (by simp [pur, purL, prA, hpp]))
    · try simp (config := {implicitDefEqProofs := false}) only [avl1, avl2, avl3, avl4, avl5, if_true, if_false, beq_self_eq_true, ne_eq, reduceCtorEq, ↓reduceIte, Nat.reduceAdd, Nat.reduceLT, Nat.reduceEqDiff, Nat.reduceLeDiff, List.cons_ne_nil, (show ((4 : Nat) : Int) = 4 from rfl), (show ((7 : Nat) : Int) = 7 from rfl), Int.reduceLT, Int.reduceLE, Int.reduceToNat]
      repeat' (first
        | (refine (hκ _).mpr ?_; clear hκ)
        | refine kn1 ?_
        | refine kr1 ?_
        | refine ke1 ?_
        | refine kn2 ?_
        | refine kr2 ?_
        | refine kx2 ?_
        | refine ke2 rfl ?_
        | refine kn3 ?_
        | refine kr3 ?_
        | refine ke3 ?_
        | refine w_seq ?_
        | refine w_block ?_
        | (refine aw_regk fun κ hκ => ?_; simp (config := {implicitDefEqProofs := false}) only [avl1, avl2, avl3, avl4, avl5, if_true, if_false, beq_self_eq_true, ne_eq, reduceCtorEq, ↓reduceIte, Nat.reduceAdd, Nat.reduceLT, Nat.reduceEqDiff, Nat.reduceLeDiff, List.cons_ne_nil, (show ((4 : Nat) : Int) = 4 from rfl), (show ((7 : Nat) : Int) = 7 from rfl), Int.reduceLT, Int.reduceLE, Int.reduceToNat])
        | refine aw_exit ?_
        | refine aw_ret ?_
        | refine aw_skip ?_
        | refine aw_label ?_
        | refine condc_t ?_
        | refine condc_f ?_
        | (refine aw_cond2 (by simp (config := {implicitDefEqProofs := false}) only [avl1, avl2, avl3, avl4, avl5, if_true, if_false, beq_self_eq_true, ne_eq, reduceCtorEq, ↓reduceIte, Nat.reduceAdd, Nat.reduceLT, Nat.reduceEqDiff, Nat.reduceLeDiff, List.cons_ne_nil, (show ((4 : Nat) : Int) = 4 from rfl), (show ((7 : Nat) : Int) = 7 from rfl), Int.reduceLT, Int.reduceLE, Int.reduceToNat]; rfl) ?_)
        | (refine gkc_fork ?_ ?_ <;> intro hq <;> (simp (config := {implicitDefEqProofs := false}) only [hq, avl1, avl2, avl3, avl4, avl5, if_true, if_false, beq_self_eq_true, ne_eq, reduceCtorEq, ↓reduceIte, Nat.reduceAdd, Nat.reduceLT, Nat.reduceEqDiff, Nat.reduceLeDiff, List.cons_ne_nil, (show ((4 : Nat) : Int) = 4 from rfl), (show ((7 : Nat) : Int) = 7 from rfl), Int.reduceLT, Int.reduceLE, Int.reduceToNat]))
        | (refine condc_fork ?_ ?_ <;> intro hq)
        | (refine gkc_split ?_ ?_ <;> intro hq <;> (simp (config := {implicitDefEqProofs := false}) only [hq, avl1, avl2, avl3, avl4, avl5, if_true, if_false, beq_self_eq_true, ne_eq, reduceCtorEq, ↓reduceIte, Nat.reduceAdd, Nat.reduceLT, Nat.reduceEqDiff, Nat.reduceLeDiff, List.cons_ne_nil, (show ((4 : Nat) : Int) = 4 from rfl), (show ((7 : Nat) : Int) = 7 from rfl), Int.reduceLT, Int.reduceLE, Int.reduceToNat]))
        | (refine condc_bool ?_ ?_ <;> intro hq))
      refine callc (pair_hop_ac a b) (by simp [purL, pur, prA, hpp]) ?_
      try simp (config := {implicitDefEqProofs := false}) only [avl1, avl2, avl3, avl4, avl5, if_true, if_false, beq_self_eq_true, ne_eq, reduceCtorEq, ↓reduceIte, Nat.reduceAdd, Nat.reduceLT, Nat.reduceEqDiff, Nat.reduceLeDiff, List.cons_ne_nil]
      repeat' (first
        | (refine (hκ _).mpr ?_; clear hκ)
        | refine kn1 ?_
        | refine kr1 ?_
        | refine ke1 ?_
        | refine kn2 ?_
        | refine kr2 ?_
        | refine kx2 ?_
        | refine ke2 rfl ?_
        | refine kn3 ?_
        | refine kr3 ?_
        | refine ke3 ?_
        | refine w_seq ?_
        | refine w_block ?_
        | (refine aw_regk fun κ hκ => ?_; simp (config := {implicitDefEqProofs := false}) only [avl1, avl2, avl3, avl4, avl5, if_true, if_false, beq_self_eq_true, ne_eq, reduceCtorEq, ↓reduceIte, Nat.reduceAdd, Nat.reduceLT, Nat.reduceEqDiff, Nat.reduceLeDiff, List.cons_ne_nil])
        | refine aw_exit ?_
        | refine aw_ret ?_
        | refine aw_skip ?_
        | refine aw_label ?_
        | refine condc_t ?_
        | refine condc_f ?_
        | (refine aw_cond2 (by simp (config := {implicitDefEqProofs := false}) only [avl1, avl2, avl3, avl4, avl5, if_true, if_false, beq_self_eq_true, ne_eq, reduceCtorEq, ↓reduceIte, Nat.reduceAdd, Nat.reduceLT, Nat.reduceEqDiff, Nat.reduceLeDiff, List.cons_ne_nil]; rfl) ?_)
        | (refine gkc_fork ?_ ?_ <;> intro hq <;> (simp (config := {implicitDefEqProofs := false}) only [hq, avl1, avl2, avl3, avl4, avl5, if_true, if_false, beq_self_eq_true, ne_eq, reduceCtorEq, ↓reduceIte, Nat.reduceAdd, Nat.reduceLT, Nat.reduceEqDiff, Nat.reduceLeDiff, List.cons_ne_nil]))
        | (refine condc_fork ?_ ?_ <;> intro hq)
        | (refine gkc_split ?_ ?_ <;> intro hq <;> (simp (config := {implicitDefEqProofs := false}) only [hq, avl1, avl2, avl3, avl4, avl5, if_true, if_false, beq_self_eq_true, ne_eq, reduceCtorEq, ↓reduceIte, Nat.reduceAdd, Nat.reduceLT, Nat.reduceEqDiff, Nat.reduceLeDiff, List.cons_ne_nil]))
        | (refine condc_bool ?_ ?_ <;> intro hq))
      · exact ret_int rfl (cmps_stop hz rfl hq)
      · refine ⟨4 + 1, ⟨by omega, cmps_step hz rfl (Classical.not_not.1 hq)⟩, ⟨rfl, 0, [], rfl, Nat.zero_le _, ⟨?_, .same _ rfl, .same _ rfl, trivial⟩, trivial⟩, by omega⟩
        exact .same (.slice .full 1 [.fn 20 [prA a b], .fn 21 [prA a b], .fn 22 [prA a b], .fn 23 [prA a b], .fn 24 [prA a b], .fn 25 [prA a b], .fn 26 [prA a b]]) (okB_pur (by simp [pur, purL, prA, hpp]))
    · try simp (config := {implicitDefEqProofs := false}) only [avl1, avl2, avl3, avl4, avl5, if_true, if_false, beq_self_eq_true, ne_eq, reduceCtorEq, ↓reduceIte, Nat.reduceAdd, Nat.reduceLT, Nat.reduceEqDiff, Nat.reduceLeDiff, List.cons_ne_nil, (show ((5 : Nat) : Int) = 5 from rfl), (show ((7 : Nat) : Int) = 7 from rfl), Int.reduceLT, Int.reduceLE, Int.reduceToNat]
      repeat' (first
        | (refine (hκ _).mpr ?_; clear hκ)
        | refine kn1 ?_
        | refine kr1 ?_
        | refine ke1 ?_
        | refine kn2 ?_
        | refine kr2 ?_
        | refine kx2 ?_
        | refine ke2 rfl ?_
        | refine kn3 ?_
        | refine kr3 ?_
        | refine ke3 ?_
        | refine w_seq ?_
        | refine w_block ?_
        | (refine aw_regk fun κ hκ => ?_; simp (config := {implicitDefEqProofs := false}) only [avl1, avl2, avl3, avl4, avl5, if_true, if_false, beq_self_eq_true, ne_eq, reduceCtorEq, ↓reduceIte, Nat.reduceAdd, Nat.reduceLT, Nat.reduceEqDiff, Nat.reduceLeDiff, List.cons_ne_nil, (show ((5 : Nat) : Int) = 5 from rfl), (show ((7 : Nat) : Int) = 7 from rfl), Int.reduceLT, Int.reduceLE, Int.reduceToNat])
        | refine aw_exit ?_
        | refine aw_ret ?_
        | refine aw_skip ?_
        | refine aw_label ?_
        | refine condc_t ?_
        | refine condc_f ?_
        | (refine aw_cond2 (by simp (config := {implicitDefEqProofs := false}) only [avl1, avl2, avl3, avl4, avl5, if_true, if_false, beq_self_eq_true, ne_eq, reduceCtorEq, ↓reduceIte, Nat.reduceAdd, Nat.reduceLT, Nat.reduceEqDiff, Nat.reduceLeDiff, List.cons_ne_nil, (show ((5 : Nat) : Int) = 5 from rfl), (show ((7 : Nat) : Int) = 7 from rfl), Int.reduceLT, Int.reduceLE, Int.reduceToNat]; rfl) ?_)
        | (refine gkc_fork ?_ ?_ <;> intro hq <;> (simp (config := {implicitDefEqProofs := false}) only [hq, avl1, avl2, avl3, avl4, avl5, if_true, if_false, beq_self_eq_true, ne_eq, reduceCtorEq, ↓reduceIte, Nat.reduceAdd, Nat.reduceLT, Nat.reduceEqDiff, Nat.reduceLeDiff, List.cons_ne_nil, (show ((5 : Nat) : Int) = 5 from rfl), (show ((7 : Nat) : Int) = 7 from rfl), Int.reduceLT, Int.reduceLE, Int.reduceToNat]))
        | (refine condc_fork ?_ ?_ <;> intro hq)
        | (refine gkc_split ?_ ?_ <;> intro hq <;> (simp (config := {implicitDefEqProofs := false}) only [hq, avl1, avl2, avl3, avl4, avl5, if_true, if_false, beq_self_eq_true, ne_eq, reduceCtorEq, ↓reduceIte, Nat.reduceAdd, Nat.reduceLT, Nat.reduceEqDiff, Nat.reduceLeDiff, List.cons_ne_nil, (show ((5 : Nat) : Int) = 5 from rfl), (show ((7 : Nat) : Int) = 7 from rfl), Int.reduceLT, Int.reduceLE, Int.reduceToNat]))
        | (refine condc_bool ?_ ?_ <;> intro hq))
      refine callc (pair_otc_ac a b) (by simp [purL, pur, prA, hpp]) ?_
      try simp (config := {implicitDefEqProofs := false}) only [avl1, avl2, avl3, avl4, avl5, if_true, if_false, beq_self_eq_true, ne_eq, reduceCtorEq, ↓reduceIte, Nat.reduceAdd, Nat.reduceLT, Nat.reduceEqDiff, Nat.reduceLeDiff, List.cons_ne_nil]
      repeat' (first
        | (refine (hκ _).mpr ?_; clear hκ)
        | refine kn1 ?_
        | refine kr1 ?_
        | refine ke1 ?_
        | refine kn2 ?_
        | refine kr2 ?_
        | refine kx2 ?_
        | refine ke2 rfl ?_
        | refine kn3 ?_
        | refine kr3 ?_
        | refine ke3 ?_
        | refine w_seq ?_
        | refine w_block ?_
        | (refine aw_regk fun κ hκ => ?_; simp (config := {implicitDefEqProofs := false}) only [avl1, avl2, avl3, avl4, avl5, if_true, if_false, beq_self_eq_true, ne_eq, reduceCtorEq, ↓reduceIte, Nat.reduceAdd, Nat.reduceLT, Nat.reduceEqDiff, Nat.reduceLeDiff, List.cons_ne_nil])
        | refine aw_exit ?_
        | refine aw_ret ?_
        | refine aw_skip ?_
        | refine aw_label ?_
        | refine condc_t ?_
        | refine condc_f ?_
        | (refine aw_cond2 (by simp (config := {implicitDefEqProofs := false}) only [avl1, avl2, avl3, avl4, avl5, if_true, if_false, beq_self_eq_true, ne_eq, reduceCtorEq, ↓reduceIte, Nat.reduceAdd, Nat.reduceLT, Nat.reduceEqDiff, Nat.reduceLeDiff, List.cons_ne_nil]; rfl) ?_)
        | (refine gkc_fork ?_ ?_ <;> intro hq <;> (simp (config := {implicitDefEqProofs := false}) only [hq, avl1, avl2, avl3, avl4, avl5, if_true, if_false, beq_self_eq_true, ne_eq, reduceCtorEq, ↓reduceIte, Nat.reduceAdd, Nat.reduceLT, Nat.reduceEqDiff, Nat.reduceLeDiff, List.cons_ne_nil]))
        | (refine condc_fork ?_ ?_ <;> intro hq)
        | (refine gkc_split ?_ ?_ <;> intro hq <;> (simp (config := {implicitDefEqProofs := false}) only [hq, avl1, avl2, avl3, avl4, avl5, if_true, if_false, beq_self_eq_true, ne_eq, reduceCtorEq, ↓reduceIte, Nat.reduceAdd, Nat.reduceLT, Nat.reduceEqDiff, Nat.reduceLeDiff, List.cons_ne_nil]))
        | (refine condc_bool ?_ ?_ <;> intro hq))
      · exact ret_int rfl (cmps_stop hz rfl hq)
      · refine ⟨5 + 1, ⟨by omega, cmps_step hz rfl (Classical.not_not.1 hq)⟩, ⟨rfl, 0, [], rfl, Nat.zero_le _, ⟨?_, .same _ rfl, .same _ rfl, trivial⟩, trivial⟩, by omega⟩
        exact .same (.slice .full 1 [.fn 20 [prA a b], .fn 21 [prA a b], .fn 22 [prA a b], .fn 23 [prA a b], .fn 24 [prA a b], .fn 25 [prA a b], .fn 26 [prA a b]]) (okB_pur (by simp [pur, purL, prA, hpp]))
    · try simp (config := {implicitDefEqProofs := false}) only [avl1, avl2, avl3, avl4, avl5, if_true, if_false, beq_self_eq_true, ne_eq, reduceCtorEq, ↓reduceIte, Nat.reduceAdd, Nat.reduceLT, Nat.reduceEqDiff, Nat.reduceLeDiff, List.cons_ne_nil, (show ((6 : Nat) : Int) = 6 from rfl), (show ((7 : Nat) : Int) = 7 from rfl), Int.reduceLT, Int.reduceLE, Int.reduceToNat]
      repeat' (first
        | (refine (hκ _).mpr ?_; clear hκ)
        | refine kn1 ?_
        | refine kr1 ?_
        | refine ke1 ?_
        | refine kn2 ?_
        | refine kr2 ?_
        | refine kx2 ?_
        | refine ke2 rfl ?_
        | refine kn3 ?_
        | refine kr3 ?_
        | refine ke3 ?_
        | refine w_seq ?_
        | refine w_block ?_
        | (refine aw_regk fun κ hκ => ?_; simp (config := {implicitDefEqProofs := false}) only [avl1, avl2, avl3, avl4, avl5, if_true, if_false, beq_self_eq_true, ne_eq, reduceCtorEq, ↓reduceIte, Nat.reduceAdd, Nat.reduceLT, Nat.reduceEqDiff, Nat.reduceLeDiff, List.cons_ne_nil, (show ((6 : Nat) : Int) = 6 from rfl), (show ((7 : Nat) : Int) = 7 from rfl), Int.reduceLT, Int.reduceLE, Int.reduceToNat])
        | refine aw_exit ?_
        | refine aw_ret ?_
        | refine aw_skip ?_
        | refine aw_label ?_
        | refine condc_t ?_
        | refine condc_f ?_
        | (refine aw_cond2 (by simp (config := {implicitDefEqProofs := false}) only [avl1, avl2, avl3, avl4, avl5, if_true, if_false, beq_self_eq_true, ne_eq, reduceCtorEq, ↓reduceIte, Nat.reduceAdd, Nat.reduceLT, Nat.reduceEqDiff, Nat.reduceLeDiff, List.cons_ne_nil, (show ((6 : Nat) : Int) = 6 from rfl), (show ((7 : Nat) : Int) = 7 from rfl), Int.reduceLT, Int.reduceLE, Int.reduceToNat]; rfl) ?_)
        | (refine gkc_fork ?_ ?_ <;> intro hq <;> (simp (config := {implicitDefEqProofs := false}) only [hq, avl1, avl2, avl3, avl4, avl5, if_true, if_false, beq_self_eq_true, ne_eq, reduceCtorEq, ↓reduceIte, Nat.reduceAdd, Nat.reduceLT, Nat.reduceEqDiff, Nat.reduceLeDiff, List.cons_ne_nil, (show ((6 : Nat) : Int) = 6 from rfl), (show ((7 : Nat) : Int) = 7 from rfl), Int.reduceLT, Int.reduceLE, Int.reduceToNat]))
        | (refine condc_fork ?_ ?_ <;> intro hq)
        | (refine gkc_split ?_ ?_ <;> intro hq <;> (simp (config := {implicitDefEqProofs := false}) only [hq, avl1, avl2, avl3, avl4, avl5, if_true, if_false, beq_self_eq_true, ne_eq, reduceCtorEq, ↓reduceIte, Nat.reduceAdd, Nat.reduceLT, Nat.reduceEqDiff, Nat.reduceLeDiff, List.cons_ne_nil, (show ((6 : Nat) : Int) = 6 from rfl), (show ((7 : Nat) : Int) = 7 from rfl), Int.reduceLT, Int.reduceLE, Int.reduceToNat]))
        | (refine condc_bool ?_ ?_ <;> intro hq))
      refine callc (pair_from_ac a b) (by simp [purL, pur, prA, hpp]) ?_
      try simp (config := {implicitDefEqProofs := false}) only [avl1, avl2, avl3, avl4, avl5, if_true, if_false, beq_self_eq_true, ne_eq, reduceCtorEq, ↓reduceIte, Nat.reduceAdd, Nat.reduceLT, Nat.reduceEqDiff, Nat.reduceLeDiff, List.cons_ne_nil]
      repeat' (first
        | (refine (hκ _).mpr ?_; clear hκ)
        | refine kn1 ?_
        | refine kr1 ?_
        | refine ke1 ?_
        | refine kn2 ?_
        | refine kr2 ?_
        | refine kx2 ?_
        | refine ke2 rfl ?_
        | refine kn3 ?_
        | refine kr3 ?_
        | refine ke3 ?_
        | refine w_seq ?_
        | refine w_block ?_
        | (refine aw_regk fun κ hκ => ?_; simp (config := {implicitDefEqProofs := false}) only [avl1, avl2, avl3, avl4, avl5, if_true, if_false, beq_self_eq_true, ne_eq, reduceCtorEq, ↓reduceIte, Nat.reduceAdd, Nat.reduceLT, Nat.reduceEqDiff, Nat.reduceLeDiff, List.cons_ne_nil])
        | refine aw_exit ?_
        | refine aw_ret ?_
        | refine aw_skip ?_
        | refine aw_label ?_
        | refine condc_t ?_
        | refine condc_f ?_
        | (refine aw_cond2 (by simp (config := {implicitDefEqProofs := false}) only [avl1, avl2, avl3, avl4, avl5, if_true, if_false, beq_self_eq_true, ne_eq, reduceCtorEq, ↓reduceIte, Nat.reduceAdd, Nat.reduceLT, Nat.reduceEqDiff, Nat.reduceLeDiff, List.cons_ne_nil]; rfl) ?_)
        | (refine gkc_fork ?_ ?_ <;> intro hq <;> (simp (config := {implicitDefEqProofs := false}) only [hq, avl1, avl2, avl3, avl4, avl5, if_true, if_false, beq_self_eq_true, ne_eq, reduceCtorEq, ↓reduceIte, Nat.reduceAdd, Nat.reduceLT, Nat.reduceEqDiff, Nat.reduceLeDiff, List.cons_ne_nil]))
        | (refine condc_fork ?_ ?_ <;> intro hq)
        | (refine gkc_split ?_ ?_ <;> intro hq <;> (simp (config := {implicitDefEqProofs := false}) only [hq, avl1, avl2, avl3, avl4, avl5, if_true, if_false, beq_self_eq_true, ne_eq, reduceCtorEq, ↓reduceIte, Nat.reduceAdd, Nat.reduceLT, Nat.reduceEqDiff, Nat.reduceLeDiff, List.cons_ne_nil]))
        | (refine condc_bool ?_ ?_ <;> intro hq))
      · exact ret_int rfl (cmps_stop hz rfl hq)
      · refine ⟨6 + 1, ⟨by omega, cmps_step hz rfl (Classical.not_not.1 hq)⟩, ⟨rfl, 0, [], rfl, Nat.zero_le _, ⟨?_, .same _ rfl, .same _ rfl, trivial⟩, trivial⟩, by omega⟩
        exact .same (.slice .full 1 [.fn 20 [prA a b], .fn 21 [prA a b], .fn 22 [prA a b], .fn 23 [prA a b], .fn 24 [prA a b], .fn 25 [prA a b], .fn 26 [prA a b]]) (okB_pur (by simp [pur, purL, prA, hpp]))
    · try simp (config := {implicitDefEqProofs := false}) only [avl1, avl2, avl3, avl4, avl5, if_true, if_false, beq_self_eq_true, ne_eq, reduceCtorEq, ↓reduceIte, Nat.reduceAdd, Nat.reduceLT, Nat.reduceEqDiff, Nat.reduceLeDiff, List.cons_ne_nil, (show ((7 : Nat) : Int) = 7 from rfl), Int.reduceLT]
      repeat' (first
        | (refine (hκ _).mpr ?_; clear hκ)
        | refine kn1 ?_
        | refine kr1 ?_
        | refine ke1 ?_
        | refine kn2 ?_
        | refine kr2 ?_
        | refine kx2 ?_
        | refine ke2 rfl ?_
        | refine kn3 ?_
        | refine kr3 ?_
        | refine ke3 ?_
        | refine w_seq ?_
        | refine w_block ?_
        | (refine aw_regk fun κ hκ => ?_; simp (config := {implicitDefEqProofs := false}) only [avl1, avl2, avl3, avl4, avl5, if_true, if_false, beq_self_eq_true, ne_eq, reduceCtorEq, ↓reduceIte, Nat.reduceAdd, Nat.reduceLT, Nat.reduceEqDiff, Nat.reduceLeDiff, List.cons_ne_nil, (show ((7 : Nat) : Int) = 7 from rfl), Int.reduceLT])
        | refine aw_exit ?_
        | refine aw_ret ?_
        | refine aw_skip ?_
        | refine aw_label ?_
        | refine condc_t ?_
        | refine condc_f ?_
        | (refine aw_cond2 (by simp (config := {implicitDefEqProofs := false}) only [avl1, avl2, avl3, avl4, avl5, if_true, if_false, beq_self_eq_true, ne_eq, reduceCtorEq, ↓reduceIte, Nat.reduceAdd, Nat.reduceLT, Nat.reduceEqDiff, Nat.reduceLeDiff, List.cons_ne_nil, (show ((7 : Nat) : Int) = 7 from rfl), Int.reduceLT]; rfl) ?_)
        | (refine gkc_fork ?_ ?_ <;> intro hq <;> (simp (config := {implicitDefEqProofs := false}) only [hq, avl1, avl2, avl3, avl4, avl5, if_true, if_false, beq_self_eq_true, ne_eq, reduceCtorEq, ↓reduceIte, Nat.reduceAdd, Nat.reduceLT, Nat.reduceEqDiff, Nat.reduceLeDiff, List.cons_ne_nil, (show ((7 : Nat) : Int) = 7 from rfl), Int.reduceLT]))
        | (refine condc_fork ?_ ?_ <;> intro hq)
        | (refine gkc_split ?_ ?_ <;> intro hq <;> (simp (config := {implicitDefEqProofs := false}) only [hq, avl1, avl2, avl3, avl4, avl5, if_true, if_false, beq_self_eq_true, ne_eq, reduceCtorEq, ↓reduceIte, Nat.reduceAdd, Nat.reduceLT, Nat.reduceEqDiff, Nat.reduceLeDiff, List.cons_ne_nil, (show ((7 : Nat) : Int) = 7 from rfl), Int.reduceLT]))
        | (refine condc_bool ?_ ?_ <;> intro hq))
      refine ret_int rfl ?_
      rw [compareR_cmps, firstNZ_zero hz]
      rfl
end Go.Proofs.Ytmlhbmlppgoklac
