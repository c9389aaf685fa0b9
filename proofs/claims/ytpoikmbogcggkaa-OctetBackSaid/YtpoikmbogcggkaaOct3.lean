/- Bytes as strings; the document's examples of layer 1 hold. -/
import Derived.Test.YtpoikmbogcggkaaOct2
import Derived.Test.YtpoikmbogcggkaaBytes
import Derived.Laws.BytesArg
import Derived.Deep.RegionWith
import Derived.Deep.RegionHeld3
namespace Go.Proofs.Ytpoikmbogcggkaa
open Go.RowKit
set_option maxHeartbeats 400000
set_option linter.unusedVariables false
set_option linter.unusedSimpArgs false

theorem put_isB (A : Option Addr) (n c : Nat) (l : List UInt8) (v : Int) (k : Nat) (w : World) (h : RdB w A n c l) (h1 : 1 ≤ k) (h4 : k ≤ 4) (hn : n ≤ 140737488355000) :
    Calls Try.prog 13 #[.slice A n c, .int .i64 v, .int .i64 k] w (Ret (IsB (l ++ putL v k)) w) :=
  (put_yes A n c l v k w h h1 h4 hn).mono fun e w' ⟨A', c', he, ho, hb⟩ => ⟨_, he, ⟨_, _, _, rfl, rdB_of_own ho⟩, hb⟩

theorem awake_any (w : World) : Calls Try.prog 8 #[] w fun e w' => e = .returned (.bool true) ∧ Below w.heap.size w w' := by
  have hn1 : RdB (w.alloc (.cells #[.int .u8 1, .int .u8 2, .int .u8 9] 5)) (some ⟨w.heap.size, 0, none⟩) 3 3 [1, 2, 9] := by
    refine ⟨rfl, Nat.le_refl _, by unfold maxLen; omega, .inr ⟨_, _, rfl, fun j hj => ?_⟩⟩
    rw [cell_of_row _ _ _ _ _ _ (heap_alloc_new w _)]
    match j, hj with
    | 0, _ => rfl
    | 1, _ => rfl
    | 2, _ => rfl
  go_enter Try.func8, Try.ntmps8
  go_wp2_with fail
  refine (get_yes _ _ _ _ 2 _ hn1 (by omega) (by omega) (by omega)).mono ?_
  rintro e w1 ⟨A1, c1, rfl, hr1, hb1⟩
  have hn2 : RdB (w1.alloc (.cells #[.int .u8 7, .int .u8 8] 5)) (some ⟨w1.heap.size, 0, none⟩) 2 2 [7, 8] := by
    refine ⟨rfl, Nat.le_refl _, by unfold maxLen; omega, .inr ⟨_, _, rfl, fun j hj => ?_⟩⟩
    rw [cell_of_row _ _ _ _ _ _ (heap_alloc_new w1 _)]
    match j, hj with
    | 0, _ => rfl
    | 1, _ => rfl
  go_wp2_with fail
  refine (take_yes _ _ _ _ 1 _ hn2 (by omega)).mono ?_
  rintro e w2 ⟨A2, c2, rfl, hr2, hr3, hb2⟩
  have hb2' : Below w1.heap.size w1 w2 := bstep (bnew _ _) hb2
  have hr1' := hr1.below hb2'
  obtain ⟨b2, o2, hA2, hc2⟩ := hr2.at_ (k := 0) (by omega)
  injection hA2 with e2
  injection e2 with e2 e3
  subst e2 e3
  obtain ⟨b1, o1, rfl, hc1⟩ := hr1'.at_ (k := 0) (by omega)
  have k1 := hc1 0 (by simp)
  have k2 := hc2 0 (by simp)
  simp at k1 k2
  clear hc1 hc2
  go_wp2_with fail
  refine (put_yes _ _ _ _ 258 2 _ (RdB.nil _) (by omega) (by omega) (by omega)).mono ?_
  rintro e w3 ⟨A3, c3, rfl, ho3, hb3⟩
  have hs := (rdB_of_own ho3).str
  have e1 : putL 258 2 = [1, 2] := by decide +kernel
  rw [e1] at hs
  simp only [str, List.nil_append] at hs
  have e0 : num [1, 2] = 258 := by decide
  have k1' := (hb3.cell (p := ⟨b1, o1, none⟩) (World.block_lt_of_cell? _ _ k1)).trans k1
  have k2' := (hb3.cell (p := ⟨w1.heap.size, 0, none⟩) (World.block_lt_of_cell? _ _ k2)).trans k2
  go_wp2
  go_ret
  exact ⟨rfl, bstep (bnew _ _) (bstep hb1 (bstep hb2' hb3))⟩

theorem octAt_div (v : Int) (i j : Nat) : octAt (v / 2 ^ (8 * i)) j = octAt v (i + j) := by
  unfold octAt
  rw [Int.ediv_ediv, if_neg (by have := Int.pow_pos (n := 2) (m := 8 * i) (by decide); omega), Int.sub_zero, ← Int.pow_add, Nat.mul_add]
theorem putL_4 (v : Int) : [] ++ putL v 4 = [] ++ putL (v / 65536) 2 ++ putL v 2 := by
  have h := octAt_div v 2
  rw [show (2 : Int) ^ (8 * 2) = 65536 by decide] at h
  simp [putL, List.range_succ, h]
theorem putL_3 (v : Int) : putL v 3 = [] ++ putL (v / 65536) 1 ++ putL (v / 256) 1 ++ putL v 1 := by
  have h := octAt_div v 2
  have h' := octAt_div v 1
  rw [show (2 : Int) ^ (8 * 2) = 65536 by decide] at h
  rw [show (2 : Int) ^ (8 * 1) = 256 by decide] at h'
  simp [putL, List.range_succ, h, h']

theorem split_law (w : World) (v : Int) (hv : -9223372036854775808 ≤ v ∧ v ≤ 9223372036854775807) : Calls Try.prog 6 #[.int .i64 v] w fun e w' => e = .returned (.bool true) ∧ Below w.heap.size w w' := by
  have hnil := fun W : World => RdB.nil W
  go_enter Try.func6, Try.ntmps6
  go_wp2_with fail
  refine (awake_any _).mono ?_
  rintro e w0 ⟨rfl, hb0⟩
  go_wp2_with fail
  refine (put_yes _ _ _ _ v 4 _ (RdB.nil _) (by omega) (by omega) (by omega)).mono ?_
  rintro e w1 ⟨A1, c1, rfl, ho1, hb1⟩
  go_wp2_with fail
  refine (put_yes _ _ _ _ _ 2 _ (RdB.nil _) (by omega) (by omega) (by omega)).mono ?_
  rintro e w2 ⟨A2, c2, rfl, ho2, hb2⟩
  go_wp2_with fail
  refine (put_yes _ _ _ _ _ 2 _ (rdB_of_own ho2) (by omega) (by omega) (by omega)).mono ?_
  rintro e w3 ⟨A3, c3, rfl, ho3, hb3⟩
  go_wp2_with fail
  refine (put_yes _ _ _ _ _ 1 _ (RdB.nil _) (by omega) (by omega) (by omega)).mono ?_
  rintro e w4 ⟨A4, c4, rfl, ho4, hb4⟩
  go_wp2_with fail
  refine (put_yes _ _ _ _ _ 1 _ (rdB_of_own ho4) (by omega) (by omega) (by omega)).mono ?_
  rintro e w5 ⟨A5, c5, rfl, ho5, hb5⟩
  go_wp2_with fail
  refine (put_yes _ _ _ _ _ 1 _ (rdB_of_own ho5) (by omega) (by omega) (by omega)).mono ?_
  rintro e w6 ⟨A6, c6, rfl, ho6, hb6⟩
  go_wp2_with fail
  have hx := fun W (h : Below w6.heap.size w6 W) => ((rdB_of_own ho1).below (bstep hb2 (bstep hb3 (bstep hb4 (bstep hb5 (bstep hb6 h)))))).str
  have hy := fun W (h : Below w6.heap.size w6 W) => ((rdB_of_own ho3).below (bstep hb4 (bstep hb5 (bstep hb6 h)))).str
  have hz := fun W (h : Below w6.heap.size w6 W) => ((rdB_of_own ho6).below h).str
  have HB := Lib.hid (bstep hb0 (bstep hb1 (bstep hb2 (bstep hb3 (bstep hb4 (bstep hb5 hb6))))))
  have e1 : [] ++ putL v 4 = [] ++ putL (v / 65536) 2 ++ putL v 2 := putL_4 v
  have e2 : putL v 3 = [] ++ putL (v / 65536) 1 ++ putL (v / 256) 1 ++ putL v 1 := putL_3 v
  rw [e1] at hx
  rw [← e2] at hz
  simp only [Nat.zero_add] at hx hy hz
  generalize str ([] ++ putL (v / 65536) 2 ++ putL v 2) = S at *
  clear ho1 ho2 ho3 ho4 ho5 ho6 hb1 hb2 hb3 hb4 hb5 e1 e2 hnil
  refine wp_region_rel (by kernel_rfl) (by decide +kernel) (by rfl) ?_
  repeat (first
    | (refine rel_skip ⟨_, _, _, _, rfl, rfl, rfl, ?_⟩ ?_
       focus (intro h; cases h; done))
    | refine rel_move _ (Just _) (.inl rfl) (by first | exact .inl rfl | exact .inr ⟨_, _, _, rfl, rfl, rfl⟩) rfl (lasts_just _) ?_
    | refine rel_move _ (Just _) (.inr rfl) (by first | exact .inl rfl | exact .inr ⟨_, _, _, rfl, rfl, rfl⟩) rfl (lasts_just _) ?_
    | refine rel_moveC _ (.inl rfl) (by first | exact .inl rfl | exact .inr ⟨_, _, _, rfl, rfl, rfl⟩) ?_
    | refine rel_moveC _ (.inr rfl) (by first | exact .inl rfl | exact .inr ⟨_, _, _, rfl, rfl, rfl⟩) ?_
    | refine rel_str _ _ rfl (by first | exact .inl rfl | exact .inr ⟨_, _, _, rfl, rfl, rfl⟩) rfl ?_
    | refine rel_lenB _ _ rfl (by first | exact .inl rfl | exact .inr ⟨_, _, _, rfl, rfl, rfl⟩) rfl ?_
    | refine rel_move _ (IsB _) (.inl rfl) (by first | exact .inl rfl | exact .inr ⟨_, _, _, rfl, rfl, rfl⟩) rfl (lasts_isB _) ?_
    | refine rel_move _ (IsB _) (.inr rfl) (by first | exact .inl rfl | exact .inr ⟨_, _, _, rfl, rfl, rfl⟩) rfl (lasts_isB _) ?_
    | (refine rel_exact ?_ (by first | exact .inl rfl | exact .inr ⟨_, _, _, rfl, rfl, rfl⟩) ?_ ?_
       rotate_left
       (intro ρ W hρ hC hk
        simp [known, looks, Op.operands, Call.operands, slotFact, Just, List.lookup] at hk
        obtain ⟨hρ1, hρ2, hρ3⟩ := hρ
        go_simp
        rfl)))
  refine rel_op (IsB ([] ++ putL v 3)) (lasts_isB _) (by first | exact .inl rfl | exact .inr ⟨_, _, _, rfl, rfl, rfl⟩) ?_ ?_
  · intro ρ W hρ hC hk
    simp [known, looks, Op.operands, Call.operands, slotFact, Just, List.lookup] at hk
    obtain ⟨hρ1, hρ2, hρ3⟩ := hρ
    go_simp
    exact ⟨Below.refl _ _, put_isB _ _ _ _ _ 3 _ (RdB.nil _) (by omega) (by omega) (by omega)⟩
  repeat (first
    | (refine rel_skip ⟨_, _, _, _, rfl, rfl, rfl, ?_⟩ ?_
       focus (intro h; cases h; done))
    | refine rel_move _ (Just _) (.inl rfl) (by first | exact .inl rfl | exact .inr ⟨_, _, _, rfl, rfl, rfl⟩) rfl (lasts_just _) ?_
    | refine rel_move _ (Just _) (.inr rfl) (by first | exact .inl rfl | exact .inr ⟨_, _, _, rfl, rfl, rfl⟩) rfl (lasts_just _) ?_
    | refine rel_moveC _ (.inl rfl) (by first | exact .inl rfl | exact .inr ⟨_, _, _, rfl, rfl, rfl⟩) ?_
    | refine rel_moveC _ (.inr rfl) (by first | exact .inl rfl | exact .inr ⟨_, _, _, rfl, rfl, rfl⟩) ?_
    | refine rel_str _ _ rfl (by first | exact .inl rfl | exact .inr ⟨_, _, _, rfl, rfl, rfl⟩) rfl ?_
    | refine rel_lenB _ _ rfl (by first | exact .inl rfl | exact .inr ⟨_, _, _, rfl, rfl, rfl⟩) rfl ?_
    | refine rel_move _ (IsB _) (.inl rfl) (by first | exact .inl rfl | exact .inr ⟨_, _, _, rfl, rfl, rfl⟩) rfl (lasts_isB _) ?_
    | refine rel_move _ (IsB _) (.inr rfl) (by first | exact .inl rfl | exact .inr ⟨_, _, _, rfl, rfl, rfl⟩) rfl (lasts_isB _) ?_
    | (refine rel_exact ?_ (by first | exact .inl rfl | exact .inr ⟨_, _, _, rfl, rfl, rfl⟩) ?_ ?_
       rotate_left
       (intro ρ W hρ hC hk
        simp [known, looks, Op.operands, Call.operands, slotFact, Just, List.lookup] at hk
        obtain ⟨hρ1, hρ2, hρ3⟩ := hρ
        go_simp
        rfl)))
  refine rel_nil ?_
  intro a W hC hd hsz ht
  have h2 := ht 2
  simp [slotFact, Just, List.lookup] at h2
  clear ht
  go_wp2
  refine bodyPost_ret (results_tmp rfl _ _ _) hd ⟨by rw [Array.getD_eq_getD_getElem?, h2], ?_⟩
  exact bstep HB.out hC
end Go.Proofs.Ytpoikmbogcggkaa
