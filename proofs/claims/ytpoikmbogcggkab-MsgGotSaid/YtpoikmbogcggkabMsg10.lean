/- The law MsgGot, whole. -/
import Derived.Test.YtpoikmbogcggkabMsg9
namespace Go.Proofs.Ytpoikmbogcggkab
open Go.RowKit
set_option maxHeartbeats 400000
set_option maxRecDepth 100000
set_option linter.unusedVariables false
set_option linter.unusedSimpArgs false

theorem got_ok (A : Option Addr) (n c : Nat) (l : List UInt8) (w0 : World) (h : RdB w0 A n c l) (hn : n ≤ 5000) (t : Int) (s : Nat) (body : List UInt8) (hk : OkS t s) (hs : s ≤ n) (hb : body.length = s - 19) (hg : getM l = ⟨t, body, s, 0, 0, []⟩) (hm : l.take s = msgL t body) :
    Calls Try.prog 4 #[.slice A n c] w0 fun e w' => e = .returned (.bool true) ∧ Below w0.heap.size w0 w' := by
  have hge : (19 : Int) ≤ s := by have := hk.ge; omega
  have hsn : (s : Int) ≤ n := by omega
  have hsc : (s : Int) ≤ c := by have := h.le; omega
  have h2 : ¬ (5000 : Int) < n := by omega
  have HSA := Lib.hid (sane_of_okS hk)
  have HA := Lib.hid h
  have HT := Lib.hid (h.take hs (by have := h.le; omega) (Nat.le_refl c))
  have HM := Lib.hid hm
  have HGG := Lib.hid hg
  have HBL := Lib.hid hb
  clear h hm hg hk hb
  go_enter Try.func4, Try.ntmps4
  go_wp2_with fail
  with_reducible refine (awake_any _).mono ?_
  rintro e w1 ⟨rfl, hb1⟩
  go_wp2_with fail
  have hget := get_any _ _ _ _ _ (HA.out.below hb1)
  rw [HGG.out] at hget
  with_reducible refine hget.mono ?_
  clear hget
  rintro e w2 ⟨_, rfl, ⟨A2, n2, c2, A3, n3, c3, rfl, hr2, hr3⟩, hb2⟩
  have HN2 := Lib.hid (show n2 = s - 19 from hr2.len.symm.trans HBL.out)
  have HB := Lib.hid (bstep hb1 hb2)
  have HR2 := Lib.hid hr2
  clear hr2 hr3 hb1 hb2
  go_wp2_with fail
  obtain ⟨W0, hW0⟩ : ∃ W0, W0 = (w2.alloc (.cells #[.int .i64 t, .slice A2 n2 c2] 24)).alloc (.cells #[.int .i64 0, .int .i64 0, .slice A3 n3 c3] 29) := ⟨_, rfl⟩
  rw [← hW0]
  have HMR := Lib.hid (show W0.heap[w2.heap.size]? = some (.cells #[.int .i64 t, .slice A2 n2 c2] 24 (0, 0)) by rw [hW0]; exact heap_alloc2_old _ _ _)
  have HW0 := Lib.hid (show Below w2.heap.size w2 W0 by rw [hW0]; exact balloc (bnew _ _) _)
  clear hW0
  have f6 := fun W (hC : Below W0.heap.size W0 W) => (HT.out.below (bstep HB.out (bstep HW0.out hC))).str
  refine wp_region_rel (by kernel_rfl) (by decide +kernel) (by rfl) ?_
  repeat (first
    | (refine rel_skip ⟨_, _, _, _, rfl, rfl, rfl, ?_⟩ ?_
       focus (intro h; cases h; done))
    | refine rel_move _ (Just _) (.inl rfl) (by first | exact .inl rfl | exact .inr ⟨_, _, _, rfl, rfl, rfl⟩) rfl (lasts_just _) ?_
    | refine rel_move _ (Just _) (.inr rfl) (by first | exact .inl rfl | exact .inr ⟨_, _, _, rfl, rfl, rfl⟩) rfl (lasts_just _) ?_
    | refine rel_moveC _ (.inl rfl) (by first | exact .inl rfl | exact .inr ⟨_, _, _, rfl, rfl, rfl⟩) ?_
    | refine rel_moveC _ (.inr rfl) (by first | exact .inl rfl | exact .inr ⟨_, _, _, rfl, rfl, rfl⟩) ?_
    | refine rel_str _ _ rfl (by first | exact .inl rfl | exact .inr ⟨_, _, _, rfl, rfl, rfl⟩) rfl ?_
    | refine rel_lenB _ _ rfl (by first | exact .inl rfl | exact .inr ⟨_, _, _, rfl, rfl, rfl⟩) rfl ?_
    | refine rel_move _ (IsB _) (.inl rfl) (by first | exact .inl rfl | exact .inr ⟨_, _, _, rfl, rfl, rfl⟩) rfl (lasts_isB _) ?_
    | refine rel_move _ (IsB _) (.inr rfl) (by first | exact .inl rfl | exact .inr ⟨_, _, _, rfl, rfl, rfl⟩) rfl (lasts_isB _) ?_
    | (refine rel_exact ?_ (by first | exact .inl rfl | exact .inr ⟨_, _, _, rfl, rfl, rfl⟩) ?_ ?_
       rotate_left
       (intro ρ W hρ hC hk
        simp [known, looks, Op.operands, Call.operands, slotFact, Just, List.lookup] at hk
        obtain ⟨hρ1, hρ2, hρ3⟩ := hρ
        go_simp
        rfl)))
  refine rel_loadRow 4 w2.heap.size 24 24 #[.int .i64 t, .slice A2 n2 c2] (0, 0) _ rfl (by first | exact .inl rfl | exact .inr ⟨_, _, _, rfl, rfl, rfl⟩) rfl Try.underlying24 rfl msgSize (fun W hC => row_to hC HMR.out) ?_
  refine rel_op (Just (.bool true)) (lasts_just _) (by first | exact .inl rfl | exact .inr ⟨_, _, _, rfl, rfl, rfl⟩) ?_ ?_
  · intro ρ W hρ hC hk
    simp [known, looks, Op.operands, Call.operands, slotFact, Just, List.lookup] at hk
    obtain ⟨hρ1, hρ2, hρ3⟩ := hρ
    go_simp
    refine ⟨Below.refl _ _, (sane_any _ _ _ _ _ (by have := HN2.out; omega)).mono ?_⟩
    rw [HN2.out, HSA.out]
    rintro e w3 ⟨rfl, hb3⟩
    exact ⟨_, rfl, rfl, hb3⟩
  repeat (first
    | (refine rel_skip ⟨_, _, _, _, rfl, rfl, rfl, ?_⟩ ?_
       focus (intro h; cases h; done))
    | refine rel_move _ (Just _) (.inl rfl) (by first | exact .inl rfl | exact .inr ⟨_, _, _, rfl, rfl, rfl⟩) rfl (lasts_just _) ?_
    | refine rel_move _ (Just _) (.inr rfl) (by first | exact .inl rfl | exact .inr ⟨_, _, _, rfl, rfl, rfl⟩) rfl (lasts_just _) ?_
    | refine rel_moveC _ (.inl rfl) (by first | exact .inl rfl | exact .inr ⟨_, _, _, rfl, rfl, rfl⟩) ?_
    | refine rel_moveC _ (.inr rfl) (by first | exact .inl rfl | exact .inr ⟨_, _, _, rfl, rfl, rfl⟩) ?_
    | refine rel_str _ _ rfl (by first | exact .inl rfl | exact .inr ⟨_, _, _, rfl, rfl, rfl⟩) rfl ?_
    | refine rel_lenB _ _ rfl (by first | exact .inl rfl | exact .inr ⟨_, _, _, rfl, rfl, rfl⟩) rfl ?_
    | refine rel_move _ (IsB _) (.inl rfl) (by first | exact .inl rfl | exact .inr ⟨_, _, _, rfl, rfl, rfl⟩) rfl (lasts_isB _) ?_
    | refine rel_move _ (IsB _) (.inr rfl) (by first | exact .inl rfl | exact .inr ⟨_, _, _, rfl, rfl, rfl⟩) rfl (lasts_isB _) ?_
    | (refine rel_exact ?_ (by first | exact .inl rfl | exact .inr ⟨_, _, _, rfl, rfl, rfl⟩) ?_ ?_
       rotate_left
       (intro ρ W hρ hC hk
        simp [known, looks, Op.operands, Call.operands, slotFact, Just, List.lookup] at hk
        obtain ⟨hρ1, hρ2, hρ3⟩ := hρ
        go_simp
        rfl)))
  refine rel_loadRow 4 w2.heap.size 24 24 #[.int .i64 t, .slice A2 n2 c2] (0, 0) _ rfl (by first | exact .inl rfl | exact .inr ⟨_, _, _, rfl, rfl, rfl⟩) rfl Try.underlying24 rfl msgSize (fun W hC => row_to hC HMR.out) ?_
  refine rel_op (IsB (l.take s)) (lasts_isB _) (by first | exact .inl rfl | exact .inr ⟨_, _, _, rfl, rfl, rfl⟩) ?_ ?_
  · intro ρ W hρ hC hk
    simp [known, looks, Op.operands, Call.operands, slotFact, Just, List.lookup] at hk
    obtain ⟨hρ1, hρ2, hρ3⟩ := hρ
    go_simp
    refine ⟨Below.refl _ _, ?_⟩
    rw [HM.out]
    exact mput_yes none 0 0 [] t A2 n2 c2 body W (RdB.nil _) (HR2.out.below (bstep HW0.out hC)) (by omega) (by have := HN2.out; omega) (by rw [HN2.out]; exact HSA.out)
  repeat (first
    | (refine rel_skip ⟨_, _, _, _, rfl, rfl, rfl, ?_⟩ ?_
       focus (intro h; cases h; done))
    | refine rel_move _ (Just _) (.inl rfl) (by first | exact .inl rfl | exact .inr ⟨_, _, _, rfl, rfl, rfl⟩) rfl (lasts_just _) ?_
    | refine rel_move _ (Just _) (.inr rfl) (by first | exact .inl rfl | exact .inr ⟨_, _, _, rfl, rfl, rfl⟩) rfl (lasts_just _) ?_
    | refine rel_moveC _ (.inl rfl) (by first | exact .inl rfl | exact .inr ⟨_, _, _, rfl, rfl, rfl⟩) ?_
    | refine rel_moveC _ (.inr rfl) (by first | exact .inl rfl | exact .inr ⟨_, _, _, rfl, rfl, rfl⟩) ?_
    | refine rel_str _ _ rfl (by first | exact .inl rfl | exact .inr ⟨_, _, _, rfl, rfl, rfl⟩) rfl ?_
    | refine rel_lenB _ _ rfl (by first | exact .inl rfl | exact .inr ⟨_, _, _, rfl, rfl, rfl⟩) rfl ?_
    | refine rel_move _ (IsB _) (.inl rfl) (by first | exact .inl rfl | exact .inr ⟨_, _, _, rfl, rfl, rfl⟩) rfl (lasts_isB _) ?_
    | refine rel_move _ (IsB _) (.inr rfl) (by first | exact .inl rfl | exact .inr ⟨_, _, _, rfl, rfl, rfl⟩) rfl (lasts_isB _) ?_
    | (refine rel_exact ?_ (by first | exact .inl rfl | exact .inr ⟨_, _, _, rfl, rfl, rfl⟩) ?_ ?_
       rotate_left
       (intro ρ W hρ hC hk
        simp [known, looks, Op.operands, Call.operands, slotFact, Just, List.lookup] at hk
        obtain ⟨hρ1, hρ2, hρ3⟩ := hρ
        go_simp
        rfl)))
  refine rel_nil ?_
  intro a W hC hd hsz ht
  refine fin_exit hsz hd ht (of_decide_eq_true (by kernel_rfl)) ?_
  repeat (first
    | refine fin_just ?_
    | (intro _ _))
  refine fin_nil ?_
  simp only [Act.put, Option.getD_some, List.setIfInBounds_toArray, List.set_cons_zero, List.set_cons_succ]
  clear hd hsz ht
  go_wp2
  go_ret
  exact ⟨rfl, bstep HB.out (bstep HW0.out hC)⟩

theorem msgGot_law (w0 : World) (A : Option Addr) (n c : Nat) (l : List UInt8) (h : RdB w0 A n c l) :
    Calls Try.prog 4 #[.slice A n c] w0 fun e w' => e = .returned (.bool true) ∧ Below w0.heap.size w0 w' := by
  have hl := h.len
  by_cases hn : n ≤ 5000
  · rcases getM_cases l with ⟨h1, h2⟩ | ⟨s, d, h1, h2, h3⟩ | ⟨t, s, h1, h2, h3, h4⟩
    · exact got_none A n c l w0 h (by omega) h1
    · exact got_bad A n c l w0 h hn (by omega) s d h1 h3
    · exact got_ok A n c l w0 h hn t s _ h1 (by omega) (by rw [List.length_drop, List.length_take]; omega) h3 h4
  · have h1 : (5000 : Int) < n := by omega
    clear hn h hl
    go_enter Try.func4, Try.ntmps4
    go_wp2_with fail
    with_reducible refine (awake_any _).mono ?_
    rintro e w1 ⟨rfl, hb1⟩
    go_wp2
    go_ret
    exact ⟨rfl, hb1⟩
end Go.Proofs.Ytpoikmbogcggkab
