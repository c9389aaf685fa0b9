/- The law MsgIs. -/
import Derived.Test.YtpoikmbogcggkaaMsg15
namespace Go.Proofs.Ytpoikmbogcggkaa
open Go.RowKit
set_option maxHeartbeats 400000
set_option maxRecDepth 100000
set_option linter.unusedVariables false
set_option linter.unusedSimpArgs false

theorem mis_main (w0 : World) (A : Option Addr) (n c : Nat) (l : List UInt8) (h : RdB w0 A n c l) (t : Int) (B : Option Addr) (m d : Nat) (body : List UInt8) (k : RdB w0 B m d body) (kind : Int) (hn : n ≤ 5000) (hm : m ≤ 5000) :
    Calls Try.prog 7 #[.slice A n c, .agg #[.int .i64 t, .slice B m d], .int .i64 kind] w0 fun e w' => e = .returned (.bool true) ∧ Below w0.heap.size w0 w' := by
  have h1 : ¬ (5000 : Int) < n := by omega
  have h2 : ¬ (5000 : Int) < m := by omega
  have HA := Lib.hid h
  have HK := Lib.hid k
  have HN := Lib.hid (show n ≤ 5000 ∧ m ≤ 5000 from ⟨hn, hm⟩)
  obtain ⟨g, hg⟩ : ∃ g, getM l = g := ⟨_, rfl⟩
  have HG := Lib.hid hg
  clear h k hn hm hg
  go_enter Try.func7, Try.ntmps7
  go_wp2_with fail
  with_reducible refine (awake_any _).mono ?_
  rintro e w1 ⟨rfl, hb1⟩
  have HR1 := Lib.hid (row_to hb1 (heap_alloc_new w0 (.cells #[.int .i64 t, .slice B m d] 35)))
  obtain ⟨q0, q1⟩ := row2 HR1.out
  have z1 := row_lt HR1.out
  have HB1 := Lib.hid (bstep (bnew w0 _) hb1)
  clear hb1
  go_wp2_with fail
  have hget := get_any _ _ _ _ _ (HA.out.below HB1.out)
  rw [HG.out] at hget
  with_reducible refine hget.mono ?_
  clear hget
  rintro e w2 ⟨_, rfl, ⟨A2, n2, c2, A3, n3, c3, rfl, hr2, hr3⟩, hb2⟩
  have hB3 := bstep hb2 (balloc (bnew w2 (.cells #[.int .i64 g.kind, .slice A2 n2 c2] 35)) (.cells #[.int .i64 g.code, .int .i64 g.sub, .slice A3 n3 c3] 37))
  have HR2 := Lib.hid (hr2.below (balloc (bnew w2 (.cells #[.int .i64 g.kind, .slice A2 n2 c2] 35)) (.cells #[.int .i64 g.code, .int .i64 g.sub, .slice A3 n3 c3] 37)))
  have HR3 := Lib.hid (hr3.below (balloc (bnew w2 (.cells #[.int .i64 g.kind, .slice A2 n2 c2] 35)) (.cells #[.int .i64 g.code, .int .i64 g.sub, .slice A3 n3 c3] 37)))
  have HS1 := Lib.hid (row_to hB3 HR1.out)
  have HS2 := Lib.hid (heap_alloc2_old w2 (.cells #[.int .i64 g.kind, .slice A2 n2 c2] 35) (.cells #[.int .i64 g.code, .int .i64 g.sub, .slice A3 n3 c3] 37))
  have HS3 := Lib.hid (heap_alloc2_new w2 (.cells #[.int .i64 g.kind, .slice A2 n2 c2] 35) (.cells #[.int .i64 g.code, .int .i64 g.sub, .slice A3 n3 c3] 37))
  have HB3 := Lib.hid (bstep HB1.out hB3)
  have HA3 := Lib.hid (HA.out.below HB3.out)
  clear hr2 hr3 hb2 hB3 q0 q1 z1
  have hget := rget_any _ _ _ _ _ HA3.out (by have := HN.out.1; omega)
  rw [HG.out] at hget
  go_wp2_with fail
  with_reducible refine hget.mono ?_
  clear hget
  rintro e w4 ⟨_, rfl, ⟨A4, n4, c4, A5, n5, c5, rfl, hr4, hr5⟩, hb4⟩
  have hB5 := bstep hb4 (balloc (bnew w4 (.cells #[.int .i64 g.kind, .slice A4 n4 c4] 35)) (.cells #[.int .i64 g.code, .int .i64 g.sub, .slice A5 n5 c5] 37))
  have HR4 := Lib.hid (hr4.below (balloc (bnew w4 (.cells #[.int .i64 g.kind, .slice A4 n4 c4] 35)) (.cells #[.int .i64 g.code, .int .i64 g.sub, .slice A5 n5 c5] 37)))
  have HR5 := Lib.hid (hr5.below (balloc (bnew w4 (.cells #[.int .i64 g.kind, .slice A4 n4 c4] 35)) (.cells #[.int .i64 g.code, .int .i64 g.sub, .slice A5 n5 c5] 37)))
  have HQ1 := Lib.hid (row_to hB5 HS1.out)
  have HQ2 := Lib.hid (row_to hB5 HS2.out)
  have HQ3 := Lib.hid (row_to hB5 HS3.out)
  have HQ4 := Lib.hid (heap_alloc2_old w4 (.cells #[.int .i64 g.kind, .slice A4 n4 c4] 35) (.cells #[.int .i64 g.code, .int .i64 g.sub, .slice A5 n5 c5] 37))
  have HQ5 := Lib.hid (heap_alloc2_new w4 (.cells #[.int .i64 g.kind, .slice A4 n4 c4] 35) (.cells #[.int .i64 g.code, .int .i64 g.sub, .slice A5 n5 c5] 37))
  have HT2 := Lib.hid (HR2.out.below hB5)
  have HT3 := Lib.hid (HR3.out.below hB5)
  have HB5 := Lib.hid (bstep HB3.out hB5)
  clear hr4 hr5 hb4 hB5
  go_wp2_with fail
  generalize hW : (w4.alloc (.cells #[.int .i64 g.kind, .slice A4 n4 c4] 35)).alloc (.cells #[.int .i64 g.code, .int .i64 g.sub, .slice A5 n5 c5] 37) = W5
  rw [hW] at HR4 HR5 HQ1 HQ2 HQ3 HQ4 HQ5 HT2 HT3 HB5
  clear hW
  refine wp_region_rel (by kernel_rfl) (by decide +kernel) (by rfl) ?_
  repeat (first
    | (refine rel_skip ⟨_, _, _, _, rfl, rfl, rfl, ?_⟩ ?_
       focus (intro h; cases h; done))
    | refine rel_move _ (Just _) (.inl rfl) (by first | exact .inl rfl | exact .inr ⟨_, _, _, rfl, rfl, rfl⟩) rfl (lasts_just _) ?_
    | refine rel_move _ (Just _) (.inr rfl) (by first | exact .inl rfl | exact .inr ⟨_, _, _, rfl, rfl, rfl⟩) rfl (lasts_just _) ?_
    | refine rel_moveC _ (.inl rfl) (by first | exact .inl rfl | exact .inr ⟨_, _, _, rfl, rfl, rfl⟩) ?_
    | refine rel_moveC _ (.inr rfl) (by first | exact .inl rfl | exact .inr ⟨_, _, _, rfl, rfl, rfl⟩) ?_
    | refine rel_str _ _ rfl (by first | exact .inl rfl | exact .inr ⟨_, _, _, rfl, rfl, rfl⟩) rfl ?_
    | refine rel_lenB _ _ rfl (by first | exact .inl rfl | exact .inr ⟨_, _, _, rfl, rfl, rfl⟩) rfl ?_
    | refine rel_move _ (IsB _) (.inl rfl) (by first | exact .inl rfl | exact .inr ⟨_, _, _, rfl, rfl, rfl⟩) rfl (lasts_isB _) ?_
    | refine rel_move _ (IsB _) (.inr rfl) (by first | exact .inl rfl | exact .inr ⟨_, _, _, rfl, rfl, rfl⟩) rfl (lasts_isB _) ?_
    | (refine rel_exact ?_ (by first | exact .inl rfl | exact .inr ⟨_, _, _, rfl, rfl, rfl⟩) ?_ ?_
       rotate_left
       (intro ρ W hρ hC hk
        simp [known, looks, Op.operands, Call.operands, slotFact, Just, List.lookup] at hk
        obtain ⟨hρ1, hρ2, hρ3⟩ := hρ
        go_simp
        rfl)))
  refine rel_loadRow 8 w2.heap.size 35 35 #[.int .i64 g.kind, .slice A2 n2 c2] (0, 0) _ rfl (by first | exact .inl rfl | exact .inr ⟨_, _, _, rfl, rfl, rfl⟩) rfl Try.underlying35 rfl msgSize (fun W hC => row_to hC HQ2.out) ?_
  refine rel_loadRow 11 w4.heap.size 35 35 #[.int .i64 g.kind, .slice A4 n4 c4] (0, 0) _ rfl (by first | exact .inl rfl | exact .inr ⟨_, _, _, rfl, rfl, rfl⟩) rfl Try.underlying35 rfl msgSize (fun W hC => row_to hC HQ4.out) ?_
  refine rel_op (Just (.bool true)) (lasts_just _) (by first | exact .inl rfl | exact .inr ⟨_, _, _, rfl, rfl, rfl⟩) ?_ ?_
  · intro ρ W hρ hC hk
    simp [known, looks, Op.operands, Call.operands, slotFact, Just, List.lookup] at hk
    obtain ⟨hρ1, hρ2, hρ3⟩ := hρ
    go_simp
    refine ⟨Below.refl _ _, (same_yes _ _ _ _ _ _ _ g.body W (HT2.out.below hC) (HR4.out.below hC)).mono ?_⟩
    rintro e w' ⟨rfl, hb⟩
    exact ⟨_, rfl, rfl, hb⟩
  repeat (first
    | (refine rel_skip ⟨_, _, _, _, rfl, rfl, rfl, ?_⟩ ?_
       focus (intro h; cases h; done))
    | refine rel_move _ (Just _) (.inl rfl) (by first | exact .inl rfl | exact .inr ⟨_, _, _, rfl, rfl, rfl⟩) rfl (lasts_just _) ?_
    | refine rel_move _ (Just _) (.inr rfl) (by first | exact .inl rfl | exact .inr ⟨_, _, _, rfl, rfl, rfl⟩) rfl (lasts_just _) ?_
    | refine rel_moveC _ (.inl rfl) (by first | exact .inl rfl | exact .inr ⟨_, _, _, rfl, rfl, rfl⟩) ?_
    | refine rel_moveC _ (.inr rfl) (by first | exact .inl rfl | exact .inr ⟨_, _, _, rfl, rfl, rfl⟩) ?_
    | refine rel_str _ _ rfl (by first | exact .inl rfl | exact .inr ⟨_, _, _, rfl, rfl, rfl⟩) rfl ?_
    | refine rel_lenB _ _ rfl (by first | exact .inl rfl | exact .inr ⟨_, _, _, rfl, rfl, rfl⟩) rfl ?_
    | refine rel_move _ (IsB _) (.inl rfl) (by first | exact .inl rfl | exact .inr ⟨_, _, _, rfl, rfl, rfl⟩) rfl (lasts_isB _) ?_
    | refine rel_move _ (IsB _) (.inr rfl) (by first | exact .inl rfl | exact .inr ⟨_, _, _, rfl, rfl, rfl⟩) rfl (lasts_isB _) ?_
    | (refine rel_exact ?_ (by first | exact .inl rfl | exact .inr ⟨_, _, _, rfl, rfl, rfl⟩) ?_ ?_
       rotate_left
       (intro ρ W hρ hC hk
        simp [known, looks, Op.operands, Call.operands, slotFact, Just, List.lookup] at hk
        obtain ⟨hρ1, hρ2, hρ3⟩ := hρ
        go_simp
        rfl)))
  refine rel_loadRow 10 (w2.heap.size + 1) 37 37 #[.int .i64 g.code, .int .i64 g.sub, .slice A3 n3 c3] (0, 0) _ rfl (by first | exact .inl rfl | exact .inr ⟨_, _, _, rfl, rfl, rfl⟩) rfl Try.underlying37 rfl noteSize (fun W hC => row_to hC HQ3.out) ?_
  refine rel_loadRow 13 (w4.heap.size + 1) 37 37 #[.int .i64 g.code, .int .i64 g.sub, .slice A5 n5 c5] (0, 0) _ rfl (by first | exact .inl rfl | exact .inr ⟨_, _, _, rfl, rfl, rfl⟩) rfl Try.underlying37 rfl noteSize (fun W hC => row_to hC HQ5.out) ?_
  refine rel_op (Just (.bool true)) (lasts_just _) (by first | exact .inl rfl | exact .inr ⟨_, _, _, rfl, rfl, rfl⟩) ?_ ?_
  · intro ρ W hρ hC hk
    simp [known, looks, Op.operands, Call.operands, slotFact, Just, List.lookup] at hk
    obtain ⟨hρ1, hρ2, hρ3⟩ := hρ
    go_simp
    refine ⟨Below.refl _ _, (sameNote_yes _ _ _ _ _ _ _ _ g.data W (HT3.out.below hC) (HR5.out.below hC)).mono ?_⟩
    rintro e w' ⟨rfl, hb⟩
    exact ⟨_, rfl, rfl, hb⟩
  repeat (first
    | (refine rel_skip ⟨_, _, _, _, rfl, rfl, rfl, ?_⟩ ?_
       focus (intro h; cases h; done))
    | refine rel_move _ (Just _) (.inl rfl) (by first | exact .inl rfl | exact .inr ⟨_, _, _, rfl, rfl, rfl⟩) rfl (lasts_just _) ?_
    | refine rel_move _ (Just _) (.inr rfl) (by first | exact .inl rfl | exact .inr ⟨_, _, _, rfl, rfl, rfl⟩) rfl (lasts_just _) ?_
    | refine rel_moveC _ (.inl rfl) (by first | exact .inl rfl | exact .inr ⟨_, _, _, rfl, rfl, rfl⟩) ?_
    | refine rel_moveC _ (.inr rfl) (by first | exact .inl rfl | exact .inr ⟨_, _, _, rfl, rfl, rfl⟩) ?_
    | refine rel_str _ _ rfl (by first | exact .inl rfl | exact .inr ⟨_, _, _, rfl, rfl, rfl⟩) rfl ?_
    | refine rel_lenB _ _ rfl (by first | exact .inl rfl | exact .inr ⟨_, _, _, rfl, rfl, rfl⟩) rfl ?_
    | refine rel_move _ (IsB _) (.inl rfl) (by first | exact .inl rfl | exact .inr ⟨_, _, _, rfl, rfl, rfl⟩) rfl (lasts_isB _) ?_
    | refine rel_move _ (IsB _) (.inr rfl) (by first | exact .inl rfl | exact .inr ⟨_, _, _, rfl, rfl, rfl⟩) rfl (lasts_isB _) ?_
    | (refine rel_exact ?_ (by first | exact .inl rfl | exact .inr ⟨_, _, _, rfl, rfl, rfl⟩) ?_ ?_
       rotate_left
       (intro ρ W hρ hC hk
        simp [known, looks, Op.operands, Call.operands, slotFact, Just, List.lookup] at hk
        obtain ⟨hρ1, hρ2, hρ3⟩ := hρ
        go_simp
        rfl)))
  refine rel_op (Just (.int .i64 (leastZ kind))) (lasts_just _) (by first | exact .inl rfl | exact .inr ⟨_, _, _, rfl, rfl, rfl⟩) ?_ ?_
  · intro ρ W hρ hC hk
    simp [known, looks, Op.operands, Call.operands, slotFact, Just, List.lookup] at hk
    obtain ⟨hρ1, hρ2, hρ3⟩ := hρ
    go_simp
    refine ⟨Below.refl _ _, (least_any _ _).mono ?_⟩
    rintro e w' ⟨rfl, rfl⟩
    exact ⟨_, rfl, rfl, Below.refl _ _⟩
  repeat (first
    | (refine rel_skip ⟨_, _, _, _, rfl, rfl, rfl, ?_⟩ ?_
       focus (intro h; cases h; done))
    | refine rel_move _ (Just _) (.inl rfl) (by first | exact .inl rfl | exact .inr ⟨_, _, _, rfl, rfl, rfl⟩) rfl (lasts_just _) ?_
    | refine rel_move _ (Just _) (.inr rfl) (by first | exact .inl rfl | exact .inr ⟨_, _, _, rfl, rfl, rfl⟩) rfl (lasts_just _) ?_
    | refine rel_moveC _ (.inl rfl) (by first | exact .inl rfl | exact .inr ⟨_, _, _, rfl, rfl, rfl⟩) ?_
    | refine rel_moveC _ (.inr rfl) (by first | exact .inl rfl | exact .inr ⟨_, _, _, rfl, rfl, rfl⟩) ?_
    | refine rel_str _ _ rfl (by first | exact .inl rfl | exact .inr ⟨_, _, _, rfl, rfl, rfl⟩) rfl ?_
    | refine rel_lenB _ _ rfl (by first | exact .inl rfl | exact .inr ⟨_, _, _, rfl, rfl, rfl⟩) rfl ?_
    | refine rel_move _ (IsB _) (.inl rfl) (by first | exact .inl rfl | exact .inr ⟨_, _, _, rfl, rfl, rfl⟩) rfl (lasts_isB _) ?_
    | refine rel_move _ (IsB _) (.inr rfl) (by first | exact .inl rfl | exact .inr ⟨_, _, _, rfl, rfl, rfl⟩) rfl (lasts_isB _) ?_
    | (refine rel_exact ?_ (by first | exact .inl rfl | exact .inr ⟨_, _, _, rfl, rfl, rfl⟩) ?_ ?_
       rotate_left
       (intro ρ W hρ hC hk
        simp [known, looks, Op.operands, Call.operands, slotFact, Just, List.lookup] at hk
        obtain ⟨hρ1, hρ2, hρ3⟩ := hρ
        go_simp
        rfl)))
  refine rel_op (Just (.int .i64 (leastZ kind))) (lasts_just _) (by first | exact .inl rfl | exact .inr ⟨_, _, _, rfl, rfl, rfl⟩) ?_ ?_
  · intro ρ W hρ hC hk
    simp [known, looks, Op.operands, Call.operands, slotFact, Just, List.lookup] at hk
    obtain ⟨hρ1, hρ2, hρ3⟩ := hρ
    go_simp
    refine ⟨Below.refl _ _, (rleast_any _ _).mono ?_⟩
    rintro e w' ⟨rfl, rfl⟩
    exact ⟨_, rfl, rfl, Below.refl _ _⟩
  repeat (first
    | (refine rel_skip ⟨_, _, _, _, rfl, rfl, rfl, ?_⟩ ?_
       focus (intro h; cases h; done))
    | refine rel_move _ (Just _) (.inl rfl) (by first | exact .inl rfl | exact .inr ⟨_, _, _, rfl, rfl, rfl⟩) rfl (lasts_just _) ?_
    | refine rel_move _ (Just _) (.inr rfl) (by first | exact .inl rfl | exact .inr ⟨_, _, _, rfl, rfl, rfl⟩) rfl (lasts_just _) ?_
    | refine rel_moveC _ (.inl rfl) (by first | exact .inl rfl | exact .inr ⟨_, _, _, rfl, rfl, rfl⟩) ?_
    | refine rel_moveC _ (.inr rfl) (by first | exact .inl rfl | exact .inr ⟨_, _, _, rfl, rfl, rfl⟩) ?_
    | refine rel_str _ _ rfl (by first | exact .inl rfl | exact .inr ⟨_, _, _, rfl, rfl, rfl⟩) rfl ?_
    | refine rel_lenB _ _ rfl (by first | exact .inl rfl | exact .inr ⟨_, _, _, rfl, rfl, rfl⟩) rfl ?_
    | refine rel_move _ (IsB _) (.inl rfl) (by first | exact .inl rfl | exact .inr ⟨_, _, _, rfl, rfl, rfl⟩) rfl (lasts_isB _) ?_
    | refine rel_move _ (IsB _) (.inr rfl) (by first | exact .inl rfl | exact .inr ⟨_, _, _, rfl, rfl, rfl⟩) rfl (lasts_isB _) ?_
    | (refine rel_exact ?_ (by first | exact .inl rfl | exact .inr ⟨_, _, _, rfl, rfl, rfl⟩) ?_ ?_
       rotate_left
       (intro ρ W hρ hC hk
        simp [known, looks, Op.operands, Call.operands, slotFact, Just, List.lookup] at hk
        obtain ⟨hρ1, hρ2, hρ3⟩ := hρ
        go_simp
        rfl)))
  refine rel_loadRow 4 w0.heap.size 35 35 #[.int .i64 t, .slice B m d] (0, 0) _ rfl (by first | exact .inl rfl | exact .inr ⟨_, _, _, rfl, rfl, rfl⟩) rfl Try.underlying35 rfl msgSize (fun W hC => row_to hC HQ1.out) ?_
  refine rel_op (Just (.bool (saneB t m))) (lasts_just _) (by first | exact .inl rfl | exact .inr ⟨_, _, _, rfl, rfl, rfl⟩) ?_ ?_
  · intro ρ W hρ hC hk
    simp [known, looks, Op.operands, Call.operands, slotFact, Just, List.lookup] at hk
    obtain ⟨hρ1, hρ2, hρ3⟩ := hρ
    go_simp
    refine ⟨Below.refl _ _, (sane_any _ _ _ _ _ (by have := HN.out.2; omega)).mono ?_⟩
    rintro e w' ⟨rfl, hb⟩
    exact ⟨_, rfl, rfl, hb⟩
  refine rel_loadRow 4 w0.heap.size 35 35 #[.int .i64 t, .slice B m d] (0, 0) _ rfl (by first | exact .inl rfl | exact .inr ⟨_, _, _, rfl, rfl, rfl⟩) rfl Try.underlying35 rfl msgSize (fun W hC => row_to hC HQ1.out) ?_
  refine rel_op (Just (.bool (saneB t m))) (lasts_just _) (by first | exact .inl rfl | exact .inr ⟨_, _, _, rfl, rfl, rfl⟩) ?_ ?_
  · intro ρ W hρ hC hk
    simp [known, looks, Op.operands, Call.operands, slotFact, Just, List.lookup] at hk
    obtain ⟨hρ1, hρ2, hρ3⟩ := hρ
    go_simp
    refine ⟨Below.refl _ _, (rsane_any _ _ _ _ _ (by have := HN.out.2; omega)).mono ?_⟩
    rintro e w' ⟨rfl, hb⟩
    exact ⟨_, rfl, rfl, hb⟩
  repeat (first
    | (refine rel_skip ⟨_, _, _, _, rfl, rfl, rfl, ?_⟩ ?_
       focus (intro h; cases h; done))
    | refine rel_move _ (Just _) (.inl rfl) (by first | exact .inl rfl | exact .inr ⟨_, _, _, rfl, rfl, rfl⟩) rfl (lasts_just _) ?_
    | refine rel_move _ (Just _) (.inr rfl) (by first | exact .inl rfl | exact .inr ⟨_, _, _, rfl, rfl, rfl⟩) rfl (lasts_just _) ?_
    | refine rel_moveC _ (.inl rfl) (by first | exact .inl rfl | exact .inr ⟨_, _, _, rfl, rfl, rfl⟩) ?_
    | refine rel_moveC _ (.inr rfl) (by first | exact .inl rfl | exact .inr ⟨_, _, _, rfl, rfl, rfl⟩) ?_
    | refine rel_str _ _ rfl (by first | exact .inl rfl | exact .inr ⟨_, _, _, rfl, rfl, rfl⟩) rfl ?_
    | refine rel_lenB _ _ rfl (by first | exact .inl rfl | exact .inr ⟨_, _, _, rfl, rfl, rfl⟩) rfl ?_
    | refine rel_move _ (IsB _) (.inl rfl) (by first | exact .inl rfl | exact .inr ⟨_, _, _, rfl, rfl, rfl⟩) rfl (lasts_isB _) ?_
    | refine rel_move _ (IsB _) (.inr rfl) (by first | exact .inl rfl | exact .inr ⟨_, _, _, rfl, rfl, rfl⟩) rfl (lasts_isB _) ?_
    | (refine rel_exact ?_ (by first | exact .inl rfl | exact .inr ⟨_, _, _, rfl, rfl, rfl⟩) ?_ ?_
       rotate_left
       (intro ρ W hρ hC hk
        simp [known, looks, Op.operands, Call.operands, slotFact, Just, List.lookup] at hk
        obtain ⟨hρ1, hρ2, hρ3⟩ := hρ
        go_simp
        rfl)))
  refine rel_loadRow 4 w0.heap.size 35 35 #[.int .i64 t, .slice B m d] (0, 0) _ rfl (by first | exact .inl rfl | exact .inr ⟨_, _, _, rfl, rfl, rfl⟩) rfl Try.underlying35 rfl msgSize (fun W hC => row_to hC HQ1.out) ?_
  refine rel_op (IsB (mputL l t body)) (lasts_isB _) (by first | exact .inl rfl | exact .inr ⟨_, _, _, rfl, rfl, rfl⟩) ?_ ?_
  · intro ρ W hρ hC hk
    simp [known, looks, Op.operands, Call.operands, slotFact, Just, List.lookup] at hk
    obtain ⟨hρ1, hρ2, hρ3⟩ := hρ
    go_simp
    exact ⟨Below.refl _ _, mput_any _ _ _ _ _ _ _ _ _ W (HA.out.below (bstep HB5.out hC)) (HK.out.below (bstep HB5.out hC)) (by have := HN.out.1; omega) (by have := HN.out.2; omega)⟩
  repeat (first
    | (refine rel_skip ⟨_, _, _, _, rfl, rfl, rfl, ?_⟩ ?_
       focus (intro h; cases h; done))
    | refine rel_move _ (Just _) (.inl rfl) (by first | exact .inl rfl | exact .inr ⟨_, _, _, rfl, rfl, rfl⟩) rfl (lasts_just _) ?_
    | refine rel_move _ (Just _) (.inr rfl) (by first | exact .inl rfl | exact .inr ⟨_, _, _, rfl, rfl, rfl⟩) rfl (lasts_just _) ?_
    | refine rel_moveC _ (.inl rfl) (by first | exact .inl rfl | exact .inr ⟨_, _, _, rfl, rfl, rfl⟩) ?_
    | refine rel_moveC _ (.inr rfl) (by first | exact .inl rfl | exact .inr ⟨_, _, _, rfl, rfl, rfl⟩) ?_
    | refine rel_str _ _ rfl (by first | exact .inl rfl | exact .inr ⟨_, _, _, rfl, rfl, rfl⟩) rfl ?_
    | refine rel_lenB _ _ rfl (by first | exact .inl rfl | exact .inr ⟨_, _, _, rfl, rfl, rfl⟩) rfl ?_
    | refine rel_move _ (IsB _) (.inl rfl) (by first | exact .inl rfl | exact .inr ⟨_, _, _, rfl, rfl, rfl⟩) rfl (lasts_isB _) ?_
    | refine rel_move _ (IsB _) (.inr rfl) (by first | exact .inl rfl | exact .inr ⟨_, _, _, rfl, rfl, rfl⟩) rfl (lasts_isB _) ?_
    | (refine rel_exact ?_ (by first | exact .inl rfl | exact .inr ⟨_, _, _, rfl, rfl, rfl⟩) ?_ ?_
       rotate_left
       (intro ρ W hρ hC hk
        simp [known, looks, Op.operands, Call.operands, slotFact, Just, List.lookup] at hk
        obtain ⟨hρ1, hρ2, hρ3⟩ := hρ
        go_simp
        rfl)))
  refine rel_loadRow 4 w0.heap.size 35 35 #[.int .i64 t, .slice B m d] (0, 0) _ rfl (by first | exact .inl rfl | exact .inr ⟨_, _, _, rfl, rfl, rfl⟩) rfl Try.underlying35 rfl msgSize (fun W hC => row_to hC HQ1.out) ?_
  refine rel_op (IsB (mputL l t body)) (lasts_isB _) (by first | exact .inl rfl | exact .inr ⟨_, _, _, rfl, rfl, rfl⟩) ?_ ?_
  · intro ρ W hρ hC hk
    simp [known, looks, Op.operands, Call.operands, slotFact, Just, List.lookup] at hk
    obtain ⟨hρ1, hρ2, hρ3⟩ := hρ
    go_simp
    exact ⟨Below.refl _ _, rput_any _ _ _ _ _ _ _ _ _ W (HA.out.below (bstep HB5.out hC)) (HK.out.below (bstep HB5.out hC)) (by have := HN.out.1; omega) (by have := HN.out.2; omega)⟩
  repeat (first
    | (refine rel_skip ⟨_, _, _, _, rfl, rfl, rfl, ?_⟩ ?_
       focus (intro h; cases h; done))
    | refine rel_move _ (Just _) (.inl rfl) (by first | exact .inl rfl | exact .inr ⟨_, _, _, rfl, rfl, rfl⟩) rfl (lasts_just _) ?_
    | refine rel_move _ (Just _) (.inr rfl) (by first | exact .inl rfl | exact .inr ⟨_, _, _, rfl, rfl, rfl⟩) rfl (lasts_just _) ?_
    | refine rel_moveC _ (.inl rfl) (by first | exact .inl rfl | exact .inr ⟨_, _, _, rfl, rfl, rfl⟩) ?_
    | refine rel_moveC _ (.inr rfl) (by first | exact .inl rfl | exact .inr ⟨_, _, _, rfl, rfl, rfl⟩) ?_
    | refine rel_str _ _ rfl (by first | exact .inl rfl | exact .inr ⟨_, _, _, rfl, rfl, rfl⟩) rfl ?_
    | refine rel_lenB _ _ rfl (by first | exact .inl rfl | exact .inr ⟨_, _, _, rfl, rfl, rfl⟩) rfl ?_
    | refine rel_move _ (IsB _) (.inl rfl) (by first | exact .inl rfl | exact .inr ⟨_, _, _, rfl, rfl, rfl⟩) rfl (lasts_isB _) ?_
    | refine rel_move _ (IsB _) (.inr rfl) (by first | exact .inl rfl | exact .inr ⟨_, _, _, rfl, rfl, rfl⟩) rfl (lasts_isB _) ?_
    | (refine rel_exact ?_ (by first | exact .inl rfl | exact .inr ⟨_, _, _, rfl, rfl, rfl⟩) ?_ ?_
       rotate_left
       (intro ρ W hρ hC hk
        simp [known, looks, Op.operands, Call.operands, slotFact, Just, List.lookup] at hk
        obtain ⟨hρ1, hρ2, hρ3⟩ := hρ
        go_simp
        rfl)))
  refine rel_nil ?_
  intro a W hC hd hsz ht
  refine fin_exit hsz hd ht (of_decide_eq_true (by kernel_rfl)) ?_
  repeat (first
    | refine fin_just ?_
    | (intro _ _))
  refine fin_nil ?_
  simp only [Act.put, Option.getD_some, List.setIfInBounds_toArray, List.set_cons_zero, List.set_cons_succ]
  clear hd hsz ht
  go_wp2
  go_ret
  exact ⟨rfl, bstep HB5.out hC⟩

theorem msgIs_law (w0 : World) (A : Option Addr) (n c : Nat) (l : List UInt8) (h : RdB w0 A n c l) (t : Int) (B : Option Addr) (m d : Nat) (body : List UInt8) (k : RdB w0 B m d body) (kind : Int) :
    Calls Try.prog 7 #[.slice A n c, .agg #[.int .i64 t, .slice B m d], .int .i64 kind] w0 fun e w' => e = .returned (.bool true) ∧ Below w0.heap.size w0 w' := by
  by_cases hn : n ≤ 5000
  · by_cases hm : m ≤ 5000
    · exact mis_main w0 A n c l h t B m d body k kind hn hm
    · have h1 : ¬ (5000 : Int) < n := by omega
      have h2 : (5000 : Int) < m := by omega
      clear hn hm h k
      go_enter Try.func7, Try.ntmps7
      go_wp2_with fail
      with_reducible refine (awake_any _).mono ?_
      rintro e w1 ⟨rfl, hb1⟩
      obtain ⟨q0, q1⟩ := row2 (row_to hb1 (heap_alloc_new w0 _))
      go_wp2
      go_ret
      exact ⟨rfl, bstep (bnew w0 _) hb1⟩
  · have h1 : (5000 : Int) < n := by omega
    clear hn h k
    go_enter Try.func7, Try.ntmps7
    go_wp2_with fail
    with_reducible refine (awake_any _).mono ?_
    rintro e w1 ⟨rfl, hb1⟩
    obtain ⟨q0, q1⟩ := row2 (row_to hb1 (heap_alloc_new w0 _))
    go_wp2
    go_ret
    exact ⟨rfl, bstep (bnew w0 _) hb1⟩
end Go.Proofs.Ytpoikmbogcggkaa
