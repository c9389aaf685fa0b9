/- The walk of NoteIs. -/
import Derived.Test.YtmkpkbigceinfaaDoorNote11
import Derived.Test.YtmkpkbigceinfaaDoorNote13
namespace Go.Proofs.YtmkpkbigceinfaaDoor
open Go.RowKit
set_option maxHeartbeats 4000000
set_option maxRecDepth 100000
set_option linter.unusedVariables false
set_option linter.unusedSimpArgs false

theorem noteIs_any (w : World) (ht : Tab w) (c s : Int) (A : Option Addr) (n k : Nat) (l : List UInt8) (h : RdB w A n k l) (bc : -9223372036854775808 ≤ c ∧ c ≤ 9223372036854775807) (bs : -9223372036854775808 ≤ s ∧ s ≤ 9223372036854775807)
    (t : Int) (B : Option Addr) (m j : Nat) (r : List UInt8) (h2 : RdB w B m j r) (a : Int) (ba : -9223372036854775808 ≤ a ∧ a ≤ 9223372036854775807) (b : Int) (bb : -9223372036854775808 ≤ b ∧ b ≤ 9223372036854775807) :
    Calls Tryd.prog 3 #[.agg #[.int .i64 c, .int .i64 s, .slice A n k], .agg #[.int .i64 t, .slice B m j], .int .i64 a, .int .i64 b] w fun e w' => e = .returned (.bool true) ∧ Below w.heap.size w w' := by
  have N1 := Lib.hid fun (W : World) (hW : Tab W) => name_any c s A n k W hW bc.1 bc.2 bs.1 bs.2
  have N2 := Lib.hid fun (W : World) => rname_any c s A n k W bc.1 bc.2 bs.1 bs.2
  obtain ⟨X, hX⟩ : ∃ X, str (nameL c s) = X := ⟨_, rfl⟩
  rw [hX] at N1 N2
  have HT := Lib.hid ht
  have HA := Lib.hid h
  have HM := Lib.hid h2
  have hln := h.len
  have hlm := h2.len
  have hmx := h.max
  have hmx2 := h2.max
  have hlek := h.le
  have hlej := h2.le
  unfold maxLen at hmx hmx2
  clear bc bs ba bb ht h h2 hX
  have HLN := Lib.hid hln
  have HLM := Lib.hid hlm
  clear hln hlm
  by_cases hbig : 5001 ≤ n ∨ 5001 ≤ m
  · have hcase : (5001 ≤ n) ∨ (n ≤ 5000 ∧ 5001 ≤ m) := by omega
    clear hbig
    rcases hcase with h1 | ⟨h1, h2⟩
    · have i1 : decide ((5000 : Int) < n) = true := decide_eq_true (by omega)
      clear h1 hmx hmx2 hlek hlej
      go_enter Tryd.func3, Tryd.ntmps3
      go_wp2_with fail
      with_reducible refine (awake_any _ (HT.out.below (balloc (bnew w _) _))).mono ?_
      rintro e w1 ⟨rfl, hb1⟩
      have hg1 := (hb1.block w.heap.size (by simp; omega)).trans (heap_alloc2_old w _ _)
      obtain ⟨⟨p0, p1, p2⟩, o0, o1, o2⟩ := own3_cells hg1
      clear hg1
      go_wp2
      go_ret
      exact ⟨rfl, bstep (balloc (bnew w _) _) hb1⟩
    · have i1 : decide ((5000 : Int) < n) = false := decide_eq_false (by omega)
      have i2 : decide ((5000 : Int) < m) = true := decide_eq_true (by omega)
      clear h1 h2 hmx hmx2 hlek hlej
      go_enter Tryd.func3, Tryd.ntmps3
      go_wp2_with fail
      with_reducible refine (awake_any _ (HT.out.below (balloc (bnew w _) _))).mono ?_
      rintro e w1 ⟨rfl, hb1⟩
      have hg1 := (hb1.block w.heap.size (by simp; omega)).trans (heap_alloc2_old w _ _)
      have hg2 := (hb1.block (w.heap.size + 1) (by simp)).trans (heap_alloc2_new w _ _)
      obtain ⟨⟨p0, p1, p2⟩, o0, o1, o2⟩ := own3_cells hg1
      obtain ⟨⟨q0, q1⟩, r0, r1⟩ := row2_cells hg2
      clear hg1 hg2
      go_wp2
      go_ret
      exact ⟨rfl, bstep (balloc (bnew w _) _) hb1⟩
  · have hn5 : n ≤ 5000 := by omega
    have hm5 : m ≤ 5000 := by omega
    have i1 : decide ((5000 : Int) < n) = false := decide_eq_false (by omega)
    have i2 : decide ((5000 : Int) < m) = false := decide_eq_false (by omega)
    clear hbig hmx hmx2 hlek hlej
    obtain ⟨S, hS⟩ : ∃ S, nsaneB c s n = S := ⟨_, rfl⟩
    have HS := Lib.hid hS
    obtain ⟨K, hK⟩ : ∃ K, knownB a b = K := ⟨_, rfl⟩
    have HK := Lib.hid hK
    obtain ⟨g, hg⟩ : ∃ g, noteG t r = g := ⟨_, rfl⟩
    have HGG := Lib.hid hg
    obtain ⟨G1, G2, G3, G4⟩ := g
    have hputs : ∃ (ty : Int) (body : List UInt8), (∀ W, RdB W A n k l → Calls Tryd.prog 14 #[.agg #[.int .i64 c, .int .i64 s, .slice A n k]] W (Ret (IsMsg ty body) W)) ∧
        (∀ W, RdB W A n k l → Calls Tryd.prog 15 #[.agg #[.int .i64 c, .int .i64 s, .slice A n k]] W (Ret (IsMsg ty body) W)) := by
      cases S
      · refine ⟨0, [], fun W hW => (nput_no c s A n k W (by omega) hS).mono ?_, fun W hW => (rnput_no c s A n k W (by omega) hS).mono ?_⟩
        all_goals
          rintro e w' ⟨rfl, hb⟩
          exact ⟨_, rfl, ⟨_, _, _, rfl, RdB.nil _⟩, hb⟩
      · exact ⟨3, _, fun W hW => nput_yes c s A n k l W hW hS, fun W hW => rnput_yes c s A n k l W hW hS⟩
    obtain ⟨ty, body, hp1, hp2⟩ := hputs
    have HP1 := Lib.hid hp1
    have HP2 := Lib.hid hp2
    clear hS hK hg hp1 hp2
    go_enter Tryd.func3, Tryd.ntmps3
    go_wp2_with fail
    with_reducible refine (awake_any _ (HT.out.below (balloc (bnew w _) _))).mono ?_
    rintro e w1 ⟨rfl, hb1⟩
    have hg1 := (hb1.block w.heap.size (by simp; omega)).trans (heap_alloc2_old w _ _)
    have hg2 := (hb1.block (w.heap.size + 1) (by simp)).trans (heap_alloc2_new w _ _)
    obtain ⟨⟨p0, p1, p2⟩, o0, o1, o2⟩ := own3_cells hg1
    obtain ⟨⟨q0, q1⟩, r0, r1⟩ := row2_cells hg2
    have R1 := Lib.hid hg1
    have R2 := Lib.hid hg2
    have HB1 := Lib.hid (bstep (balloc (bnew w _) _) hb1)
    clear hg1 hg2 hb1
    go_wp2_with fail
    with_reducible refine (nget_any t B m j r w1 (HM.out.below HB1.out) (by omega)).mono ?_
    rw [HGG.out]
    rintro e w2 ⟨_, rfl, ⟨A2, n2, c2, rfl, hr2⟩, hb2⟩
    have R1a := Lib.hid (row_to hb2 R1.out)
    have R2a := Lib.hid (row_to hb2 R2.out)
    have HB2 := Lib.hid (bstep HB1.out hb2)
    have H2 := Lib.hid hr2
    clear p0 p1 p2 o0 o1 o2 q0 q1 r0 r1 R1 R2 hr2 hb2
    obtain ⟨q0, q1⟩ := row2 R2a.out
    have z1 := row_lt R2a.out
    go_wp2_with fail
    with_reducible refine (rnget_any t B m j r _ (HM.out.below (balloc HB2.out _))).mono ?_
    rw [HGG.out]
    rintro e w3 ⟨_, rfl, ⟨A3, n3, c3, rfl, hr3⟩, hb3⟩
    have R1b := Lib.hid (row_to hb3 (fresh_row R1a.out _))
    have R3 := Lib.hid ((hb3.block w2.heap.size (by simp)).trans (heap_alloc_new w2 _))
    have HB3 := Lib.hid (bstep (balloc HB2.out _) hb3)
    have H2a := Lib.hid (H2.out.below (bstep (bnew w2 _) hb3))
    have H3 := Lib.hid hr3
    clear hr3 hb3 q0 q1 z1
    go_wp2_with fail
    have R4 := Lib.hid (heap_alloc_new w3 (.cells #[.int .i64 G1, .int .i64 G2, .slice A3 n3 c3] 24))
    have R1c := Lib.hid (fresh_row R1b.out (.cells #[.int .i64 G1, .int .i64 G2, .slice A3 n3 c3] 24))
    have R3a := Lib.hid (fresh_row R3.out (.cells #[.int .i64 G1, .int .i64 G2, .slice A3 n3 c3] 24))
    have HB4 := Lib.hid (bnew w3 (.cells #[.int .i64 G1, .int .i64 G2, .slice A3 n3 c3] 24))
    generalize w3.alloc (.cells #[.int .i64 G1, .int .i64 G2, .slice A3 n3 c3] 24) = W0 at *
    have HB5 := Lib.hid (bstep HB3.out HB4.out)
    refine wp_region_rel (by kernel_rfl) (by decide +kernel) (by rfl) ?_
    repeat (first
      | (refine rel_skip ⟨_, _, _, _, rfl, rfl, rfl, ?_⟩ ?_
         focus (intro h; cases h; done))
      | refine rel_move _ (Just _) (.inl rfl) (by first | exact .inl rfl | exact .inr ⟨_, _, _, rfl, rfl, rfl⟩) rfl (lasts_just _) ?_
      | refine rel_move _ (Just _) (.inr rfl) (by first | exact .inl rfl | exact .inr ⟨_, _, _, rfl, rfl, rfl⟩) rfl (lasts_just _) ?_
      | refine rel_moveC _ (.inl rfl) (by first | exact .inl rfl | exact .inr ⟨_, _, _, rfl, rfl, rfl⟩) ?_
      | refine rel_moveC _ (.inr rfl) (by first | exact .inl rfl | exact .inr ⟨_, _, _, rfl, rfl, rfl⟩) ?_
      | refine rel_str _ _ rfl (by first | exact .inl rfl | exact .inr ⟨_, _, _, rfl, rfl, rfl⟩) rfl ?_
      | refine rel_lenB _ _ rfl (by first | exact .inl rfl | exact .inr ⟨_, _, _, rfl, rfl, rfl⟩) rfl ?_
      | refine rel_move _ (IsB _) (.inl rfl) (by first | exact .inl rfl | exact .inr ⟨_, _, _, rfl, rfl, rfl⟩) rfl (lasts_isB _) ?_
      | refine rel_move _ (IsB _) (.inr rfl) (by first | exact .inl rfl | exact .inr ⟨_, _, _, rfl, rfl, rfl⟩) rfl (lasts_isB _) ?_
      | (refine rel_exact ?_ (by first | exact .inl rfl | exact .inr ⟨_, _, _, rfl, rfl, rfl⟩) ?_ ?_
         rotate_left
         (intro ρ W hρ hC hk
          simp [known, looks, Op.operands, Call.operands, slotFact, Just, List.lookup] at hk
          obtain ⟨hρ1, hρ2, hρ3⟩ := hρ
          go_simp
          rfl)))
    refine rel_loadRow 10 w2.heap.size 24 24 #[.int .i64 G1, .int .i64 G2, .slice A2 n2 c2] (0, 0) _ rfl (by first | exact .inl rfl | exact .inr ⟨_, _, _, rfl, rfl, rfl⟩) rfl Tryd.underlying24 rfl noteSize (fun W hC => row_to hC R3a.out) ?_
    refine rel_loadRow 12 w3.heap.size 24 24 #[.int .i64 G1, .int .i64 G2, .slice A3 n3 c3] (0, 0) _ rfl (by first | exact .inl rfl | exact .inr ⟨_, _, _, rfl, rfl, rfl⟩) rfl Tryd.underlying24 rfl noteSize (fun W hC => row_to hC R4.out) ?_
    refine rel_op (Just (.bool true)) (lasts_just _) (by first | exact .inl rfl | exact .inr ⟨_, _, _, rfl, rfl, rfl⟩) ?_ ?_
    · intro ρ W hρ hC hk
      simp [known, looks, Op.operands, Call.operands, slotFact, Just, List.lookup] at hk
      obtain ⟨hρ1, hρ2, hρ3⟩ := hρ
      go_simp
      refine ⟨Below.refl _ _, (sameNote_yes _ _ _ _ _ _ _ _ G3 W (H2a.out.below (bstep HB4.out hC)) (H3.out.below (bstep HB4.out hC))).mono ?_⟩
      rintro e w' ⟨rfl, hb⟩
      exact ⟨_, rfl, rfl, hb⟩
    repeat (first
      | (refine rel_skip ⟨_, _, _, _, rfl, rfl, rfl, ?_⟩ ?_
         focus (intro h; cases h; done))
      | refine rel_move _ (Just _) (.inl rfl) (by first | exact .inl rfl | exact .inr ⟨_, _, _, rfl, rfl, rfl⟩) rfl (lasts_just _) ?_
      | refine rel_move _ (Just _) (.inr rfl) (by first | exact .inl rfl | exact .inr ⟨_, _, _, rfl, rfl, rfl⟩) rfl (lasts_just _) ?_
      | refine rel_moveC _ (.inl rfl) (by first | exact .inl rfl | exact .inr ⟨_, _, _, rfl, rfl, rfl⟩) ?_
      | refine rel_moveC _ (.inr rfl) (by first | exact .inl rfl | exact .inr ⟨_, _, _, rfl, rfl, rfl⟩) ?_
      | refine rel_str _ _ rfl (by first | exact .inl rfl | exact .inr ⟨_, _, _, rfl, rfl, rfl⟩) rfl ?_
      | refine rel_lenB _ _ rfl (by first | exact .inl rfl | exact .inr ⟨_, _, _, rfl, rfl, rfl⟩) rfl ?_
      | refine rel_move _ (IsB _) (.inl rfl) (by first | exact .inl rfl | exact .inr ⟨_, _, _, rfl, rfl, rfl⟩) rfl (lasts_isB _) ?_
      | refine rel_move _ (IsB _) (.inr rfl) (by first | exact .inl rfl | exact .inr ⟨_, _, _, rfl, rfl, rfl⟩) rfl (lasts_isB _) ?_
      | (refine rel_exact ?_ (by first | exact .inl rfl | exact .inr ⟨_, _, _, rfl, rfl, rfl⟩) ?_ ?_
         rotate_left
         (intro ρ W hρ hC hk
          simp [known, looks, Op.operands, Call.operands, slotFact, Just, List.lookup] at hk
          obtain ⟨hρ1, hρ2, hρ3⟩ := hρ
          go_simp
          rfl)))
    refine rel_loadRow 4 w.heap.size 24 24 #[.int .i64 c, .int .i64 s, .slice A n k] (0, 0) _ rfl (by first | exact .inl rfl | exact .inr ⟨_, _, _, rfl, rfl, rfl⟩) rfl Tryd.underlying24 rfl noteSize (fun W hC => row_to hC R1c.out) ?_
    refine rel_op (Just (.bool S)) (lasts_just _) (by first | exact .inl rfl | exact .inr ⟨_, _, _, rfl, rfl, rfl⟩) ?_ ?_
    · intro ρ W hρ hC hk
      simp [known, looks, Op.operands, Call.operands, slotFact, Just, List.lookup] at hk
      obtain ⟨hρ1, hρ2, hρ3⟩ := hρ
      go_simp
      refine ⟨Below.refl _ _, (nsane_any _ _ _ _ _ _ (by omega)).mono ?_⟩
      rw [HS.out]
      rintro e w' ⟨rfl, hb⟩
      exact ⟨_, rfl, rfl, hb⟩
    refine rel_loadRow 4 w.heap.size 24 24 #[.int .i64 c, .int .i64 s, .slice A n k] (0, 0) _ rfl (by first | exact .inl rfl | exact .inr ⟨_, _, _, rfl, rfl, rfl⟩) rfl Tryd.underlying24 rfl noteSize (fun W hC => row_to hC R1c.out) ?_
    refine rel_op (Just (.bool S)) (lasts_just _) (by first | exact .inl rfl | exact .inr ⟨_, _, _, rfl, rfl, rfl⟩) ?_ ?_
    · intro ρ W hρ hC hk
      simp [known, looks, Op.operands, Call.operands, slotFact, Just, List.lookup] at hk
      obtain ⟨hρ1, hρ2, hρ3⟩ := hρ
      go_simp
      refine ⟨Below.refl _ _, (rnsane_any _ _ _ _ _ _ (by omega)).mono ?_⟩
      rw [HS.out]
      rintro e w' ⟨rfl, hb⟩
      exact ⟨_, rfl, rfl, hb⟩
    repeat (first
      | (refine rel_skip ⟨_, _, _, _, rfl, rfl, rfl, ?_⟩ ?_
         focus (intro h; cases h; done))
      | refine rel_move _ (Just _) (.inl rfl) (by first | exact .inl rfl | exact .inr ⟨_, _, _, rfl, rfl, rfl⟩) rfl (lasts_just _) ?_
      | refine rel_move _ (Just _) (.inr rfl) (by first | exact .inl rfl | exact .inr ⟨_, _, _, rfl, rfl, rfl⟩) rfl (lasts_just _) ?_
      | refine rel_moveC _ (.inl rfl) (by first | exact .inl rfl | exact .inr ⟨_, _, _, rfl, rfl, rfl⟩) ?_
      | refine rel_moveC _ (.inr rfl) (by first | exact .inl rfl | exact .inr ⟨_, _, _, rfl, rfl, rfl⟩) ?_
      | refine rel_str _ _ rfl (by first | exact .inl rfl | exact .inr ⟨_, _, _, rfl, rfl, rfl⟩) rfl ?_
      | refine rel_lenB _ _ rfl (by first | exact .inl rfl | exact .inr ⟨_, _, _, rfl, rfl, rfl⟩) rfl ?_
      | refine rel_move _ (IsB _) (.inl rfl) (by first | exact .inl rfl | exact .inr ⟨_, _, _, rfl, rfl, rfl⟩) rfl (lasts_isB _) ?_
      | refine rel_move _ (IsB _) (.inr rfl) (by first | exact .inl rfl | exact .inr ⟨_, _, _, rfl, rfl, rfl⟩) rfl (lasts_isB _) ?_
      | (refine rel_exact ?_ (by first | exact .inl rfl | exact .inr ⟨_, _, _, rfl, rfl, rfl⟩) ?_ ?_
         rotate_left
         (intro ρ W hρ hC hk
          simp [known, looks, Op.operands, Call.operands, slotFact, Just, List.lookup] at hk
          obtain ⟨hρ1, hρ2, hρ3⟩ := hρ
          go_simp
          rfl)))
    refine rel_loadRow 4 w.heap.size 24 24 #[.int .i64 c, .int .i64 s, .slice A n k] (0, 0) _ rfl (by first | exact .inl rfl | exact .inr ⟨_, _, _, rfl, rfl, rfl⟩) rfl Tryd.underlying24 rfl noteSize (fun W hC => row_to hC R1c.out) ?_
    refine rel_op (IsMsg ty body) (lasts_isMsg _ _) (by first | exact .inl rfl | exact .inr ⟨_, _, _, rfl, rfl, rfl⟩) ?_ ?_
    · intro ρ W hρ hC hk
      simp [known, looks, Op.operands, Call.operands, slotFact, Just, List.lookup] at hk
      obtain ⟨hρ1, hρ2, hρ3⟩ := hρ
      go_simp
      exact ⟨Below.refl _ _, HP1.out W (HA.out.below (bstep HB5.out hC))⟩
    refine rel_loadRow 4 w.heap.size 24 24 #[.int .i64 c, .int .i64 s, .slice A n k] (0, 0) _ rfl (by first | exact .inl rfl | exact .inr ⟨_, _, _, rfl, rfl, rfl⟩) rfl Tryd.underlying24 rfl noteSize (fun W hC => row_to hC R1c.out) ?_
    refine rel_op (IsMsg ty body) (lasts_isMsg _ _) (by first | exact .inl rfl | exact .inr ⟨_, _, _, rfl, rfl, rfl⟩) ?_ ?_
    · intro ρ W hρ hC hk
      simp [known, looks, Op.operands, Call.operands, slotFact, Just, List.lookup] at hk
      obtain ⟨hρ1, hρ2, hρ3⟩ := hρ
      go_simp
      exact ⟨Below.refl _ _, HP2.out W (HA.out.below (bstep HB5.out hC))⟩
    refine rel_op (Just (.bool true)) (lasts_just _) (by first | exact .inl rfl | exact .inr ⟨_, _, _, rfl, rfl, rfl⟩) ?_ ?_
    · intro ρ W hρ hC hk
      simp [known, looks, Op.operands, Call.operands, slotFact, Just, List.lookup] at hk
      obtain ⟨⟨A8, n8, c8, hv, hr8⟩, ⟨A9, n9, c9, hv9, hr9⟩⟩ := hk
      obtain ⟨hρ1, hρ2, hρ3⟩ := hρ
      go_simp
      refine ⟨Below.refl _ _, (same_yes ty A8 A9 n8 c8 n9 c9 body W hr8 hr9).mono ?_⟩
      rintro e w3 ⟨rfl, hb3⟩
      exact ⟨_, rfl, rfl, hb3⟩
    repeat (first
      | (refine rel_skip ⟨_, _, _, _, rfl, rfl, rfl, ?_⟩ ?_
         focus (intro h; cases h; done))
      | refine rel_move _ (Just _) (.inl rfl) (by first | exact .inl rfl | exact .inr ⟨_, _, _, rfl, rfl, rfl⟩) rfl (lasts_just _) ?_
      | refine rel_move _ (Just _) (.inr rfl) (by first | exact .inl rfl | exact .inr ⟨_, _, _, rfl, rfl, rfl⟩) rfl (lasts_just _) ?_
      | refine rel_moveC _ (.inl rfl) (by first | exact .inl rfl | exact .inr ⟨_, _, _, rfl, rfl, rfl⟩) ?_
      | refine rel_moveC _ (.inr rfl) (by first | exact .inl rfl | exact .inr ⟨_, _, _, rfl, rfl, rfl⟩) ?_
      | refine rel_str _ _ rfl (by first | exact .inl rfl | exact .inr ⟨_, _, _, rfl, rfl, rfl⟩) rfl ?_
      | refine rel_lenB _ _ rfl (by first | exact .inl rfl | exact .inr ⟨_, _, _, rfl, rfl, rfl⟩) rfl ?_
      | refine rel_move _ (IsB _) (.inl rfl) (by first | exact .inl rfl | exact .inr ⟨_, _, _, rfl, rfl, rfl⟩) rfl (lasts_isB _) ?_
      | refine rel_move _ (IsB _) (.inr rfl) (by first | exact .inl rfl | exact .inr ⟨_, _, _, rfl, rfl, rfl⟩) rfl (lasts_isB _) ?_
      | (refine rel_exact ?_ (by first | exact .inl rfl | exact .inr ⟨_, _, _, rfl, rfl, rfl⟩) ?_ ?_
         rotate_left
         (intro ρ W hρ hC hk
          simp [known, looks, Op.operands, Call.operands, slotFact, Just, List.lookup] at hk
          obtain ⟨hρ1, hρ2, hρ3⟩ := hρ
          go_simp
          rfl)))
    refine rel_op (Just (.bool K)) (lasts_just _) (by first | exact .inl rfl | exact .inr ⟨_, _, _, rfl, rfl, rfl⟩) ?_ ?_
    · intro ρ W hρ hC hk
      simp [known, looks, Op.operands, Call.operands, slotFact, Just, List.lookup] at hk
      obtain ⟨hρ1, hρ2, hρ3⟩ := hρ
      go_simp
      refine ⟨Below.refl _ _, (known_any _ _ _ (HT.out.below (bstep HB5.out hC))).mono ?_⟩
      rw [HK.out]
      rintro e w' ⟨rfl, hb⟩
      exact ⟨_, rfl, rfl, hb⟩
    repeat (first
      | (refine rel_skip ⟨_, _, _, _, rfl, rfl, rfl, ?_⟩ ?_
         focus (intro h; cases h; done))
      | refine rel_move _ (Just _) (.inl rfl) (by first | exact .inl rfl | exact .inr ⟨_, _, _, rfl, rfl, rfl⟩) rfl (lasts_just _) ?_
      | refine rel_move _ (Just _) (.inr rfl) (by first | exact .inl rfl | exact .inr ⟨_, _, _, rfl, rfl, rfl⟩) rfl (lasts_just _) ?_
      | refine rel_moveC _ (.inl rfl) (by first | exact .inl rfl | exact .inr ⟨_, _, _, rfl, rfl, rfl⟩) ?_
      | refine rel_moveC _ (.inr rfl) (by first | exact .inl rfl | exact .inr ⟨_, _, _, rfl, rfl, rfl⟩) ?_
      | refine rel_str _ _ rfl (by first | exact .inl rfl | exact .inr ⟨_, _, _, rfl, rfl, rfl⟩) rfl ?_
      | refine rel_lenB _ _ rfl (by first | exact .inl rfl | exact .inr ⟨_, _, _, rfl, rfl, rfl⟩) rfl ?_
      | refine rel_move _ (IsB _) (.inl rfl) (by first | exact .inl rfl | exact .inr ⟨_, _, _, rfl, rfl, rfl⟩) rfl (lasts_isB _) ?_
      | refine rel_move _ (IsB _) (.inr rfl) (by first | exact .inl rfl | exact .inr ⟨_, _, _, rfl, rfl, rfl⟩) rfl (lasts_isB _) ?_
      | (refine rel_exact ?_ (by first | exact .inl rfl | exact .inr ⟨_, _, _, rfl, rfl, rfl⟩) ?_ ?_
         rotate_left
         (intro ρ W hρ hC hk
          simp [known, looks, Op.operands, Call.operands, slotFact, Just, List.lookup] at hk
          obtain ⟨hρ1, hρ2, hρ3⟩ := hρ
          go_simp
          rfl)))
    refine rel_op (Just (.bool K)) (lasts_just _) (by first | exact .inl rfl | exact .inr ⟨_, _, _, rfl, rfl, rfl⟩) ?_ ?_
    · intro ρ W hρ hC hk
      simp [known, looks, Op.operands, Call.operands, slotFact, Just, List.lookup] at hk
      obtain ⟨hρ1, hρ2, hρ3⟩ := hρ
      go_simp
      refine ⟨Below.refl _ _, (rknown_any _ _ _).mono ?_⟩
      rw [HK.out]
      rintro e w' ⟨rfl, rfl⟩
      exact ⟨_, rfl, rfl, Below.refl _ _⟩
    repeat (first
      | (refine rel_skip ⟨_, _, _, _, rfl, rfl, rfl, ?_⟩ ?_
         focus (intro h; cases h; done))
      | refine rel_move _ (Just _) (.inl rfl) (by first | exact .inl rfl | exact .inr ⟨_, _, _, rfl, rfl, rfl⟩) rfl (lasts_just _) ?_
      | refine rel_move _ (Just _) (.inr rfl) (by first | exact .inl rfl | exact .inr ⟨_, _, _, rfl, rfl, rfl⟩) rfl (lasts_just _) ?_
      | refine rel_moveC _ (.inl rfl) (by first | exact .inl rfl | exact .inr ⟨_, _, _, rfl, rfl, rfl⟩) ?_
      | refine rel_moveC _ (.inr rfl) (by first | exact .inl rfl | exact .inr ⟨_, _, _, rfl, rfl, rfl⟩) ?_
      | refine rel_str _ _ rfl (by first | exact .inl rfl | exact .inr ⟨_, _, _, rfl, rfl, rfl⟩) rfl ?_
      | refine rel_lenB _ _ rfl (by first | exact .inl rfl | exact .inr ⟨_, _, _, rfl, rfl, rfl⟩) rfl ?_
      | refine rel_move _ (IsB _) (.inl rfl) (by first | exact .inl rfl | exact .inr ⟨_, _, _, rfl, rfl, rfl⟩) rfl (lasts_isB _) ?_
      | refine rel_move _ (IsB _) (.inr rfl) (by first | exact .inl rfl | exact .inr ⟨_, _, _, rfl, rfl, rfl⟩) rfl (lasts_isB _) ?_
      | (refine rel_exact ?_ (by first | exact .inl rfl | exact .inr ⟨_, _, _, rfl, rfl, rfl⟩) ?_ ?_
         rotate_left
         (intro ρ W hρ hC hk
          simp [known, looks, Op.operands, Call.operands, slotFact, Just, List.lookup] at hk
          obtain ⟨hρ1, hρ2, hρ3⟩ := hρ
          go_simp
          rfl)))
    refine rel_loadRow 4 w.heap.size 24 24 #[.int .i64 c, .int .i64 s, .slice A n k] (0, 0) _ rfl (by first | exact .inl rfl | exact .inr ⟨_, _, _, rfl, rfl, rfl⟩) rfl Tryd.underlying24 rfl noteSize (fun W hC => row_to hC R1c.out) ?_
    refine rel_op (Just (.string X)) (lasts_just _) (by first | exact .inl rfl | exact .inr ⟨_, _, _, rfl, rfl, rfl⟩) ?_ ?_
    · intro ρ W hρ hC hk
      simp [known, looks, Op.operands, Call.operands, slotFact, Just, List.lookup] at hk
      obtain ⟨hρ1, hρ2, hρ3⟩ := hρ
      go_simp
      refine ⟨Below.refl _ _, (N1.out _ (HT.out.below (bstep HB5.out hC))).mono ?_⟩
      rintro e w' ⟨rfl, hb⟩
      exact ⟨_, rfl, rfl, hb⟩
    refine rel_loadRow 4 w.heap.size 24 24 #[.int .i64 c, .int .i64 s, .slice A n k] (0, 0) _ rfl (by first | exact .inl rfl | exact .inr ⟨_, _, _, rfl, rfl, rfl⟩) rfl Tryd.underlying24 rfl noteSize (fun W hC => row_to hC R1c.out) ?_
    refine rel_op (Just (.string X)) (lasts_just _) (by first | exact .inl rfl | exact .inr ⟨_, _, _, rfl, rfl, rfl⟩) ?_ ?_
    · intro ρ W hρ hC hk
      simp [known, looks, Op.operands, Call.operands, slotFact, Just, List.lookup] at hk
      obtain ⟨hρ1, hρ2, hρ3⟩ := hρ
      go_simp
      exact ⟨Below.refl _ _, N2.out _⟩
    repeat (first
      | (refine rel_skip ⟨_, _, _, _, rfl, rfl, rfl, ?_⟩ ?_
         focus (intro h; cases h; done))
      | refine rel_move _ (Just _) (.inl rfl) (by first | exact .inl rfl | exact .inr ⟨_, _, _, rfl, rfl, rfl⟩) rfl (lasts_just _) ?_
      | refine rel_move _ (Just _) (.inr rfl) (by first | exact .inl rfl | exact .inr ⟨_, _, _, rfl, rfl, rfl⟩) rfl (lasts_just _) ?_
      | refine rel_moveC _ (.inl rfl) (by first | exact .inl rfl | exact .inr ⟨_, _, _, rfl, rfl, rfl⟩) ?_
      | refine rel_moveC _ (.inr rfl) (by first | exact .inl rfl | exact .inr ⟨_, _, _, rfl, rfl, rfl⟩) ?_
      | refine rel_str _ _ rfl (by first | exact .inl rfl | exact .inr ⟨_, _, _, rfl, rfl, rfl⟩) rfl ?_
      | refine rel_lenB _ _ rfl (by first | exact .inl rfl | exact .inr ⟨_, _, _, rfl, rfl, rfl⟩) rfl ?_
      | refine rel_move _ (IsB _) (.inl rfl) (by first | exact .inl rfl | exact .inr ⟨_, _, _, rfl, rfl, rfl⟩) rfl (lasts_isB _) ?_
      | refine rel_move _ (IsB _) (.inr rfl) (by first | exact .inl rfl | exact .inr ⟨_, _, _, rfl, rfl, rfl⟩) rfl (lasts_isB _) ?_
      | (refine rel_exact ?_ (by first | exact .inl rfl | exact .inr ⟨_, _, _, rfl, rfl, rfl⟩) ?_ ?_
         rotate_left
         (intro ρ W hρ hC hk
          simp [known, looks, Op.operands, Call.operands, slotFact, Just, List.lookup] at hk
          obtain ⟨hρ1, hρ2, hρ3⟩ := hρ
          go_simp
          rfl)))
    refine rel_nil ?_
    intro a W hC hd hsz ht
    refine fin_exit hsz hd ht (of_decide_eq_true (by kernel_rfl)) ?_
    repeat (first
      | refine fin_just ?_
      | (intro _ _))
    refine fin_nil ?_
    simp only [Act.put, Option.getD_some, List.setIfInBounds_toArray, List.set_cons_zero, List.set_cons_succ]
    clear hd hsz ht
    go_wp2
    go_ret
    exact ⟨rfl, bstep HB5.out hC⟩
end Go.Proofs.YtmkpkbigceinfaaDoor
