/- The walk of NoteBack: what is put is got. -/
import Derived.Test.YtmkpkbigceinfaaDoorNote6
namespace Go.Proofs.YtmkpkbigceinfaaDoor
open Go.RowKit
set_option maxHeartbeats 1000000
set_option maxRecDepth 100000
set_option linter.unusedVariables false
set_option linter.unusedSimpArgs false

theorem noteG_cases (t : Int) (r : List UInt8) : noteG t r = (0, 0, [], false) ∨ (t = 3 ∧ ∃ (x y : UInt8) (d : List UInt8), r = x :: y :: d ∧ nsaneB x.toNat y.toNat d.length = true ∧ noteG t r = ((x.toNat : Int), (y.toNat : Int), d, true)) := by
  by_cases h : t = 3 ∧ 2 ≤ r.length ∧ nsaneB (r.getD 0 0).toNat (r.getD 1 0).toNat (r.length - 2) = true
  · right
    obtain ⟨h1, h2, h3⟩ := h
    match r, h2 with
    | x :: y :: d, _ =>
      have h3' : nsaneB x.toNat y.toNat d.length = true := by simpa using h3
      refine ⟨h1, x, y, d, rfl, h3', ?_⟩
      unfold noteG
      rw [if_pos ⟨h1, by simp, h3⟩]
      simp
  · left
    unfold noteG
    rw [if_neg h]
theorem noteG_put (c s : Int) (l : List UInt8) (h : nsaneB c s l.length = true) : noteG 3 (octAt c 0 :: octAt s 0 :: l) = (c, s, l, true) := by
  obtain ⟨h1, h2, h3, h4, h5⟩ := nsane_bd h
  have e1 := octAt_small c (by omega) (by omega)
  have e2 := octAt_small s (by omega) (by omega)
  unfold noteG
  simp [e1, e2, h]
theorem saneB_note (n : Nat) (h1 : 2 ≤ n) (h2 : n ≤ 4077) : saneB 3 n = true := by
  have e : leastZ 3 = 21 := by decide
  unfold saneB wrongB
  rw [e]
  simp
  omega
theorem fresh_row {w : World} {g : Nat} {o : Obj} (h : w.heap[g]? = some o) (O : Obj) : (w.alloc O).heap[g]? = some o := (heap_alloc_old w O (row_lt h)).trans h

theorem noteBack_any (w : World) (ht : Tab w) (c s : Int) (A : Option Addr) (n k : Nat) (l : List UInt8) (h : RdB w A n k l) (bc : -9223372036854775808 ≤ c ∧ c ≤ 9223372036854775807) (bs : -9223372036854775808 ≤ s ∧ s ≤ 9223372036854775807)
    (t : Int) (B : Option Addr) (m j : Nat) (r : List UInt8) (h2 : RdB w B m j r) :
    Calls Tryd.prog 4 #[.agg #[.int .i64 c, .int .i64 s, .slice A n k], .agg #[.int .i64 t, .slice B m j]] w fun e w' => e = .returned (.bool true) ∧ Below w.heap.size w w' := by
  have HT := Lib.hid ht
  have HA := Lib.hid h
  have HM := Lib.hid h2
  have hln := h.len
  have hlm := h2.len
  have hmx := h.max
  have hmx2 := h2.max
  have hlek := h.le
  have hlej := h2.le
  unfold maxLen at hmx hmx2
  clear bc bs ht h h2
  have HLN := Lib.hid hln
  have HLM := Lib.hid hlm
  clear hln hlm
  by_cases hbig : 5001 ≤ n ∨ 5001 ≤ m
  · have hcase : (5001 ≤ n) ∨ (n ≤ 5000 ∧ 5001 ≤ m) := by omega
    clear hbig
    rcases hcase with h1 | ⟨h1, h2⟩
    · have i1 : decide ((5000 : Int) < n) = true := decide_eq_true (by omega)
      clear h1 hmx hmx2 hlek hlej
      go_enter Tryd.func4, Tryd.ntmps4
      go_wp2_with fail
      with_reducible refine (awake_any _ (HT.out.below (balloc (bnew w _) _))).mono ?_
      rintro e w1 ⟨rfl, hb1⟩
      have hg1 := (hb1.block w.heap.size (by simp; omega)).trans (heap_alloc2_old w _ _)
      obtain ⟨⟨p0, p1, p2⟩, o0, o1, o2⟩ := own3_cells hg1
      clear hg1
      go_wp2
      go_ret
      exact ⟨rfl, bstep (balloc (bnew w _) _) hb1⟩
    · have i1 : decide ((5000 : Int) < n) = false := decide_eq_false (by omega)
      have i2 : decide ((5000 : Int) < m) = true := decide_eq_true (by omega)
      clear h1 h2 hmx hmx2 hlek hlej
      go_enter Tryd.func4, Tryd.ntmps4
      go_wp2_with fail
      with_reducible refine (awake_any _ (HT.out.below (balloc (bnew w _) _))).mono ?_
      rintro e w1 ⟨rfl, hb1⟩
      have hg1 := (hb1.block w.heap.size (by simp; omega)).trans (heap_alloc2_old w _ _)
      have hg2 := (hb1.block (w.heap.size + 1) (by simp)).trans (heap_alloc2_new w _ _)
      obtain ⟨⟨p0, p1, p2⟩, o0, o1, o2⟩ := own3_cells hg1
      obtain ⟨⟨q0, q1⟩, r0, r1⟩ := row2_cells hg2
      clear hg1 hg2
      go_wp2
      go_ret
      exact ⟨rfl, bstep (balloc (bnew w _) _) hb1⟩
  · have hn5 : n ≤ 5000 := by omega
    have hm5 : m ≤ 5000 := by omega
    have i1 : decide ((5000 : Int) < n) = false := decide_eq_false (by omega)
    have i2 : decide ((5000 : Int) < m) = false := decide_eq_false (by omega)
    clear hbig hmx hmx2 hlek hlej
    obtain ⟨S, hS⟩ : ∃ S, nsaneB c s n = S := ⟨_, rfl⟩
    have HS := Lib.hid hS
    clear hS
    have HG := Lib.hid (noteG_cases t r)
    go_enter Tryd.func4, Tryd.ntmps4
    go_wp2_with fail
    with_reducible refine (awake_any _ (HT.out.below (balloc (bnew w _) _))).mono ?_
    rintro e w1 ⟨rfl, hb1⟩
    have hg1 := (hb1.block w.heap.size (by simp; omega)).trans (heap_alloc2_old w _ _)
    have hg2 := (hb1.block (w.heap.size + 1) (by simp)).trans (heap_alloc2_new w _ _)
    obtain ⟨⟨p0, p1, p2⟩, o0, o1, o2⟩ := own3_cells hg1
    obtain ⟨⟨q0, q1⟩, r0, r1⟩ := row2_cells hg2
    have R1 := Lib.hid hg1
    have R2 := Lib.hid hg2
    have HB1 := Lib.hid (bstep (balloc (bnew w _) _) hb1)
    clear hg1 hg2 hb1
    go_wp2_with fail
    have hput : Calls Tryd.prog 14 #[.agg #[.int .i64 c, .int .i64 s, .slice A n k]] w1 (Ret (fun v W => ∃ (ty : Int) (A2 : Option Addr) (n2 c2 : Nat) (l2 : List UInt8), v = .agg #[.int .i64 ty, .slice A2 n2 c2] ∧ RdB W A2 n2 c2 l2 ∧ (if S = true then ty = 3 ∧ l2 = octAt c 0 :: octAt s 0 :: l ∧ n2 = n + 2 else ty = 0 ∧ l2 = [] ∧ n2 = 0)) w1) := by
      cases S
      · refine (nput_no c s A n k w1 (by omega) HS.out).mono ?_
        rintro e w2 ⟨rfl, hb⟩
        exact ⟨_, rfl, ⟨_, _, _, _, _, rfl, RdB.nil _, by simp⟩, hb⟩
      · refine (nput_yes c s A n k l w1 (HA.out.below HB1.out) HS.out).mono ?_
        rintro e w2 ⟨_, rfl, ⟨A2, n2, c2, rfl, hr⟩, hb⟩
        refine ⟨_, rfl, ⟨_, _, _, _, _, rfl, hr, ?_⟩, hb⟩
        have e1 := hr.len
        have e2 := HLN.out
        simp at e1
        simp
        omega
    with_reducible refine hput.mono ?_
    clear hput
    rintro e w2 ⟨_, rfl, ⟨ty, A2, n2, c2, l2, rfl, hr2, hty⟩, hb2⟩
    have HTY := Lib.hid hty
    have hn2 : n2 ≤ 5002 := by
      cases S
      · simp at hty; omega
      · simp at hty; omega
    clear hty
    have H2 := Lib.hid hr2
    have R1a := Lib.hid (row_to hb2 R1.out)
    have R2a := Lib.hid (row_to hb2 R2.out)
    have HB2 := Lib.hid (bstep HB1.out hb2)
    clear p0 p1 p2 o0 o1 o2 q0 q1 r0 r1 R1 R2 hr2 hb2
    go_wp2_with fail
    with_reducible refine (nget_any ty A2 n2 c2 l2 _ (H2.out.below (bnew w2 _)) (by omega)).mono ?_
    rintro e w3 ⟨_, rfl, ⟨A3, n3, c3, rfl, hr3⟩, hb3⟩
    have hb3' : Below w2.heap.size w2 w3 := (bnew w2 _).trans (hb3.mono (by simp))
    have hg6 := (hb3.block w2.heap.size (by simp)).trans (heap_alloc_new w2 _)
    have R1b := Lib.hid (row_to hb3' R1a.out)
    have R2b := Lib.hid (row_to hb3' R2a.out)
    have R6 := Lib.hid hg6
    have HB3 := Lib.hid (bstep HB2.out hb3')
    have H3 := Lib.hid hr3
    have H2a := Lib.hid (H2.out.below hb3')
    clear hr3 hb3' hg6 hb3
    -- the first half's answers, by S
    have hX : (noteG ty l2).1 = (if S = true then c else 0) ∧ (noteG ty l2).2.1 = (if S = true then s else 0) ∧ (noteG ty l2).2.2.1 = (if S = true then l else []) ∧ (noteG ty l2).2.2.2 = S := by
      have hh := HTY.out
      cases S
      · simp at hh
        obtain ⟨rfl, rfl, _⟩ := hh
        simp [noteG]
      · simp at hh
        obtain ⟨rfl, rfl, _⟩ := hh
        have e2 := HLN.out
        rw [noteG_put c s l (by rw [e2]; exact HS.out)]
        simp
    obtain ⟨g1, g2, g3, g4⟩ := hX
    have hr3 := H3.out
    rw [g3] at hr3
    rw [g1, g2, g4]
    clear g1 g2 g3 g4 H3
    have hq0 := HTY.out
    obtain ⟨p0, p1, p2⟩ := row3 R1b.out
    obtain ⟨q0, q1⟩ := row2 R2b.out
    obtain ⟨u0, u1⟩ := row2 R6.out
    have z0 := row_lt R1b.out
    have z1 := row_lt R2b.out
    have z6 := row_lt R6.out
    cases S
    · simp only [Bool.false_eq_true, if_false, if_true] at hq0 hr3 ⊢
      obtain ⟨rfl, rfl, rfl⟩ := hq0
      have H3b := Lib.hid hr3
      clear hr3
      go_wp2_with fail
      with_reducible refine (nsane_any c s A n k _ (by omega)).mono ?_
      rw [HS.out]
      rintro e w4 ⟨rfl, hb4⟩
      have R1c := Lib.hid (row_to hb4 (fresh_row R1b.out _))
      have R2c := Lib.hid (row_to hb4 (fresh_row R2b.out _))
      have R6c := Lib.hid (row_to hb4 (fresh_row R6.out _))
      have R7 := Lib.hid ((hb4.block w3.heap.size (by simp)).trans (heap_alloc_new w3 _))
      have HB4 := Lib.hid (bstep (balloc HB3.out _) hb4)
      have H34 := Lib.hid (bstep (bnew w3 _) hb4)
      clear p0 p1 p2 q0 q1 u0 u1 z0 z1 z6 hb4
      obtain ⟨p0, p1, p2⟩ := row3 R1c.out
      obtain ⟨q0, q1⟩ := row2 R2c.out
      obtain ⟨u0, u1⟩ := row2 R6c.out
      obtain ⟨v0, v1, v2⟩ := row3 R7.out
      have hW : ∃ w6 : World, w6 = w4 := ⟨_, rfl⟩
      try
        (go_wp2_with fail
         with_reducible refine (sane_any 3 _ (n + 2) _ _ (by omega)).mono ?_
         rw [saneB_note (n + 2) (by omega) (by have := (nsane_bd HS.out).2.2.2.2; omega)]
         rintro e w5 ⟨rfl, hb5⟩
         have R1d := Lib.hid (row_to hb5 R1c.out)
         have R2d := Lib.hid (row_to hb5 R2c.out)
         have R6d := Lib.hid (row_to hb5 R6c.out)
         have R7d := Lib.hid (row_to hb5 R7.out)
         have HB5 := Lib.hid (bstep HB4.out hb5)
         have H35 := Lib.hid (bstep H34.out hb5)
         clear hb5 p0 p1 p2 q0 q1 u0 u1 v0 v1 v2
         obtain ⟨p0, p1, p2⟩ := row3 R1d.out
         obtain ⟨q0, q1⟩ := row2 R2d.out
         obtain ⟨u0, u1⟩ := row2 R6d.out
         obtain ⟨v0, v1, v2⟩ := row3 R7d.out
         go_wp2_with fail
         with_reducible refine (sameNote_yes c s A3 A n3 c3 n k l _ (H3b.out.below H35.out) (HA.out.below HB5.out)).mono ?_
         rintro e w6 ⟨rfl, hb6⟩
         have R1e := Lib.hid (row_to hb6 R1d.out)
         have R2e := Lib.hid (row_to hb6 R2d.out)
         have R6e := Lib.hid (row_to hb6 R6d.out)
         have HB6 := Lib.hid (bstep HB5.out hb6)
         clear hb6 p0 p1 p2 q0 q1 u0 u1 v0 v1 v2
         obtain ⟨q0, q1⟩ := row2 R2e.out
         obtain ⟨u0, u1⟩ := row2 R6e.out)
      go_wp2_with fail
      with_reducible refine (nget_any t B m j r _ (HM.out.below (by first | exact HB6.out | exact HB4.out)) (by omega)).mono ?_
      rintro e w7 ⟨_, rfl, ⟨A9, n9, c9, rfl, hr9⟩, hb7⟩
      have R2f := Lib.hid (show w7.heap[w.heap.size + 1]? = some (.cells #[.int .i64 t, .slice B m j] 26 (0, 0)) by first | exact row_to hb7 R2e.out | exact row_to hb7 R2c.out)
      have HB7 := Lib.hid (show Below w.heap.size w w7 by first | exact bstep HB6.out hb7 | exact bstep HB4.out hb7)
      clear hb7 q0 q1 u0 u1
      try clear p0 p1 p2
      rcases HG.out with e | ⟨rfl, x, y, d, rfl, hs, e⟩
      · rw [e] at hr9 ⊢
        go_wp2
        go_ret
        exact ⟨rfl, balloc HB7.out _⟩
      · rw [e] at hr9 ⊢
        have hdl : d.length + 2 = m := HLM.out
        have hnl : d.length = n9 := hr9.len
        have H9 := Lib.hid hr9
        have HSS := Lib.hid hs
        have hd4 := (nsane_bd hs).2.2.2.2
        have HDL := Lib.hid hdl
        have HNL := Lib.hid hnl
        clear hr9 hs hdl hnl
        go_wp2_with fail
        have R9 := Lib.hid (heap_alloc_new w7 (.cells #[.int .i64 x.toNat, .int .i64 y.toNat, .slice A9 n9 c9] 24))
        have R2g := Lib.hid (fresh_row R2f.out (.cells #[.int .i64 x.toNat, .int .i64 y.toNat, .slice A9 n9 c9] 24))
        have HB8 := Lib.hid (bnew w7 (.cells #[.int .i64 x.toNat, .int .i64 y.toNat, .slice A9 n9 c9] 24))
        generalize w7.alloc (.cells #[.int .i64 x.toNat, .int .i64 y.toNat, .slice A9 n9 c9] 24) = W0 at *
        have hop : octAt (x.toNat : Int) 0 :: octAt (y.toNat : Int) 0 :: d = x :: y :: d := by rw [octAt_one, octAt_one]
        have HOP := Lib.hid hop
        clear hop
        refine wp_region_rel (by kernel_rfl) (by decide +kernel) (by rfl) ?_
        repeat (first
          | (refine rel_skip ⟨_, _, _, _, rfl, rfl, rfl, ?_⟩ ?_
             focus (intro h; cases h; done))
          | refine rel_move _ (Just _) (.inl rfl) (by first | exact .inl rfl | exact .inr ⟨_, _, _, rfl, rfl, rfl⟩) rfl (lasts_just _) ?_
          | refine rel_move _ (Just _) (.inr rfl) (by first | exact .inl rfl | exact .inr ⟨_, _, _, rfl, rfl, rfl⟩) rfl (lasts_just _) ?_
          | refine rel_moveC _ (.inl rfl) (by first | exact .inl rfl | exact .inr ⟨_, _, _, rfl, rfl, rfl⟩) ?_
          | refine rel_moveC _ (.inr rfl) (by first | exact .inl rfl | exact .inr ⟨_, _, _, rfl, rfl, rfl⟩) ?_
          | refine rel_str _ _ rfl (by first | exact .inl rfl | exact .inr ⟨_, _, _, rfl, rfl, rfl⟩) rfl ?_
          | refine rel_lenB _ _ rfl (by first | exact .inl rfl | exact .inr ⟨_, _, _, rfl, rfl, rfl⟩) rfl ?_
          | refine rel_move _ (IsB _) (.inl rfl) (by first | exact .inl rfl | exact .inr ⟨_, _, _, rfl, rfl, rfl⟩) rfl (lasts_isB _) ?_
          | refine rel_move _ (IsB _) (.inr rfl) (by first | exact .inl rfl | exact .inr ⟨_, _, _, rfl, rfl, rfl⟩) rfl (lasts_isB _) ?_
          | (refine rel_exact ?_ (by first | exact .inl rfl | exact .inr ⟨_, _, _, rfl, rfl, rfl⟩) ?_ ?_
             rotate_left
             (intro ρ W hρ hC hk
              simp [known, looks, Op.operands, Call.operands, slotFact, Just, List.lookup] at hk
              obtain ⟨hρ1, hρ2, hρ3⟩ := hρ
              go_simp
              rfl)))
        refine rel_loadRow 9 w7.heap.size 24 24 #[.int .i64 x.toNat, .int .i64 y.toNat, .slice A9 n9 c9] (0, 0) _ rfl (by first | exact .inl rfl | exact .inr ⟨_, _, _, rfl, rfl, rfl⟩) rfl Tryd.underlying24 rfl noteSize (fun W hC => row_to hC R9.out) ?_
        refine rel_op (Just (.bool true)) (lasts_just _) (by first | exact .inl rfl | exact .inr ⟨_, _, _, rfl, rfl, rfl⟩) ?_ ?_
        · intro ρ W hρ hC hk
          simp [known, looks, Op.operands, Call.operands, slotFact, Just, List.lookup] at hk
          obtain ⟨hρ1, hρ2, hρ3⟩ := hρ
          go_simp
          refine ⟨Below.refl _ _, (nsane_any _ _ _ _ _ _ (by have := HNL.out; omega)).mono ?_⟩
          rw [← HNL.out, HSS.out]
          rintro e w3 ⟨rfl, hb3⟩
          exact ⟨_, rfl, rfl, hb3⟩
        repeat (first
          | (refine rel_skip ⟨_, _, _, _, rfl, rfl, rfl, ?_⟩ ?_
             focus (intro h; cases h; done))
          | refine rel_move _ (Just _) (.inl rfl) (by first | exact .inl rfl | exact .inr ⟨_, _, _, rfl, rfl, rfl⟩) rfl (lasts_just _) ?_
          | refine rel_move _ (Just _) (.inr rfl) (by first | exact .inl rfl | exact .inr ⟨_, _, _, rfl, rfl, rfl⟩) rfl (lasts_just _) ?_
          | refine rel_moveC _ (.inl rfl) (by first | exact .inl rfl | exact .inr ⟨_, _, _, rfl, rfl, rfl⟩) ?_
          | refine rel_moveC _ (.inr rfl) (by first | exact .inl rfl | exact .inr ⟨_, _, _, rfl, rfl, rfl⟩) ?_
          | refine rel_str _ _ rfl (by first | exact .inl rfl | exact .inr ⟨_, _, _, rfl, rfl, rfl⟩) rfl ?_
          | refine rel_lenB _ _ rfl (by first | exact .inl rfl | exact .inr ⟨_, _, _, rfl, rfl, rfl⟩) rfl ?_
          | refine rel_move _ (IsB _) (.inl rfl) (by first | exact .inl rfl | exact .inr ⟨_, _, _, rfl, rfl, rfl⟩) rfl (lasts_isB _) ?_
          | refine rel_move _ (IsB _) (.inr rfl) (by first | exact .inl rfl | exact .inr ⟨_, _, _, rfl, rfl, rfl⟩) rfl (lasts_isB _) ?_
          | (refine rel_exact ?_ (by first | exact .inl rfl | exact .inr ⟨_, _, _, rfl, rfl, rfl⟩) ?_ ?_
             rotate_left
             (intro ρ W hρ hC hk
              simp [known, looks, Op.operands, Call.operands, slotFact, Just, List.lookup] at hk
              obtain ⟨hρ1, hρ2, hρ3⟩ := hρ
              go_simp
              rfl)))
        refine rel_loadRow 3 (w.heap.size + 1) 26 26 #[.int .i64 3, .slice B m j] (0, 0) _ rfl (by first | exact .inl rfl | exact .inr ⟨_, _, _, rfl, rfl, rfl⟩) rfl Tryd.underlying26 rfl msgSize (fun W hC => row_to hC R2g.out) ?_
        refine rel_op (Just (.bool true)) (lasts_just _) (by first | exact .inl rfl | exact .inr ⟨_, _, _, rfl, rfl, rfl⟩) ?_ ?_
        · intro ρ W hρ hC hk
          simp [known, looks, Op.operands, Call.operands, slotFact, Just, List.lookup] at hk
          obtain ⟨hρ1, hρ2, hρ3⟩ := hρ
          go_simp
          refine ⟨Below.refl _ _, (sane_any _ _ _ _ _ (by omega)).mono ?_⟩
          rw [saneB_note m (by have := HDL.out; omega) (by have := HDL.out; omega)]
          rintro e w3 ⟨rfl, hb3⟩
          exact ⟨_, rfl, rfl, hb3⟩
        repeat (first
          | (refine rel_skip ⟨_, _, _, _, rfl, rfl, rfl, ?_⟩ ?_
             focus (intro h; cases h; done))
          | refine rel_move _ (Just _) (.inl rfl) (by first | exact .inl rfl | exact .inr ⟨_, _, _, rfl, rfl, rfl⟩) rfl (lasts_just _) ?_
          | refine rel_move _ (Just _) (.inr rfl) (by first | exact .inl rfl | exact .inr ⟨_, _, _, rfl, rfl, rfl⟩) rfl (lasts_just _) ?_
          | refine rel_moveC _ (.inl rfl) (by first | exact .inl rfl | exact .inr ⟨_, _, _, rfl, rfl, rfl⟩) ?_
          | refine rel_moveC _ (.inr rfl) (by first | exact .inl rfl | exact .inr ⟨_, _, _, rfl, rfl, rfl⟩) ?_
          | refine rel_str _ _ rfl (by first | exact .inl rfl | exact .inr ⟨_, _, _, rfl, rfl, rfl⟩) rfl ?_
          | refine rel_lenB _ _ rfl (by first | exact .inl rfl | exact .inr ⟨_, _, _, rfl, rfl, rfl⟩) rfl ?_
          | refine rel_move _ (IsB _) (.inl rfl) (by first | exact .inl rfl | exact .inr ⟨_, _, _, rfl, rfl, rfl⟩) rfl (lasts_isB _) ?_
          | refine rel_move _ (IsB _) (.inr rfl) (by first | exact .inl rfl | exact .inr ⟨_, _, _, rfl, rfl, rfl⟩) rfl (lasts_isB _) ?_
          | (refine rel_exact ?_ (by first | exact .inl rfl | exact .inr ⟨_, _, _, rfl, rfl, rfl⟩) ?_ ?_
             rotate_left
             (intro ρ W hρ hC hk
              simp [known, looks, Op.operands, Call.operands, slotFact, Just, List.lookup] at hk
              obtain ⟨hρ1, hρ2, hρ3⟩ := hρ
              go_simp
              rfl)))
        refine rel_loadRow 9 w7.heap.size 24 24 #[.int .i64 x.toNat, .int .i64 y.toNat, .slice A9 n9 c9] (0, 0) _ rfl (by first | exact .inl rfl | exact .inr ⟨_, _, _, rfl, rfl, rfl⟩) rfl Tryd.underlying24 rfl noteSize (fun W hC => row_to hC R9.out) ?_
        refine rel_op (IsMsg 3 (x :: y :: d)) (lasts_isMsg _ _) (by first | exact .inl rfl | exact .inr ⟨_, _, _, rfl, rfl, rfl⟩) ?_ ?_
        · intro ρ W hρ hC hk
          simp [known, looks, Op.operands, Call.operands, slotFact, Just, List.lookup] at hk
          obtain ⟨hρ1, hρ2, hρ3⟩ := hρ
          go_simp
          refine ⟨Below.refl _ _, ?_⟩
          have hp := nput_yes (x.toNat : Int) (y.toNat : Int) A9 n9 c9 d W (H9.out.below (bstep HB8.out hC)) (by rw [← HNL.out]; exact HSS.out)
          rw [HOP.out] at hp
          exact hp
        refine rel_loadRow 3 (w.heap.size + 1) 26 26 #[.int .i64 3, .slice B m j] (0, 0) _ rfl (by first | exact .inl rfl | exact .inr ⟨_, _, _, rfl, rfl, rfl⟩) rfl Tryd.underlying26 rfl msgSize (fun W hC => row_to hC R2g.out) ?_
        refine rel_op (Just (.bool true)) (lasts_just _) (by first | exact .inl rfl | exact .inr ⟨_, _, _, rfl, rfl, rfl⟩) ?_ ?_
        · intro ρ W hρ hC hk
          simp [known, looks, Op.operands, Call.operands, slotFact, Just, List.lookup] at hk
          obtain ⟨⟨A8, n8, c8, hv, hr8⟩, hk2⟩ := hk
          obtain ⟨hρ1, hρ2, hρ3⟩ := hρ
          go_simp
          refine ⟨Below.refl _ _, (same_yes 3 A8 B n8 c8 m j (x :: y :: d) W hr8 (HM.out.below (bstep HB7.out (bstep HB8.out hC)))).mono ?_⟩
          rintro e w3 ⟨rfl, hb3⟩
          exact ⟨_, rfl, rfl, hb3⟩
        repeat (first
          | (refine rel_skip ⟨_, _, _, _, rfl, rfl, rfl, ?_⟩ ?_
             focus (intro h; cases h; done))
          | refine rel_move _ (Just _) (.inl rfl) (by first | exact .inl rfl | exact .inr ⟨_, _, _, rfl, rfl, rfl⟩) rfl (lasts_just _) ?_
          | refine rel_move _ (Just _) (.inr rfl) (by first | exact .inl rfl | exact .inr ⟨_, _, _, rfl, rfl, rfl⟩) rfl (lasts_just _) ?_
          | refine rel_moveC _ (.inl rfl) (by first | exact .inl rfl | exact .inr ⟨_, _, _, rfl, rfl, rfl⟩) ?_
          | refine rel_moveC _ (.inr rfl) (by first | exact .inl rfl | exact .inr ⟨_, _, _, rfl, rfl, rfl⟩) ?_
          | refine rel_str _ _ rfl (by first | exact .inl rfl | exact .inr ⟨_, _, _, rfl, rfl, rfl⟩) rfl ?_
          | refine rel_lenB _ _ rfl (by first | exact .inl rfl | exact .inr ⟨_, _, _, rfl, rfl, rfl⟩) rfl ?_
          | refine rel_move _ (IsB _) (.inl rfl) (by first | exact .inl rfl | exact .inr ⟨_, _, _, rfl, rfl, rfl⟩) rfl (lasts_isB _) ?_
          | refine rel_move _ (IsB _) (.inr rfl) (by first | exact .inl rfl | exact .inr ⟨_, _, _, rfl, rfl, rfl⟩) rfl (lasts_isB _) ?_
          | (refine rel_exact ?_ (by first | exact .inl rfl | exact .inr ⟨_, _, _, rfl, rfl, rfl⟩) ?_ ?_
             rotate_left
             (intro ρ W hρ hC hk
              simp [known, looks, Op.operands, Call.operands, slotFact, Just, List.lookup] at hk
              obtain ⟨hρ1, hρ2, hρ3⟩ := hρ
              go_simp
              rfl)))
        refine rel_nil ?_
        intro a W hC hd hsz ht
        refine fin_exit hsz hd ht (of_decide_eq_true (by kernel_rfl)) ?_
        repeat (first
          | refine fin_just ?_
          | (intro _ _))
        refine fin_nil ?_
        simp only [Act.put, Option.getD_some, List.setIfInBounds_toArray, List.set_cons_zero, List.set_cons_succ]
        clear hd hsz ht
        go_wp2
        go_ret
        exact ⟨rfl, bstep HB7.out (bstep HB8.out hC)⟩
    · simp only [Bool.false_eq_true, if_false, if_true] at hq0 hr3 ⊢
      obtain ⟨rfl, rfl, rfl⟩ := hq0
      have H3b := Lib.hid hr3
      clear hr3
      go_wp2_with fail
      with_reducible refine (nsane_any c s A n k _ (by omega)).mono ?_
      rw [HS.out]
      rintro e w4 ⟨rfl, hb4⟩
      have R1c := Lib.hid (row_to hb4 (fresh_row R1b.out _))
      have R2c := Lib.hid (row_to hb4 (fresh_row R2b.out _))
      have R6c := Lib.hid (row_to hb4 (fresh_row R6.out _))
      have R7 := Lib.hid ((hb4.block w3.heap.size (by simp)).trans (heap_alloc_new w3 _))
      have HB4 := Lib.hid (bstep (balloc HB3.out _) hb4)
      have H34 := Lib.hid (bstep (bnew w3 _) hb4)
      clear p0 p1 p2 q0 q1 u0 u1 z0 z1 z6 hb4
      obtain ⟨p0, p1, p2⟩ := row3 R1c.out
      obtain ⟨q0, q1⟩ := row2 R2c.out
      obtain ⟨u0, u1⟩ := row2 R6c.out
      obtain ⟨v0, v1, v2⟩ := row3 R7.out
      have hW : ∃ w6 : World, w6 = w4 := ⟨_, rfl⟩
      try
        (go_wp2_with fail
         with_reducible refine (sane_any 3 _ (n + 2) _ _ (by omega)).mono ?_
         rw [saneB_note (n + 2) (by omega) (by have := (nsane_bd HS.out).2.2.2.2; omega)]
         rintro e w5 ⟨rfl, hb5⟩
         have R1d := Lib.hid (row_to hb5 R1c.out)
         have R2d := Lib.hid (row_to hb5 R2c.out)
         have R6d := Lib.hid (row_to hb5 R6c.out)
         have R7d := Lib.hid (row_to hb5 R7.out)
         have HB5 := Lib.hid (bstep HB4.out hb5)
         have H35 := Lib.hid (bstep H34.out hb5)
         clear hb5 p0 p1 p2 q0 q1 u0 u1 v0 v1 v2
         obtain ⟨p0, p1, p2⟩ := row3 R1d.out
         obtain ⟨q0, q1⟩ := row2 R2d.out
         obtain ⟨u0, u1⟩ := row2 R6d.out
         obtain ⟨v0, v1, v2⟩ := row3 R7d.out
         go_wp2_with fail
         with_reducible refine (sameNote_yes c s A3 A n3 c3 n k l _ (H3b.out.below H35.out) (HA.out.below HB5.out)).mono ?_
         rintro e w6 ⟨rfl, hb6⟩
         have R1e := Lib.hid (row_to hb6 R1d.out)
         have R2e := Lib.hid (row_to hb6 R2d.out)
         have R6e := Lib.hid (row_to hb6 R6d.out)
         have HB6 := Lib.hid (bstep HB5.out hb6)
         clear hb6 p0 p1 p2 q0 q1 u0 u1 v0 v1 v2
         obtain ⟨q0, q1⟩ := row2 R2e.out
         obtain ⟨u0, u1⟩ := row2 R6e.out)
      go_wp2_with fail
      with_reducible refine (nget_any t B m j r _ (HM.out.below (by first | exact HB6.out | exact HB4.out)) (by omega)).mono ?_
      rintro e w7 ⟨_, rfl, ⟨A9, n9, c9, rfl, hr9⟩, hb7⟩
      have R2f := Lib.hid (show w7.heap[w.heap.size + 1]? = some (.cells #[.int .i64 t, .slice B m j] 26 (0, 0)) by first | exact row_to hb7 R2e.out | exact row_to hb7 R2c.out)
      have HB7 := Lib.hid (show Below w.heap.size w w7 by first | exact bstep HB6.out hb7 | exact bstep HB4.out hb7)
      clear hb7 q0 q1 u0 u1
      try clear p0 p1 p2
      rcases HG.out with e | ⟨rfl, x, y, d, rfl, hs, e⟩
      · rw [e] at hr9 ⊢
        go_wp2
        go_ret
        exact ⟨rfl, balloc HB7.out _⟩
      · rw [e] at hr9 ⊢
        have hdl : d.length + 2 = m := HLM.out
        have hnl : d.length = n9 := hr9.len
        have H9 := Lib.hid hr9
        have HSS := Lib.hid hs
        have hd4 := (nsane_bd hs).2.2.2.2
        have HDL := Lib.hid hdl
        have HNL := Lib.hid hnl
        clear hr9 hs hdl hnl
        go_wp2_with fail
        have R9 := Lib.hid (heap_alloc_new w7 (.cells #[.int .i64 x.toNat, .int .i64 y.toNat, .slice A9 n9 c9] 24))
        have R2g := Lib.hid (fresh_row R2f.out (.cells #[.int .i64 x.toNat, .int .i64 y.toNat, .slice A9 n9 c9] 24))
        have HB8 := Lib.hid (bnew w7 (.cells #[.int .i64 x.toNat, .int .i64 y.toNat, .slice A9 n9 c9] 24))
        generalize w7.alloc (.cells #[.int .i64 x.toNat, .int .i64 y.toNat, .slice A9 n9 c9] 24) = W0 at *
        have hop : octAt (x.toNat : Int) 0 :: octAt (y.toNat : Int) 0 :: d = x :: y :: d := by rw [octAt_one, octAt_one]
        have HOP := Lib.hid hop
        clear hop
        refine wp_region_rel (by kernel_rfl) (by decide +kernel) (by rfl) ?_
        repeat (first
          | (refine rel_skip ⟨_, _, _, _, rfl, rfl, rfl, ?_⟩ ?_
             focus (intro h; cases h; done))
          | refine rel_move _ (Just _) (.inl rfl) (by first | exact .inl rfl | exact .inr ⟨_, _, _, rfl, rfl, rfl⟩) rfl (lasts_just _) ?_
          | refine rel_move _ (Just _) (.inr rfl) (by first | exact .inl rfl | exact .inr ⟨_, _, _, rfl, rfl, rfl⟩) rfl (lasts_just _) ?_
          | refine rel_moveC _ (.inl rfl) (by first | exact .inl rfl | exact .inr ⟨_, _, _, rfl, rfl, rfl⟩) ?_
          | refine rel_moveC _ (.inr rfl) (by first | exact .inl rfl | exact .inr ⟨_, _, _, rfl, rfl, rfl⟩) ?_
          | refine rel_str _ _ rfl (by first | exact .inl rfl | exact .inr ⟨_, _, _, rfl, rfl, rfl⟩) rfl ?_
          | refine rel_lenB _ _ rfl (by first | exact .inl rfl | exact .inr ⟨_, _, _, rfl, rfl, rfl⟩) rfl ?_
          | refine rel_move _ (IsB _) (.inl rfl) (by first | exact .inl rfl | exact .inr ⟨_, _, _, rfl, rfl, rfl⟩) rfl (lasts_isB _) ?_
          | refine rel_move _ (IsB _) (.inr rfl) (by first | exact .inl rfl | exact .inr ⟨_, _, _, rfl, rfl, rfl⟩) rfl (lasts_isB _) ?_
          | (refine rel_exact ?_ (by first | exact .inl rfl | exact .inr ⟨_, _, _, rfl, rfl, rfl⟩) ?_ ?_
             rotate_left
             (intro ρ W hρ hC hk
              simp [known, looks, Op.operands, Call.operands, slotFact, Just, List.lookup] at hk
              obtain ⟨hρ1, hρ2, hρ3⟩ := hρ
              go_simp
              rfl)))
        refine rel_loadRow 9 w7.heap.size 24 24 #[.int .i64 x.toNat, .int .i64 y.toNat, .slice A9 n9 c9] (0, 0) _ rfl (by first | exact .inl rfl | exact .inr ⟨_, _, _, rfl, rfl, rfl⟩) rfl Tryd.underlying24 rfl noteSize (fun W hC => row_to hC R9.out) ?_
        refine rel_op (Just (.bool true)) (lasts_just _) (by first | exact .inl rfl | exact .inr ⟨_, _, _, rfl, rfl, rfl⟩) ?_ ?_
        · intro ρ W hρ hC hk
          simp [known, looks, Op.operands, Call.operands, slotFact, Just, List.lookup] at hk
          obtain ⟨hρ1, hρ2, hρ3⟩ := hρ
          go_simp
          refine ⟨Below.refl _ _, (nsane_any _ _ _ _ _ _ (by have := HNL.out; omega)).mono ?_⟩
          rw [← HNL.out, HSS.out]
          rintro e w3 ⟨rfl, hb3⟩
          exact ⟨_, rfl, rfl, hb3⟩
        repeat (first
          | (refine rel_skip ⟨_, _, _, _, rfl, rfl, rfl, ?_⟩ ?_
             focus (intro h; cases h; done))
          | refine rel_move _ (Just _) (.inl rfl) (by first | exact .inl rfl | exact .inr ⟨_, _, _, rfl, rfl, rfl⟩) rfl (lasts_just _) ?_
          | refine rel_move _ (Just _) (.inr rfl) (by first | exact .inl rfl | exact .inr ⟨_, _, _, rfl, rfl, rfl⟩) rfl (lasts_just _) ?_
          | refine rel_moveC _ (.inl rfl) (by first | exact .inl rfl | exact .inr ⟨_, _, _, rfl, rfl, rfl⟩) ?_
          | refine rel_moveC _ (.inr rfl) (by first | exact .inl rfl | exact .inr ⟨_, _, _, rfl, rfl, rfl⟩) ?_
          | refine rel_str _ _ rfl (by first | exact .inl rfl | exact .inr ⟨_, _, _, rfl, rfl, rfl⟩) rfl ?_
          | refine rel_lenB _ _ rfl (by first | exact .inl rfl | exact .inr ⟨_, _, _, rfl, rfl, rfl⟩) rfl ?_
          | refine rel_move _ (IsB _) (.inl rfl) (by first | exact .inl rfl | exact .inr ⟨_, _, _, rfl, rfl, rfl⟩) rfl (lasts_isB _) ?_
          | refine rel_move _ (IsB _) (.inr rfl) (by first | exact .inl rfl | exact .inr ⟨_, _, _, rfl, rfl, rfl⟩) rfl (lasts_isB _) ?_
          | (refine rel_exact ?_ (by first | exact .inl rfl | exact .inr ⟨_, _, _, rfl, rfl, rfl⟩) ?_ ?_
             rotate_left
             (intro ρ W hρ hC hk
              simp [known, looks, Op.operands, Call.operands, slotFact, Just, List.lookup] at hk
              obtain ⟨hρ1, hρ2, hρ3⟩ := hρ
              go_simp
              rfl)))
        refine rel_loadRow 3 (w.heap.size + 1) 26 26 #[.int .i64 3, .slice B m j] (0, 0) _ rfl (by first | exact .inl rfl | exact .inr ⟨_, _, _, rfl, rfl, rfl⟩) rfl Tryd.underlying26 rfl msgSize (fun W hC => row_to hC R2g.out) ?_
        refine rel_op (Just (.bool true)) (lasts_just _) (by first | exact .inl rfl | exact .inr ⟨_, _, _, rfl, rfl, rfl⟩) ?_ ?_
        · intro ρ W hρ hC hk
          simp [known, looks, Op.operands, Call.operands, slotFact, Just, List.lookup] at hk
          obtain ⟨hρ1, hρ2, hρ3⟩ := hρ
          go_simp
          refine ⟨Below.refl _ _, (sane_any _ _ _ _ _ (by omega)).mono ?_⟩
          rw [saneB_note m (by have := HDL.out; omega) (by have := HDL.out; omega)]
          rintro e w3 ⟨rfl, hb3⟩
          exact ⟨_, rfl, rfl, hb3⟩
        repeat (first
          | (refine rel_skip ⟨_, _, _, _, rfl, rfl, rfl, ?_⟩ ?_
             focus (intro h; cases h; done))
          | refine rel_move _ (Just _) (.inl rfl) (by first | exact .inl rfl | exact .inr ⟨_, _, _, rfl, rfl, rfl⟩) rfl (lasts_just _) ?_
          | refine rel_move _ (Just _) (.inr rfl) (by first | exact .inl rfl | exact .inr ⟨_, _, _, rfl, rfl, rfl⟩) rfl (lasts_just _) ?_
          | refine rel_moveC _ (.inl rfl) (by first | exact .inl rfl | exact .inr ⟨_, _, _, rfl, rfl, rfl⟩) ?_
          | refine rel_moveC _ (.inr rfl) (by first | exact .inl rfl | exact .inr ⟨_, _, _, rfl, rfl, rfl⟩) ?_
          | refine rel_str _ _ rfl (by first | exact .inl rfl | exact .inr ⟨_, _, _, rfl, rfl, rfl⟩) rfl ?_
          | refine rel_lenB _ _ rfl (by first | exact .inl rfl | exact .inr ⟨_, _, _, rfl, rfl, rfl⟩) rfl ?_
          | refine rel_move _ (IsB _) (.inl rfl) (by first | exact .inl rfl | exact .inr ⟨_, _, _, rfl, rfl, rfl⟩) rfl (lasts_isB _) ?_
          | refine rel_move _ (IsB _) (.inr rfl) (by first | exact .inl rfl | exact .inr ⟨_, _, _, rfl, rfl, rfl⟩) rfl (lasts_isB _) ?_
          | (refine rel_exact ?_ (by first | exact .inl rfl | exact .inr ⟨_, _, _, rfl, rfl, rfl⟩) ?_ ?_
             rotate_left
             (intro ρ W hρ hC hk
              simp [known, looks, Op.operands, Call.operands, slotFact, Just, List.lookup] at hk
              obtain ⟨hρ1, hρ2, hρ3⟩ := hρ
              go_simp
              rfl)))
        refine rel_loadRow 9 w7.heap.size 24 24 #[.int .i64 x.toNat, .int .i64 y.toNat, .slice A9 n9 c9] (0, 0) _ rfl (by first | exact .inl rfl | exact .inr ⟨_, _, _, rfl, rfl, rfl⟩) rfl Tryd.underlying24 rfl noteSize (fun W hC => row_to hC R9.out) ?_
        refine rel_op (IsMsg 3 (x :: y :: d)) (lasts_isMsg _ _) (by first | exact .inl rfl | exact .inr ⟨_, _, _, rfl, rfl, rfl⟩) ?_ ?_
        · intro ρ W hρ hC hk
          simp [known, looks, Op.operands, Call.operands, slotFact, Just, List.lookup] at hk
          obtain ⟨hρ1, hρ2, hρ3⟩ := hρ
          go_simp
          refine ⟨Below.refl _ _, ?_⟩
          have hp := nput_yes (x.toNat : Int) (y.toNat : Int) A9 n9 c9 d W (H9.out.below (bstep HB8.out hC)) (by rw [← HNL.out]; exact HSS.out)
          rw [HOP.out] at hp
          exact hp
        refine rel_loadRow 3 (w.heap.size + 1) 26 26 #[.int .i64 3, .slice B m j] (0, 0) _ rfl (by first | exact .inl rfl | exact .inr ⟨_, _, _, rfl, rfl, rfl⟩) rfl Tryd.underlying26 rfl msgSize (fun W hC => row_to hC R2g.out) ?_
        refine rel_op (Just (.bool true)) (lasts_just _) (by first | exact .inl rfl | exact .inr ⟨_, _, _, rfl, rfl, rfl⟩) ?_ ?_
        · intro ρ W hρ hC hk
          simp [known, looks, Op.operands, Call.operands, slotFact, Just, List.lookup] at hk
          obtain ⟨⟨A8, n8, c8, hv, hr8⟩, hk2⟩ := hk
          obtain ⟨hρ1, hρ2, hρ3⟩ := hρ
          go_simp
          refine ⟨Below.refl _ _, (same_yes 3 A8 B n8 c8 m j (x :: y :: d) W hr8 (HM.out.below (bstep HB7.out (bstep HB8.out hC)))).mono ?_⟩
          rintro e w3 ⟨rfl, hb3⟩
          exact ⟨_, rfl, rfl, hb3⟩
        repeat (first
          | (refine rel_skip ⟨_, _, _, _, rfl, rfl, rfl, ?_⟩ ?_
             focus (intro h; cases h; done))
          | refine rel_move _ (Just _) (.inl rfl) (by first | exact .inl rfl | exact .inr ⟨_, _, _, rfl, rfl, rfl⟩) rfl (lasts_just _) ?_
          | refine rel_move _ (Just _) (.inr rfl) (by first | exact .inl rfl | exact .inr ⟨_, _, _, rfl, rfl, rfl⟩) rfl (lasts_just _) ?_
          | refine rel_moveC _ (.inl rfl) (by first | exact .inl rfl | exact .inr ⟨_, _, _, rfl, rfl, rfl⟩) ?_
          | refine rel_moveC _ (.inr rfl) (by first | exact .inl rfl | exact .inr ⟨_, _, _, rfl, rfl, rfl⟩) ?_
          | refine rel_str _ _ rfl (by first | exact .inl rfl | exact .inr ⟨_, _, _, rfl, rfl, rfl⟩) rfl ?_
          | refine rel_lenB _ _ rfl (by first | exact .inl rfl | exact .inr ⟨_, _, _, rfl, rfl, rfl⟩) rfl ?_
          | refine rel_move _ (IsB _) (.inl rfl) (by first | exact .inl rfl | exact .inr ⟨_, _, _, rfl, rfl, rfl⟩) rfl (lasts_isB _) ?_
          | refine rel_move _ (IsB _) (.inr rfl) (by first | exact .inl rfl | exact .inr ⟨_, _, _, rfl, rfl, rfl⟩) rfl (lasts_isB _) ?_
          | (refine rel_exact ?_ (by first | exact .inl rfl | exact .inr ⟨_, _, _, rfl, rfl, rfl⟩) ?_ ?_
             rotate_left
             (intro ρ W hρ hC hk
              simp [known, looks, Op.operands, Call.operands, slotFact, Just, List.lookup] at hk
              obtain ⟨hρ1, hρ2, hρ3⟩ := hρ
              go_simp
              rfl)))
        refine rel_nil ?_
        intro a W hC hd hsz ht
        refine fin_exit hsz hd ht (of_decide_eq_true (by kernel_rfl)) ?_
        repeat (first
          | refine fin_just ?_
          | (intro _ _))
        refine fin_nil ?_
        simp only [Act.put, Option.getD_some, List.setIfInBounds_toArray, List.set_cons_zero, List.set_cons_succ]
        clear hd hsz ht
        go_wp2
        go_ret
        exact ⟨rfl, bstep HB7.out (bstep HB8.out hC)⟩
end Go.Proofs.YtmkpkbigceinfaaDoor
