/- What is got, in its three ways; the law MsgGot. -/
import Derived.Test.YtpoikmbogcggkabMsg8
namespace Go.Proofs.Ytpoikmbogcggkab
open Go.RowKit
set_option maxHeartbeats 400000
set_option maxRecDepth 100000
set_option linter.unusedVariables false
set_option linter.unusedSimpArgs false

theorem octAt_eq {v : Int} {j : Nat} {x : UInt8} (h : v / (2 : Int) ^ (8 * j) % 256 = x.toNat) : octAt v j = x := by
  have := octAt_toNat v j
  rw [h] at this
  exact UInt8.toNat_inj.1 (by omega)
theorem octAt_hi (a b : UInt8) : octAt ((a.toNat * 256 + b.toNat : Nat) : Int) 1 = a := by
  have := a.toNat_lt
  have := b.toNat_lt
  exact octAt_eq (by simp; omega)
theorem octAt_lo (a b : UInt8) : octAt ((a.toNat * 256 + b.toNat : Nat) : Int) 0 = b := by
  have := a.toNat_lt
  have := b.toNat_lt
  exact octAt_eq (by simp; omega)
theorem octAt_one (a : UInt8) : octAt (a.toNat : Int) 0 = a := by
  have := a.toNat_lt
  exact octAt_eq (by simp; omega)

theorem head_of {l : List UInt8} (h : 19 ≤ l.length) (hP : l.take 16 = List.replicate 16 255) : ∃ a b c R, l = List.replicate 16 255 ++ (a :: b :: c :: R) := by
  have e := List.take_append_drop 16 l
  rw [hP] at e
  have hd : 3 ≤ (l.drop 16).length := by rw [List.length_drop]; omega
  match hR : l.drop 16, hd with
  | a :: b :: c :: R, _ =>
    rw [hR] at e
    exact ⟨a, b, c, R, e.symm⟩

theorem getM_cases (l : List UInt8) :
    (getM l = ⟨0, [], 0, 0, 0, []⟩ ∧ l.length < 4096) ∨
    (∃ (s : Int) (d : List UInt8), getM l = ⟨0, [], 0, 1, s, d⟩ ∧ 19 ≤ l.length ∧ ((s = 1 ∧ d = []) ∨ (s = 2 ∧ d = (l.drop 16).take 2) ∨ (s = 3 ∧ d = (l.drop 18).take 1))) ∨
    (∃ (t : Int) (s : Nat), OkS t s ∧ s ≤ l.length ∧ getM l = ⟨t, (l.take s).drop 19, s, 0, 0, []⟩ ∧ l.take s = msgL t ((l.take s).drop 19)) := by
  by_cases h1 : l.length < 19
  · left
    unfold getM
    rw [if_pos h1]
    exact ⟨rfl, by omega⟩
  · by_cases hP : l.take 16 = List.replicate 16 255
    · obtain ⟨a, b, c, R, rfl⟩ := head_of (by omega) hP
      have hl : (List.replicate 16 255 ++ (a :: b :: c :: R)).length = R.length + 19 := by simp
      have ha := a.toNat_lt
      have hb := b.toNat_lt
      have ec : octAt (c.toNat : Int) 0 = c := octAt_one c
      have p2 : putL ((a.toNat * 256 + b.toNat : Nat) : Int) 2 = [a, b] := by
        have : putL ((a.toNat * 256 + b.toNat : Nat) : Int) 2 = [octAt ((a.toNat * 256 + b.toNat : Nat) : Int) 1, octAt ((a.toNat * 256 + b.toNat : Nat) : Int) 0] := by simp [putL, List.range_succ]
        rw [this, octAt_hi, octAt_lo]
      have p1 : putL (c.toNat : Int) 1 = [c] := by
        have : putL (c.toNat : Int) 1 = [octAt (c.toNat : Int) 0] := by simp [putL, List.range_succ]
        rw [this, ec]
      by_cases h2 : 19 ≤ ((a.toNat * 256 + b.toNat : Nat) : Int) ∧ ((a.toNat * 256 + b.toNat : Nat) : Int) ≤ 4096
      · cases h3 : (leastZ c.toNat == 0)
        · cases h4 : wrongB c.toNat ((a.toNat * 256 + b.toNat : Nat) : Int)
          · have hne : leastZ (c.toNat : Int) ≠ 0 := by
              intro e
              rw [e] at h3
              simp at h3
            have hbd := leastZ_bd (c.toNat : Int)
            have hk : OkS (c.toNat : Int) (a.toNat * 256 + b.toNat) := ⟨by omega, h4, by omega⟩
            have hf := getM_form hk R
            rw [octAt_hi, octAt_lo, ec] at hf
            by_cases h5 : R.length + 19 < a.toNat * 256 + b.toNat
            · left
              rw [hf, if_pos h5]
              exact ⟨rfl, by rw [hl]; omega⟩
            · right; right
              have hge := hk.ge
              have et : ((List.replicate 16 255 ++ (a :: b :: c :: R)).take (a.toNat * 256 + b.toNat)).drop 19 = R.take (a.toNat * 256 + b.toNat - 19) := by
                rw [List.drop_take, show (19 : Nat) = 19 + 0 from rfl, head_drop]
                simp
              refine ⟨c.toNat, a.toNat * 256 + b.toNat, hk, by rw [hl]; omega, ?_, ?_⟩
              · rw [hf, if_neg h5, et]
              · rw [et, msgL_form]
                have e0 : 19 + (R.take (a.toNat * 256 + b.toNat - 19)).length = a.toNat * 256 + b.toNat := by rw [List.length_take]; omega
                rw [e0, octAt_hi, octAt_lo, ec]
                obtain ⟨j, hj⟩ : ∃ j, a.toNat * 256 + b.toNat = 19 + j := ⟨_, (Nat.add_sub_of_le hge).symm⟩
                rw [hj, List.take_append]
                simp only [List.length_replicate]
                rw [List.take_of_length_le (by simp; omega), show 19 + j - 16 = j + 1 + 1 + 1 by omega, show 19 + j - 19 = j by omega]
                rfl
          · right; left
            refine ⟨2, [a, b], ?_, by rw [hl]; omega, .inr (.inl ⟨rfl, rfl⟩)⟩
            unfold getM
            rw [head_szN, head_kdN, head_take, decide_eq_true rfl, hl, if_neg (by omega)]
            have hf : faultN true ((a.toNat * 256 + b.toNat : Nat) : Int) c.toNat = (1, 2, [a, b]) := by
              unfold faultN
              rw [if_neg (by decide), if_pos h2, if_neg (by rw [h3]; decide), if_pos h4, p2]
            rw [hf, if_pos (.inl (show (0 : Int) < 1 by decide))]
        · right; left
          refine ⟨3, [c], ?_, by rw [hl]; omega, .inr (.inr ⟨rfl, rfl⟩)⟩
          unfold getM
          rw [head_szN, head_kdN, head_take, decide_eq_true rfl, hl, if_neg (by omega)]
          have hf : faultN true ((a.toNat * 256 + b.toNat : Nat) : Int) c.toNat = (1, 3, [c]) := by
            unfold faultN
            rw [if_neg (by decide), if_pos h2, if_pos h3, p1]
          rw [hf, if_pos (.inl (show (0 : Int) < 1 by decide))]
      · right; left
        refine ⟨2, [a, b], ?_, by rw [hl]; omega, .inr (.inl ⟨rfl, rfl⟩)⟩
        unfold getM
        rw [head_szN, head_kdN, head_take, decide_eq_true rfl, hl, if_neg (by omega)]
        have hf : faultN true ((a.toNat * 256 + b.toNat : Nat) : Int) c.toNat = (1, 2, [a, b]) := by
          unfold faultN
          rw [if_neg (by decide), if_neg h2, p2]
        rw [hf, if_pos (.inl (show (0 : Int) < 1 by decide))]
    · right; left
      refine ⟨1, [], ?_, by omega, .inl ⟨rfl, rfl⟩⟩
      unfold getM
      rw [if_neg h1, decide_eq_false hP]
      have hf : faultN false (szN l) (kdN l) = (1, 1, []) := by unfold faultN; rw [if_pos rfl]
      rw [hf, if_pos (.inl (show (0 : Int) < 1 by decide))]

theorem row3 {w : World} {g : Nat} {t : TypeId} {a b c : Value} (h : w.heap[g]? = some (.cells #[a, b, c] t (0, 0))) : w.cell? ⟨g, 0, none⟩ = some a ∧ w.cell? ⟨g, 1, none⟩ = some b ∧ w.cell? ⟨g, 2, none⟩ = some c := by
  refine ⟨?_, ?_, ?_⟩ <;> simp [World.cell?, h]
theorem got_none (A : Option Addr) (n c : Nat) (l : List UInt8) (w0 : World) (h : RdB w0 A n c l) (hn : n < 4096) (hg : getM l = ⟨0, [], 0, 0, 0, []⟩) :
    Calls Try.prog 4 #[.slice A n c] w0 fun e w' => e = .returned (.bool true) ∧ Below w0.heap.size w0 w' := by
  have H1 := Lib.hid (show decide ((n : Int) < 4096) = true from decide_eq_true (by omega))
  have h2 : ¬ (5000 : Int) < n := by omega
  have hn' : n ≤ 5000 := by omega
  have hcap : (n : Int) ≤ c := by have := h.le; omega
  have HA := Lib.hid h
  have HGG := Lib.hid hg
  clear h hn hg
  go_enter Try.func4, Try.ntmps4
  go_wp2_with fail
  with_reducible refine (awake_any _).mono ?_
  rintro e w1 ⟨rfl, hb1⟩
  go_wp2_with fail
  have hget := get_any _ _ _ _ _ (HA.out.below hb1)
  rw [HGG.out] at hget
  with_reducible refine hget.mono ?_
  clear hget
  rintro e w2 ⟨_, rfl, ⟨A2, n2, c2, A3, n3, c3, rfl, hr2, hr3⟩, hb2⟩
  have hl2 : n2 = 0 := hr2.len.symm
  subst hl2
  have HB := Lib.hid (bstep hb1 hb2)
  clear hr2 hr3 hb1 hb2
  have h1 := H1.out
  go_wp2
  go_ret
  exact ⟨rfl, balloc (balloc HB.out _) _⟩

theorem got_bad (A : Option Addr) (n c : Nat) (l : List UInt8) (w0 : World) (h : RdB w0 A n c l) (hn : n ≤ 5000) (h19 : 19 ≤ n) (s : Int) (dat : List UInt8) (hg : getM l = ⟨0, [], 0, 1, s, dat⟩)
    (hs : (s = 1 ∧ dat = []) ∨ (s = 2 ∧ dat = (l.drop 16).take 2) ∨ (s = 3 ∧ dat = (l.drop 18).take 1)) :
    Calls Try.prog 4 #[.slice A n c] w0 fun e w' => e = .returned (.bool true) ∧ Below w0.heap.size w0 w' := by
  have h1 : (19 : Int) ≤ n := by omega
  have h2 : ¬ (5000 : Int) < n := by omega
  have hcap : (n : Int) ≤ c := by have := h.le; omega
  have hcap2 := h.max
  have HCC := Lib.hid h.le
  unfold maxLen at hcap2
  have HA := Lib.hid h
  have r16 := (h.cut (k := 16) (by omega)).take (k := 2) (c' := c - 16) (by omega) (by have := h.le; omega) (Nat.le_refl _)
  have r18 := (h.cut (k := 18) (by omega)).take (k := 1) (c' := c - 18) (by omega) (by have := h.le; omega) (Nat.le_refl _)
  rw [if_neg (by have := h.le; omega)] at r16 r18
  obtain ⟨b, o, rfl, _⟩ := h.at_ (k := 0) (by omega)
  replace r16 : RdB w0 (some ⟨b, o + 16, none⟩) 2 (c - 16) ((l.drop 16).take 2) := r16
  replace r18 : RdB w0 (some ⟨b, o + 18, none⟩) 1 (c - 18) ((l.drop 18).take 1) := r18
  have R16 := Lib.hid r16
  have R18 := Lib.hid r18
  clear h r16 r18
  rcases hs with ⟨rfl, rfl⟩ | ⟨rfl, rfl⟩ | ⟨rfl, rfl⟩
  ·
    have HGG := Lib.hid hg
    clear hg
    go_enter Try.func4, Try.ntmps4
    go_wp2_with fail
    with_reducible refine (awake_any _).mono ?_
    rintro e w1 ⟨rfl, hb1⟩
    go_wp2_with fail
    have hget := get_any _ _ _ _ _ (HA.out.below hb1)
    rw [HGG.out] at hget
    with_reducible refine hget.mono ?_
    clear hget
    rintro e w2 ⟨_, rfl, ⟨A2, n2, c2, A3, n3, c3, rfl, hr2, hr3⟩, hb2⟩
    have hl2 : n2 = 0 := hr2.len.symm
    subst hl2
    have HB := Lib.hid (bstep hb1 hb2)
    obtain rfl : n3 = 0 := by
      have e1 := hr3.len
      have e2 := HA.out.len
      simp at e1
      omega
    have HR3 := Lib.hid hr3
    clear hr2 hr3 hb1 hb2
    go_wp2_with fail
    obtain ⟨W0, hW0⟩ : ∃ W0, W0 = (w2.alloc (.cells #[.int .i64 0, .slice A2 0 c2] 24)).alloc (.cells #[.int .i64 1, .int .i64 1, .slice A3 0 c3] 29) := ⟨_, rfl⟩
    rw [← hW0]
    have HM := Lib.hid (show W0.heap[w2.heap.size]? = some (.cells #[.int .i64 0, .slice A2 0 c2] 24 (0, 0)) by rw [hW0]; exact heap_alloc2_old _ _ _)
    have HN := Lib.hid (show W0.heap[w2.heap.size + 1]? = some (.cells #[.int .i64 1, .int .i64 1, .slice A3 0 c3] 29 (0, 0)) by rw [hW0]; exact heap_alloc2_new _ _ _)
    have HW0 := Lib.hid (show Below w2.heap.size w2 W0 by rw [hW0]; exact balloc (bnew _ _) _)
    clear hW0
    have f1 := fun W (hC : Below W0.heap.size W0 W) => (row3 (row_to hC HN.out)).2.1
    have f2 := fun W (hC : Below W0.heap.size W0 W) => (row3 (row_to hC HN.out)).2.2
    have f3 := fun W (hC : Below W0.heap.size W0 W) => (HR3.out.below (bstep HW0.out hC)).str
    have f4 := fun W (hC : Below W0.heap.size W0 W) => (R16.out.below (bstep HB.out (bstep HW0.out hC))).str
    have f5 := fun W (hC : Below W0.heap.size W0 W) => (R18.out.below (bstep HB.out (bstep HW0.out hC))).str
    have i18 : (18 : Int) ≤ c := by omega
    have i19 : (19 : Int) ≤ c := by omega
    have j16 : ¬ c = 16 := by omega
    have j18 : ¬ c = 18 := by omega
    refine wp_region_rel (by kernel_rfl) (by decide +kernel) (by rfl) ?_
    repeat (first
      | (refine rel_skip ⟨_, _, _, _, rfl, rfl, rfl, ?_⟩ ?_
         focus (intro h; cases h; done))
      | refine rel_move _ (Just _) (.inl rfl) (by first | exact .inl rfl | exact .inr ⟨_, _, _, rfl, rfl, rfl⟩) rfl (lasts_just _) ?_
      | refine rel_move _ (Just _) (.inr rfl) (by first | exact .inl rfl | exact .inr ⟨_, _, _, rfl, rfl, rfl⟩) rfl (lasts_just _) ?_
      | refine rel_moveC _ (.inl rfl) (by first | exact .inl rfl | exact .inr ⟨_, _, _, rfl, rfl, rfl⟩) ?_
      | refine rel_moveC _ (.inr rfl) (by first | exact .inl rfl | exact .inr ⟨_, _, _, rfl, rfl, rfl⟩) ?_
      | refine rel_str _ _ rfl (by first | exact .inl rfl | exact .inr ⟨_, _, _, rfl, rfl, rfl⟩) rfl ?_
      | refine rel_lenB _ _ rfl (by first | exact .inl rfl | exact .inr ⟨_, _, _, rfl, rfl, rfl⟩) rfl ?_
      | refine rel_move _ (IsB _) (.inl rfl) (by first | exact .inl rfl | exact .inr ⟨_, _, _, rfl, rfl, rfl⟩) rfl (lasts_isB _) ?_
      | refine rel_move _ (IsB _) (.inr rfl) (by first | exact .inl rfl | exact .inr ⟨_, _, _, rfl, rfl, rfl⟩) rfl (lasts_isB _) ?_
      | (refine rel_exact ?_ (by first | exact .inl rfl | exact .inr ⟨_, _, _, rfl, rfl, rfl⟩) ?_ ?_
         rotate_left
         (intro ρ W hρ hC hk
          simp [known, looks, Op.operands, Call.operands, slotFact, Just, List.lookup] at hk
          obtain ⟨hρ1, hρ2, hρ3⟩ := hρ
          go_simp
          rfl)))
    refine rel_nil ?_
    intro a W hC hd hsz ht
    refine fin_exit hsz hd ht (of_decide_eq_true (by kernel_rfl)) ?_
    repeat (first
      | refine fin_just ?_
      | (intro _ _))
    refine fin_nil ?_
    simp only [Act.put, Option.getD_some, List.setIfInBounds_toArray, List.set_cons_zero, List.set_cons_succ]
    clear hd hsz ht
    go_wp2
    go_ret
    exact ⟨rfl, bstep HB.out (bstep HW0.out hC)⟩
  ·
    have HGG := Lib.hid hg
    clear hg
    go_enter Try.func4, Try.ntmps4
    go_wp2_with fail
    with_reducible refine (awake_any _).mono ?_
    rintro e w1 ⟨rfl, hb1⟩
    go_wp2_with fail
    have hget := get_any _ _ _ _ _ (HA.out.below hb1)
    rw [HGG.out] at hget
    with_reducible refine hget.mono ?_
    clear hget
    rintro e w2 ⟨_, rfl, ⟨A2, n2, c2, A3, n3, c3, rfl, hr2, hr3⟩, hb2⟩
    have hl2 : n2 = 0 := hr2.len.symm
    subst hl2
    have HB := Lib.hid (bstep hb1 hb2)
    obtain rfl : n3 = 2 := by
      have e1 := hr3.len
      have e2 := HA.out.len
      simp at e1
      omega
    have HR3 := Lib.hid hr3
    clear hr2 hr3 hb1 hb2
    go_wp2_with fail
    obtain ⟨W0, hW0⟩ : ∃ W0, W0 = (w2.alloc (.cells #[.int .i64 0, .slice A2 0 c2] 24)).alloc (.cells #[.int .i64 1, .int .i64 2, .slice A3 2 c3] 29) := ⟨_, rfl⟩
    rw [← hW0]
    have HM := Lib.hid (show W0.heap[w2.heap.size]? = some (.cells #[.int .i64 0, .slice A2 0 c2] 24 (0, 0)) by rw [hW0]; exact heap_alloc2_old _ _ _)
    have HN := Lib.hid (show W0.heap[w2.heap.size + 1]? = some (.cells #[.int .i64 1, .int .i64 2, .slice A3 2 c3] 29 (0, 0)) by rw [hW0]; exact heap_alloc2_new _ _ _)
    have HW0 := Lib.hid (show Below w2.heap.size w2 W0 by rw [hW0]; exact balloc (bnew _ _) _)
    clear hW0
    have f1 := fun W (hC : Below W0.heap.size W0 W) => (row3 (row_to hC HN.out)).2.1
    have f2 := fun W (hC : Below W0.heap.size W0 W) => (row3 (row_to hC HN.out)).2.2
    have f3 := fun W (hC : Below W0.heap.size W0 W) => (HR3.out.below (bstep HW0.out hC)).str
    have f4 := fun W (hC : Below W0.heap.size W0 W) => (R16.out.below (bstep HB.out (bstep HW0.out hC))).str
    have f5 := fun W (hC : Below W0.heap.size W0 W) => (R18.out.below (bstep HB.out (bstep HW0.out hC))).str
    have i18 : (18 : Int) ≤ c := by omega
    have i19 : (19 : Int) ≤ c := by omega
    have j16 : ¬ c = 16 := by omega
    have j18 : ¬ c = 18 := by omega
    refine wp_region_rel (by kernel_rfl) (by decide +kernel) (by rfl) ?_
    repeat (first
      | (refine rel_skip ⟨_, _, _, _, rfl, rfl, rfl, ?_⟩ ?_
         focus (intro h; cases h; done))
      | refine rel_move _ (Just _) (.inl rfl) (by first | exact .inl rfl | exact .inr ⟨_, _, _, rfl, rfl, rfl⟩) rfl (lasts_just _) ?_
      | refine rel_move _ (Just _) (.inr rfl) (by first | exact .inl rfl | exact .inr ⟨_, _, _, rfl, rfl, rfl⟩) rfl (lasts_just _) ?_
      | refine rel_moveC _ (.inl rfl) (by first | exact .inl rfl | exact .inr ⟨_, _, _, rfl, rfl, rfl⟩) ?_
      | refine rel_moveC _ (.inr rfl) (by first | exact .inl rfl | exact .inr ⟨_, _, _, rfl, rfl, rfl⟩) ?_
      | refine rel_str _ _ rfl (by first | exact .inl rfl | exact .inr ⟨_, _, _, rfl, rfl, rfl⟩) rfl ?_
      | refine rel_lenB _ _ rfl (by first | exact .inl rfl | exact .inr ⟨_, _, _, rfl, rfl, rfl⟩) rfl ?_
      | refine rel_move _ (IsB _) (.inl rfl) (by first | exact .inl rfl | exact .inr ⟨_, _, _, rfl, rfl, rfl⟩) rfl (lasts_isB _) ?_
      | refine rel_move _ (IsB _) (.inr rfl) (by first | exact .inl rfl | exact .inr ⟨_, _, _, rfl, rfl, rfl⟩) rfl (lasts_isB _) ?_
      | (refine rel_exact ?_ (by first | exact .inl rfl | exact .inr ⟨_, _, _, rfl, rfl, rfl⟩) ?_ ?_
         rotate_left
         (intro ρ W hρ hC hk
          simp [known, looks, Op.operands, Call.operands, slotFact, Just, List.lookup] at hk
          obtain ⟨hρ1, hρ2, hρ3⟩ := hρ
          go_simp
          rfl)))
    refine rel_nil ?_
    intro a W hC hd hsz ht
    refine fin_exit hsz hd ht (of_decide_eq_true (by kernel_rfl)) ?_
    repeat (first
      | refine fin_just ?_
      | (intro _ _))
    refine fin_nil ?_
    simp only [Act.put, Option.getD_some, List.setIfInBounds_toArray, List.set_cons_zero, List.set_cons_succ]
    clear hd hsz ht
    go_wp2
    go_ret
    exact ⟨rfl, bstep HB.out (bstep HW0.out hC)⟩
  ·
    have HGG := Lib.hid hg
    clear hg
    go_enter Try.func4, Try.ntmps4
    go_wp2_with fail
    with_reducible refine (awake_any _).mono ?_
    rintro e w1 ⟨rfl, hb1⟩
    go_wp2_with fail
    have hget := get_any _ _ _ _ _ (HA.out.below hb1)
    rw [HGG.out] at hget
    with_reducible refine hget.mono ?_
    clear hget
    rintro e w2 ⟨_, rfl, ⟨A2, n2, c2, A3, n3, c3, rfl, hr2, hr3⟩, hb2⟩
    have hl2 : n2 = 0 := hr2.len.symm
    subst hl2
    have HB := Lib.hid (bstep hb1 hb2)
    obtain rfl : n3 = 1 := by
      have e1 := hr3.len
      have e2 := HA.out.len
      simp at e1
      omega
    have HR3 := Lib.hid hr3
    clear hr2 hr3 hb1 hb2
    go_wp2_with fail
    obtain ⟨W0, hW0⟩ : ∃ W0, W0 = (w2.alloc (.cells #[.int .i64 0, .slice A2 0 c2] 24)).alloc (.cells #[.int .i64 1, .int .i64 3, .slice A3 1 c3] 29) := ⟨_, rfl⟩
    rw [← hW0]
    have HM := Lib.hid (show W0.heap[w2.heap.size]? = some (.cells #[.int .i64 0, .slice A2 0 c2] 24 (0, 0)) by rw [hW0]; exact heap_alloc2_old _ _ _)
    have HN := Lib.hid (show W0.heap[w2.heap.size + 1]? = some (.cells #[.int .i64 1, .int .i64 3, .slice A3 1 c3] 29 (0, 0)) by rw [hW0]; exact heap_alloc2_new _ _ _)
    have HW0 := Lib.hid (show Below w2.heap.size w2 W0 by rw [hW0]; exact balloc (bnew _ _) _)
    clear hW0
    have f1 := fun W (hC : Below W0.heap.size W0 W) => (row3 (row_to hC HN.out)).2.1
    have f2 := fun W (hC : Below W0.heap.size W0 W) => (row3 (row_to hC HN.out)).2.2
    have f3 := fun W (hC : Below W0.heap.size W0 W) => (HR3.out.below (bstep HW0.out hC)).str
    have f4 := fun W (hC : Below W0.heap.size W0 W) => (R16.out.below (bstep HB.out (bstep HW0.out hC))).str
    have f5 := fun W (hC : Below W0.heap.size W0 W) => (R18.out.below (bstep HB.out (bstep HW0.out hC))).str
    have i18 : (18 : Int) ≤ c := by omega
    have i19 : (19 : Int) ≤ c := by omega
    have j16 : ¬ c = 16 := by omega
    have j18 : ¬ c = 18 := by omega
    refine wp_region_rel (by kernel_rfl) (by decide +kernel) (by rfl) ?_
    repeat (first
      | (refine rel_skip ⟨_, _, _, _, rfl, rfl, rfl, ?_⟩ ?_
         focus (intro h; cases h; done))
      | refine rel_move _ (Just _) (.inl rfl) (by first | exact .inl rfl | exact .inr ⟨_, _, _, rfl, rfl, rfl⟩) rfl (lasts_just _) ?_
      | refine rel_move _ (Just _) (.inr rfl) (by first | exact .inl rfl | exact .inr ⟨_, _, _, rfl, rfl, rfl⟩) rfl (lasts_just _) ?_
      | refine rel_moveC _ (.inl rfl) (by first | exact .inl rfl | exact .inr ⟨_, _, _, rfl, rfl, rfl⟩) ?_
      | refine rel_moveC _ (.inr rfl) (by first | exact .inl rfl | exact .inr ⟨_, _, _, rfl, rfl, rfl⟩) ?_
      | refine rel_str _ _ rfl (by first | exact .inl rfl | exact .inr ⟨_, _, _, rfl, rfl, rfl⟩) rfl ?_
      | refine rel_lenB _ _ rfl (by first | exact .inl rfl | exact .inr ⟨_, _, _, rfl, rfl, rfl⟩) rfl ?_
      | refine rel_move _ (IsB _) (.inl rfl) (by first | exact .inl rfl | exact .inr ⟨_, _, _, rfl, rfl, rfl⟩) rfl (lasts_isB _) ?_
      | refine rel_move _ (IsB _) (.inr rfl) (by first | exact .inl rfl | exact .inr ⟨_, _, _, rfl, rfl, rfl⟩) rfl (lasts_isB _) ?_
      | (refine rel_exact ?_ (by first | exact .inl rfl | exact .inr ⟨_, _, _, rfl, rfl, rfl⟩) ?_ ?_
         rotate_left
         (intro ρ W hρ hC hk
          simp [known, looks, Op.operands, Call.operands, slotFact, Just, List.lookup] at hk
          obtain ⟨hρ1, hρ2, hρ3⟩ := hρ
          go_simp
          rfl)))
    refine rel_nil ?_
    intro a W hC hd hsz ht
    refine fin_exit hsz hd ht (of_decide_eq_true (by kernel_rfl)) ?_
    repeat (first
      | refine fin_just ?_
      | (intro _ _))
    refine fin_nil ?_
    simp only [Act.put, Option.getD_some, List.setIfInBounds_toArray, List.set_cons_zero, List.set_cons_succ]
    clear hd hsz ht
    go_wp2
    go_ret
    exact ⟨rfl, bstep HB.out (bstep HW0.out hC)⟩
end Go.Proofs.Ytpoikmbogcggkab
