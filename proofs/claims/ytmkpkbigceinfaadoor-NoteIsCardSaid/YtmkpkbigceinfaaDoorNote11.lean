/- The walks of the reference of layer 5: what is put, what is got. -/
import Derived.Test.YtmkpkbigceinfaaDoorNote10
namespace Go.Proofs.YtmkpkbigceinfaaDoor
open Go.RowKit
set_option maxHeartbeats 1000000
set_option linter.unusedVariables false
set_option linter.unusedSimpArgs false

theorem rnput_no (c s : Int) (A : Option Addr) (n k : Nat) (w : World) (hm : n ≤ 140737488355328) (hs : nsaneB c s n = false) :
    Calls Tryd.prog 15 #[.agg #[.int .i64 c, .int .i64 s, .slice A n k]] w fun e w' => e = .returned (.agg #[.int .i64 0, .slice none 0 0]) ∧ Below w.heap.size w w' := by
  have HS := Lib.hid hs
  clear hs
  go_enter Tryd.func15, Tryd.ntmps15
  go_wp2_with fail
  with_reducible refine (rnsane_any _ _ _ _ _ _ hm).mono ?_
  rw [HS.out]
  rintro e w1 ⟨rfl, hb1⟩
  have hg2 := (hb1.block (w.heap.size + 1) (by simp)).trans (heap_alloc2_new w _ _)
  have hz : w.heap.size + 1 < w1.heap.size := (Array.getElem?_eq_some_iff.1 hg2).1
  obtain ⟨⟨q0, q1⟩, r0, r1⟩ := row2_cells hg2
  have HG := Lib.hid hg2
  clear hg2
  go_wp2
  exact bodyPost_ret (results_cell_row rfl _ _ (w.heap.size + 1) _ _ _ _ rfl (set2 HG.out _ _) Tryd.underlying26 rfl msgSize) rfl ⟨rfl, below_set2 (bstep (balloc (bnew w _) _) hb1) (by omega) _ _⟩

theorem rnput_yes (c s : Int) (A : Option Addr) (n k : Nat) (l : List UInt8) (w : World) (h : RdB w A n k l) (hs : nsaneB c s n = true) :
    Calls Tryd.prog 15 #[.agg #[.int .i64 c, .int .i64 s, .slice A n k]] w (Ret (IsMsg 3 (octAt c 0 :: octAt s 0 :: l)) w) := by
  obtain ⟨c1, c2, s1, s2, hn⟩ := nsane_bd hs
  have HS := Lib.hid hs
  have HL := Lib.hid h
  have hm : n ≤ 140737488355328 := by omega
  obtain ⟨i0, hi, hz0, hz1, hz2⟩ := info_row infoB
  have HI := Lib.hid hi
  have H0 := Lib.hid hz0
  have H1 := Lib.hid hz1
  have H2 := Lib.hid hz2
  clear hi hz0 hz1 hz2 hs h
  go_enter Tryd.func15, Tryd.ntmps15
  go_wp2_with fail
  with_reducible refine (rnsane_any _ _ _ _ _ _ hm).mono ?_
  rw [HS.out]
  rintro e w1 ⟨rfl, hb1⟩
  have hg1 := (hb1.block w.heap.size (by simp; omega)).trans (heap_alloc2_old w _ _)
  have hg2 := (hb1.block (w.heap.size + 1) (by simp)).trans (heap_alloc2_new w _ _)
  have hz : w.heap.size + 1 < w1.heap.size := (Array.getElem?_eq_some_iff.1 hg2).1
  have hz' : w.heap.size < w1.heap.size := by omega
  obtain ⟨⟨p0, p1, p2⟩, o0, o1, o2⟩ := own3_cells hg1
  have HB1 := Lib.hid (bstep (balloc (bnew w _) _) hb1)
  have HG := Lib.hid hg2
  clear hg1 hg2 hb1
  go_wp2_with (at_builtin; (refine wpList_append_gr _ rfl _ _ 22 rfl w1.heap.size 5 i0 (.int .u8 0) 1 1 Tryd.underlying22 HI.out H0.out H1.out H2.out rfl (by decide) _ 2 [.int .u8 c, .int .u8 s] rfl (.inr ⟨rfl, by unfold maxLen; omega, _, rfl, lies_new2 w1 _ _ _⟩) A n k (l.map bv) rfl (by simp [HL.out.len]) (HL.out.below (balloc HB1.out _)).lies ?_ (oneCell_bv l) (by unfold maxLen; omega) (by omega) (by simp); intro A' c' w' hG; have hg3 := (hG.below.block (w.heap.size + 1) hz).trans ((heap_alloc_old w1 _ hz).trans HG.out); obtain ⟨⟨q0, q1⟩, r0, r1⟩ := row2_cells hg3; have hz3 : w.heap.size + 1 < w'.heap.size := (Array.getElem?_eq_some_iff.1 hg3).1; have HG3 := Lib.hid hg3; have HGG := Lib.hid hG; clear hg3 hG))
  have e1 : ([.int .u8 c, .int .u8 s] ++ l.map bv) = (octAt c 0 :: octAt s 0 :: l).map bv := by
    simp [bv_one (show 0 ≤ c by omega) c2, bv_one s1 s2]
  have hgr := HGG.out.gr
  rw [e1] at hgr
  have hr := rdB_of_gr hgr
  have hf : ∀ b' o', A' = some ⟨b', o', none⟩ → b' ≠ w.heap.size + 1 := by
    rintro b' o' rfl
    rcases HGG.out.where_ with h1 | h1
    · have h2 : b' = w1.heap.size := Option.some.inj h1
      omega
    · have h2 : b' = (w1.alloc _).heap.size := Option.some.inj h1
      simp at h2
      omega
  exact bodyPost_ret (results_cell_row rfl _ _ (w.heap.size + 1) _ _ _ _ rfl (set2 HG3.out _ _) Tryd.underlying26 rfl msgSize) rfl
    ⟨_, rfl, ⟨_, _, _, rfl, (hr.setCell hf _).setCell hf _⟩, below_set2 ((balloc HB1.out _).trans (HGG.out.below.mono (by omega))) (by omega) _ _⟩

theorem rnget_short (t : Int) (A : Option Addr) (n c : Nat) (w : World) (h : t ≠ 3 ∨ (t = 3 ∧ n < 2)) :
    Calls Tryd.prog 9 #[.agg #[.int .i64 t, .slice A n c]] w (Ret (IsNG (0, 0, [], false)) w) := by
  rcases h with h | ⟨rfl, h⟩
  · have h' : (t != 3) = true := by simpa using h
    go_enter Tryd.func9, Tryd.ntmps9
    go_wp2
    exact bodyPost_ret (results_ct rfl _ _ (w.heap.size + 1) _ _ _ _ _ rfl rfl (heap_alloc2_new w _ _) Tryd.underlying24 rfl noteSize) rfl ⟨_, rfl, ⟨_, _, _, rfl, RdB.nil _⟩, balloc (bnew w _) _⟩
  · have h' : (n : Int) < 2 := by omega
    go_enter Tryd.func9, Tryd.ntmps9
    go_wp2
    exact bodyPost_ret (results_ct rfl _ _ (w.heap.size + 1) _ _ _ _ _ rfl rfl (heap_alloc2_new w _ _) Tryd.underlying24 rfl noteSize) rfl ⟨_, rfl, ⟨_, _, _, rfl, RdB.nil _⟩, balloc (bnew w _) _⟩


theorem rnget_zero (A : Option Addr) (n c : Nat) (l : List UInt8) (w : World) (h : RdB w A n c l) (hn : 2 ≤ n) (hz : 4078 ≤ n ∨ (n ≤ 4077 ∧ l.getD 0 0 = 0)) :
    Calls Tryd.prog 9 #[.agg #[.int .i64 3, .slice A n c]] w (Ret (IsNG (0, 0, [], false)) w) := by
  have hlen := h.len
  obtain ⟨b, o, rfl, hcell⟩ := h.at_ (k := 0) (by omega)
  have c0 := hcell 0 (by omega)
  simp only [Nat.add_zero] at c0
  obtain ⟨x, hx⟩ : ∃ x, l[0] = x := ⟨_, rfl⟩
  rw [hx] at c0
  have hbl : b < w.heap.size := World.block_lt_of_cell? _ _ c0
  have hxz : n ≤ 4077 → x = 0 := by
    intro h4
    rcases hz with h5 | ⟨_, h5⟩
    · omega
    · simpa [List.getD, List.getElem?_eq_getElem (show 0 < l.length by omega), hx] using h5
  clear hcell h hx hlen hz
  rcases (show 4078 ≤ n ∨ n ≤ 4077 by omega) with h4 | h4
  · have i1 : decide ((4077 : Int) < n) = true := decide_eq_true (by omega)
    have hn2 : ¬ (n : Int) < 2 := by omega
    clear h4 hxz
    go_enter Tryd.func9, Tryd.ntmps9
    go_wp2
    exact bodyPost_ret (results_ct rfl _ _ (w.heap.size + 1) _ _ _ _ _ rfl rfl (heap_alloc2_new w _ _) Tryd.underlying24 rfl noteSize) rfl ⟨_, rfl, ⟨_, _, _, rfl, RdB.nil _⟩, balloc (bnew w _) _⟩
  · have i1 : decide ((4077 : Int) < n) = false := decide_eq_false (by omega)
    have hn2 : ¬ (n : Int) < 2 := by omega
    have hn3 : (0 : Int) < n := by omega
    have hx0 := hxz h4
    subst hx0
    clear h4 hxz
    go_enter Tryd.func9, Tryd.ntmps9
    go_wp2
    exact bodyPost_ret (results_ct rfl _ _ (w.heap.size + 1) _ _ _ _ _ rfl rfl (heap_alloc2_new w _ _) Tryd.underlying24 rfl noteSize) rfl ⟨_, rfl, ⟨_, _, _, rfl, RdB.nil _⟩, balloc (bnew w _) _⟩
theorem rnget_ok (A : Option Addr) (n c : Nat) (l : List UInt8) (w : World) (h : RdB w A n c l) (hn : 2 ≤ n) (h4 : n ≤ 4077) (h0 : l.getD 0 0 ≠ 0) :
    Calls Tryd.prog 9 #[.agg #[.int .i64 3, .slice A n c]] w (Ret (IsNG ((l.getD 0 0).toNat, (l.getD 1 0).toNat, l.drop 2, true)) w) := by
  have hlen := h.len
  have hle := h.le
  have hcut := h.cut (k := 2) hn
  have h1 : ¬ (n : Int) < 2 := by omega
  have i1 : decide ((4077 : Int) < n) = false := decide_eq_false (by omega)
  obtain ⟨b, o, rfl, hcell⟩ := h.at_ (k := 0) (by omega)
  obtain ⟨x, hx⟩ : ∃ x, l[0] = x := ⟨_, rfl⟩
  obtain ⟨y, hy⟩ : ∃ y, l[1] = y := ⟨_, rfl⟩
  have c0 := hcell 0 (by omega)
  have c1 := hcell 1 (by omega)
  rw [hx] at c0
  rw [hy] at c1
  simp only [Nat.add_zero] at c0
  have hbl : b < w.heap.size := World.block_lt_of_cell? _ _ c0
  have hxl : x.toNat < 256 := x.toNat_lt
  have hyl : y.toNat < 256 := y.toNat_lt
  have e0 : l.getD 0 0 = x := by simp [List.getD, List.getElem?_eq_getElem (show 0 < l.length by omega), hx]
  have e1 : l.getD 1 0 = y := by simp [List.getD, List.getElem?_eq_getElem (show 1 < l.length by omega), hy]
  rw [e0] at h0
  rw [e0, e1]
  have hx0 : ((x.toNat : Int) == 0) = false := beq_eq_false_iff_ne.2 (fun e => h0 (UInt8.toNat_inj.1 (by simpa using e)))
  have HCUT := Lib.hid hcut
  have k1 : 1 < n := by omega
  have hn3 : (0 : Int) < n := by omega
  clear hcell h hx hy hlen hcut e0 e1 h0 h4
  have hcc : (c = 2 ∨ 2 < c) := by omega
  obtain ⟨HC⟩ : (Hid (c = 2) ∨ Hid (2 < c)) ∧ True := ⟨hcc.imp Lib.hid Lib.hid, trivial⟩
  clear hcc
  rcases HC with HE | HE
  all_goals
    go_enter Tryd.func9, Tryd.ntmps9
    go_wp2_with fail
    have hg1 := heap_alloc2_old w (.cells #[.int .i64 3, .slice (some ⟨b, o, none⟩) n c] 26) (.cells #[.int .i64 0, .int .i64 0, .slice none 0 0] 24)
    have hg2 := heap_alloc2_new w (.cells #[.int .i64 3, .slice (some ⟨b, o, none⟩) n c] 26) (.cells #[.int .i64 0, .int .i64 0, .slice none 0 0] 24)
    have hbw := balloc (bnew w (.cells #[.int .i64 3, .slice (some ⟨b, o, none⟩) n c] 26)) (.cells #[.int .i64 0, .int .i64 0, .slice none 0 0] 24)
    have hsz : ((w.alloc (.cells #[.int .i64 3, .slice (some ⟨b, o, none⟩) n c] 26)).alloc (.cells #[.int .i64 0, .int .i64 0, .slice none 0 0] 24)).heap.size = w.heap.size + 2 := by simp
    generalize ((w.alloc (.cells #[.int .i64 3, .slice (some ⟨b, o, none⟩) n c] 26)).alloc (.cells #[.int .i64 0, .int .i64 0, .slice none 0 0] 24)) = W at *
    obtain ⟨⟨p0, p1⟩, f0, f1⟩ := row2_cells hg1
    obtain ⟨⟨q0, q1, q2⟩, r0, r1, r2⟩ := own3_cells hg2
    have d0 := (hbw.cell hbl).trans c0
    have d1 := (hbw.cell (p := ⟨b, o + 1, none⟩) hbl).trans c1
    have hbl2 : b < W.heap.size := by omega
    have hz1 : w.heap.size < W.heap.size := by omega
    have hz2 : w.heap.size + 1 < W.heap.size := by omega
    have HG2 := Lib.hid hg2
    have HBW := Lib.hid hbw
    clear hg1 hg2 hbw c0 c1
    have e2 := HE.out
    go_region
    clear e2
    go_wp2
    refine bodyPost_ret (results_ct rfl _ _ (w.heap.size + 1) _ _ _ _ _ rfl rfl (set3 HG2.out _ _ _) Tryd.underlying24 rfl noteSize) rfl ⟨_, rfl, ?_, (below_set3 HBW.out (by omega) _ _ _).drew⟩
    have hc2 := HCUT.out.below HBW.out
    refine ⟨_, _, _, rfl, ?_⟩
    refine RdB.below ?_ ((Below.refl _ _).drew)
    refine ((RdB.setCell ?_ ?_ _).setCell ?_ _).setCell ?_ _
    · first
        | (rw [if_pos HE.out, HE.out] at hc2; exact hc2)
        | (rw [if_neg (by have := HE.out; omega)] at hc2; exact hc2)
    all_goals
      intro b' o' hA
      injection hA with hA
      injection hA with hA
      omega
theorem rnget_any (t : Int) (A : Option Addr) (n c : Nat) (l : List UInt8) (w : World) (h : RdB w A n c l) :
    Calls Tryd.prog 9 #[.agg #[.int .i64 t, .slice A n c]] w (Ret (IsNG (noteG t l)) w) := by
  have hl := h.len
  by_cases h1 : t = 3 ∧ 2 ≤ n
  · obtain ⟨rfl, h2⟩ := h1
    by_cases h3 : n ≤ 4077 ∧ l.getD 0 0 ≠ 0
    · have e : noteG 3 l = (((l.getD 0 0).toNat : Int), ((l.getD 1 0).toNat : Int), l.drop 2, true) := by
        unfold noteG
        rw [if_pos]
        refine ⟨rfl, by omega, decide_eq_true ?_⟩
        have a1 := (l.getD 0 0).toNat_lt
        have a2 := (l.getD 1 0).toNat_lt
        have a3 : (l.getD 0 0).toNat ≠ 0 := fun e => h3.2 (UInt8.toNat_inj.1 (by rw [e]; rfl))
        omega
      rw [e]
      exact rnget_ok A n c l w h h2 h3.1 h3.2
    · have e : noteG 3 l = (0, 0, [], false) := by
        unfold noteG
        rw [if_neg]
        rintro ⟨_, _, h5⟩
        have h6 := nsane_bd h5
        apply h3
        refine ⟨by omega, fun e => ?_⟩
        rw [e] at h6
        have := h6.1
        simp at this
      rw [e]
      refine rnget_zero A n c l w h h2 ?_
      by_cases h4 : 4078 ≤ n
      · exact .inl h4
      · exact .inr ⟨by omega, Classical.byContradiction fun h5 => h3 ⟨by omega, h5⟩⟩
  · have e : noteG t l = (0, 0, [], false) := by
      unfold noteG
      rw [if_neg]
      rintro ⟨h2, h3, _⟩
      exact h1 ⟨h2, by omega⟩
    rw [e]
    exact rnget_short t A n c w (by by_cases h2 : t = 3 <;> omega)
end Go.Proofs.YtmkpkbigceinfaaDoor
