/- The walk of RouteLonger. -/
import Derived.Test.YtmlhbmlppgoklacRou8
import Derived.Test.YtmlhbmlppgoklacGrow
import Derived.StillTailTactics
namespace Go.Proofs.Ytmlhbmlppgoklac
open Go.RowKit
set_option maxHeartbeats 4000000
set_option maxRecDepth 100000
set_option linter.unusedVariables false
set_option linter.unusedSimpArgs false

theorem infoI : (Try.prog.info? 3).map (fun i => (i.zero, i.size, i.bytes)) = some (some (.int .i64 0), 1, 8) := by kernel_rfl
theorem oneCell_iv (l : List Int) : ∀ u ∈ l.map (fun x => Value.int .i64 x), u.oneCell' = true := by
  intro u hu
  obtain ⟨x, _, rfl⟩ := List.mem_map.1 hu
  rfl
theorem own_emptyI (w : World) (base : Nat) (e : TypeId) (h : base ≤ w.heap.size) : (w.alloc (.cells #[] e)).ownsRow base e 1 (.slice (some ⟨w.heap.size, 0, none⟩) 0 0) 0 [] :=
  ⟨rfl, .inr ⟨w.heap.size, 0, #[], rfl, h, heap_alloc_new w _, Nat.le_refl _, Nat.zero_le _, rfl, rfl⟩⟩
theorem own_set_other {w : World} {base e size n : Nat} {v : Value} {xs : List Value} (h : w.ownsRow base e size v n xs) (a : Addr) (u : Value) (hne : v.ownBlock ≠ some a.block) : (w.setCell a u).ownsRow base e size v n xs :=
  ⟨h.1, h.2.imp id fun ⟨g, cap, cur, hv, h1, hg, rest⟩ => ⟨g, cap, cur, hv, h1, (Below.heap_setCell w a u g (fun e => hne (by rw [hv, ← e]; rfl))).trans hg, rest⟩⟩
theorem rdI_of_own {w : World} {base n c : Nat} {e : TypeId} {A : Option Addr} {l : List Int} (h : w.ownsRow base e 1 (.slice A n c) n (l.map fun x => Value.int .i64 x)) : RdI w A n c l := by
  obtain ⟨A', c', hv, h1, h2⟩ := ownsRow_shape h
  injection hv with e1 e2 e3
  subst e1 e3
  exact ⟨by have := h.1; simpa using this, h1, h2, Lies.of_own h⟩

theorem longer_cmp (r : Rt) (p : Int) (us : List Int) (hp : p ≤ r.pref) (hl : us.length = r.as.length + 1) : compareR r ⟨p, r.origin, us, r.hop, r.otc, r.frm⟩ = -1 ∧ compareR ⟨p, r.origin, us, r.hop, r.otc, r.frm⟩ r = 1 := by
  have h1 : compareR r ⟨p, r.origin, us, r.hop, r.otc, r.frm⟩ = -1 := by
    rcases first_cases r ⟨p, r.origin, us, r.hop, r.otc, r.frm⟩ with ⟨h, k⟩ | ⟨h, k⟩ | ⟨h, g, k⟩ | ⟨h, g, k⟩ | ⟨h, g, _, k⟩ | ⟨h, g, _, k⟩ | ⟨h, g, k⟩
    · exact k
    · simp only at h; omega
    · exact k
    all_goals (simp only at g; omega)
  refine ⟨h1, ?_⟩
  have := compareR_ord.anti r ⟨p, r.origin, us, r.hop, r.otc, r.frm⟩
  omega

theorem routeLonger_any (w : World) (x : Rv) (hx : RdI w x.A x.n x.c x.r.as) (hpb : -9223372036854775808 ≤ x.r.pref ∧ x.r.pref ≤ 9223372036854775807) (aS kk less : Int) :
    Calls Try.prog 7 #[.agg #[.int .i64 x.r.pref, .int .i64 x.r.origin, .slice x.A x.n x.c, .int .i64 x.r.hop, .int .i64 x.r.otc, .int .i64 x.r.frm], .int .i64 aS, .int .i64 kk, .int .i64 less] w fun e w' => e = .returned (.bool true) ∧ Below w.heap.size w w' := by
  have HX := Lib.hid hx
  have HLX := Lib.hid hx.len
  have hle := hx.le
  obtain ⟨pb1, pb2⟩ := hpb
  clear hx
  by_cases hout : 101 ≤ x.n ∨ x.r.pref < -1000000 ∨ less < 0 ∨ 1000000 < less
  · have hcs : decide ((100 : Int) < x.n) = true ∨ (decide ((100 : Int) < x.n) = false ∧ decide (x.r.pref < -1000000) = true) ∨ (decide ((100 : Int) < x.n) = false ∧ decide (x.r.pref < -1000000) = false ∧ decide (less < 0) = true) ∨ (decide ((100 : Int) < x.n) = false ∧ decide (x.r.pref < -1000000) = false ∧ decide (less < 0) = false ∧ decide (1000000 < less) = true) := by
      by_cases a1 : (100 : Int) < x.n
      · exact .inl (decide_eq_true a1)
      · by_cases a2 : x.r.pref < -1000000
        · exact .inr (.inl ⟨decide_eq_false a1, decide_eq_true a2⟩)
        · by_cases a3 : less < 0
          · exact .inr (.inr (.inl ⟨decide_eq_false a1, decide_eq_false a2, decide_eq_true a3⟩))
          · exact .inr (.inr (.inr ⟨decide_eq_false a1, decide_eq_false a2, decide_eq_false a3, decide_eq_true (by omega)⟩))
    clear hout hle
    go_enter Try.func7, Try.ntmps7
    go_wp2_with fail
    with_reducible refine (awake_any _).mono ?_
    rintro e w1 ⟨_, rfl, rfl, hb1⟩
    obtain ⟨f0, f1, f2, f3, f4, f5⟩ := row6 ((hb1.block w.heap.size (by simp)).trans (heap_alloc_new w _))
    rcases hcs with i1 | ⟨i1, i2⟩ | ⟨i1, i2, i3⟩ | ⟨i1, i2, i3, i4⟩
    · go_wp2
      go_ret
      exact ⟨rfl, bstep (bnew w _) hb1⟩
    · go_wp2
      go_ret
      exact ⟨rfl, bstep (bnew w _) hb1⟩
    · go_wp2
      go_ret
      exact ⟨rfl, bstep (bnew w _) hb1⟩
    · go_wp2
      go_ret
      exact ⟨rfl, bstep (bnew w _) hb1⟩
  · have i1 : decide ((100 : Int) < x.n) = false := decide_eq_false (by omega)
    have i2 : decide (x.r.pref < -1000000) = false := decide_eq_false (by omega)
    have i3 : decide (less < 0) = false := decide_eq_false (by omega)
    have i4 : decide (1000000 < less) = false := decide_eq_false (by omega)
    have hn : x.n ≤ 100 := by omega
    have hn' : (x.n : Int) ≤ 100 := by omega
    have hl0 : 0 ≤ less := by omega
    have hl1 : less ≤ 1000000 := by omega
    have hp0 : -1000000 ≤ x.r.pref := by omega
    clear hout
    have hand := and_mask kk 16 (by omega)
    rw [show (2 : Int) ^ 16 - 1 = 65535 by decide, show (2 : Int) ^ 16 = 65536 by decide] at hand
    obtain ⟨q, hq⟩ : ∃ q : Nat, kk % 65536 = q := ⟨(kk % 65536).toNat, by omega⟩
    rw [hq] at hand
    have hqb : (q : Int) < 65536 := by omega
    clear hq
    obtain ⟨I, hI⟩ : ∃ I : Nat, q % (x.n + 1) = I := ⟨_, rfl⟩
    have hIb : I ≤ x.n := by have := Nat.mod_lt q (show 0 < x.n + 1 by omega); omega
    have hmod : (q : Int) % ((x.n : Int) + 1) = (I : Int) := by rw [← hI]; simp [Int.natCast_emod]
    have hIc : (I : Int) ≤ x.c := by omega
    have hIn : (I : Int) ≤ x.n := by omega
    clear hI
    go_enter Try.func7, Try.ntmps7
    go_wp2_with fail
    with_reducible refine (awake_any _).mono ?_
    rintro e w1 ⟨_, rfl, rfl, hb1⟩
    have HR1 := Lib.hid ((hb1.block w.heap.size (by simp)).trans (heap_alloc_new w _))
    obtain ⟨f0, f1, f2, f3, f4, f5⟩ := row6 HR1.out
    have HB1 := Lib.hid (bstep (bnew w _) hb1)
    clear hb1
    go_upto_region 5 with (fail)
    rw [hmod]
    go_upto_region 6 with (fail)
    have HS2 := Lib.hid (heap_alloc_new w1 (.cells #[.int .i64 x.r.pref, .int .i64 x.r.origin, .slice x.A x.n x.c, .int .i64 x.r.hop, .int .i64 x.r.otc, .int .i64 x.r.frm] 27))
    have HB2 := Lib.hid (bnew w1 (.cells #[.int .i64 x.r.pref, .int .i64 x.r.origin, .slice x.A x.n x.c, .int .i64 x.r.hop, .int .i64 x.r.otc, .int .i64 x.r.frm] 27))
    have HN2 := Lib.hid (show w1.heap.size < (w1.alloc (.cells #[.int .i64 x.r.pref, .int .i64 x.r.origin, .slice x.A x.n x.c, .int .i64 x.r.hop, .int .i64 x.r.otc, .int .i64 x.r.frm] 27)).heap.size by simp)
    generalize w1.alloc (.cells #[.int .i64 x.r.pref, .int .i64 x.r.origin, .slice x.A x.n x.c, .int .i64 x.r.hop, .int .i64 x.r.otc, .int .i64 x.r.frm] 27) = w2 at *
    clear f0 f1 f2 f3 f4 f5 hand hmod hqb
    have HR2 := Lib.hid (row_to HB2.out HR1.out)
    obtain ⟨f0, f1, f2, f3, f4, f5⟩ := row6 HR2.out
    obtain ⟨g0, g1, g2, g3, g4, g5⟩ := row6 HS2.out
    have hz2 := HN2.out
    have hsub : IntKind.i64.wrap (x.r.pref - less) = x.r.pref - less := by rw [IntKind.wrap_i64]; omega
    clear pb1 pb2 i1 i2 i3 i4
    have k0 := row_frozen HS2.out 0
    go_upto_region 7 with (fail)
    have hz1 := row_lt HR1.out
    have HS3 := Lib.hid (show (w2.setCell ⟨w1.heap.size, 0, none⟩ (.int .i64 (x.r.pref - less))).heap[w1.heap.size]? = some (.cells #[.int .i64 (x.r.pref - less), .int .i64 x.r.origin, .slice x.A x.n x.c, .int .i64 x.r.hop, .int .i64 x.r.otc, .int .i64 x.r.frm] 27 (0, 0)) from heap_setCell_same w2 w1.heap.size 0 _ _ (.int .i64 (x.r.pref - less)) HS2.out)
    have HR3 := Lib.hid ((heap_setCell_other w2 ⟨w1.heap.size, 0, none⟩ w.heap.size (.int .i64 (x.r.pref - less)) (Nat.ne_of_lt hz1)).trans HR2.out)
    have HB3 := Lib.hid ((bstep HB1.out HB2.out).setCell (p := ⟨w1.heap.size, 0, none⟩) (Nat.le_of_lt hz1) (.int .i64 (x.r.pref - less)))
    generalize w2.setCell ⟨w1.heap.size, 0, none⟩ (.int .i64 (x.r.pref - less)) = w3 at *
    clear f0 f1 f2 f3 f4 f5 g0 g1 g2 g3 g4 g5 k0 hz2
    have hz3 := row_lt HS3.out
    obtain ⟨i0, hi, hq0, hq1, hq2⟩ := info_row infoI
    have HI := Lib.hid hi
    have H0 := Lib.hid hq0
    have H1 := Lib.hid hq1
    have H2 := Lib.hid hq2
    clear hi hq0 hq1 hq2
    have HLT := Lib.hid (show Lies (w3.alloc (.cells #[] 3)) x.A ((x.r.as.take I).map fun x => .int .i64 x) by rw [List.map_take]; exact (HX.out.below (bstep HB3.out (bnew w3 _))).lies.take I)
    have hl := HLX.out
    obtain ⟨f0, f1, f2, f3, f4, f5⟩ := row6 HR3.out
    have hzz : w.heap.size < w3.heap.size := by omega
    go_upto_region 8 with (
      at_builtin
      refine wpList_append_gr _ rfl _ _ 23 rfl w3.heap.size 3 i0 (.int .i64 0) 1 8 Try.underlying23 HI.out H0.out H1.out H2.out rfl (by decide) _ 0 [] rfl (.inl (own_empty w3 3 1 (Nat.le_refl _))) x.A I x.c ((x.r.as.take I).map fun x => .int .i64 x) rfl (by simp; omega) HLT.out ?_ (oneCell_iv _) (by unfold maxLen; omega) (by omega) (by simp)
      intro A4 c4 w4 hG
      have ho := hG.own (.inr (own_empty w3 3 1 (Nat.le_refl _)))
      simp only [Nat.zero_add, List.nil_append] at ho
      have HO4 := Lib.hid ho
      have hs4 := (hG.below.block w1.heap.size hz3).trans ((heap_alloc_old w3 _ hz3).trans HS3.out)
      have hr4 := (hG.below.block w.heap.size hzz).trans ((heap_alloc_old w3 _ hzz).trans HR3.out)
      have HB4 := Lib.hid (bstep HB3.out (show Below w3.heap.size w3 w4 from (bnew w3 _).trans hG.below))
      have HS4 := Lib.hid hs4
      have HR4 := Lib.hid hr4
      have HZ4 := Lib.hid hG.below.size
      obtain ⟨g0, g1, g2, g3, g4, g5⟩ := row6 hs4
      have k2 := row_frozen hs4 2
      clear f0 f1 f2 f3 f4 f5 ho hs4 hr4 hG)
    have HS5 := Lib.hid (show (w4.setCell ⟨w1.heap.size, 2, none⟩ (.slice A4 I c4)).heap[w1.heap.size]? = some (.cells #[.int .i64 (x.r.pref - less), .int .i64 x.r.origin, .slice A4 I c4, .int .i64 x.r.hop, .int .i64 x.r.otc, .int .i64 x.r.frm] 27 (0, 0)) from heap_setCell_same w4 w1.heap.size 2 _ _ (.slice A4 I c4) HS4.out)
    have HR5 := Lib.hid ((heap_setCell_other w4 ⟨w1.heap.size, 2, none⟩ w.heap.size (.slice A4 I c4) (Nat.ne_of_lt hz1)).trans HR4.out)
    have HB5 := Lib.hid (HB4.out.setCell (p := ⟨w1.heap.size, 2, none⟩) (Nat.le_of_lt hz1) (.slice A4 I c4))
    have HO5 := Lib.hid (ownsRow_setCell_below HO4.out (a := ⟨w1.heap.size, 2, none⟩) hz3 (.slice A4 I c4))
    have HZ5 := Lib.hid (show w3.heap.size ≤ (w4.setCell ⟨w1.heap.size, 2, none⟩ (.slice A4 I c4)).heap.size by have := HZ4.out; simp at this; simp [World.setCell]; omega)
    generalize w4.setCell ⟨w1.heap.size, 2, none⟩ (.slice A4 I c4) = w5 at *
    clear g0 g1 g2 g3 g4 g5 k2 HS4 HR4 HB4 HO4 HZ4
    have hz5 := row_lt HS5.out
    have hzz5 := row_lt HR5.out
    obtain ⟨g0, g1, g2, g3, g4, g5⟩ := row6 HS5.out
    go_upto_region 9 with (
      at_builtin
      refine wpList_append_gr _ rfl _ _ 23 rfl w3.heap.size 3 i0 (.int .i64 0) 1 8 Try.underlying23 HI.out H0.out H1.out H2.out rfl (by decide) _ I ((x.r.as.take I).map fun x => .int .i64 x) rfl (.inl (HO5.out.alloc _)) (some ⟨w5.heap.size, 0, none⟩) 1 1 [.int .i64 aS] rfl rfl (lies_new w5 _ _) ?_ (by simp [Value.oneCell']) (by unfold maxLen; omega) (by omega) (by have := HZ5.out; simp; omega)
      intro A6 c6 w6 hG
      have HO6 := Lib.hid (hG.own (.inl (by decide)))
      have hm := HZ5.out
      have hs6 := (hG.below.mono (B' := w3.heap.size) (by omega)).block w1.heap.size hz3 |>.trans ((heap_alloc_old w5 _ hz5).trans HS5.out)
      have hr6 := (hG.below.mono (B' := w3.heap.size) (by omega)).block w.heap.size hzz |>.trans ((heap_alloc_old w5 _ hzz5).trans HR5.out)
      have HB6 := Lib.hid ((balloc HB5.out (.cells #[.int .i64 aS] 3)).trans (hG.below.mono (by omega)))
      have HS6 := Lib.hid hs6
      have HR6 := Lib.hid hr6
      have HZ6 := Lib.hid hG.below.size
      obtain ⟨m0, m1, m2, m3, m4, m5⟩ := row6 hs6
      have k2 := row_frozen hs6 2
      clear g0 g1 g2 g3 g4 g5 hs6 hr6 hG hm)
    have HS7 := Lib.hid (show (w6.setCell ⟨w1.heap.size, 2, none⟩ (.slice A6 (I + 1) c6)).heap[w1.heap.size]? = some (.cells #[.int .i64 (x.r.pref - less), .int .i64 x.r.origin, .slice A6 (I + 1) c6, .int .i64 x.r.hop, .int .i64 x.r.otc, .int .i64 x.r.frm] 27 (0, 0)) from heap_setCell_same w6 w1.heap.size 2 _ _ (.slice A6 (I + 1) c6) HS6.out)
    have HR7 := Lib.hid ((heap_setCell_other w6 ⟨w1.heap.size, 2, none⟩ w.heap.size (.slice A6 (I + 1) c6) (Nat.ne_of_lt hz1)).trans HR6.out)
    have HB7 := Lib.hid (HB6.out.setCell (p := ⟨w1.heap.size, 2, none⟩) (Nat.le_of_lt hz1) (.slice A6 (I + 1) c6))
    have HO7 := Lib.hid (ownsRow_setCell_below HO6.out (a := ⟨w1.heap.size, 2, none⟩) hz3 (.slice A6 (I + 1) c6))
    have HZ7 := Lib.hid (show w3.heap.size ≤ (w6.setCell ⟨w1.heap.size, 2, none⟩ (.slice A6 (I + 1) c6)).heap.size by have h1 := HZ6.out; have h2 := HZ5.out; rw [World.size_alloc] at h1; simp [World.setCell]; omega)
    generalize w6.setCell ⟨w1.heap.size, 2, none⟩ (.slice A6 (I + 1) c6) = w7 at *
    clear m0 m1 m2 m3 m4 m5 k2 HS6 HR6 HB6 HO6 HZ6
    obtain ⟨g0, g1, g2, g3, g4, g5⟩ := row6 HS7.out
    obtain ⟨f0, f1, f2, f3, f4, f5⟩ := row6 HR7.out
    go_still_tail 8, (by kernel_rfl)
    change wpList _ _ _ _ _ w7.drew
    have HS8 := Lib.hid (show w7.drew.heap[w1.heap.size]? = _ from HS7.out)
    have HR8 := Lib.hid (show w7.drew.heap[w.heap.size]? = _ from HR7.out)
    have HB8 := Lib.hid HB7.out.drew
    have HO8 := Lib.hid (show w7.drew.ownsRow _ _ _ _ _ _ from HO7.out)
    have HZ8 := Lib.hid (show w3.heap.size ≤ w7.drew.heap.size from HZ7.out)
    generalize w7.drew = w8 at *
    clear f0 f1 f2 f3 f4 f5 g0 g1 g2 g3 g4 g5 HS7 HR7 HB7 HO7 HZ7
    have HLD := Lib.hid (show Lies w8 (if x.c = I then x.A else Option.map (fun x => x.add I) x.A) ((x.r.as.map fun x => Value.int .i64 x).drop I) from (HX.out.below HB8.out).lies.cut (k := I) (cap := x.c) (fun e => by simp; omega))
    generalize (if x.c = I then x.A else Option.map (fun x => x.add I) x.A) = AD at *
    have hz8 := row_lt HS8.out
    refine wpList_append_gr _ rfl _ _ 23 rfl w3.heap.size 3 i0 (.int .i64 0) 1 8 Try.underlying23 HI.out H0.out H1.out H2.out rfl (by decide) (.slice A6 (I + 1) c6) (I + 1) ((x.r.as.take I).map (fun x => .int .i64 x) ++ [.int .i64 aS]) rfl (.inl HO8.out) AD (x.n - I) (x.c - I) ((x.r.as.map fun x => Value.int .i64 x).drop I) rfl (by simp; omega) HLD.out ?_ (fun u hu => oneCell_iv _ u (List.mem_of_mem_drop hu)) (by unfold maxLen; omega) (by omega) HZ8.out
    intro A9 c9 w9 hG
    have HO9 := Lib.hid (hG.own (.inr HO8.out))
    have hs9 := (hG.below.block w1.heap.size hz3).trans HS8.out
    have hr9 := (hG.below.block w.heap.size hzz).trans HR8.out
    have HB9 := Lib.hid (HB8.out.trans (hG.below.mono (by omega)))
    have HS9 := Lib.hid hs9
    have HR9 := Lib.hid hr9
    obtain ⟨m0, m1, m2, m3, m4, m5⟩ := row6 hs9
    have k2 := row_frozen hs9 2
    clear hs9 hr9 hG
    go_upto_region 10 with (fail)
    have HSX := Lib.hid (show (w9.setCell ⟨w1.heap.size, 2, none⟩ (.slice A9 (I + 1 + (x.n - I)) c9)).heap[w1.heap.size]? = some (.cells #[.int .i64 (x.r.pref - less), .int .i64 x.r.origin, .slice A9 (I + 1 + (x.n - I)) c9, .int .i64 x.r.hop, .int .i64 x.r.otc, .int .i64 x.r.frm] 27 (0, 0)) from heap_setCell_same w9 w1.heap.size 2 _ _ (.slice A9 (I + 1 + (x.n - I)) c9) HS9.out)
    have HRX := Lib.hid ((heap_setCell_other w9 ⟨w1.heap.size, 2, none⟩ w.heap.size (.slice A9 (I + 1 + (x.n - I)) c9) (Nat.ne_of_lt hz1)).trans HR9.out)
    have HBX := Lib.hid (HB9.out.setCell (p := ⟨w1.heap.size, 2, none⟩) (Nat.le_of_lt hz1) (.slice A9 (I + 1 + (x.n - I)) c9))
    have HOX := Lib.hid (ownsRow_setCell_below HO9.out (a := ⟨w1.heap.size, 2, none⟩) hz3 (.slice A9 (I + 1 + (x.n - I)) c9))
    generalize w9.setCell ⟨w1.heap.size, 2, none⟩ (.slice A9 (I + 1 + (x.n - I)) c9) = wx at *
    clear m0 m1 m2 m3 m4 m5 k2 HS9 HR9 HB9 HO9
    obtain ⟨us, hus⟩ : ∃ us, x.r.as.take I ++ [aS] ++ x.r.as.drop I = us := ⟨_, rfl⟩
    have HUL := Lib.hid (show us.length = x.r.as.length + 1 by rw [← hus]; simp; omega)
    have hox := HOX.out
    rw [show (x.r.as.take I).map (fun x => Value.int .i64 x) ++ [.int .i64 aS] ++ (x.r.as.map fun x => Value.int .i64 x).drop I = us.map (fun x => Value.int .i64 x) by rw [← hus]; simp [List.map_drop]] at hox
    have HRU := Lib.hid (rdI_of_own hox)
    obtain ⟨hc1, hc2⟩ := longer_cmp x.r (x.r.pref - less) us (by omega) HUL.out
    have HC1 := Lib.hid hc1
    have HC2 := Lib.hid hc2
    clear hox hus hc1 hc2 HOX HUL
    obtain ⟨g0, g1, g2, g3, g4, g5⟩ := row6 HSX.out
    obtain ⟨f0, f1, f2, f3, f4, f5⟩ := row6 HRX.out
    go_wp2_with fail
    clear f0 f1 f2 f3 f4 f5 g0 g1 g2 g3 g4 g5
    have hcmp := compare_any x.r ⟨x.r.pref - less, x.r.origin, us, x.r.hop, x.r.otc, x.r.frm⟩ x.A x.n x.c A9 (I + 1 + (x.n - I)) c9 wx (HX.out.below HBX.out) HRU.out
    rw [HC1.out] at hcmp
    unfold routeA at hcmp
    simp only at hcmp
    with_reducible refine hcmp.mono ?_
    clear hcmp
    rintro e wa ⟨_, rfl, rfl, hba⟩
    obtain ⟨g0, g1, g2, g3, g4, g5⟩ := row6 (row_to hba HSX.out)
    obtain ⟨f0, f1, f2, f3, f4, f5⟩ := row6 (row_to hba HRX.out)
    have HBA := Lib.hid hba
    clear hba
    go_wp2_with fail
    clear f0 f1 f2 f3 f4 f5 g0 g1 g2 g3 g4 g5
    have hcmp := compare_any ⟨x.r.pref - less, x.r.origin, us, x.r.hop, x.r.otc, x.r.frm⟩ x.r A9 (I + 1 + (x.n - I)) c9 x.A x.n x.c wa (HRU.out.below HBA.out) (HX.out.below (bstep HBX.out HBA.out))
    rw [HC2.out] at hcmp
    unfold routeA at hcmp
    simp only at hcmp
    with_reducible refine hcmp.mono ?_
    clear hcmp
    rintro e wb ⟨_, rfl, rfl, hbb⟩
    have HBB := Lib.hid (bstep HBA.out hbb)
    clear hbb
    obtain ⟨g0, g1, g2, g3, g4, g5⟩ := row6 (row_to HBB.out HSX.out)
    obtain ⟨f0, f1, f2, f3, f4, f5⟩ := row6 (row_to HBB.out HRX.out)
    go_wp2_with fail
    clear f0 f1 f2 f3 f4 f5 g0 g1 g2 g3 g4 g5
    have hcmp := same_any x.r ⟨x.r.pref - less, x.r.origin, us, x.r.hop, x.r.otc, x.r.frm⟩ x.A x.n x.c A9 (I + 1 + (x.n - I)) c9 wb (HX.out.below (bstep HBX.out HBB.out)) (HRU.out.below HBB.out)
    rw [HC1.out] at hcmp
    unfold routeA at hcmp
    simp only at hcmp
    with_reducible refine hcmp.mono ?_
    clear hcmp
    rintro e wc ⟨_, rfl, rfl, hbc⟩
    go_wp2
    go_ret
    exact ⟨rfl, bstep HBX.out (bstep HBB.out hbc)⟩
end Go.Proofs.Ytmlhbmlppgoklac
