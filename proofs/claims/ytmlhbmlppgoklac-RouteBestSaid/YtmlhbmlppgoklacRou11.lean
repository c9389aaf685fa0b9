/- The walk of RouteBest. -/
import Derived.Test.YtmlhbmlppgoklacRou10
namespace Go.Proofs.Ytmlhbmlppgoklac
open Go.RowKit
set_option maxHeartbeats 8000000
set_option maxRecDepth 100000
set_option linter.unusedVariables false
set_option linter.unusedSimpArgs false

def zeroV : Rv := ⟨⟨0, 0, [], 0, 0, 0⟩, none, 0, 0⟩
theorem bestV_le (x : Rv) (t : List Rv) : ∀ y ∈ x :: t, compareR (bestV x t).r y.r ≤ 0 := by
  intro y hy
  rw [bestV_r]
  refine bestF_le x.r (t.map Rv.r) y.r ?_
  rcases List.mem_cons.1 hy with h | h
  · subst h; simp
  · exact List.mem_cons_of_mem _ (List.mem_map_of_mem h)
/-- What the best one is, of any routes. -/
def BestOf (l : List Rv) (x : Rv) : Prop := (l = [] ∧ x = zeroV) ∨ (x ∈ l ∧ ∀ y ∈ l, compareR x.r y.r ≤ 0)
theorem best_all (A : Option Addr) (n c : Nat) (l : List Rv) (w : World) (h : RdT w A n c l) (hn : n ≤ 100000) : ∃ x : Rv, RdI w x.A x.n x.c x.r.as ∧ BestOf l x ∧
    Calls Try.prog 16 #[.slice A n c] w (Ret (Just (.tuple #[.agg #[.int .i64 x.r.pref, .int .i64 x.r.origin, .slice x.A x.n x.c, .int .i64 x.r.hop, .int .i64 x.r.otc, .int .i64 x.r.frm], .bool (decide (0 < n))])) w) := by
  cases l with
  | nil =>
    obtain rfl : n = 0 := h.len.symm
    exact ⟨zeroV, ⟨rfl, Nat.le_refl _, Nat.zero_le _, .inl rfl⟩, .inl ⟨rfl, rfl⟩, best_none A c w⟩
  | cons x t =>
    have hl := h.len
    simp only [List.length_cons] at hl
    have hb := best_some A n c x t w h hn
    rw [decide_eq_true (show 0 < n by omega)]
    exact ⟨bestV x t, h.each _ (bestV_mem x t), .inr ⟨bestV_mem x t, bestV_le x t⟩, hb⟩
theorem infoT : (Try.prog.info? 27).map (fun i => (i.zero, i.size, i.bytes)) = some (some (.agg #[.int .i64 0, .int .i64 0, .slice none 0 0, .int .i64 0, .int .i64 0, .int .i64 0]), 6, 64) := by kernel_rfl
theorem oneCell_rv (r : Rv) : ∀ u ∈ rvV r, u.oneCell' = true := by
  intro u hu
  simp only [rvV, List.mem_cons, List.not_mem_nil, or_false] at hu
  rcases hu with rfl | rfl | rfl | rfl | rfl | rfl <;> rfl
theorem oneCell_rvs (l : List Rv) : ∀ u ∈ rvsV l, u.oneCell' = true := by
  intro u hu
  obtain ⟨r, _, hr⟩ := List.mem_flatMap.1 hu
  exact oneCell_rv r u hr
theorem rvsV_snoc (l : List Rv) (r : Rv) : rvsV l ++ rvV r = rvsV (l ++ [r]) := by simp [rvsV]
theorem rvsV_app (l m : List Rv) : rvsV l ++ rvsV m = rvsV (l ++ m) := by simp [rvsV]
theorem rdT_of_own {w : World} {base n c : Nat} {A : Option Addr} {l : List Rv} (h : w.ownsRow base 27 6 (.slice A n c) n (rvsV l)) (he : ∀ x ∈ l, RdI w x.A x.n x.c x.r.as) : RdT w A n c l := by
  have hl := rvsV_length l
  obtain ⟨A', c', hv, h1, h2⟩ := ownsRow_shape h
  injection hv with e1 e2 e3
  subst e1 e3
  exact ⟨by have := h.1; omega, h1, h2, Lies.of_own h, he⟩
theorem lies_rv (w : World) (z : Rv) (e : TypeId) : Lies (w.alloc (.cells #[.int .i64 z.r.pref, .int .i64 z.r.origin, .slice z.A z.n z.c, .int .i64 z.r.hop, .int .i64 z.r.otc, .int .i64 z.r.frm] e)) (some ⟨w.heap.size, 0, none⟩) (rvV z) := lies_fresh w (rvV z) _ e rfl

theorem best_pos {l : List Rv} {x : Rv} (h : BestOf l x) (h0 : 0 < l.length) : x ∈ l ∧ ∀ y ∈ l, compareR x.r y.r ≤ 0 := by
  rcases h with ⟨h1, _⟩ | h1
  · rw [h1] at h0; simp at h0
  · exact h1
theorem min_same {L : List Rv} {a b : Rv} (h : BestOf L a) (h0 : 0 < L.length) (hb : b ∈ L) (lb : ∀ y ∈ L, compareR b.r y.r ≤ 0) : (compareR a.r b.r == 0) = true := by
  obtain ⟨h1, h2⟩ := best_pos h h0
  have k1 := h2 b hb
  have k2 := lb a h1
  have := compareR_ord.anti a.r b.r
  rw [beq_iff_eq]
  omega
theorem routeBest_any (w : World) (A : Option Addr) (n c : Nat) (l : List Rv) (hl : RdT w A n c l) (B : Option Addr) (m d : Nat) (k : List Rv) (hk : RdT w B m d k) :
    Calls Try.prog 6 #[.slice A n c, .slice B m d] w fun e w' => e = .returned (.bool true) ∧ Below w.heap.size w w' := by
  have HL := Lib.hid hl
  have HK := Lib.hid hk
  have hln := hl.len
  have hkm := hk.len
  obtain ⟨F1, hF1⟩ : ∃ F, fewB l = F := ⟨_, rfl⟩
  obtain ⟨F2, hF2⟩ : ∃ F, fewB k = F := ⟨_, rfl⟩
  have H1 := Lib.hid hF1
  have H2 := Lib.hid hF2
  have HLN := Lib.hid hln
  have HKM := Lib.hid hkm
  clear hl hk hF1 hF2 hln hkm
  go_enter Try.func6, Try.ntmps6
  go_wp2_with fail
  with_reducible refine (awake_any _).mono ?_
  rintro e w1 ⟨_, rfl, rfl, hb1⟩
  have HB1 := Lib.hid hb1
  clear hb1
  go_wp2_with fail
  have hf := few_any A n c l w1 (HL.out.below HB1.out)
  rw [H1.out] at hf
  with_reducible refine hf.mono ?_
  clear hf
  rintro e w2 ⟨rfl, rfl⟩
  cases F1
  · go_wp2
    go_ret
    exact ⟨rfl, HB1.out⟩
  go_wp2_with fail
  have hf := few_any B m d k w1 (HK.out.below HB1.out)
  rw [H2.out] at hf
  with_reducible refine hf.mono ?_
  clear hf
  rintro e w2 ⟨rfl, rfl⟩
  cases F2
  · go_wp2
    go_ret
    exact ⟨rfl, HB1.out⟩
  have hn30 : n ≤ 30 := by have h1 := H1.out; unfold fewB at h1; simp at h1; have := HLN.out; omega
  have hm30 : m ≤ 30 := by have h1 := H2.out; unfold fewB at h1; simp at h1; have := HKM.out; omega
  clear H1 H2
  obtain ⟨x, hx, hbx, hcx⟩ := best_all A n c l w1 (HL.out.below HB1.out) (by omega)
  have HX := Lib.hid hx
  have HBX := Lib.hid hbx
  have HCX := Lib.hid hcx
  clear hx hbx hcx
  go_wp2_with fail
  with_reducible refine HCX.out.mono ?_
  rintro e w2 ⟨_, rfl, rfl, hb2⟩
  have HB2 := Lib.hid (bstep HB1.out hb2)
  have HX2 := Lib.hid (HX.out.below hb2)
  clear hb2 HCX HX
  obtain ⟨y, hy, hby, hcy⟩ := best_all B m d k (w2.alloc (.cells #[.int .i64 x.r.pref, .int .i64 x.r.origin, .slice x.A x.n x.c, .int .i64 x.r.hop, .int .i64 x.r.otc, .int .i64 x.r.frm] 27)) (HK.out.below (bstep HB2.out (bnew w2 _))) (by omega)
  have HY := Lib.hid hy
  have HBY := Lib.hid hby
  have HCY := Lib.hid hcy
  clear hy hby hcy
  go_wp2_with fail
  with_reducible refine HCY.out.mono ?_
  rintro e w3 ⟨_, rfl, rfl, hb3⟩
  have HRX := Lib.hid (row_to hb3 (heap_alloc_new w2 (.cells #[.int .i64 x.r.pref, .int .i64 x.r.origin, .slice x.A x.n x.c, .int .i64 x.r.hop, .int .i64 x.r.otc, .int .i64 x.r.frm] 27)))
  have HX3 := Lib.hid (HX2.out.below (bstep (bnew w2 (.cells #[.int .i64 x.r.pref, .int .i64 x.r.origin, .slice x.A x.n x.c, .int .i64 x.r.hop, .int .i64 x.r.otc, .int .i64 x.r.frm] 27)) hb3))
  have HY3 := Lib.hid (HY.out.below hb3)
  have HB3 := Lib.hid (bstep (bstep HB2.out (bnew w2 (.cells #[.int .i64 x.r.pref, .int .i64 x.r.origin, .slice x.A x.n x.c, .int .i64 x.r.hop, .int .i64 x.r.otc, .int .i64 x.r.frm] 27))) hb3)
  clear hb3 HY HCY HX2
  go_wp2_with fail
  have HRY := Lib.hid (heap_alloc_new w3 (.cells #[.int .i64 y.r.pref, .int .i64 y.r.origin, .slice y.A y.n y.c, .int .i64 y.r.hop, .int .i64 y.r.otc, .int .i64 y.r.frm] 27))
  have HRX4 := Lib.hid (row_to (bnew w3 (.cells #[.int .i64 y.r.pref, .int .i64 y.r.origin, .slice y.A y.n y.c, .int .i64 y.r.hop, .int .i64 y.r.otc, .int .i64 y.r.frm] 27)) HRX.out)
  have HB4 := Lib.hid (bstep HB3.out (bnew w3 (.cells #[.int .i64 y.r.pref, .int .i64 y.r.origin, .slice y.A y.n y.c, .int .i64 y.r.hop, .int .i64 y.r.otc, .int .i64 y.r.frm] 27)))
  have HX4 := Lib.hid (HX3.out.below (bnew w3 (.cells #[.int .i64 y.r.pref, .int .i64 y.r.origin, .slice y.A y.n y.c, .int .i64 y.r.hop, .int .i64 y.r.otc, .int .i64 y.r.frm] 27)))
  have HY4 := Lib.hid (HY3.out.below (bnew w3 (.cells #[.int .i64 y.r.pref, .int .i64 y.r.origin, .slice y.A y.n y.c, .int .i64 y.r.hop, .int .i64 y.r.otc, .int .i64 y.r.frm] 27)))
  generalize w3.alloc (.cells #[.int .i64 y.r.pref, .int .i64 y.r.origin, .slice y.A y.n y.c, .int .i64 y.r.hop, .int .i64 y.r.otc, .int .i64 y.r.frm] 27) = w4 at *
  clear HRX HB3 HX3 HY3
  obtain ⟨P, hP⟩ : ∃ P, decide (0 < n) = P := ⟨_, rfl⟩
  obtain ⟨Pm, hPm⟩ : ∃ P, decide (0 < m) = P := ⟨_, rfl⟩
  rw [hP, hPm]
  have HP := Lib.hid hP
  have HPM := Lib.hid hPm
  clear hP hPm
  have HMIN := Lib.hid (show ∀ z ∈ l, compareR x.r z.r ≤ 0 by
    rcases HBX.out with ⟨h1, _⟩ | ⟨_, h1⟩
    · rw [h1]; simp
    · exact h1)
  obtain ⟨i0, hi, hq0, hq1, hq2⟩ := info_row infoT
  have HI := Lib.hid hi
  have H0 := Lib.hid hq0
  have H1 := Lib.hid hq1
  have H2 := Lib.hid hq2
  clear hi hq0 hq1 hq2
  go_loopw [10, 11, 12] (fun inn bk i wr => ∃ j : Nat, j ≤ n ∧ i = .int .i64 ((j : Int) - 1) ∧ inn = .bool ((l.drop j).any fun z => compareR z.r x.r == 0) ∧ (∃ (A1 : Option Addr) (k1 c1 : Nat), bk = .slice A1 k1 c1 ∧ k1 ≤ n - j ∧ wr.ownsRow w4.heap.size 27 6 bk k1 (rvsV (l.drop j).reverse)) ∧ Below w4.heap.size w4 wr) (fun _ _ i _ => (intOf i + 1).toNat)
  case atStart => exact ⟨n, Nat.le_refl _, rfl, by rw [List.drop_of_length_le (by have := HLN.out; omega)]; rfl, ⟨none, 0, 0, rfl, Nat.zero_le _, by rw [List.drop_of_length_le (by have := HLN.out; omega)]; exact ⟨rfl, .inl ⟨rfl, rfl⟩⟩⟩, Below.refl _ _⟩
  case round =>
    obtain ⟨j, hj, hji, hin, ⟨A1, k1, c1, rfl, hk1, how⟩, hbr⟩ := hrel
    have HOW := Lib.hid how
    have HBR := Lib.hid hbr
    clear how hbr
    rcases j with _ | q
    · --END
      rw [show ((0 : Nat) : Int) - 1 = -1 by decide] at hji
      obtain rfl := hji
      rw [show ((l.drop 0).any fun z => compareR z.r x.r == 0) = P by
        rw [← HP.out, List.drop_zero, ← HLN.out]
        rcases HBX.out with ⟨h1, _⟩ | ⟨h1, _⟩
        · rw [h1]; rfl
        · rw [decide_eq_true (List.length_pos_of_mem h1), List.any_eq_true]
          exact ⟨x, h1, by have := compareR_ord.anti x.r x.r; rw [beq_iff_eq]; omega⟩] at hin
      obtain rfl := hin
      rw [List.drop_zero] at HOW
      have HRX5 := Lib.hid (row_to HBR.out HRX4.out)
      have HRY5 := Lib.hid (row_to HBR.out HRY.out)
      have hwz := HBR.out.size
      cases P
      · have hn0 : n = 0 := by have := of_decide_eq_false HP.out; omega
        subst hn0
        have hxz : x = zeroV := by
          rcases HBX.out with ⟨_, h1⟩ | ⟨h1, _⟩
          · exact h1
          · have := List.length_pos_of_mem h1; have := HLN.out; omega
        have hs := same_any x.r zeroV.r x.A x.n x.c none 0 0 wr (HX4.out.below HBR.out) ⟨rfl, Nat.le_refl _, Nat.zero_le _, .inl rfl⟩
        rw [show (compareR x.r zeroV.r == 0) = true by rw [hxz]; decide] at hs
        unfold routeA at hs
        have hs2 : Calls Try.prog 12 #[.agg #[.int .i64 x.r.pref, .int .i64 x.r.origin, .slice x.A x.n x.c, .int .i64 x.r.hop, .int .i64 x.r.otc, .int .i64 x.r.frm], .agg #[.int .i64 0, .int .i64 0, .slice none 0 0, .int .i64 0, .int .i64 0, .int .i64 0]] wr (Ret (Just (.bool true)) wr) := hs
        have HS := Lib.hid hs2
        obtain ⟨f0, f1, f2, f3, f4, f5⟩ := row6 HRX5.out
        clear hs hs2 hxz hj hk1
        go_wp2_with fail
        clear f0 f1 f2 f3 f4 f5
        with_reducible refine HS.out.mono ?_
        rintro e W ⟨_, rfl, rfl, hbs⟩
        go_wp2
        go_ret
        exact ⟨rfl, bstep (bstep HB4.out HBR.out) hbs⟩
      · have hn0 : 0 < n := of_decide_eq_true HP.out
        have hnI : (0 : Int) < n := by omega
        have hnN : (n : Int) ≠ 0 := by omega
        have hl0 : 0 < l.length := by have := HLN.out; omega
        obtain ⟨b, o, rfl, hbl, c0, c1', c2, c3, c4, c5⟩ := (HL.out.below (bstep HB4.out HBR.out)).at_ hl0
        simp only [Nat.zero_mul, Nat.add_zero] at c0 c1' c2 c3 c4 c5
        have hz0m : l[0] ∈ l := List.getElem_mem _
        obtain ⟨z, hz⟩ : ∃ z, l[0] = z := ⟨_, rfl⟩
        rw [hz] at c0 c1' c2 c3 c4 c5 hz0m
        have HZM := Lib.hid hz0m
        have HHJ := Lib.hid hk1
        clear hz hz0m hj
        go_upto_region 20 with (
          at_builtin
          refine wpList_append_gr _ rfl _ _ 22 rfl w4.heap.size 27 i0 (.agg #[.int .i64 0, .int .i64 0, .slice none 0 0, .int .i64 0, .int .i64 0, .int .i64 0]) 6 64 Try.underlying22 HI.out H0.out H1.out H2.out rfl (by decide) (.slice A1 k1 c1) k1 (rvsV l.reverse) rfl (.inl (HOW.out.alloc _)) (some ⟨wr.heap.size, 0, none⟩) 1 1 (rvV z) rfl rfl (lies_rv wr z _) ?_ (oneCell_rv z) (by unfold maxLen; omega) (by omega) (by simp; omega)
          intro A6 c6 w6 hG
          have HO6 := Lib.hid (hG.own (.inl (by decide)))
          have HB6 := Lib.hid (show Below w4.heap.size w4 w6 from (balloc HBR.out _).trans hG.below)
          clear hG)
        clear c0 c1' c2 c3 c4 c5
        have ho6 := HO6.out
        rw [rvsV_snoc] at ho6
        have HR6 := Lib.hid (rdT_of_own ho6 (fun u hu => by
          refine (HL.out.each u ?_).below (bstep HB4.out HB6.out)
          rcases List.mem_append.1 hu with h | h
          · exact List.mem_reverse.1 h
          · rw [List.mem_singleton.1 h]; exact HZM.out))
        clear ho6
        obtain ⟨zz, hzr, hzb, hzc⟩ := best_all A6 (k1 + 1) c6 (l.reverse ++ [z]) w6 HR6.out (by omega)
        rw [decide_eq_true (show 0 < k1 + 1 by omega)] at hzc
        have HZR := Lib.hid hzr
        have HZB := Lib.hid hzb
        have HZC := Lib.hid hzc
        clear hzr hzb hzc
        go_wp2_with fail
        with_reducible refine HZC.out.mono ?_
        rintro e w7 ⟨_, rfl, rfl, hb7⟩
        have HB7 := Lib.hid (bstep HB6.out hb7)
        have HZR7 := Lib.hid (HZR.out.below hb7)
        clear hb7 HZC HZR HR6 HO6
        go_upto_region 21 with (fail)
        have HRZ := Lib.hid (heap_alloc_new w7 (.cells #[.int .i64 zz.r.pref, .int .i64 zz.r.origin, .slice zz.A zz.n zz.c, .int .i64 zz.r.hop, .int .i64 zz.r.otc, .int .i64 zz.r.frm] 27))
        have HB8 := Lib.hid (bstep HB7.out (bnew w7 (.cells #[.int .i64 zz.r.pref, .int .i64 zz.r.origin, .slice zz.A zz.n zz.c, .int .i64 zz.r.hop, .int .i64 zz.r.otc, .int .i64 zz.r.frm] 27)))
        have HV8 := Lib.hid (bnew w7 (.cells #[.int .i64 zz.r.pref, .int .i64 zz.r.origin, .slice zz.A zz.n zz.c, .int .i64 zz.r.hop, .int .i64 zz.r.otc, .int .i64 zz.r.frm] 27))
        generalize w7.alloc (.cells #[.int .i64 zz.r.pref, .int .i64 zz.r.origin, .slice zz.A zz.n zz.c, .int .i64 zz.r.hop, .int .i64 zz.r.otc, .int .i64 zz.r.frm] 27) = w8 at *
        have HLL := Lib.hid (HL.out.below (bstep HB4.out (bstep HB8.out (bnew w8 (.cells #[] 27))))).lies
        go_upto_region 22 with (
          at_builtin
          refine wpList_append_gr _ rfl _ _ 22 rfl w8.heap.size 27 i0 (.agg #[.int .i64 0, .int .i64 0, .slice none 0 0, .int .i64 0, .int .i64 0, .int .i64 0]) 6 64 Try.underlying22 HI.out H0.out H1.out H2.out rfl (by decide) (.slice (some ⟨w8.heap.size, 0, none⟩) 0 0) 0 [] rfl (.inl (own_empty w8 27 6 (Nat.le_refl _))) (some ⟨b, o, none⟩) n c (rvsV l) rfl (by rw [rvsV_length, HLN.out]) HLL.out ?_ (oneCell_rvs l) (by unfold maxLen; omega) (by omega) (by simp)
          intro A9 c9 w9 hG
          have ho := hG.own (.inr (own_empty w8 27 6 (Nat.le_refl _)))
          simp only [Nat.zero_add, List.nil_append] at ho
          have HO9 := Lib.hid ho
          have HV9 := Lib.hid (show Below w8.heap.size w8 w9 from (bnew w8 _).trans hG.below)
          clear hG ho)
        have HB9 := Lib.hid (bstep HB8.out HV9.out)
        have HKL := Lib.hid (HK.out.below (bstep HB4.out HB9.out)).lies
        have hz9 := HV9.out.size
        go_upto_region 23 with (
          at_builtin
          refine wpList_append_gr _ rfl _ _ 22 rfl w8.heap.size 27 i0 (.agg #[.int .i64 0, .int .i64 0, .slice none 0 0, .int .i64 0, .int .i64 0, .int .i64 0]) 6 64 Try.underlying22 HI.out H0.out H1.out H2.out rfl (by decide) (.slice A9 n c9) n (rvsV l) rfl (.inl HO9.out) B m d (rvsV k) rfl (by rw [rvsV_length, HKM.out]) HKL.out ?_ (oneCell_rvs k) (by unfold maxLen; omega) (by omega) hz9
          intro A10 c10 w10 hG
          have HO10 := Lib.hid (hG.own (.inr HO9.out))
          have HV10 := Lib.hid (show Below w8.heap.size w8 w10 from HV9.out.trans hG.below)
          clear hG)
        have HB10 := Lib.hid (bstep HB8.out HV10.out)
        have ho10 := HO10.out
        rw [rvsV_app] at ho10
        have HR10 := Lib.hid (rdT_of_own ho10 (fun u hu => by
          rcases List.mem_append.1 hu with h | h
          · exact (HL.out.each u h).below (bstep HB4.out HB10.out)
          · exact (HK.out.each u h).below (bstep HB4.out HB10.out)))
        clear ho10
        obtain ⟨ww, hzr, hzb, hzc⟩ := best_all A10 (n + m) c10 (l ++ k) w10 HR10.out (by omega)
        rw [decide_eq_true (show 0 < n + m by omega)] at hzc
        have HWR10 := Lib.hid hzr
        have HWB := Lib.hid hzb
        have HWC := Lib.hid hzc
        clear hzr hzb hzc
        go_wp2_with fail
        with_reducible refine HWC.out.mono ?_
        rintro e w11 ⟨_, rfl, rfl, hb11⟩
        have HV11 := Lib.hid (bstep HV10.out hb11)
        have HWR11 := Lib.hid (HWR10.out.below hb11)
        clear hb11 HWC HWR10 HR10 HO10 HO9
        go_upto_region 24 with (fail)
        have HFW12 := Lib.hid (heap_alloc_new w11 (.cells #[.int .i64 ww.r.pref, .int .i64 ww.r.origin, .slice ww.A ww.n ww.c, .int .i64 ww.r.hop, .int .i64 ww.r.otc, .int .i64 ww.r.frm] 27))
        have HV12 := Lib.hid (bstep HV11.out (bnew w11 (.cells #[.int .i64 ww.r.pref, .int .i64 ww.r.origin, .slice ww.A ww.n ww.c, .int .i64 ww.r.hop, .int .i64 ww.r.otc, .int .i64 ww.r.frm] 27)))
        have HWR12 := Lib.hid (HWR11.out.below (bnew w11 (.cells #[.int .i64 ww.r.pref, .int .i64 ww.r.origin, .slice ww.A ww.n ww.c, .int .i64 ww.r.hop, .int .i64 ww.r.otc, .int .i64 ww.r.frm] 27)))
        generalize w11.alloc (.cells #[.int .i64 ww.r.pref, .int .i64 ww.r.origin, .slice ww.A ww.n ww.c, .int .i64 ww.r.hop, .int .i64 ww.r.otc, .int .i64 ww.r.frm] 27) = w12 at *
        obtain ⟨f0, f1, f2, f3, f4, f5⟩ := row6 (row_to (bstep HB8.out HV12.out) HRX4.out)
        go_upto_region 25 with (fail)
        clear f0 f1 f2 f3 f4 f5
        have HFB := Lib.hid (heap_alloc_new w12 (.cells #[.int .i64 x.r.pref, .int .i64 x.r.origin, .slice x.A x.n x.c, .int .i64 x.r.hop, .int .i64 x.r.otc, .int .i64 x.r.frm] 27))
        have HBN := Lib.hid (bnew w12 (.cells #[.int .i64 x.r.pref, .int .i64 x.r.origin, .slice x.A x.n x.c, .int .i64 x.r.hop, .int .i64 x.r.otc, .int .i64 x.r.frm] 27))
        generalize w12.alloc (.cells #[.int .i64 x.r.pref, .int .i64 x.r.origin, .slice x.A x.n x.c, .int .i64 x.r.hop, .int .i64 x.r.otc, .int .i64 x.r.frm] 27) = w13 at *
        have HFW := Lib.hid (row_to HBN.out HFW12.out)
        have HV13 := Lib.hid (bstep HV12.out HBN.out)
        have HFZ := Lib.hid (row_to HV13.out HRZ.out)
        have HW := Lib.hid (bstep HB8.out HV13.out)
        have HFX := Lib.hid (row_to HW.out HRX4.out)
        have HFY := Lib.hid (row_to HW.out HRY.out)
        have HXW := Lib.hid (HX4.out.below HW.out)
        have HYW := Lib.hid (HY4.out.below HW.out)
        have HWW := Lib.hid (HWR12.out.below HBN.out)
        have HZW := Lib.hid (HZR7.out.below (bstep HV8.out HV13.out))
        have HXP := Lib.hid (best_pos HBX.out hl0)
        have HE1 := Lib.hid (min_same HZB.out (by simp) (b := x) (List.mem_append_left _ (List.mem_reverse.2 HXP.out.1)) (fun u hu => by
          refine HXP.out.2 u ?_
          rcases List.mem_append.1 hu with h | h
          · exact List.mem_reverse.1 h
          · rw [List.mem_singleton.1 h]; exact HZM.out))
        have hlk : 0 < (l ++ k).length := by rw [List.length_append]; omega
        cases Pm
        · have hm0 : m = 0 := by have := of_decide_eq_false HPM.out; omega
          have hkn : k = [] := List.eq_nil_of_length_eq_zero (by have := HKM.out; omega)
          have HE2 := Lib.hid (min_same HWB.out hlk (b := x) (List.mem_append_left _ HXP.out.1) (fun u hu => by
            rw [hkn, List.append_nil] at hu
            exact HXP.out.2 u hu))
          have HBW := HXW
          clear hkn hlk
          go_upto_region 27 with (fail)
          obtain ⟨f0, f1, f2, f3, f4, f5⟩ := row6 HFZ.out
          obtain ⟨g0, g1, g2, g3, g4, g5⟩ := row6 HFX.out
          go_wp2_with fail
          clear f0 f1 f2 f3 f4 f5 g0 g1 g2 g3 g4 g5
          have hs := same_any zz.r x.r zz.A zz.n zz.c x.A x.n x.c w13 HZW.out HXW.out
          rw [HE1.out] at hs
          unfold routeA at hs
          with_reducible refine hs.mono ?_
          clear hs
          rintro e wy ⟨_, rfl, rfl, hby⟩
          obtain ⟨f0, f1, f2, f3, f4, f5⟩ := row6 (row_to hby HFW.out)
          obtain ⟨g0, g1, g2, g3, g4, g5⟩ := row6 (row_to hby HFB.out)
          have HY9 := Lib.hid hby
          clear hby
          go_wp2_with fail
          clear f0 f1 f2 f3 f4 f5 g0 g1 g2 g3 g4 g5
          have hs := same_any ww.r x.r ww.A ww.n ww.c x.A x.n x.c wy (HWW.out.below HY9.out) (HBW.out.below HY9.out)
          rw [HE2.out] at hs
          unfold routeA at hs
          with_reducible refine hs.mono ?_
          clear hs
          rintro e wz ⟨_, rfl, rfl, hbz⟩
          go_wp2
          go_ret
          exact ⟨rfl, bstep (bstep HB4.out HW.out) (bstep HY9.out hbz)⟩
        · have hm0 : 0 < k.length := by have := of_decide_eq_true HPM.out; have := HKM.out; omega
          have HYP := Lib.hid (best_pos HBY.out hm0)
          have hcm := compare_any y.r x.r y.A y.n y.c x.A x.n x.c w13 HYW.out HXW.out
          obtain ⟨C, hC⟩ : ∃ C, compareR y.r x.r = C := ⟨_, rfl⟩
          rw [hC] at hcm
          unfold routeA at hcm
          have HCM := Lib.hid hcm
          have HC := Lib.hid hC
          clear hcm hC hm0
          obtain ⟨f0, f1, f2, f3, f4, f5⟩ := row6 HFY.out
          obtain ⟨g0, g1, g2, g3, g4, g5⟩ := row6 HFX.out
          go_wp2_with fail
          clear f0 f1 f2 f3 f4 f5 g0 g1 g2 g3 g4 g5
          with_reducible refine HCM.out.mono ?_
          rintro e w14 ⟨_, rfl, rfl, hbn⟩
          replace HFB := Lib.hid (row_to hbn HFB.out)
          replace HFW := Lib.hid (row_to hbn HFW.out)
          replace HFZ := Lib.hid (row_to hbn HFZ.out)
          replace HFX := Lib.hid (row_to hbn HFX.out)
          replace HFY := Lib.hid (row_to hbn HFY.out)
          replace HXW := Lib.hid (HXW.out.below hbn)
          replace HYW := Lib.hid (HYW.out.below hbn)
          replace HWW := Lib.hid (HWW.out.below hbn)
          replace HZW := Lib.hid (HZW.out.below hbn)
          replace HW := Lib.hid (bstep HW.out hbn)
          have HN14 := Lib.hid (bstep HBN.out hbn)
          clear hbn HCM
          by_cases hneg : C < 0
          · have hneg' : decide (C < 0) = true := decide_eq_true hneg
            have HE2 := Lib.hid (min_same HWB.out hlk (b := y) (List.mem_append_right _ HYP.out.1) (fun u hu => by
              rcases List.mem_append.1 hu with h | h
              · exact compareR_ord.tr _ _ _ (by have := HC.out; omega) (HXP.out.2 u h)
              · exact HYP.out.2 u h))
            obtain ⟨f0, f1, f2, f3, f4, f5⟩ := row6 HFY.out
            go_upto_region 27 with (refine wpList_store_row rfl 27 _ _ rfl w12.heap.size #[.int .i64 y.r.pref, .int .i64 y.r.origin, .slice y.A y.n y.c, .int .i64 y.r.hop, .int .i64 y.r.otc, .int .i64 y.r.frm] rfl rfl 27 #[.int .i64 x.r.pref, .int .i64 x.r.origin, .slice x.A x.n x.c, .int .i64 x.r.hop, .int .i64 x.r.otc, .int .i64 x.r.frm] HFB.out routeSize rfl (by simp [Value.oneCell']) ?_)
            clear f0 f1 f2 f3 f4 f5
            have z1 := row_lt HRX4.out
            have z2 := row_lt HRZ.out
            have z3 := row_lt HFW12.out
            have z4 := HB8.out.size
            have z5 := HV12.out.size
            replace HFZ := Lib.hid ((setRow_other w14 w12.heap.size w7.heap.size #[.int .i64 y.r.pref, .int .i64 y.r.origin, .slice y.A y.n y.c, .int .i64 y.r.hop, .int .i64 y.r.otc, .int .i64 y.r.frm] (by omega)).trans HFZ.out)
            replace HFX := Lib.hid ((setRow_other w14 w12.heap.size w2.heap.size #[.int .i64 y.r.pref, .int .i64 y.r.origin, .slice y.A y.n y.c, .int .i64 y.r.hop, .int .i64 y.r.otc, .int .i64 y.r.frm] (by omega)).trans HFX.out)
            replace HFW := Lib.hid ((setRow_other w14 w12.heap.size w11.heap.size #[.int .i64 y.r.pref, .int .i64 y.r.origin, .slice y.A y.n y.c, .int .i64 y.r.hop, .int .i64 y.r.otc, .int .i64 y.r.frm] (by omega)).trans HFW.out)
            replace HFB := Lib.hid (setRow_heap w14 w12.heap.size _ #[.int .i64 y.r.pref, .int .i64 y.r.origin, .slice y.A y.n y.c, .int .i64 y.r.hop, .int .i64 y.r.otc, .int .i64 y.r.frm] _ _ HFB.out)
            replace HW := Lib.hid (below_setRow HW.out (show w4.heap.size ≤ w12.heap.size by omega) #[.int .i64 y.r.pref, .int .i64 y.r.origin, .slice y.A y.n y.c, .int .i64 y.r.hop, .int .i64 y.r.otc, .int .i64 y.r.frm])
            replace HN14 := Lib.hid (below_setRow HN14.out (Nat.le_refl _) #[.int .i64 y.r.pref, .int .i64 y.r.origin, .slice y.A y.n y.c, .int .i64 y.r.hop, .int .i64 y.r.otc, .int .i64 y.r.frm])
            replace HXW := Lib.hid (HX4.out.below HW.out)
            have HBW := Lib.hid (HY4.out.below HW.out)
            replace HWW := Lib.hid (HWR12.out.below HN14.out)
            replace HZW := Lib.hid (HZR7.out.below (bstep HV8.out (bstep HV12.out HN14.out)))
            clear z1 z2 z3 z4 z5
            generalize w14.setRow w12.heap.size #[.int .i64 y.r.pref, .int .i64 y.r.origin, .slice y.A y.n y.c, .int .i64 y.r.hop, .int .i64 y.r.otc, .int .i64 y.r.frm] = w15 at *
            obtain ⟨f0, f1, f2, f3, f4, f5⟩ := row6 HFZ.out
            obtain ⟨g0, g1, g2, g3, g4, g5⟩ := row6 HFX.out
            go_wp2_with fail
            clear f0 f1 f2 f3 f4 f5 g0 g1 g2 g3 g4 g5
            have hs := same_any zz.r x.r zz.A zz.n zz.c x.A x.n x.c w15 HZW.out HXW.out
            rw [HE1.out] at hs
            unfold routeA at hs
            with_reducible refine hs.mono ?_
            clear hs
            rintro e wy ⟨_, rfl, rfl, hby⟩
            obtain ⟨f0, f1, f2, f3, f4, f5⟩ := row6 (row_to hby HFW.out)
            obtain ⟨g0, g1, g2, g3, g4, g5⟩ := row6 (row_to hby HFB.out)
            have HY9 := Lib.hid hby
            clear hby
            go_wp2_with fail
            clear f0 f1 f2 f3 f4 f5 g0 g1 g2 g3 g4 g5
            have hs := same_any ww.r y.r ww.A ww.n ww.c y.A y.n y.c wy (HWW.out.below HY9.out) (HBW.out.below HY9.out)
            rw [HE2.out] at hs
            unfold routeA at hs
            with_reducible refine hs.mono ?_
            clear hs
            rintro e wz ⟨_, rfl, rfl, hbz⟩
            go_wp2
            go_ret
            exact ⟨rfl, bstep (bstep HB4.out HW.out) (bstep HY9.out hbz)⟩
          · have hneg' : decide (C < 0) = false := decide_eq_false hneg
            have HE2 := Lib.hid (min_same HWB.out hlk (b := x) (List.mem_append_left _ HXP.out.1) (fun u hu => by
              rcases List.mem_append.1 hu with h | h
              · exact HXP.out.2 u h
              · exact compareR_ord.tr _ _ _ (by have := HC.out; have := compareR_ord.anti x.r y.r; omega) (HYP.out.2 u h)))
            have HBW := HXW
            go_upto_region 27 with (fail)
            obtain ⟨f0, f1, f2, f3, f4, f5⟩ := row6 HFZ.out
            obtain ⟨g0, g1, g2, g3, g4, g5⟩ := row6 HFX.out
            go_wp2_with fail
            clear f0 f1 f2 f3 f4 f5 g0 g1 g2 g3 g4 g5
            have hs := same_any zz.r x.r zz.A zz.n zz.c x.A x.n x.c w14 HZW.out HXW.out
            rw [HE1.out] at hs
            unfold routeA at hs
            with_reducible refine hs.mono ?_
            clear hs
            rintro e wy ⟨_, rfl, rfl, hby⟩
            obtain ⟨f0, f1, f2, f3, f4, f5⟩ := row6 (row_to hby HFW.out)
            obtain ⟨g0, g1, g2, g3, g4, g5⟩ := row6 (row_to hby HFB.out)
            have HY9 := Lib.hid hby
            clear hby
            go_wp2_with fail
            clear f0 f1 f2 f3 f4 f5 g0 g1 g2 g3 g4 g5
            have hs := same_any ww.r x.r ww.A ww.n ww.c x.A x.n x.c wy (HWW.out.below HY9.out) (HBW.out.below HY9.out)
            rw [HE2.out] at hs
            unfold routeA at hs
            with_reducible refine hs.mono ?_
            clear hs
            rintro e wz ⟨_, rfl, rfl, hbz⟩
            go_wp2
            go_ret
            exact ⟨rfl, bstep (bstep HB4.out HW.out) (bstep HY9.out hbz)⟩
    · rw [show ((q + 1 : Nat) : Int) - 1 = (q : Int) by omega] at hji
      obtain rfl := hji
      have hql : q < l.length := by have := HLN.out; omega
      have hqn : (q : Int) < n := by omega
      have hq0 : (0 : Int) ≤ q := by omega
      obtain ⟨b, o, rfl, hbl, c0, c1', c2, c3, c4, c5⟩ := (HL.out.below (bstep HB4.out HBR.out)).at_ hql
      have HD := Lib.hid (show l.drop q = l[q] :: l.drop (q + 1) from List.drop_eq_getElem_cons hql)
      have hzi : RdI w l[q].A l[q].n l[q].c l[q].r.as := HL.out.each l[q] (List.getElem_mem _)
      have hzm := HMIN.out l[q] (List.getElem_mem _)
      obtain ⟨z, hz⟩ : ∃ z, l[q] = z := ⟨_, rfl⟩
      rw [hz] at c0 c1' c2 c3 c4 c5 HD hzi hzm
      have HZI := Lib.hid (hzi.below (bstep HB4.out HBR.out))
      have HXI := Lib.hid (HX4.out.below HBR.out)
      have hanti := compareR_ord.anti z.r x.r
      obtain ⟨C, hC⟩ : ∃ C, compareR z.r x.r = C := ⟨_, rfl⟩
      rw [hC] at hanti
      have HC := Lib.hid hC
      have HDC := Lib.hid (show decide (C < 0) = false from decide_eq_false (by omega))
      obtain ⟨E, hE⟩ : ∃ E, (C == 0) = E := ⟨_, rfl⟩
      have HE := Lib.hid hE
      obtain ⟨Bv, hBv⟩ : ∃ Bv, ((l.drop (q + 1)).any fun z => compareR z.r x.r == 0) = Bv := ⟨_, rfl⟩
      have HBV := Lib.hid hBv
      rw [hBv] at hin
      obtain rfl := hin
      have HRXR := Lib.hid (row_to HBR.out HRX4.out)
      have HQ := Lib.hid hj
      have HZQ := Lib.hid hz
      clear hz hC hE hBv hzi hzm hanti hj
      have f0 : ∀ W, Below wr.heap.size wr W → W.cell? ⟨b, o + q * 6, none⟩ = some (.int .i64 z.r.pref) := fun W hC => (hC.cell (p := ⟨b, o + q * 6, none⟩) hbl).trans c0
      have f1 : ∀ W, Below wr.heap.size wr W → W.cell? ⟨b, o + q * 6 + 1, none⟩ = some (.int .i64 z.r.origin) := fun W hC => (hC.cell (p := ⟨b, o + q * 6 + 1, none⟩) hbl).trans c1'
      have f2 : ∀ W, Below wr.heap.size wr W → W.cell? ⟨b, o + q * 6 + 2, none⟩ = some (.slice z.A z.n z.c) := fun W hC => (hC.cell (p := ⟨b, o + q * 6 + 2, none⟩) hbl).trans c2
      have f3 : ∀ W, Below wr.heap.size wr W → W.cell? ⟨b, o + q * 6 + 3, none⟩ = some (.int .i64 z.r.hop) := fun W hC => (hC.cell (p := ⟨b, o + q * 6 + 3, none⟩) hbl).trans c3
      have f4 : ∀ W, Below wr.heap.size wr W → W.cell? ⟨b, o + q * 6 + 4, none⟩ = some (.int .i64 z.r.otc) := fun W hC => (hC.cell (p := ⟨b, o + q * 6 + 4, none⟩) hbl).trans c4
      have f5 : ∀ W, Below wr.heap.size wr W → W.cell? ⟨b, o + q * 6 + 5, none⟩ = some (.int .i64 z.r.frm) := fun W hC => (hC.cell (p := ⟨b, o + q * 6 + 5, none⟩) hbl).trans c5
      have g0 := fun W (hC : Below wr.heap.size wr W) => (row6 (row_to hC HRXR.out)).1
      have g1 := fun W (hC : Below wr.heap.size wr W) => (row6 (row_to hC HRXR.out)).2.1
      have g2 := fun W (hC : Below wr.heap.size wr W) => (row6 (row_to hC HRXR.out)).2.2.1
      have g3 := fun W (hC : Below wr.heap.size wr W) => (row6 (row_to hC HRXR.out)).2.2.2.1
      have g4 := fun W (hC : Below wr.heap.size wr W) => (row6 (row_to hC HRXR.out)).2.2.2.2.1
      have g5 := fun W (hC : Below wr.heap.size wr W) => (row6 (row_to hC HRXR.out)).2.2.2.2.2
      clear c0 c1' c2 c3 c4 c5
      cases Bv
      · have a0 := f0 wr (Below.refl _ _)
        have a1 := f1 wr (Below.refl _ _)
        have a2 := f2 wr (Below.refl _ _)
        have a3 := f3 wr (Below.refl _ _)
        have a4 := f4 wr (Below.refl _ _)
        have a5 := f5 wr (Below.refl _ _)
        have b0 := g0 wr (Below.refl _ _)
        have b1 := g1 wr (Below.refl _ _)
        have b2 := g2 wr (Below.refl _ _)
        have b3 := g3 wr (Below.refl _ _)
        have b4 := g4 wr (Below.refl _ _)
        have b5 := g5 wr (Below.refl _ _)
        go_wp2_with fail
        go_still_tail 7, (by kernel_rfl)
        change wpList _ _ _ _ _ wr.drew
        have hbd : Below wr.heap.size wr wr.drew := (Below.refl _ _).drew
        generalize wr.drew = wd at *
        clear a0 a1 a2 a3 a4 a5 b0 b1 b2 b3 b4 b5
        go_wp2_with fail
        have hs := same_any z.r x.r z.A z.n z.c x.A x.n x.c wd (HZI.out.below hbd) (HXI.out.below hbd)
        rw [HC.out, HE.out] at hs
        unfold routeA at hs
        with_reducible refine hs.mono ?_
        clear hs
        rintro e W ⟨_, rfl, rfl, hbs⟩
        have hC : Below wr.heap.size wr W := bstep hbd hbs
        clear hbd hbs
        have HC0 := Lib.hid hC
        have HOWW := Lib.hid (own_below HOW.out hC)
        have hsz := (bstep HBR.out hC).size
        have a0 := f0 W hC
        have a1 := f1 W hC
        have a2 := f2 W hC
        have a3 := f3 W hC
        have a4 := f4 W hC
        have a5 := f5 W hC
        clear hC
        go_upto_region 13 with (
          at_builtin
          refine wpList_append_gr _ rfl _ _ 22 rfl w4.heap.size 27 i0 (.agg #[.int .i64 0, .int .i64 0, .slice none 0 0, .int .i64 0, .int .i64 0, .int .i64 0]) 6 64 Try.underlying22 HI.out H0.out H1.out H2.out rfl (by decide) (.slice A1 k1 c1) k1 (rvsV (l.drop (q + 1)).reverse) rfl (.inl (HOWW.out.alloc _)) (some ⟨W.heap.size, 0, none⟩) 1 1 (rvV z) rfl rfl (lies_rv W z _) ?_ (oneCell_rv z) (by unfold maxLen; omega) (by omega) (by simp; omega)
          intro A6 c6 w6 hG
          have HO6 := Lib.hid (hG.own (.inl (by decide)))
          have HB6 := Lib.hid (show Below w4.heap.size w4 w6 from (balloc (bstep HBR.out HC0.out) _).trans hG.below)
          have HG6 := Lib.hid (show Below w4.heap.size (W.alloc (.cells #[.int .i64 z.r.pref, .int .i64 z.r.origin, .slice z.A z.n z.c, .int .i64 z.r.hop, .int .i64 z.r.otc, .int .i64 z.r.frm] 27)) w6 from hG.below)
          clear a0 a1 a2 a3 a4 a5 hG)
        obtain ⟨b', o', hAA, hbl', d0, d1, d2, d3, d4, d5⟩ := (HL.out.below (bstep HB4.out HB6.out)).at_ hql
        injection hAA with hAA
        injection hAA with e1 e2
        subst e1 e2
        rw [HZQ.out] at d0 d1 d2 d3 d4 d5
        clear f0 f1 f2 f3 f4 f5 g0 g1 g2 g3 g4 g5
        have HRX6 := Lib.hid (row_to HB6.out HRX4.out)
        have HZ6 := Lib.hid (show RdI w6 z.A z.n z.c z.r.as by rw [← HZQ.out]; exact (HL.out.each l[q] (List.getElem_mem _)).below (bstep HB4.out HB6.out))
        have HX6 := Lib.hid (HX4.out.below HB6.out)
        have f0 : ∀ W, Below w6.heap.size w6 W → W.cell? ⟨b, o + q * 6, none⟩ = some (.int .i64 z.r.pref) := fun W hC => (hC.cell (p := ⟨b, o + q * 6, none⟩) hbl').trans d0
        have f1 : ∀ W, Below w6.heap.size w6 W → W.cell? ⟨b, o + q * 6 + 1, none⟩ = some (.int .i64 z.r.origin) := fun W hC => (hC.cell (p := ⟨b, o + q * 6 + 1, none⟩) hbl').trans d1
        have f2 : ∀ W, Below w6.heap.size w6 W → W.cell? ⟨b, o + q * 6 + 2, none⟩ = some (.slice z.A z.n z.c) := fun W hC => (hC.cell (p := ⟨b, o + q * 6 + 2, none⟩) hbl').trans d2
        have f3 : ∀ W, Below w6.heap.size w6 W → W.cell? ⟨b, o + q * 6 + 3, none⟩ = some (.int .i64 z.r.hop) := fun W hC => (hC.cell (p := ⟨b, o + q * 6 + 3, none⟩) hbl').trans d3
        have f4 : ∀ W, Below w6.heap.size w6 W → W.cell? ⟨b, o + q * 6 + 4, none⟩ = some (.int .i64 z.r.otc) := fun W hC => (hC.cell (p := ⟨b, o + q * 6 + 4, none⟩) hbl').trans d4
        have f5 : ∀ W, Below w6.heap.size w6 W → W.cell? ⟨b, o + q * 6 + 5, none⟩ = some (.int .i64 z.r.frm) := fun W hC => (hC.cell (p := ⟨b, o + q * 6 + 5, none⟩) hbl').trans d5
        have g0 := fun W (hC : Below w6.heap.size w6 W) => (row6 (row_to hC HRX6.out)).1
        have g1 := fun W (hC : Below w6.heap.size w6 W) => (row6 (row_to hC HRX6.out)).2.1
        have g2 := fun W (hC : Below w6.heap.size w6 W) => (row6 (row_to hC HRX6.out)).2.2.1
        have g3 := fun W (hC : Below w6.heap.size w6 W) => (row6 (row_to hC HRX6.out)).2.2.2.1
        have g4 := fun W (hC : Below w6.heap.size w6 W) => (row6 (row_to hC HRX6.out)).2.2.2.2.1
        have g5 := fun W (hC : Below w6.heap.size w6 W) => (row6 (row_to hC HRX6.out)).2.2.2.2.2
        have hdc := HDC.out
        clear d0 d1 d2 d3 d4 d5
        refine wp_region_rel (by kernel_rfl) (by decide +kernel) (by rfl) ?_
        repeat (first
          | (refine rel_skip ⟨_, _, _, _, rfl, rfl, rfl, ?_⟩ ?_
             focus (intro h; cases h; done))
          | refine rel_move _ (Just _) (.inl rfl) (by first | exact .inl rfl | exact .inr ⟨_, _, _, rfl, rfl, rfl⟩) rfl (lasts_just _) ?_
          | refine rel_move _ (Just _) (.inr rfl) (by first | exact .inl rfl | exact .inr ⟨_, _, _, rfl, rfl, rfl⟩) rfl (lasts_just _) ?_
          | refine rel_moveC _ (.inl rfl) (by first | exact .inl rfl | exact .inr ⟨_, _, _, rfl, rfl, rfl⟩) ?_
          | refine rel_moveC _ (.inr rfl) (by first | exact .inl rfl | exact .inr ⟨_, _, _, rfl, rfl, rfl⟩) ?_
          | refine rel_str _ _ rfl (by first | exact .inl rfl | exact .inr ⟨_, _, _, rfl, rfl, rfl⟩) rfl ?_
          | refine rel_lenB _ _ rfl (by first | exact .inl rfl | exact .inr ⟨_, _, _, rfl, rfl, rfl⟩) rfl ?_
          | refine rel_move _ (IsB _) (.inl rfl) (by first | exact .inl rfl | exact .inr ⟨_, _, _, rfl, rfl, rfl⟩) rfl (lasts_isB _) ?_
          | refine rel_move _ (IsB _) (.inr rfl) (by first | exact .inl rfl | exact .inr ⟨_, _, _, rfl, rfl, rfl⟩) rfl (lasts_isB _) ?_
          | (refine rel_exact ?_ (by first | exact .inl rfl | exact .inr ⟨_, _, _, rfl, rfl, rfl⟩) ?_ ?_
             rotate_left
             (intro ρ W hρ hC hk
              simp [known, looks, Op.operands, Call.operands, slotFact, Just, List.lookup] at hk
              obtain ⟨hρ1, hρ2, hρ3⟩ := hρ
              go_simp
              rfl)))
        refine rel_op (Just (.int .i64 C)) (lasts_just _) (by first | exact .inl rfl | exact .inr ⟨_, _, _, rfl, rfl, rfl⟩) ?_ ?_
        · intro ρ W hρ hC hk
          simp [known, looks, Op.operands, Call.operands, slotFact, Just, List.lookup] at hk
          obtain ⟨hρ1, hρ2, hρ3⟩ := hρ
          go_simp
          have hs := compare_any z.r x.r z.A z.n z.c x.A x.n x.c W (HZ6.out.below hC) (HX6.out.below hC)
          rw [HC.out] at hs
          exact ⟨Below.refl _ _, hs⟩
        repeat (first
          | (refine rel_skip ⟨_, _, _, _, rfl, rfl, rfl, ?_⟩ ?_
             focus (intro h; cases h; done))
          | refine rel_move _ (Just _) (.inl rfl) (by first | exact .inl rfl | exact .inr ⟨_, _, _, rfl, rfl, rfl⟩) rfl (lasts_just _) ?_
          | refine rel_move _ (Just _) (.inr rfl) (by first | exact .inl rfl | exact .inr ⟨_, _, _, rfl, rfl, rfl⟩) rfl (lasts_just _) ?_
          | refine rel_moveC _ (.inl rfl) (by first | exact .inl rfl | exact .inr ⟨_, _, _, rfl, rfl, rfl⟩) ?_
          | refine rel_moveC _ (.inr rfl) (by first | exact .inl rfl | exact .inr ⟨_, _, _, rfl, rfl, rfl⟩) ?_
          | refine rel_str _ _ rfl (by first | exact .inl rfl | exact .inr ⟨_, _, _, rfl, rfl, rfl⟩) rfl ?_
          | refine rel_lenB _ _ rfl (by first | exact .inl rfl | exact .inr ⟨_, _, _, rfl, rfl, rfl⟩) rfl ?_
          | refine rel_move _ (IsB _) (.inl rfl) (by first | exact .inl rfl | exact .inr ⟨_, _, _, rfl, rfl, rfl⟩) rfl (lasts_isB _) ?_
          | refine rel_move _ (IsB _) (.inr rfl) (by first | exact .inl rfl | exact .inr ⟨_, _, _, rfl, rfl, rfl⟩) rfl (lasts_isB _) ?_
          | (refine rel_exact ?_ (by first | exact .inl rfl | exact .inr ⟨_, _, _, rfl, rfl, rfl⟩) ?_ ?_
             rotate_left
             (intro ρ W hρ hC hk
              simp [known, looks, Op.operands, Call.operands, slotFact, Just, List.lookup] at hk
              obtain ⟨hρ1, hρ2, hρ3⟩ := hρ
              go_simp
              rfl)))
        refine rel_nil ?_
        intro a W hC hd hsz ht
        refine fin_exit hsz hd ht (of_decide_eq_true (by kernel_rfl)) ?_
        repeat (first
          | refine fin_just ?_
          | (intro _ _))
        refine fin_nil ?_
        simp only [Act.put, Option.getD_some, List.setIfInBounds_toArray, List.set_cons_zero, List.set_cons_succ]
        clear hd hsz ht
        clear f0 f1 f2 f3 f4 f5 g0 g1 g2 g3 g4 g5
        go_wp2
        go_roundw
        case rel => exact ⟨q, by omega, rfl, by rw [HD.out, List.any_cons, HBV.out, HC.out, HE.out]; simp, ⟨A6, k1 + 1, c6, rfl, by have := HLN.out; omega, by rw [HD.out, List.reverse_cons, ← rvsV_snoc]; exact own_below HO6.out hC⟩, bstep HB6.out hC⟩
        case measure => simp [intOf]
      · go_wp2_with fail
        go_still_tail 7, (by kernel_rfl)
        change wpList _ _ _ _ _ wr.drew
        have hC : Below wr.heap.size wr wr.drew := (Below.refl _ _).drew
        generalize wr.drew = W at *
        have HC0 := Lib.hid hC
        have HOWW := Lib.hid (own_below HOW.out hC)
        have hsz := (bstep HBR.out hC).size
        have a0 := f0 W hC
        have a1 := f1 W hC
        have a2 := f2 W hC
        have a3 := f3 W hC
        have a4 := f4 W hC
        have a5 := f5 W hC
        clear hC
        go_upto_region 13 with (
          at_builtin
          refine wpList_append_gr _ rfl _ _ 22 rfl w4.heap.size 27 i0 (.agg #[.int .i64 0, .int .i64 0, .slice none 0 0, .int .i64 0, .int .i64 0, .int .i64 0]) 6 64 Try.underlying22 HI.out H0.out H1.out H2.out rfl (by decide) (.slice A1 k1 c1) k1 (rvsV (l.drop (q + 1)).reverse) rfl (.inl (HOWW.out.alloc _)) (some ⟨W.heap.size, 0, none⟩) 1 1 (rvV z) rfl rfl (lies_rv W z _) ?_ (oneCell_rv z) (by unfold maxLen; omega) (by omega) (by simp; omega)
          intro A6 c6 w6 hG
          have HO6 := Lib.hid (hG.own (.inl (by decide)))
          have HB6 := Lib.hid (show Below w4.heap.size w4 w6 from (balloc (bstep HBR.out HC0.out) _).trans hG.below)
          have HG6 := Lib.hid (show Below w4.heap.size (W.alloc (.cells #[.int .i64 z.r.pref, .int .i64 z.r.origin, .slice z.A z.n z.c, .int .i64 z.r.hop, .int .i64 z.r.otc, .int .i64 z.r.frm] 27)) w6 from hG.below)
          clear a0 a1 a2 a3 a4 a5 hG)
        obtain ⟨b', o', hAA, hbl', d0, d1, d2, d3, d4, d5⟩ := (HL.out.below (bstep HB4.out HB6.out)).at_ hql
        injection hAA with hAA
        injection hAA with e1 e2
        subst e1 e2
        rw [HZQ.out] at d0 d1 d2 d3 d4 d5
        clear f0 f1 f2 f3 f4 f5 g0 g1 g2 g3 g4 g5
        have HRX6 := Lib.hid (row_to HB6.out HRX4.out)
        have HZ6 := Lib.hid (show RdI w6 z.A z.n z.c z.r.as by rw [← HZQ.out]; exact (HL.out.each l[q] (List.getElem_mem _)).below (bstep HB4.out HB6.out))
        have HX6 := Lib.hid (HX4.out.below HB6.out)
        have f0 : ∀ W, Below w6.heap.size w6 W → W.cell? ⟨b, o + q * 6, none⟩ = some (.int .i64 z.r.pref) := fun W hC => (hC.cell (p := ⟨b, o + q * 6, none⟩) hbl').trans d0
        have f1 : ∀ W, Below w6.heap.size w6 W → W.cell? ⟨b, o + q * 6 + 1, none⟩ = some (.int .i64 z.r.origin) := fun W hC => (hC.cell (p := ⟨b, o + q * 6 + 1, none⟩) hbl').trans d1
        have f2 : ∀ W, Below w6.heap.size w6 W → W.cell? ⟨b, o + q * 6 + 2, none⟩ = some (.slice z.A z.n z.c) := fun W hC => (hC.cell (p := ⟨b, o + q * 6 + 2, none⟩) hbl').trans d2
        have f3 : ∀ W, Below w6.heap.size w6 W → W.cell? ⟨b, o + q * 6 + 3, none⟩ = some (.int .i64 z.r.hop) := fun W hC => (hC.cell (p := ⟨b, o + q * 6 + 3, none⟩) hbl').trans d3
        have f4 : ∀ W, Below w6.heap.size w6 W → W.cell? ⟨b, o + q * 6 + 4, none⟩ = some (.int .i64 z.r.otc) := fun W hC => (hC.cell (p := ⟨b, o + q * 6 + 4, none⟩) hbl').trans d4
        have f5 : ∀ W, Below w6.heap.size w6 W → W.cell? ⟨b, o + q * 6 + 5, none⟩ = some (.int .i64 z.r.frm) := fun W hC => (hC.cell (p := ⟨b, o + q * 6 + 5, none⟩) hbl').trans d5
        have g0 := fun W (hC : Below w6.heap.size w6 W) => (row6 (row_to hC HRX6.out)).1
        have g1 := fun W (hC : Below w6.heap.size w6 W) => (row6 (row_to hC HRX6.out)).2.1
        have g2 := fun W (hC : Below w6.heap.size w6 W) => (row6 (row_to hC HRX6.out)).2.2.1
        have g3 := fun W (hC : Below w6.heap.size w6 W) => (row6 (row_to hC HRX6.out)).2.2.2.1
        have g4 := fun W (hC : Below w6.heap.size w6 W) => (row6 (row_to hC HRX6.out)).2.2.2.2.1
        have g5 := fun W (hC : Below w6.heap.size w6 W) => (row6 (row_to hC HRX6.out)).2.2.2.2.2
        have hdc := HDC.out
        clear d0 d1 d2 d3 d4 d5
        refine wp_region_rel (by kernel_rfl) (by decide +kernel) (by rfl) ?_
        repeat (first
          | (refine rel_skip ⟨_, _, _, _, rfl, rfl, rfl, ?_⟩ ?_
             focus (intro h; cases h; done))
          | refine rel_move _ (Just _) (.inl rfl) (by first | exact .inl rfl | exact .inr ⟨_, _, _, rfl, rfl, rfl⟩) rfl (lasts_just _) ?_
          | refine rel_move _ (Just _) (.inr rfl) (by first | exact .inl rfl | exact .inr ⟨_, _, _, rfl, rfl, rfl⟩) rfl (lasts_just _) ?_
          | refine rel_moveC _ (.inl rfl) (by first | exact .inl rfl | exact .inr ⟨_, _, _, rfl, rfl, rfl⟩) ?_
          | refine rel_moveC _ (.inr rfl) (by first | exact .inl rfl | exact .inr ⟨_, _, _, rfl, rfl, rfl⟩) ?_
          | refine rel_str _ _ rfl (by first | exact .inl rfl | exact .inr ⟨_, _, _, rfl, rfl, rfl⟩) rfl ?_
          | refine rel_lenB _ _ rfl (by first | exact .inl rfl | exact .inr ⟨_, _, _, rfl, rfl, rfl⟩) rfl ?_
          | refine rel_move _ (IsB _) (.inl rfl) (by first | exact .inl rfl | exact .inr ⟨_, _, _, rfl, rfl, rfl⟩) rfl (lasts_isB _) ?_
          | refine rel_move _ (IsB _) (.inr rfl) (by first | exact .inl rfl | exact .inr ⟨_, _, _, rfl, rfl, rfl⟩) rfl (lasts_isB _) ?_
          | (refine rel_exact ?_ (by first | exact .inl rfl | exact .inr ⟨_, _, _, rfl, rfl, rfl⟩) ?_ ?_
             rotate_left
             (intro ρ W hρ hC hk
              simp [known, looks, Op.operands, Call.operands, slotFact, Just, List.lookup] at hk
              obtain ⟨hρ1, hρ2, hρ3⟩ := hρ
              go_simp
              rfl)))
        refine rel_op (Just (.int .i64 C)) (lasts_just _) (by first | exact .inl rfl | exact .inr ⟨_, _, _, rfl, rfl, rfl⟩) ?_ ?_
        · intro ρ W hρ hC hk
          simp [known, looks, Op.operands, Call.operands, slotFact, Just, List.lookup] at hk
          obtain ⟨hρ1, hρ2, hρ3⟩ := hρ
          go_simp
          have hs := compare_any z.r x.r z.A z.n z.c x.A x.n x.c W (HZ6.out.below hC) (HX6.out.below hC)
          rw [HC.out] at hs
          exact ⟨Below.refl _ _, hs⟩
        repeat (first
          | (refine rel_skip ⟨_, _, _, _, rfl, rfl, rfl, ?_⟩ ?_
             focus (intro h; cases h; done))
          | refine rel_move _ (Just _) (.inl rfl) (by first | exact .inl rfl | exact .inr ⟨_, _, _, rfl, rfl, rfl⟩) rfl (lasts_just _) ?_
          | refine rel_move _ (Just _) (.inr rfl) (by first | exact .inl rfl | exact .inr ⟨_, _, _, rfl, rfl, rfl⟩) rfl (lasts_just _) ?_
          | refine rel_moveC _ (.inl rfl) (by first | exact .inl rfl | exact .inr ⟨_, _, _, rfl, rfl, rfl⟩) ?_
          | refine rel_moveC _ (.inr rfl) (by first | exact .inl rfl | exact .inr ⟨_, _, _, rfl, rfl, rfl⟩) ?_
          | refine rel_str _ _ rfl (by first | exact .inl rfl | exact .inr ⟨_, _, _, rfl, rfl, rfl⟩) rfl ?_
          | refine rel_lenB _ _ rfl (by first | exact .inl rfl | exact .inr ⟨_, _, _, rfl, rfl, rfl⟩) rfl ?_
          | refine rel_move _ (IsB _) (.inl rfl) (by first | exact .inl rfl | exact .inr ⟨_, _, _, rfl, rfl, rfl⟩) rfl (lasts_isB _) ?_
          | refine rel_move _ (IsB _) (.inr rfl) (by first | exact .inl rfl | exact .inr ⟨_, _, _, rfl, rfl, rfl⟩) rfl (lasts_isB _) ?_
          | (refine rel_exact ?_ (by first | exact .inl rfl | exact .inr ⟨_, _, _, rfl, rfl, rfl⟩) ?_ ?_
             rotate_left
             (intro ρ W hρ hC hk
              simp [known, looks, Op.operands, Call.operands, slotFact, Just, List.lookup] at hk
              obtain ⟨hρ1, hρ2, hρ3⟩ := hρ
              go_simp
              rfl)))
        refine rel_nil ?_
        intro a W hC hd hsz ht
        refine fin_exit hsz hd ht (of_decide_eq_true (by kernel_rfl)) ?_
        repeat (first
          | refine fin_just ?_
          | (intro _ _))
        refine fin_nil ?_
        simp only [Act.put, Option.getD_some, List.setIfInBounds_toArray, List.set_cons_zero, List.set_cons_succ]
        clear hd hsz ht
        clear f0 f1 f2 f3 f4 f5 g0 g1 g2 g3 g4 g5
        go_wp2
        go_roundw
        case rel => exact ⟨q, by omega, rfl, by rw [HD.out, List.any_cons, HBV.out, HC.out, HE.out]; simp, ⟨A6, k1 + 1, c6, rfl, by have := HLN.out; omega, by rw [HD.out, List.reverse_cons, ← rvsV_snoc]; exact own_below HO6.out hC⟩, bstep HB6.out hC⟩
        case measure => simp [intOf]
end Go.Proofs.Ytmlhbmlppgoklac
