/- The walk of the document's answer for layer 3: what is got. -/
import Derived.Test.YtpoikmbogcggkaaMsg14
import Derived.Deep.QuietTactic
import Derived.BigQuiet
import Derived.RegionTactic
namespace Go.Proofs.Ytpoikmbogcggkaa
open Go.RowKit
set_option maxHeartbeats 400000
set_option maxRecDepth 100000
set_option linter.unusedVariables false
set_option linter.unusedSimpArgs false

theorem rget_short (A : Option Addr) (n c : Nat) (w : World) (hn : n < 19) :
    Calls Try.prog 17 #[.slice A n c] w fun e w' => e = .returned (.tuple #[.agg #[.int .i64 0, .slice none 0 0], .int .i64 0, .agg #[.int .i64 0, .int .i64 0, .slice none 0 0]]) ∧ Below w.heap.size w w' := by
  have h1 : (n : Int) < 19 := by omega
  go_enter Try.func17, Try.ntmps17
  go_wp2
  exact bodyPost_ret (results_ctc rfl _ _ w.heap.size (w.heap.size + 1) _ _ _ _ _ _ _ _ _ rfl rfl rfl (heap_alloc2_old w _ _) (heap_alloc2_new w _ _) Try.underlying35 rfl msgSize Try.underlying37 rfl noteSize) rfl ⟨rfl, balloc (bnew w _) _⟩

theorem s5_rows {w : World} {g : Nat} {t u : TypeId} {a b c d e : Value} (h : w.heap[g]? = some (.cells #[a, b] t (0, 0))) (k : w.heap[g + 1]? = some (.cells #[c, d, e] u (0, 0))) (x y p q r : Value) :
    (((((w.setCell ⟨g, 0, none⟩ x).setCell ⟨g, 1, none⟩ y).setCell ⟨g + 1, 0, none⟩ p).setCell ⟨g + 1, 1, none⟩ q).setCell ⟨g + 1, 2, none⟩ r).heap[g]? = some (.cells #[x, y] t (0, 0)) ∧
    (((((w.setCell ⟨g, 0, none⟩ x).setCell ⟨g, 1, none⟩ y).setCell ⟨g + 1, 0, none⟩ p).setCell ⟨g + 1, 1, none⟩ q).setCell ⟨g + 1, 2, none⟩ r).heap[g + 1]? = some (.cells #[p, q, r] u (0, 0)) := by
  constructor
  · simp [World.setCell, Array.getElem?_modify, h]
  · simp [World.setCell, Array.getElem?_modify, k]
theorem s5_keep {w : World} {g n c : Nat} {A : Option Addr} {l : List UInt8} (h : RdB w A n c l) (hA : ∀ b o, A = some ⟨b, o, none⟩ → b ≠ g ∧ b ≠ g + 1) (x y p q r : Value) :
    RdB (((((w.setCell ⟨g, 0, none⟩ x).setCell ⟨g, 1, none⟩ y).setCell ⟨g + 1, 0, none⟩ p).setCell ⟨g + 1, 1, none⟩ q).setCell ⟨g + 1, 2, none⟩ r) A n c l := by
  refine ⟨h.len, h.le, h.max, ?_⟩
  rcases h.lies with hl | ⟨b', o, hb, hc⟩
  · exact .inl hl
  · obtain ⟨n1, n2⟩ := hA b' o hb
    refine .inr ⟨b', o, hb, fun j hj => ?_⟩
    have hj' := hc j hj
    rw [World.cell?_setCell_other _ _ _ _ (fun e => n2 (by injection e with e; exact e.symm)), World.cell?_setCell_other _ _ _ _ (fun e => n2 (by injection e with e; exact e.symm)), World.cell?_setCell_other _ _ _ _ (fun e => n2 (by injection e with e; exact e.symm)), World.cell?_setCell_other _ _ _ _ (fun e => n1 (by injection e with e; exact e.symm)), World.cell?_setCell_other _ _ _ _ (fun e => n1 (by injection e with e; exact e.symm))]
    exact hj'
theorem s5_below {w w1 : World} (h : Below w.heap.size w w1) (x y p q r : Value) :
    Below w.heap.size w (((((w1.setCell ⟨w.heap.size, 0, none⟩ x).setCell ⟨w.heap.size, 1, none⟩ y).setCell ⟨w.heap.size + 1, 0, none⟩ p).setCell ⟨w.heap.size + 1, 1, none⟩ q).setCell ⟨w.heap.size + 1, 2, none⟩ r) :=
  ((((h.setCell (p := ⟨w.heap.size, 0, none⟩) (Nat.le_refl _) x).setCell (p := ⟨w.heap.size, 1, none⟩) (Nat.le_refl _) y).setCell (p := ⟨w.heap.size + 1, 0, none⟩) (Nat.le_succ _) p).setCell (p := ⟨w.heap.size + 1, 1, none⟩) (Nat.le_succ _) q).setCell (p := ⟨w.heap.size + 1, 2, none⟩) (Nat.le_succ _) r
theorem s5_rowsD {w : World} {g : Nat} {t u : TypeId} {a b c d e : Value} (h : w.heap[g]? = some (.cells #[a, b] t (0, 0))) (k : w.heap[g + 1]? = some (.cells #[c, d, e] u (0, 0))) (x y p q r : Value) :
    (((((w.setCell ⟨g, 0, none⟩ x).setCell ⟨g, 1, none⟩ y).setCell ⟨g + 1, 0, none⟩ p).setCell ⟨g + 1, 1, none⟩ q).setCell ⟨g + 1, 2, none⟩ r).drew.heap[g]? = some (.cells #[x, y] t (0, 0)) ∧
    (((((w.setCell ⟨g, 0, none⟩ x).setCell ⟨g, 1, none⟩ y).setCell ⟨g + 1, 0, none⟩ p).setCell ⟨g + 1, 1, none⟩ q).setCell ⟨g + 1, 2, none⟩ r).drew.heap[g + 1]? = some (.cells #[p, q, r] u (0, 0)) := by
  rw [heap_drew]
  exact s5_rows h k x y p q r
theorem rdB_drew {w : World} {A : Option Addr} {n c : Nat} {l : List UInt8} (h : RdB w A n c l) : RdB w.drew A n c l := h.below (Below.refl _ _).drew
theorem mul256 {x y : Nat} (hx : x < 256) (hy : y < 256) : IntKind.i64.wrap ((x : Int) * 256 + (y : Int)) = (x : Int) * 256 + (y : Int) := by
  rw [IntKind.wrap_i64]
  omega
theorem rget_long (A : Option Addr) (n c : Nat) (l : List UInt8) (w : World) (h : RdB w A n c l) (hn : 19 ≤ n) (hn2 : n ≤ 100000000) : Calls Try.prog 17 #[.slice A n c] w (Ret (IsGot (getM l)) w) := by
  have h1 : ¬ (n : Int) < 19 := by omega
  have hlen := h.len
  obtain ⟨b, o, rfl, hcell⟩ := h.at_ (k := 16) (by omega)
  have hbl : b < w.heap.size := World.block_lt_of_cell? _ _ (hcell 0 (by omega))
  have HL := Lib.hid hlen
  have HA := Lib.hid h
  have HC := Lib.hid hcell
  have HN := Lib.hid (show 19 ≤ n ∧ n ≤ 100000000 from ⟨hn, hn2⟩)
  clear hlen h hcell hn hn2
  go_enter Try.func17, Try.ntmps17
  go_wp2
  go_loopw [5] (fun i wr => ∃ j : Nat, j ≤ 16 ∧ i = .int .i64 j ∧ l.take j = List.replicate j 255 ∧ wr = (w.alloc (.cells #[.int .i64 0, .slice none 0 0] 35)).alloc (.cells #[.int .i64 0, .int .i64 0, .slice none 0 0] 37)) (fun i _ => 16 - (intOf i).toNat)
  case atStart => exact ⟨0, Nat.zero_le _, rfl, rfl, rfl⟩
  case round =>
    obtain ⟨j, hj, rfl, htk, rfl⟩ := hrel
    have HT := Lib.hid htk
    clear htk
    by_cases hlt : j < 16
    · have hlt' : (j : Int) < 16 := by omega
      have hjn : (j : Int) < n := by have := HN.out.1; omega
      obtain ⟨x, hx⟩ : ∃ x, l[j]'(by rw [HL.out]; have := HN.out.1; omega) = x := ⟨_, rfl⟩
      have cj := HC.out j (by rw [HL.out]; have := HN.out.1; omega)
      rw [hx] at cj
      cases he : ((x.toNat : Int) != 255)
      · have HX := Lib.hid hx
        have HE := Lib.hid he
        clear hx
        go_wp2
        go_roundw
        case rel =>
          refine ⟨j + 1, by omega, by go_num, ?_, trivial⟩
          rw [List.take_succ_eq_append_getElem (by rw [HL.out]; have := HN.out.1; omega), HT.out, HX.out, List.replicate_succ']
          have : x = 255 := by
            have h2 : (x.toNat : Int) = 255 := by simpa using HE.out
            exact UInt8.toNat_inj.1 (by rw [show (255 : UInt8).toNat = 255 from rfl]; omega)
          rw [this]
        case measure => simp [intOf]; omega
      · have HX := Lib.hid hx
        have HE := Lib.hid he
        clear hx
        go_wp2
        have hP : ¬ l.take 16 = List.replicate 16 255 := by
          intro e
          have h1 := congrArg (fun l => l[j]?) e
          simp only [List.getElem?_take, if_pos hlt, List.getElem?_replicate] at h1
          rw [List.getElem?_eq_getElem (by rw [HL.out]; have := HN.out.1; omega), HX.out] at h1
          injection h1 with h1
          have h2 := HE.out
          rw [h1] at h2
          exact absurd h2 (by decide)
        refine bodyPost_ret (results_ctc rfl _ _ w.heap.size (w.heap.size + 1) _ _ _ _ _ _ _ _ _ rfl rfl rfl (heap_alloc2_old w _ _) (heap_alloc2_new w _ _) Try.underlying35 rfl msgSize Try.underlying37 rfl noteSize) rfl ⟨_, rfl, ?_, balloc (bnew w _) _⟩
        rw [getM_unmarked (by rw [HL.out]; exact HN.out.1) hP]
        exact ⟨_, _, _, _, _, _, rfl, RdB.nil _, RdB.nil _⟩
    · obtain rfl : j = 16 := by omega
      obtain ⟨x, y, z, R, rfl⟩ := head_of (l := l) (by rw [HL.out]; exact HN.out.1) HT.out
      have c16 := HC.out 16 (by simp)
      have c17 := HC.out 17 (by simp)
      have c18 := HC.out 18 (by simp)
      replace c16 : w.cell? ⟨b, o + 16, none⟩ = some (.int .u8 (x.toNat : Int)) := c16
      replace c17 : w.cell? ⟨b, o + 17, none⟩ = some (.int .u8 (y.toNat : Int)) := c17
      replace c18 : w.cell? ⟨b, o + 18, none⟩ = some (.int .u8 (z.toNat : Int)) := c18
      have hxl : x.toNat < 256 := x.toNat_lt
      have hyl : y.toNat < 256 := y.toNat_lt
      have hzl : z.toNat < 256 := z.toNat_lt
      have g16 : (16 : Int) < n := by have := HN.out.1; omega
      have g17 : (17 : Int) < n := by have := HN.out.1; omega
      have g18 : (18 : Int) < n := by have := HN.out.1; omega
      have hcap : (n : Int) ≤ c := by have := HA.out.le; omega
      clear HC HT
      go_upto_region 8 with fail
      go_quiet (fail)
      have hmul := mul256 hxl hyl
      go_upto_region 10 with fail
      have hr16 := (HA.out.cut (k := 16) (by omega)).take (k := 2) (c' := c - 16) (by omega) (by omega) (Nat.le_refl _)
      have hr18 := (HA.out.cut (k := 18) (by omega)).take (k := 1) (c' := c - 18) (by omega) (by omega) (Nat.le_refl _)
      rw [if_neg (by omega)] at hr16 hr18
      replace hr16 : RdB w (some ⟨b, o + 16, none⟩) 2 (c - 16) [x, y] := hr16
      replace hr18 : RdB w (some ⟨b, o + 18, none⟩) 1 (c - 18) [z] := hr18
      have hm := getM_head x y z R
      have es : ((x.toNat * 256 + y.toNat : Nat) : Int) = (x.toNat : Int) * 256 + (y.toNat : Int) := by omega
      have hRl : R.length + 19 = n := by have := HL.out; simp at this; omega
      rw [es, hRl] at hm
      obtain ⟨W0, hW0⟩ : ∃ W0, W0 = (((w.alloc (.cells #[.int .i64 0, .slice none 0 0] 35)).alloc (.cells #[.int .i64 0, .int .i64 0, .slice none 0 0] 37)).drewN nq).alloc (.cells #[.int .i64 1, .int .i64 2, .slice (some ⟨b, o + 16, none⟩) 2 (c - 16)] 37) := ⟨_, rfl⟩
      have hR1 : W0.heap[w.heap.size]? = some (.cells #[.int .i64 0, .slice none 0 0] 35 (0, 0)) := by
        rw [hW0, Below.heap_alloc _ _ _ (by rw [size2]; omega)]
        exact heap_alloc2_old w _ _
      have hR2 : W0.heap[w.heap.size + 1]? = some (.cells #[.int .i64 0, .int .i64 0, .slice none 0 0] 37 (0, 0)) := by
        rw [hW0, Below.heap_alloc _ _ _ (by rw [size2]; omega)]
        exact heap_alloc2_new w _ _
      have hR3 : W0.heap[w.heap.size + 1 + 1]? = some (.cells #[.int .i64 1, .int .i64 2, .slice (some ⟨b, o + 16, none⟩) 2 (c - 16)] 37 (0, 0)) := by
        have := heap_alloc_new (((w.alloc (.cells #[.int .i64 0, .slice none 0 0] 35)).alloc (.cells #[.int .i64 0, .int .i64 0, .slice none 0 0] 37)).drewN nq) (.cells #[.int .i64 1, .int .i64 2, .slice (some ⟨b, o + 16, none⟩) 2 (c - 16)] 37)
        rw [size2] at this
        rw [hW0]
        exact this
      have hB0 : Below w.heap.size w W0 := by rw [hW0]; exact balloc (bstep (balloc (bnew w _) _) (below_drewN _)) _
      rw [← hW0]
      clear hW0
      have e18 : W0.cell? ⟨b, o + 18, none⟩ = some (.int .u8 (z.toNat : Int)) := (hB0.cell (p := ⟨b, o + 18, none⟩) hbl).trans c18
      obtain ⟨q0, q1⟩ := row2 hR1
      obtain ⟨q2, q3, q4⟩ := row3 hR2
      obtain ⟨q5, q6, q7⟩ := row3 hR3
      have r0 := row_frozen hR1 0
      have r1 := row_frozen hR1 1
      have r2 := row_frozen hR2 0
      have r3 := row_frozen hR2 1
      have r4 := row_frozen hR2 2
      have z1 := row_lt hR1
      have z2 := row_lt hR2
      have z3 := row_lt hR3
      have hnb : b ≠ w.heap.size ∧ b ≠ w.heap.size + 1 := by omega
      have HM := Lib.hid hm
      have HR1 := Lib.hid hR1
      have HR2 := Lib.hid hR2
      have HB0 := Lib.hid hB0
      have H16 := Lib.hid (hr16.below hB0)
      have H18 := Lib.hid (hr18.below hB0)
      have HAB := Lib.hid (HA.out.below hB0)
      have HNB := Lib.hid hnb
      clear hm hR1 hR2 hR3 hB0 hr16 hr18 hnb c16 c17 c18 es
      by_cases hs : 19 ≤ (x.toNat : Int) * 256 + (y.toNat : Int) ∧ (x.toNat : Int) * 256 + (y.toNat : Int) ≤ 4096
      · have HM2 := Lib.hid (HM.out.trans (if_pos hs))
        have d1 : decide ((x.toNat : Int) * 256 + (y.toNat : Int) < 19) = false := decide_eq_false (by omega)
        have d2 : decide (4096 < (x.toNat : Int) * 256 + (y.toNat : Int)) = false := decide_eq_false (by omega)
        have hs1 := hs.1
        have HS2 := Lib.hid hs.2
        obtain ⟨L, hL⟩ : ∃ L, leastZ (z.toNat : Int) = L := ⟨_, rfl⟩
        have HL0 := Lib.hid hL
        clear hs HM
        cases hl0 : (L == 0)
        · have HM3 := Lib.hid (HM2.out.trans (if_neg (by rw [HL0.out, hl0]; decide)))
          have hfw := fitsB_wrong (z.toNat : Int) ((x.toNat : Int) * 256 + (y.toNat : Int)) (by rw [HL0.out]; exact hl0) HS2.out
          obtain ⟨Wr, hWr⟩ : ∃ Wr, wrongB (z.toNat : Int) ((x.toNat : Int) * 256 + (y.toNat : Int)) = Wr := ⟨_, rfl⟩
          rw [hWr] at hfw
          have HFW := Lib.hid hfw
          have HWR := Lib.hid hWr
          clear hfw hWr HM2
          cases Wr
          · have HM4 := Lib.hid (HM3.out.trans (if_neg (by rw [HWR.out]; decide)))
            clear HM3
            by_cases hns : n < x.toNat * 256 + y.toNat
            · have HM5 := Lib.hid (HM4.out.trans (if_pos hns))
              have hd3 : decide ((n : Int) < (x.toNat : Int) * 256 + (y.toNat : Int)) = true := decide_eq_true (by omega)
              clear HM4 hns
              go_wp2_with fail
              with_reducible refine (rleast_any _ _).mono ?_
              rw [HL0.out]
              rintro e w1 ⟨rfl, rfl⟩
              go_wp2_with fail
              with_reducible refine (rfits_any _ _ _).mono ?_
              rw [HFW.out]
              rintro e w1 ⟨rfl, rfl⟩
              go_wp2
              refine bodyPost_ret (results_ctc rfl _ _ w.heap.size (w.heap.size + 1) _ _ _ _ _ _ _ _ _ rfl rfl rfl (s5_rows HR1.out HR2.out _ _ _ _ _).1 (s5_rows HR1.out HR2.out _ _ _ _ _).2 Try.underlying35 rfl msgSize Try.underlying37 rfl noteSize) rfl ⟨_, rfl, ?_, s5_below HB0.out _ _ _ _ _⟩
              rw [HM5.out]
              exact ⟨_, _, _, _, _, _, rfl, RdB.nil _, RdB.nil _⟩
            · have HM5 := Lib.hid (HM4.out.trans (if_neg hns))
              have hd3 : decide ((n : Int) < (x.toNat : Int) * 256 + (y.toNat : Int)) = false := decide_eq_false (by omega)
              have hsn : (x.toNat : Int) * 256 + (y.toNat : Int) ≤ n := by omega
              have hsc : (x.toNat : Int) * 256 + (y.toNat : Int) ≤ c := by omega
              have hbody := (HAB.out.cut (k := 19) (by omega)).take (k := x.toNat * 256 + y.toNat - 19) (c' := c - 19) (by omega) (by omega) (Nat.le_refl _)
              replace hbody : RdB W0 (if c = 19 then some ⟨b, o, none⟩ else (some ⟨b, o, none⟩ : Option Addr).map (·.add 19)) (x.toNat * 256 + y.toNat - 19) (c - 19) (R.take (x.toNat * 256 + y.toNat - 19)) := hbody
              clear HM4 hns
              by_cases hc19 : c = 19
              · rw [if_pos hc19, hc19] at hbody
                replace hbody : RdB W0 (some ⟨b, o, none⟩) (x.toNat * 256 + y.toNat - 19) 0 (R.take (x.toNat * 256 + y.toNat - 19)) := hbody
                have HBD := Lib.hid hbody
                clear hbody
                subst hc19
                go_wp2_with fail
                with_reducible refine (rleast_any _ _).mono ?_
                rw [HL0.out]
                rintro e w1 ⟨rfl, rfl⟩
                go_wp2_with fail
                with_reducible refine (rfits_any _ _ _).mono ?_
                rw [HFW.out]
                rintro e w1 ⟨rfl, rfl⟩
                go_wp2
                refine bodyPost_ret (results_ctc rfl _ _ w.heap.size (w.heap.size + 1) _ _ _ _ _ _ _ _ _ rfl rfl rfl (s5_rows HR1.out HR2.out _ _ _ _ _).1 (s5_rows HR1.out HR2.out _ _ _ _ _).2 Try.underlying35 rfl msgSize Try.underlying37 rfl noteSize) rfl ⟨_, rfl, ?_, s5_below HB0.out _ _ _ _ _⟩
                rw [HM5.out]
                have hq := HBD.out
                exact ⟨_, _, _, _, _, _, rfl, s5_keep hq (fun b' o' hA => by injection hA with hA; injection hA with hA; rw [← hA]; exact HNB.out) _ _ _ _ _, RdB.nil _⟩
              · rw [if_neg hc19] at hbody
                replace hbody : RdB W0 (some ⟨b, o + 19, none⟩) (x.toNat * 256 + y.toNat - 19) (c - 19) (R.take (x.toNat * 256 + y.toNat - 19)) := hbody
                have HBD := Lib.hid hbody
                clear hbody
                go_wp2_with fail
                with_reducible refine (rleast_any _ _).mono ?_
                rw [HL0.out]
                rintro e w1 ⟨rfl, rfl⟩
                go_wp2_with fail
                with_reducible refine (rfits_any _ _ _).mono ?_
                rw [HFW.out]
                rintro e w1 ⟨rfl, rfl⟩
                go_wp2
                refine bodyPost_ret (results_ctc rfl _ _ w.heap.size (w.heap.size + 1) _ _ _ _ _ _ _ _ _ rfl rfl rfl (s5_rows HR1.out HR2.out _ _ _ _ _).1 (s5_rows HR1.out HR2.out _ _ _ _ _).2 Try.underlying35 rfl msgSize Try.underlying37 rfl noteSize) rfl ⟨_, rfl, ?_, s5_below HB0.out _ _ _ _ _⟩
                rw [HM5.out]
                have hq := HBD.out
                exact ⟨_, _, _, _, _, _, rfl, s5_keep hq (fun b' o' hA => by injection hA with hA; injection hA with hA; rw [← hA]; exact HNB.out) _ _ _ _ _, RdB.nil _⟩
          · have HM4 := Lib.hid (HM3.out.trans (if_pos (by rw [HWR.out])))
            clear HM3
            go_wp2_with fail
            with_reducible refine (rleast_any _ _).mono ?_
            rw [HL0.out]
            rintro e w1 ⟨rfl, rfl⟩
            go_wp2_with fail
            with_reducible refine (rfits_any _ _ _).mono ?_
            rw [HFW.out]
            rintro e w1 ⟨rfl, rfl⟩
            go_wp2_with fail
            go_region
            go_wp2
            refine bodyPost_ret (results_ctc rfl _ _ w.heap.size (w.heap.size + 1) _ _ _ _ _ _ _ _ _ rfl rfl rfl (s5_rowsD HR1.out HR2.out _ _ _ _ _).1 (s5_rowsD HR1.out HR2.out _ _ _ _ _).2 Try.underlying35 rfl msgSize Try.underlying37 rfl noteSize) rfl ⟨_, rfl, ?_, (s5_below HB0.out _ _ _ _ _).drew⟩
            rw [HM4.out]
            exact ⟨_, _, _, _, _, _, rfl, RdB.nil _, rdB_drew (s5_keep H16.out (fun b' o' hA => by injection hA with hA; injection hA with hA; rw [← hA]; exact HNB.out) _ _ _ _ _)⟩
        · have HM3 := Lib.hid (HM2.out.trans (if_pos (by rw [HL0.out, hl0])))
          clear HM2
          go_wp2_with fail
          with_reducible refine (rleast_any _ _).mono ?_
          rw [HL0.out]
          rintro e w1 ⟨rfl, rfl⟩
          go_wp2_with fail
          have i18 : (18 : Int) ≤ c := by omega
          have i19 : (19 : Int) ≤ c := by omega
          have j18 : ¬ c = 18 := by omega
          go_region
          go_wp2
          refine bodyPost_ret (results_ctc rfl _ _ w.heap.size (w.heap.size + 1) _ _ _ _ _ _ _ _ _ rfl rfl rfl (s5_rowsD HR1.out HR2.out _ _ _ _ _).1 (s5_rowsD HR1.out HR2.out _ _ _ _ _).2 Try.underlying35 rfl msgSize Try.underlying37 rfl noteSize) rfl ⟨_, rfl, ?_, (s5_below HB0.out _ _ _ _ _).drew⟩
          rw [HM3.out]
          exact ⟨_, _, _, _, _, _, rfl, RdB.nil _, rdB_drew (s5_keep H18.out (fun b' o' hA => by injection hA with hA; injection hA with hA; rw [← hA]; exact HNB.out) _ _ _ _ _)⟩
      · have HM2 := Lib.hid (HM.out.trans (if_neg hs))
        have hd : decide ((x.toNat : Int) * 256 + (y.toNat : Int) < 19) = true ∨ (decide ((x.toNat : Int) * 256 + (y.toNat : Int) < 19) = false ∧ decide (4096 < (x.toNat : Int) * 256 + (y.toNat : Int)) = true) := by
          by_cases h19 : (x.toNat : Int) * 256 + (y.toNat : Int) < 19
          · exact .inl (decide_eq_true h19)
          · exact .inr ⟨decide_eq_false h19, decide_eq_true (by omega)⟩
        clear hs HM
        rcases hd with hd | ⟨hd, hd2⟩
        all_goals
          go_wp2_with fail
          go_region
          go_wp2
          refine bodyPost_ret (results_ctc rfl _ _ w.heap.size (w.heap.size + 1) _ _ _ _ _ _ _ _ _ rfl rfl rfl (s5_rowsD HR1.out HR2.out _ _ _ _ _).1 (s5_rowsD HR1.out HR2.out _ _ _ _ _).2 Try.underlying35 rfl msgSize Try.underlying37 rfl noteSize) rfl ⟨_, rfl, ?_, (s5_below HB0.out _ _ _ _ _).drew⟩
          rw [HM2.out]
          exact ⟨_, _, _, _, _, _, rfl, RdB.nil _, rdB_drew (s5_keep H16.out (fun b' o' hA => by injection hA with hA; injection hA with hA; rw [← hA]; exact HNB.out) _ _ _ _ _)⟩

theorem rget_any (A : Option Addr) (n c : Nat) (l : List UInt8) (w : World) (h : RdB w A n c l) (hn2 : n ≤ 100000000) : Calls Try.prog 17 #[.slice A n c] w (Ret (IsGot (getM l)) w) := by
  by_cases h1 : n < 19
  · refine (rget_short A n c w h1).mono ?_
    rintro e w' ⟨rfl, hb⟩
    refine ⟨_, rfl, ?_, hb⟩
    unfold getM
    rw [if_pos (by have := h.len; omega)]
    exact ⟨_, _, _, _, _, _, rfl, RdB.nil _, RdB.nil _⟩
  · exact rget_long A n c l w h (by omega) hn2
end Go.Proofs.Ytpoikmbogcggkaa
