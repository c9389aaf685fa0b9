/- The walk of the document's answer for layer 3: what is put. -/
import Derived.Test.YtpoikmbogcggkaaMsg13
import Derived.Deep.Cut
namespace Go.Proofs.Ytpoikmbogcggkaa
open Go.RowKit
set_option maxHeartbeats 400000
set_option maxRecDepth 100000
set_option linter.unusedVariables false
set_option linter.unusedSimpArgs false

theorem lies3_new (w : World) (a b c : Value) (e : TypeId) : Lies (w.alloc (.cells #[a, b, c] e)) (some ⟨w.heap.size, 0, none⟩) [a, b, c] := by
  refine .inr ⟨_, _, rfl, fun j hj => ?_⟩
  rw [cell_of_row _ _ _ _ _ _ (heap_alloc_new w _)]
  match j, hj with
  | 0, _ => rfl
  | 1, _ => rfl
  | 2, _ => rfl
theorem rput_any (A : Option Addr) (n c : Nat) (l : List UInt8) (t : Int) (B : Option Addr) (m d : Nat) (body : List UInt8) (w : World) (h : RdB w A n c l) (hB : RdB w B m d body) (hn : n ≤ 100000000) (hm : m ≤ 100000000) :
    Calls Try.prog 25 #[.slice A n c, .agg #[.int .i64 t, .slice B m d]] w (Ret (IsB (mputL l t body)) w) := by
  obtain ⟨S, hS⟩ : ∃ S, saneB t m = S := ⟨_, rfl⟩
  have HS := Lib.hid hS
  have HA := Lib.hid h
  have HK := Lib.hid hB
  have HL := Lib.hid h.len
  have HML := Lib.hid hB.len
  have HNM := Lib.hid (show n ≤ 100000000 ∧ m ≤ 100000000 from ⟨hn, hm⟩)
  obtain ⟨i0, hi, hz0, hz1, hz2⟩ := info_row infoB
  have HI := Lib.hid hi
  have H0 := Lib.hid hz0
  have H1 := Lib.hid hz1
  have H2 := Lib.hid hz2
  have hoe := own_empty (w.alloc (.cells #[.int .i64 t, .slice B m d] 35)) 5 1 (Nat.le_refl _)
  rw [show (w.alloc (.cells #[.int .i64 t, .slice B m d] 35)).heap.size = w.heap.size + 1 by simp] at hoe
  have HOE := Lib.hid hoe
  clear hoe
  have HLI := Lib.hid ((h.below (balloc (bnew w (.cells #[.int .i64 t, .slice B m d] 35)) (.cells #[] 5))).lies)
  have HGR := Lib.hid (heap_alloc2_old w (.cells #[.int .i64 t, .slice B m d] 35) (.cells #[] 5))
  have HSZ := Lib.hid (show w.heap.size ≤ (w.heap.size + 1) by simp)
  have HSZ2 := Lib.hid (show (w.heap.size + 1) ≤ ((w.alloc (.cells #[.int .i64 t, .slice B m d] 35)).alloc (.cells #[] 5)).heap.size by simp)
  have HBB := Lib.hid (balloc (bnew w (.cells #[.int .i64 t, .slice B m d] 35)) (.cells #[] 5))
  have HRW := Lib.hid (show w.heap.size < (w.heap.size + 1) by simp)
  clear hi hz0 hz1 hz2 h hB hS hn hm
  go_enter Try.func25, Try.ntmps25
  go_upto_region 2 with (
    at_builtin
    refine wpList_append_gr _ rfl _ _ 22 rfl (w.heap.size + 1) 5 i0 (.int .u8 0) 1 1 Try.underlying22 HI.out H0.out H1.out H2.out rfl (by decide) _ 0 [] rfl (.inl HOE.out) A n c (l.map bv) rfl (by simp [HL.out]) HLI.out ?_ (oneCell_bv _) (by have := HNM.out.1; unfold maxLen; omega) (by have := HNM.out.1; omega) HSZ2.out
    intro A1 c1 w1 hG
    have hG1 := hG.own (.inr HOE.out)
    have hG2 := hG.below
    simp only [Nat.zero_add, List.nil_append] at hG1 hG2
    have HO := Lib.hid hG1
    have HB1 := Lib.hid (HBB.out.trans (hG2.mono HSZ.out))
    have HG1 := Lib.hid ((hG2.block w.heap.size HRW.out).trans HGR.out)
    have HZ1 := Lib.hid (Nat.le_trans HSZ2.out hG2.size)
    obtain ⟨q0, q1⟩ := row2 HG1.out
    clear hG hG1 hG2)
  go_wp2_with fail
  with_reducible refine (rsane_any _ _ _ _ _ (by have := HNM.out.2; omega)).mono ?_
  rw [HS.out]
  rintro e w2 ⟨rfl, hb2⟩
  have HO2 := Lib.hid (own_below HO.out hb2)
  have HB2 := Lib.hid (bstep HB1.out hb2)
  have HG2 := Lib.hid (row_to hb2 HG1.out)
  have HZ2 := Lib.hid (Nat.le_trans HZ1.out hb2.size)
  clear hb2 q0 q1
  cases S
  · go_wp2
    go_ret
    refine ⟨_, rfl, ⟨_, _, _, rfl, ?_⟩, HB2.out⟩
    unfold mputL
    rw [HML.out, HS.out, if_neg (by decide)]
    exact rdB_of_own HO2.out
  · have hsn := okS_of_sane HS.out
    have hkind := leastZ_kind hsn.1
    have hm4 : (m : Int) ≤ 4077 := by have := hsn.2.2; omega
    have HKD := Lib.hid hkind
    clear hsn hkind
    go_upto_region 4 with fail
    go_wp2
    go_loopw [5, 6] (fun s i wr => ∃ j : Nat, j ≤ 16 ∧ i = .int .i64 j ∧ (∃ A' c', s = .slice A' (n + j) c') ∧ wr.ownsRow (w.heap.size + 1) 5 1 s (n + j) ((l ++ List.replicate j 255).map bv) ∧ Below w.heap.size w wr ∧ wr.heap[w.heap.size]? = some (.cells #[.int .i64 t, .slice B m d] 35 (0, 0)) ∧ (w.heap.size + 1) ≤ wr.heap.size) (fun _ i _ => 16 - (intOf i).toNat)
    case atStart => exact ⟨0, Nat.zero_le _, rfl, ⟨_, _, rfl⟩, by simpa using HO2.out, HB2.out, HG2.out, HZ2.out⟩
    case round =>
      obtain ⟨j, hj, rfl, ⟨A3, c3, rfl⟩, hown, hbr, hgr, hzr⟩ := hrel
      have HOR := Lib.hid hown
      have HBR := Lib.hid hbr
      have HGR2 := Lib.hid hgr
      have HZR := Lib.hid hzr
      clear hown hbr hgr hzr
      by_cases hlt : j < 16
      · have hlt' : (j : Int) < 16 := by omega
        have HOA := Lib.hid (HOR.out.alloc (.cells #[.int .u8 255] 5))
        have HLN := Lib.hid (lies_new wr (.int .u8 255) 5)
        have HZN := Lib.hid (show (w.heap.size + 1) ≤ (wr.alloc (.cells #[.int .u8 255] 5)).heap.size from Nat.le_trans HZR.out (bnew wr _).size)
        have HON := Lib.hid (show ∀ u ∈ [Value.int .u8 255], u.oneCell' = true by intro u hu; rw [List.mem_singleton.1 hu]; rfl)
        go_wp2_with (
          at_builtin
          refine wpList_append_gr _ rfl _ _ 22 rfl (w.heap.size + 1) 5 i0 (.int .u8 0) 1 1 Try.underlying22 HI.out H0.out H1.out H2.out rfl (by decide) _ (n + j) _ rfl (.inl HOA.out) _ 1 1 [.int .u8 255] rfl rfl HLN.out ?_ HON.out (by have := HNM.out.1; unfold maxLen; omega) (by have := HNM.out.1; omega) HZN.out
          intro A4 c4 w4 hG
          have hG1 := hG.own (.inr HOA.out)
          have hG2 := hG.below
          have e1 : (l ++ List.replicate j 255).map bv ++ [.int .u8 255] = (l ++ List.replicate (j + 1) 255).map bv := by
            rw [List.replicate_succ', ← List.append_assoc, List.map_append (l₁ := l ++ List.replicate j 255)]
            rfl
          rw [e1] at hG1
          have HX1 := Lib.hid hG1
          have HX2 := Lib.hid ((balloc HBR.out _).trans (hG2.mono HSZ.out))
          have HX3 := Lib.hid ((hG2.block w.heap.size HRW.out).trans ((Below.heap_alloc wr (.cells #[.int .u8 255] 5) _ (row_lt HGR2.out)).trans HGR2.out))
          have HX4 := Lib.hid (Nat.le_trans HZN.out hG2.size)
          clear hG hG1 hG2 e1)
        go_roundw
        case rel => exact ⟨j + 1, by omega, by go_num, ⟨_, _, rfl⟩, HX1.out, HX2.out, HX3.out, HX4.out⟩
        case measure => simp [intOf]; omega
      · obtain rfl : j = 16 := by omega
        have z3 := row_lt HGR2.out
        obtain ⟨q0, q1⟩ := row2 HGR2.out
        have z4 : w.heap.size < (wr.alloc (.cells #[.int .u8 (((m : Int) + 19) / 256), .int .u8 (((m : Int) + 19) % 256), .int .u8 (t % 256)] 5)).heap.size := Nat.lt_of_lt_of_le z3 (bnew wr _).size
        have HOA := Lib.hid (HOR.out.alloc (.cells #[.int .u8 (((m : Int) + 19) / 256), .int .u8 (((m : Int) + 19) % 256), .int .u8 (t % 256)] 5))
        have HLN := Lib.hid (lies3_new wr (.int .u8 (((m : Int) + 19) / 256)) (.int .u8 (((m : Int) + 19) % 256)) (.int .u8 (t % 256)) 5)
        have HZN := Lib.hid (show w.heap.size + 1 ≤ (wr.alloc (.cells #[.int .u8 (((m : Int) + 19) / 256), .int .u8 (((m : Int) + 19) % 256), .int .u8 (t % 256)] 5)).heap.size from Nat.le_trans HZR.out (bnew wr _).size)
        have HON := Lib.hid (show ∀ u ∈ [Value.int .u8 (((m : Int) + 19) / 256), .int .u8 (((m : Int) + 19) % 256), .int .u8 (t % 256)], u.oneCell' = true by
          intro u hu
          simp only [List.mem_cons, List.not_mem_nil, or_false] at hu
          rcases hu with rfl | rfl | rfl <;> rfl)
        have e3 : [Value.int .u8 (((m : Int) + 19) / 256), .int .u8 (((m : Int) + 19) % 256), .int .u8 (t % 256)] = [octAt ((19 + m : Nat) : Int) 1, octAt ((19 + m : Nat) : Int) 0, octAt t 0].map bv := by
          simp only [List.map_cons, List.map_nil, bv_octAt]
          have e1 : ((19 + m : Nat) : Int) / 2 ^ (8 * 1) % 256 = ((m : Int) + 19) / 256 := by simp; omega
          have e2 : ((19 + m : Nat) : Int) / 2 ^ (8 * 0) % 256 = ((m : Int) + 19) % 256 := by simp; omega
          have e4 : t / 2 ^ (8 * 0) % 256 = t % 256 := by simp
          rw [e1, e2, e4]
        have HE3 := Lib.hid e3
        clear e3
        go_upto_region 10 with (
          at_builtin
          refine wpList_append_gr _ rfl _ _ 22 rfl (w.heap.size + 1) 5 i0 (.int .u8 0) 1 1 Try.underlying22 HI.out H0.out H1.out H2.out rfl (by decide) _ (n + 16) _ rfl (.inl HOA.out) _ 3 3 [.int .u8 (((m : Int) + 19) / 256), .int .u8 (((m : Int) + 19) % 256), .int .u8 (t % 256)] rfl rfl HLN.out ?_ HON.out (by have := HNM.out.1; unfold maxLen; omega) (by have := HNM.out.1; omega) HZN.out
          intro A4 c4 w4 hG
          have hG1 := hG.own (.inr HOA.out)
          have hG2 := hG.below
          rw [HE3.out, ← List.map_append] at hG1
          have HO4 := Lib.hid hG1
          have HX2 := Lib.hid ((balloc HBR.out _).trans (hG2.mono HSZ.out))
          have HX3 := Lib.hid ((hG2.block w.heap.size HRW.out).trans ((Below.heap_alloc wr (.cells #[.int .u8 (((m : Int) + 19) / 256), .int .u8 (((m : Int) + 19) % 256), .int .u8 (t % 256)] 5) _ (row_lt HGR2.out)).trans HGR2.out))
          have HX4 := Lib.hid (Nat.le_trans HZN.out hG2.size)
          clear hG hG1 hG2 q0 q1 z3 z4
          have z3 := row_lt HX3.out
          obtain ⟨q0, q1⟩ := row2 HX3.out)
        have HKL := Lib.hid (HK.out.below HX2.out).lies
        go_wp2_with (
          at_builtin
          refine wpList_append_gr _ rfl _ _ 22 rfl (w.heap.size + 1) 5 i0 (.int .u8 0) 1 1 Try.underlying22 HI.out H0.out H1.out H2.out rfl (by decide) _ (n + 16 + 3) _ rfl (.inl HO4.out) B m d (body.map bv) rfl (by simp [HML.out]) HKL.out ?_ (oneCell_bv _) (by have := HNM.out; unfold maxLen; omega) (by have := HNM.out; omega) HX4.out
          intro A5 c5 w5 hG
          have hG1 := hG.own (.inr HO4.out)
          have hG2 := hG.below
          rw [← List.map_append] at hG1
          have HO5 := Lib.hid hG1
          have HX5 := Lib.hid (HX2.out.trans (hG2.mono HSZ.out))
          clear hG hG1 hG2)
        go_ret
        refine ⟨_, rfl, ⟨_, _, _, rfl, ?_⟩, HX5.out⟩
        have hr5 := rdB_of_own HO5.out
        unfold mputL
        rw [HML.out, HS.out, if_pos rfl, msgL_form, HML.out]
        simp only [List.append_assoc, List.cons_append, List.nil_append] at hr5 ⊢
        exact hr5
end Go.Proofs.Ytpoikmbogcggkaa
