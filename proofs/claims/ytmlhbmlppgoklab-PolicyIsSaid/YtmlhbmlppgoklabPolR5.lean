/- The walk of the reference's Reach. -/
import Derived.Test.YtmlhbmlppgoklabPolR3
namespace Go.Proofs.Ytmlhbmlppgoklab
open Go.RowKit
set_option maxHeartbeats 4000000
set_option linter.unusedVariables false
set_option linter.unusedSimpArgs false

theorem rreach_any (B : Option Addr) (m d : Nat) (l : List Rul) (cl : Int) (w : World) (hl : RdR w B m d l) (hm : m ≤ 1000) :
    Calls Try.prog 19 #[.slice B m d, .int .i64 cl] w (Ret (IsRs (reachL cl l)) w) := by
  have hlen := hl.len
  have hmx := hl.max
  have hle := hl.le
  unfold maxLen at hmx
  have HL := Lib.hid hl
  obtain ⟨i0, hi, hz0, hz1, hz2⟩ := info_row infoR
  have HI := Lib.hid hi
  have H0 := Lib.hid hz0
  have H1 := Lib.hid hz1
  have H2 := Lib.hid hz2
  clear hl hi hz0 hz1 hz2
  go_enter Try.func19, Try.ntmps19
  go_wp2
  go_loopw [5, 6] (fun s i wr => ∃ j : Nat, j ≤ m ∧ i = .int .i64 j ∧ (∃ (A1 : Option Addr) (k c1 : Nat) (acc : List Rul), s = .slice A1 k c1 ∧ k ≤ j ∧ wr.ownsRow w.heap.size 31 6 s k (rulesV acc) ∧ reachL cl l = acc ++ reachL cl (l.drop j)) ∧ Below w.heap.size w wr) (fun _ i _ => m - (intOf i).toNat)
  case atStart => exact ⟨0, by omega, rfl, ⟨none, 0, 0, [], rfl, Nat.le_refl _, ⟨rfl, .inl ⟨rfl, rfl⟩⟩, by simp⟩, Below.refl _ _⟩
  case round =>
    obtain ⟨j, hj, rfl, ⟨A1, k, c1, acc, rfl, hkj, hgr, heq⟩, hbr⟩ := hrel
    have HE := Lib.hid heq
    have HBR := Lib.hid hbr
    have HGR := Lib.hid hgr
    have hsz := hbr.size
    clear heq hbr hgr
    by_cases hlt : j < m
    · have hjl : j < l.length := by omega
      obtain ⟨b, o, rfl, hbl, c0, c1', c2, c3, c4, c5⟩ := HL.out.at_ hjl
      have HD := Lib.hid (drop_cons hjl)
      obtain ⟨r, hr⟩ : ∃ r, l[j] = r := ⟨_, rfl⟩
      rw [hr] at c0 c1' c2 c3 c4 c5 HD
      have hlt' : (j : Int) < m := by omega
      clear hr
      obtain ⟨a, ha⟩ : ∃ e, (r.1 != 4) = e := ⟨_, rfl⟩
      obtain ⟨e2, he2⟩ : ∃ e, (r.2.2.2.1 == cl) = e := ⟨_, rfl⟩
      obtain ⟨T, hT⟩ : ∃ T, totalB r cl = T := ⟨_, rfl⟩
      have HT := Lib.hid hT
      have hskip : (r.1 == 4 && r.2.2.2.1 != cl) = (!a && !e2) := by rw [← ha, ← he2]; simp [bne]
      have hstep : reachL cl (r :: l.drop (j + 1)) = if (!a && !e2) = true then reachL cl (l.drop (j + 1)) else if T = true then [r] else r :: reachL cl (l.drop (j + 1)) := by
        conv => lhs; unfold reachL
        rw [hskip, hT]
      have HS := Lib.hid hstep
      have hT0 : a = false → e2 = false → T = false := by
        rintro rfl rfl
        rw [← hT]
        unfold totalB
        have h4 : r.1 = 4 := by simpa [bne] using ha
        have h5 : (r.2.2.2.1 == cl) = false := he2
        rw [h5, Bool.and_false, Bool.or_false]
        exact beq_eq_false_iff_ne.2 (by omega)
      clear hT hstep hskip
      have hln := lies_newR wr r 31
      have HLN := Lib.hid hln
      clear hln
      have q0 := ((HBR.out).cell (p := ⟨b, o + j * 6, none⟩) hbl).trans c0
      have q1 := ((HBR.out).cell (p := ⟨b, o + j * 6 + 1, none⟩) hbl).trans c1'
      have q2 := ((HBR.out).cell (p := ⟨b, o + j * 6 + 2, none⟩) hbl).trans c2
      have q3 := ((HBR.out).cell (p := ⟨b, o + j * 6 + 3, none⟩) hbl).trans c3
      have q4 := ((HBR.out).cell (p := ⟨b, o + j * 6 + 4, none⟩) hbl).trans c4
      have q5 := ((HBR.out).cell (p := ⟨b, o + j * 6 + 5, none⟩) hbl).trans c5
      have hblr : b < wr.heap.size := Nat.lt_of_lt_of_le hbl hsz
      cases a <;> cases e2
      · obtain rfl : T = false := hT0 rfl rfl
        clear hT0
        go_wp2_with fail
        have htot := rtotal_any r cl wr
        rw [HT.out] at htot
        with_reducible refine htot.mono ?_
        clear htot
        rintro e w2 ⟨_, rfl, rfl, hb2⟩
        have HB2 := Lib.hid (bstep HBR.out hb2)
        have HO := Lib.hid (own_below HGR.out hb2)
        clear hb2 q0 q1 q2 q3 q4 q5
        go_wp2
        go_roundw
        case rel => exact ⟨j + 1, by omega, by go_num, ⟨_, _, _, acc, rfl, by omega, HO.out, by rw [HE.out, HD.out, HS.out]; rfl⟩, HB2.out⟩
        case measure => simp [intOf]; omega
      · clear hT0
        go_wp2_with (at_builtin; (refine wpList_append_gr _ rfl _ _ 22 rfl w.heap.size 31 i0 (.agg #[.int .i64 0, .int .i64 0, .int .i64 0, .int .i64 0, .int .i64 0, .int .i64 0]) 6 48 Try.underlying22 HI.out H0.out H1.out H2.out rfl (by decide) _ k (rulesV acc) rfl (.inl (HGR.out.alloc _)) _ 1 1 (ruleV r) rfl rfl HLN.out ?_ (oneCell_rule r) (by unfold maxLen; omega) (by omega) (by simp; omega); intro A' c' w' hG; have HBW := Lib.hid (show Below w.heap.size w w' from (balloc HBR.out _).trans hG.below); have u0 := ((HBW.out).cell (p := ⟨b, o + j * 6, none⟩) hbl).trans c0; have u1 := ((HBW.out).cell (p := ⟨b, o + j * 6 + 1, none⟩) hbl).trans c1'; have u2 := ((HBW.out).cell (p := ⟨b, o + j * 6 + 2, none⟩) hbl).trans c2; have u3 := ((HBW.out).cell (p := ⟨b, o + j * 6 + 3, none⟩) hbl).trans c3; have u4 := ((HBW.out).cell (p := ⟨b, o + j * 6 + 4, none⟩) hbl).trans c4; have u5 := ((HBW.out).cell (p := ⟨b, o + j * 6 + 5, none⟩) hbl).trans c5; have HG := Lib.hid hG; clear hG))
        have htot := rtotal_any r cl w'
        rw [HT.out] at htot
        with_reducible refine htot.mono ?_
        clear htot
        rintro e w2 ⟨_, rfl, rfl, hb2⟩
        have HB2 := Lib.hid (bstep HBW.out hb2)
        have hown := HG.out.own (.inl (by omega))
        rw [rulesV_snoc] at hown
        have HO := Lib.hid (own_below hown hb2)
        clear hb2 hown q0 q1 q2 q3 q4 q5 u0 u1 u2 u3 u4 u5
        cases T
        · go_wp2
          go_roundw
          case rel => exact ⟨j + 1, by omega, by go_num, ⟨_, _, _, acc ++ [r], rfl, by omega, HO.out, by rw [HE.out, HD.out, HS.out]; simp⟩, HB2.out⟩
          case measure => simp [intOf]; omega
        · go_wp2
          go_ret
          refine ⟨_, rfl, ⟨_, _, _, rfl, ?_⟩, HB2.out⟩
          rw [HE.out, HD.out, HS.out]
          exact rdR_of_gr (.inl HO.out)
      · clear hT0
        go_wp2_with (at_builtin; (refine wpList_append_gr _ rfl _ _ 22 rfl w.heap.size 31 i0 (.agg #[.int .i64 0, .int .i64 0, .int .i64 0, .int .i64 0, .int .i64 0, .int .i64 0]) 6 48 Try.underlying22 HI.out H0.out H1.out H2.out rfl (by decide) _ k (rulesV acc) rfl (.inl (HGR.out.alloc _)) _ 1 1 (ruleV r) rfl rfl HLN.out ?_ (oneCell_rule r) (by unfold maxLen; omega) (by omega) (by simp; omega); intro A' c' w' hG; have HBW := Lib.hid (show Below w.heap.size w w' from (balloc HBR.out _).trans hG.below); have u0 := ((HBW.out).cell (p := ⟨b, o + j * 6, none⟩) hbl).trans c0; have u1 := ((HBW.out).cell (p := ⟨b, o + j * 6 + 1, none⟩) hbl).trans c1'; have u2 := ((HBW.out).cell (p := ⟨b, o + j * 6 + 2, none⟩) hbl).trans c2; have u3 := ((HBW.out).cell (p := ⟨b, o + j * 6 + 3, none⟩) hbl).trans c3; have u4 := ((HBW.out).cell (p := ⟨b, o + j * 6 + 4, none⟩) hbl).trans c4; have u5 := ((HBW.out).cell (p := ⟨b, o + j * 6 + 5, none⟩) hbl).trans c5; have HG := Lib.hid hG; clear hG))
        have htot := rtotal_any r cl w'
        rw [HT.out] at htot
        with_reducible refine htot.mono ?_
        clear htot
        rintro e w2 ⟨_, rfl, rfl, hb2⟩
        have HB2 := Lib.hid (bstep HBW.out hb2)
        have hown := HG.out.own (.inl (by omega))
        rw [rulesV_snoc] at hown
        have HO := Lib.hid (own_below hown hb2)
        clear hb2 hown q0 q1 q2 q3 q4 q5 u0 u1 u2 u3 u4 u5
        cases T
        · go_wp2
          go_roundw
          case rel => exact ⟨j + 1, by omega, by go_num, ⟨_, _, _, acc ++ [r], rfl, by omega, HO.out, by rw [HE.out, HD.out, HS.out]; simp⟩, HB2.out⟩
          case measure => simp [intOf]; omega
        · go_wp2
          go_ret
          refine ⟨_, rfl, ⟨_, _, _, rfl, ?_⟩, HB2.out⟩
          rw [HE.out, HD.out, HS.out]
          exact rdR_of_gr (.inl HO.out)
      · clear hT0
        go_wp2_with (at_builtin; (refine wpList_append_gr _ rfl _ _ 22 rfl w.heap.size 31 i0 (.agg #[.int .i64 0, .int .i64 0, .int .i64 0, .int .i64 0, .int .i64 0, .int .i64 0]) 6 48 Try.underlying22 HI.out H0.out H1.out H2.out rfl (by decide) _ k (rulesV acc) rfl (.inl (HGR.out.alloc _)) _ 1 1 (ruleV r) rfl rfl HLN.out ?_ (oneCell_rule r) (by unfold maxLen; omega) (by omega) (by simp; omega); intro A' c' w' hG; have HBW := Lib.hid (show Below w.heap.size w w' from (balloc HBR.out _).trans hG.below); have u0 := ((HBW.out).cell (p := ⟨b, o + j * 6, none⟩) hbl).trans c0; have u1 := ((HBW.out).cell (p := ⟨b, o + j * 6 + 1, none⟩) hbl).trans c1'; have u2 := ((HBW.out).cell (p := ⟨b, o + j * 6 + 2, none⟩) hbl).trans c2; have u3 := ((HBW.out).cell (p := ⟨b, o + j * 6 + 3, none⟩) hbl).trans c3; have u4 := ((HBW.out).cell (p := ⟨b, o + j * 6 + 4, none⟩) hbl).trans c4; have u5 := ((HBW.out).cell (p := ⟨b, o + j * 6 + 5, none⟩) hbl).trans c5; have HG := Lib.hid hG; clear hG))
        have htot := rtotal_any r cl w'
        rw [HT.out] at htot
        with_reducible refine htot.mono ?_
        clear htot
        rintro e w2 ⟨_, rfl, rfl, hb2⟩
        have HB2 := Lib.hid (bstep HBW.out hb2)
        have hown := HG.out.own (.inl (by omega))
        rw [rulesV_snoc] at hown
        have HO := Lib.hid (own_below hown hb2)
        clear hb2 hown q0 q1 q2 q3 q4 q5 u0 u1 u2 u3 u4 u5
        cases T
        · go_wp2
          go_roundw
          case rel => exact ⟨j + 1, by omega, by go_num, ⟨_, _, _, acc ++ [r], rfl, by omega, HO.out, by rw [HE.out, HD.out, HS.out]; simp⟩, HB2.out⟩
          case measure => simp [intOf]; omega
        · go_wp2
          go_ret
          refine ⟨_, rfl, ⟨_, _, _, rfl, ?_⟩, HB2.out⟩
          rw [HE.out, HD.out, HS.out]
          exact rdR_of_gr (.inl HO.out)
    · obtain rfl : j = m := by omega
      go_wp2
      go_ret
      refine ⟨_, rfl, ⟨_, _, _, rfl, ?_⟩, HBR.out⟩
      have e := HE.out
      rw [List.drop_of_length_le (by omega)] at e
      simp only [reachL, List.append_nil] at e
      rw [e]
      exact rdR_of_gr (.inl HGR.out)
end Go.Proofs.Ytmlhbmlppgoklab
