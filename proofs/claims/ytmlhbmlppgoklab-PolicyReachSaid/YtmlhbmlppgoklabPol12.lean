/- The walk of PolicyReach: whatever is picked can be come to. -/
import Derived.Test.YtmlhbmlppgoklabPol11
namespace Go.Proofs.Ytmlhbmlppgoklab
open Go.RowKit
set_option maxHeartbeats 4000000
set_option maxRecDepth 100000
set_option linter.unusedVariables false
set_option linter.unusedSimpArgs false

theorem sub_step_yes {a : Rul} {t u : List Rul} (h : (a :: u).Sublist (a :: t)) : u.Sublist t := h.of_cons_cons
theorem sub_step_no {a b : Rul} {t u : List Rul} (hab : a ≠ b) (h : (b :: u).Sublist (a :: t)) : (b :: u).Sublist t := by
  cases h with
  | cons _ h => exact h
  | cons_cons _ h => exact absurd rfl hab

theorem policyReach_any (w : World) (B : Option Addr) (m d : Nat) (l : List Rul) (hl : RdR w B m d l) (v : Vw) (A : Option Addr) (n c : Nat) (h : RdI w A n c v.as) :
    Calls Try.prog 5 #[.slice B m d, .agg #[.int .i64 v.a, .int .i64 v.n, .slice A n c, .int .i64 v.cl]] w fun e w' => e = .returned (.bool true) ∧ Below w.heap.size w w' := by
  obtain ⟨va, vn, us, vc⟩ := v
  simp only at h ⊢
  have HR := Lib.hid h
  have HL := Lib.hid hl
  have hml := hl.len
  have hcap := hl.le
  clear h hl
  have HML := Lib.hid hml
  clear hml
  by_cases hbig : 31 ≤ m
  · have i1 : decide ((30 : Int) < m) = true := decide_eq_true (by omega)
    clear hbig
    go_enter Try.func5, Try.ntmps5
    go_wp2_with fail
    with_reducible refine (awake_any _).mono ?_
    rintro e w1 ⟨_, rfl, rfl, hb1⟩
    go_wp2
    go_ret
    exact ⟨rfl, bstep (bnew w _) hb1⟩
  · by_cases hbig2 : 101 ≤ n
    · have i1 : decide ((30 : Int) < m) = false := decide_eq_false (by omega)
      have i2 : decide ((100 : Int) < n) = true := decide_eq_true (by omega)
      clear hbig hbig2
      go_enter Try.func5, Try.ntmps5
      go_wp2_with fail
      with_reducible refine (awake_any _).mono ?_
      rintro e w1 ⟨_, rfl, rfl, hb1⟩
      have hg2 := (hb1.block w.heap.size (by simp)).trans (heap_alloc_new w _)
      obtain ⟨q0, q1, q2, q3⟩ := row4 hg2
      clear hg2
      go_wp2
      go_ret
      exact ⟨rfl, bstep (bnew w _) hb1⟩
    · have i1 : decide ((30 : Int) < m) = false := decide_eq_false (by omega)
      have i2 : decide ((100 : Int) < n) = false := decide_eq_false (by omega)
      have hm30 : m ≤ 30 := by omega
      clear hbig hbig2
      obtain ⟨pr, pb, hp⟩ : ∃ pr pb, pickL l ⟨va, vn, us, vc⟩ = (pr, pb) := ⟨_, _, rfl⟩
      have HP := Lib.hid hp
      obtain ⟨M, hM⟩ : ∃ M, reachL vc l = M := ⟨_, rfl⟩
      have HPM := Lib.hid (show pickL M ⟨va, vn, us, vc⟩ = (pr, pb) by rw [← hM, ← hp]; exact pick_reach ⟨va, vn, us, vc⟩ l)
      have HSUB := Lib.hid (show M.Sublist l by rw [← hM]; exact reachL_sub vc l)
      have HM := Lib.hid hM
      clear hp hM
      go_enter Try.func5, Try.ntmps5
      go_wp2_with fail
      with_reducible refine (awake_any _).mono ?_
      rintro e w1 ⟨_, rfl, rfl, hb1⟩
      have hg2 := (hb1.block w.heap.size (by simp)).trans (heap_alloc_new w _)
      obtain ⟨q0, q1, q2, q3⟩ := row4 hg2
      have R1 := Lib.hid hg2
      have HB1 := Lib.hid (bstep (bnew w _) hb1)
      clear hg2 hb1
      go_wp2_with fail
      have hrc := reach_any B m d l vc w1 (HL.out.below HB1.out) (by omega)
      rw [HM.out] at hrc
      with_reducible refine hrc.mono ?_
      clear hrc q0 q1 q2 q3
      rintro e w2 ⟨_, rfl, ⟨A2, n2, c2, rfl, hr2⟩, hb2⟩
      have R2 := Lib.hid (row_to hb2 R1.out)
      have HB2 := Lib.hid (bstep HB1.out hb2)
      have HR2 := Lib.hid hr2
      have hn2 : M.length = n2 := hr2.len
      have hn2l : n2 ≤ m := by have := HSUB.out.length_le; have := HML.out; omega
      have hcap2 := hr2.le
      have HN2 := Lib.hid hn2
      clear hb2 hr2 hn2
      go_wp2_with fail
      go_loopw [7, 8] (fun kk i wr => ∃ j k : Nat, j ≤ m ∧ k ≤ n2 ∧ i = .int .i64 j ∧ kk = .int .i64 k ∧ (M.drop k).Sublist (l.drop j) ∧ Below w2.heap.size w2 wr) (fun _ i _ => m - (intOf i).toNat)
      case atStart => exact ⟨0, 0, by omega, by omega, rfl, rfl, by simpa using HSUB.out, Below.refl _ _⟩
      case round =>
        obtain ⟨j, k, hj, hk, rfl, rfl, hs, hbr⟩ := hrel
        have HS := Lib.hid hs
        have HBR := Lib.hid hbr
        clear hs hbr
        by_cases hlt : j < m ∧ k < n2
        · obtain ⟨hlt1, hlt2⟩ := hlt
          have hjl : j < l.length := by have := HML.out; omega
          have hkl : k < M.length := by have := HN2.out; omega
          have i3 : decide ((j : Int) < m) = true := decide_eq_true (by omega)
          have i4 : decide ((k : Int) < n2) = true := decide_eq_true (by omega)
          have i5 : (j : Int) < m := by omega
          have i6 : (k : Int) < n2 := by omega
          have HD1 := Lib.hid (drop_cons hjl)
          have HD2 := Lib.hid (drop_cons hkl)
          obtain ⟨b, o, rfl, hbl, c0, c1, c2', c3, c4, c5⟩ := (HL.out.below (bstep HB2.out HBR.out)).at_ hjl
          obtain ⟨b', o', rfl, hbl', e0, e1, e2, e3, e4, e5⟩ := (HR2.out.below HBR.out).at_ hkl
          obtain ⟨r, hr⟩ : ∃ r, l[j] = r := ⟨_, rfl⟩
          obtain ⟨s, hs⟩ : ∃ s, M[k] = s := ⟨_, rfl⟩
          rw [hr] at c0 c1 c2' c3 c4 c5 HD1
          rw [hs] at e0 e1 e2 e3 e4 e5 HD2
          clear hr hs
          obtain ⟨x0, hx0⟩ : ∃ x, (r.1 == s.1) = x := ⟨_, rfl⟩
          obtain ⟨x1, hx1⟩ : ∃ x, (r.2.1 == s.2.1) = x := ⟨_, rfl⟩
          obtain ⟨x2, hx2⟩ : ∃ x, (r.2.2.1 == s.2.2.1) = x := ⟨_, rfl⟩
          obtain ⟨x3, hx3⟩ : ∃ x, (r.2.2.2.1 == s.2.2.2.1) = x := ⟨_, rfl⟩
          obtain ⟨x4, hx4⟩ : ∃ x, (r.2.2.2.2.1 == s.2.2.2.2.1) = x := ⟨_, rfl⟩
          obtain ⟨x5, hx5⟩ : ∃ x, (r.2.2.2.2.2 == s.2.2.2.2.2) = x := ⟨_, rfl⟩
          have HEQ := Lib.hid (show (x0 && (x1 && (x2 && (x3 && (x4 && x5))))) = decide (r = s) by rw [← hx0, ← hx1, ← hx2, ← hx3, ← hx4, ← hx5]; exact rul_eq r s)
          have f0 : ∀ W, Below wr.heap.size wr W → W.cell? ⟨b, o + j * 6, none⟩ = some (.int .i64 r.1) := fun W hC => (hC.cell (p := ⟨b, o + j * 6, none⟩) hbl).trans c0
          have f1 : ∀ W, Below wr.heap.size wr W → W.cell? ⟨b, o + j * 6 + 1, none⟩ = some (.int .i64 r.2.1) := fun W hC => (hC.cell (p := ⟨b, o + j * 6 + 1, none⟩) hbl).trans c1
          have f2 : ∀ W, Below wr.heap.size wr W → W.cell? ⟨b, o + j * 6 + 2, none⟩ = some (.int .i64 r.2.2.1) := fun W hC => (hC.cell (p := ⟨b, o + j * 6 + 2, none⟩) hbl).trans c2'
          have f3 : ∀ W, Below wr.heap.size wr W → W.cell? ⟨b, o + j * 6 + 3, none⟩ = some (.int .i64 r.2.2.2.1) := fun W hC => (hC.cell (p := ⟨b, o + j * 6 + 3, none⟩) hbl).trans c3
          have f4 : ∀ W, Below wr.heap.size wr W → W.cell? ⟨b, o + j * 6 + 4, none⟩ = some (.int .i64 r.2.2.2.2.1) := fun W hC => (hC.cell (p := ⟨b, o + j * 6 + 4, none⟩) hbl).trans c4
          have f5 : ∀ W, Below wr.heap.size wr W → W.cell? ⟨b, o + j * 6 + 5, none⟩ = some (.int .i64 r.2.2.2.2.2) := fun W hC => (hC.cell (p := ⟨b, o + j * 6 + 5, none⟩) hbl).trans c5
          have g0 : ∀ W, Below wr.heap.size wr W → W.cell? ⟨b', o' + k * 6, none⟩ = some (.int .i64 s.1) := fun W hC => (hC.cell (p := ⟨b', o' + k * 6, none⟩) hbl').trans e0
          have g1 : ∀ W, Below wr.heap.size wr W → W.cell? ⟨b', o' + k * 6 + 1, none⟩ = some (.int .i64 s.2.1) := fun W hC => (hC.cell (p := ⟨b', o' + k * 6 + 1, none⟩) hbl').trans e1
          have g2 : ∀ W, Below wr.heap.size wr W → W.cell? ⟨b', o' + k * 6 + 2, none⟩ = some (.int .i64 s.2.2.1) := fun W hC => (hC.cell (p := ⟨b', o' + k * 6 + 2, none⟩) hbl').trans e2
          have g3 : ∀ W, Below wr.heap.size wr W → W.cell? ⟨b', o' + k * 6 + 3, none⟩ = some (.int .i64 s.2.2.2.1) := fun W hC => (hC.cell (p := ⟨b', o' + k * 6 + 3, none⟩) hbl').trans e3
          have g4 : ∀ W, Below wr.heap.size wr W → W.cell? ⟨b', o' + k * 6 + 4, none⟩ = some (.int .i64 s.2.2.2.2.1) := fun W hC => (hC.cell (p := ⟨b', o' + k * 6 + 4, none⟩) hbl').trans e4
          have g5 : ∀ W, Below wr.heap.size wr W → W.cell? ⟨b', o' + k * 6 + 5, none⟩ = some (.int .i64 s.2.2.2.2.2) := fun W hC => (hC.cell (p := ⟨b', o' + k * 6 + 5, none⟩) hbl').trans e5
          clear c0 c1 c2' c3 c4 c5 e0 e1 e2 e3 e4 e5
          go_wp2_with fail
          refine wp_region_rel (by kernel_rfl) (by decide +kernel) (by rfl) ?_
          repeat (first
            | (refine rel_skip ⟨_, _, _, _, rfl, rfl, rfl, ?_⟩ ?_
               focus (intro h; cases h; done))
            | refine rel_move _ (Just _) (.inl rfl) (by first | exact .inl rfl | exact .inr ⟨_, _, _, rfl, rfl, rfl⟩) rfl (lasts_just _) ?_
            | refine rel_move _ (Just _) (.inr rfl) (by first | exact .inl rfl | exact .inr ⟨_, _, _, rfl, rfl, rfl⟩) rfl (lasts_just _) ?_
            | refine rel_moveC _ (.inl rfl) (by first | exact .inl rfl | exact .inr ⟨_, _, _, rfl, rfl, rfl⟩) ?_
            | refine rel_moveC _ (.inr rfl) (by first | exact .inl rfl | exact .inr ⟨_, _, _, rfl, rfl, rfl⟩) ?_
            | refine rel_str _ _ rfl (by first | exact .inl rfl | exact .inr ⟨_, _, _, rfl, rfl, rfl⟩) rfl ?_
            | refine rel_lenB _ _ rfl (by first | exact .inl rfl | exact .inr ⟨_, _, _, rfl, rfl, rfl⟩) rfl ?_
            | refine rel_move _ (IsB _) (.inl rfl) (by first | exact .inl rfl | exact .inr ⟨_, _, _, rfl, rfl, rfl⟩) rfl (lasts_isB _) ?_
            | refine rel_move _ (IsB _) (.inr rfl) (by first | exact .inl rfl | exact .inr ⟨_, _, _, rfl, rfl, rfl⟩) rfl (lasts_isB _) ?_
            | (refine rel_exact ?_ (by first | exact .inl rfl | exact .inr ⟨_, _, _, rfl, rfl, rfl⟩) ?_ ?_
               rotate_left
               (intro ρ W hρ hC hk
                simp [known, looks, Op.operands, Call.operands, slotFact, Just, List.lookup] at hk
                obtain ⟨hρ1, hρ2, hρ3⟩ := hρ
                go_simp
                rfl)))
          refine rel_exact (.bool (x0 && (x1 && (x2 && (x3 && (x4 && x5)))))) (by first | exact .inl rfl | exact .inr ⟨_, _, _, rfl, rfl, rfl⟩) ?_ ?_
          · intro ρ W hρ hC hk
            simp [known, looks, Op.operands, Call.operands, slotFact, Just, List.lookup] at hk
            obtain ⟨hρ1, hρ2, hρ3⟩ := hρ
            go_simp
            cases x0 <;> cases x1 <;> cases x2 <;> cases x3 <;> cases x4 <;> cases x5 <;> rfl
          repeat (first
            | (refine rel_skip ⟨_, _, _, _, rfl, rfl, rfl, ?_⟩ ?_
               focus (intro h; cases h; done))
            | refine rel_move _ (Just _) (.inl rfl) (by first | exact .inl rfl | exact .inr ⟨_, _, _, rfl, rfl, rfl⟩) rfl (lasts_just _) ?_
            | refine rel_move _ (Just _) (.inr rfl) (by first | exact .inl rfl | exact .inr ⟨_, _, _, rfl, rfl, rfl⟩) rfl (lasts_just _) ?_
            | refine rel_moveC _ (.inl rfl) (by first | exact .inl rfl | exact .inr ⟨_, _, _, rfl, rfl, rfl⟩) ?_
            | refine rel_moveC _ (.inr rfl) (by first | exact .inl rfl | exact .inr ⟨_, _, _, rfl, rfl, rfl⟩) ?_
            | refine rel_str _ _ rfl (by first | exact .inl rfl | exact .inr ⟨_, _, _, rfl, rfl, rfl⟩) rfl ?_
            | refine rel_lenB _ _ rfl (by first | exact .inl rfl | exact .inr ⟨_, _, _, rfl, rfl, rfl⟩) rfl ?_
            | refine rel_move _ (IsB _) (.inl rfl) (by first | exact .inl rfl | exact .inr ⟨_, _, _, rfl, rfl, rfl⟩) rfl (lasts_isB _) ?_
            | refine rel_move _ (IsB _) (.inr rfl) (by first | exact .inl rfl | exact .inr ⟨_, _, _, rfl, rfl, rfl⟩) rfl (lasts_isB _) ?_
            | (refine rel_exact ?_ (by first | exact .inl rfl | exact .inr ⟨_, _, _, rfl, rfl, rfl⟩) ?_ ?_
               rotate_left
               (intro ρ W hρ hC hk
                simp [known, looks, Op.operands, Call.operands, slotFact, Just, List.lookup] at hk
                obtain ⟨hρ1, hρ2, hρ3⟩ := hρ
                go_simp
                rfl)))
          refine rel_nil ?_
          intro a W hC hd hsz ht
          refine fin_exit hsz hd ht (of_decide_eq_true (by kernel_rfl)) ?_
          repeat (first
            | refine fin_just ?_
            | (intro _ _))
          refine fin_nil ?_
          simp only [Act.put, Option.getD_some, List.setIfInBounds_toArray, List.set_cons_zero, List.set_cons_succ]
          clear hd hsz ht
          clear f0 f1 f2 f3 f4 f5 g0 g1 g2 g3 g4 g5 hx0 hx1 hx2 hx3 hx4 hx5
          rw [HEQ.out]
          obtain ⟨D, hD⟩ : ∃ D, decide (r = s) = D := ⟨_, rfl⟩
          rw [hD]
          have HD := Lib.hid hD
          clear hD HEQ
          have hsub : ((s :: M.drop (k + 1)).Sublist (r :: l.drop (j + 1))) := by rw [← HD1.out, ← HD2.out]; exact HS.out
          have HSU := Lib.hid hsub
          clear hsub
          cases D
          · go_wp2
            go_roundw
            case rel => exact ⟨j + 1, k, by omega, by omega, by go_num, rfl, by rw [HD2.out]; exact sub_step_no (of_decide_eq_false HD.out) HSU.out, bstep HBR.out hC⟩
            case measure => simp [intOf]; omega
          · have hrs : r = s := of_decide_eq_true HD.out
            subst hrs
            go_wp2
            go_roundw
            case rel => exact ⟨j + 1, k + 1, by omega, by omega, by go_num, by go_num, sub_step_yes HSU.out, bstep HBR.out hC⟩
            case measure => simp [intOf]; omega
        · have hk2 : k = n2 := by
            have h1 := HS.out.length_le
            have h2 := HML.out
            have h3 := HN2.out
            simp at h1
            omega
          subst hk2
          have hcase : (j = m) ∨ (j < m) := by omega
          have R3 := Lib.hid (row_to HBR.out R2.out)
          have HB3 := Lib.hid (bstep HB2.out HBR.out)
          have HRM := Lib.hid (HR2.out.below HBR.out)
          obtain ⟨q0, q1, q2, q3⟩ := row4 R3.out
          rcases hcase with e | e
          all_goals
            first
              | (have i3 : ¬ (j : Int) < m := by omega)
              | (have i3 : (j : Int) < m := by omega)
            have i4 : ¬ (k : Int) < k := by omega
            clear e hlt
            go_wp2_with fail
            have hpk := pick_any B m d l ⟨va, vn, us, vc⟩ A n c wr (HL.out.below HB3.out) (HR.out.below HB3.out)
            rw [HP.out] at hpk
            have hpk2 : Calls Try.prog 15 #[.slice B m d, .agg #[.int .i64 va, .int .i64 vn, .slice A n c, .int .i64 vc]] wr (Ret (Just (.tuple #[.agg #[.int .i64 pr.1, .int .i64 pr.2.1, .int .i64 pr.2.2.1, .int .i64 pr.2.2.2.1, .int .i64 pr.2.2.2.2.1, .int .i64 pr.2.2.2.2.2], .bool pb])) wr) := hpk
            clear hpk
            with_reducible refine hpk2.mono ?_
            clear hpk2 q0 q1 q2 q3
            rintro e w4 ⟨_, rfl, rfl, hb4⟩
            have R4 := Lib.hid (row_to hb4 R3.out)
            have HB4 := Lib.hid (bstep HB3.out hb4)
            have HRM4 := Lib.hid (HRM.out.below hb4)
            obtain ⟨q0, q1, q2, q3⟩ := row4 R4.out
            have z1 := row_lt R4.out
            clear hb4
            go_wp2_with fail
            have hpk := pick_any A2 k c2 M ⟨va, vn, us, vc⟩ A n c (w4.alloc (.cells #[.int .i64 pr.1, .int .i64 pr.2.1, .int .i64 pr.2.2.1, .int .i64 pr.2.2.2.1, .int .i64 pr.2.2.2.2.1, .int .i64 pr.2.2.2.2.2] 31)) (HRM4.out.below (bnew _ _)) (HR.out.below (balloc HB4.out _))
            rw [HPM.out] at hpk
            have hpk2 : Calls Try.prog 15 #[.slice A2 k c2, .agg #[.int .i64 va, .int .i64 vn, .slice A n c, .int .i64 vc]] (w4.alloc (.cells #[.int .i64 pr.1, .int .i64 pr.2.1, .int .i64 pr.2.2.1, .int .i64 pr.2.2.2.1, .int .i64 pr.2.2.2.2.1, .int .i64 pr.2.2.2.2.2] 31)) (Ret (Just (.tuple #[.agg #[.int .i64 pr.1, .int .i64 pr.2.1, .int .i64 pr.2.2.1, .int .i64 pr.2.2.2.1, .int .i64 pr.2.2.2.2.1, .int .i64 pr.2.2.2.2.2], .bool pb])) (w4.alloc (.cells #[.int .i64 pr.1, .int .i64 pr.2.1, .int .i64 pr.2.2.1, .int .i64 pr.2.2.2.1, .int .i64 pr.2.2.2.2.1, .int .i64 pr.2.2.2.2.2] 31))) := hpk
            clear hpk
            with_reducible refine hpk2.mono ?_
            clear hpk2 q0 q1 q2 q3 z1
            rintro e w5 ⟨_, rfl, rfl, hb5⟩
            have HB5 := Lib.hid (bstep (balloc HB4.out _) hb5)
            have R9 := Lib.hid ((hb5.block w4.heap.size (by simp)).trans (heap_alloc_new w4 _))
            obtain ⟨k0, k1, k2, k3, k4, k5⟩ := row6 R9.out
            have z9 := row_lt R9.out
            clear hb5
            go_wp2
            go_ret
            exact ⟨rfl, balloc HB5.out _⟩
end Go.Proofs.Ytmlhbmlppgoklab
