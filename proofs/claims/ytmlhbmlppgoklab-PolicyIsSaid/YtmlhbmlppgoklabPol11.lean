/- The walk of PolicyFirst: the first that fits is picked. -/
import Derived.Test.YtmlhbmlppgoklabPol9
namespace Go.Proofs.Ytmlhbmlppgoklab
open Go.RowKit
set_option maxHeartbeats 4000000
set_option maxRecDepth 100000
set_option linter.unusedVariables false
set_option linter.unusedSimpArgs false

theorem fresh_row {w : World} {g : Nat} {o : Obj} (h : w.heap[g]? = some o) (O : Obj) : (w.alloc O).heap[g]? = some o := (heap_alloc_old w O (row_lt h)).trans h
theorem rul_eq (a b : Rul) : (a.1 == b.1 && (a.2.1 == b.2.1 && (a.2.2.1 == b.2.2.1 && (a.2.2.2.1 == b.2.2.2.1 && (a.2.2.2.2.1 == b.2.2.2.2.1 && a.2.2.2.2.2 == b.2.2.2.2.2))))) = decide (a = b) := by
  obtain ⟨a1, a2, a3, a4, a5, a6⟩ := a
  obtain ⟨b1, b2, b3, b4, b5, b6⟩ := b
  rw [Bool.eq_iff_iff]
  simp

theorem policyFirst_any (w : World) (B : Option Addr) (m d : Nat) (l : List Rul) (hl : RdR w B m d l) (v : Vw) (A : Option Addr) (n c : Nat) (h : RdI w A n c v.as) :
    Calls Try.prog 4 #[.slice B m d, .agg #[.int .i64 v.a, .int .i64 v.n, .slice A n c, .int .i64 v.cl]] w fun e w' => e = .returned (.bool true) ∧ Below w.heap.size w w' := by
  obtain ⟨va, vn, us, vc⟩ := v
  simp only at h ⊢
  have HR := Lib.hid h
  have HL := Lib.hid hl
  have hml := hl.len
  have hcap := hl.le
  clear h hl
  have HML := Lib.hid hml
  clear hml
  by_cases hbig : 31 ≤ m
  · have i1 : decide ((30 : Int) < m) = true := decide_eq_true (by omega)
    clear hbig
    go_enter Try.func4, Try.ntmps4
    go_wp2_with fail
    with_reducible refine (awake_any _).mono ?_
    rintro e w1 ⟨_, rfl, rfl, hb1⟩
    go_wp2
    go_ret
    exact ⟨rfl, bstep (bnew w _) hb1⟩
  · by_cases hbig2 : 101 ≤ n
    · have i1 : decide ((30 : Int) < m) = false := decide_eq_false (by omega)
      have i2 : decide ((100 : Int) < n) = true := decide_eq_true (by omega)
      clear hbig hbig2
      go_enter Try.func4, Try.ntmps4
      go_wp2_with fail
      with_reducible refine (awake_any _).mono ?_
      rintro e w1 ⟨_, rfl, rfl, hb1⟩
      have hg2 := (hb1.block w.heap.size (by simp)).trans (heap_alloc_new w _)
      obtain ⟨q0, q1, q2, q3⟩ := row4 hg2
      clear hg2
      go_wp2
      go_ret
      exact ⟨rfl, bstep (bnew w _) hb1⟩
    · have i1 : decide ((30 : Int) < m) = false := decide_eq_false (by omega)
      have i2 : decide ((100 : Int) < n) = false := decide_eq_false (by omega)
      have hm30 : m ≤ 30 := by omega
      clear hbig hbig2
      obtain ⟨pr, pb, hp⟩ : ∃ pr pb, pickL l ⟨va, vn, us, vc⟩ = (pr, pb) := ⟨_, _, rfl⟩
      have HP := Lib.hid hp
      clear hp
      go_enter Try.func4, Try.ntmps4
      go_wp2_with fail
      with_reducible refine (awake_any _).mono ?_
      rintro e w1 ⟨_, rfl, rfl, hb1⟩
      have hg2 := (hb1.block w.heap.size (by simp)).trans (heap_alloc_new w _)
      obtain ⟨q0, q1, q2, q3⟩ := row4 hg2
      have R1 := Lib.hid hg2
      have HB1 := Lib.hid (bstep (bnew w _) hb1)
      clear hg2 hb1
      go_wp2_with fail
      have hpk := pick_any B m d l ⟨va, vn, us, vc⟩ A n c w1 (HL.out.below HB1.out) (HR.out.below HB1.out)
      rw [HP.out] at hpk
      have hpk2 : Calls Try.prog 15 #[.slice B m d, .agg #[.int .i64 va, .int .i64 vn, .slice A n c, .int .i64 vc]] w1 (Ret (Just (.tuple #[.agg #[.int .i64 pr.1, .int .i64 pr.2.1, .int .i64 pr.2.2.1, .int .i64 pr.2.2.2.1, .int .i64 pr.2.2.2.2.1, .int .i64 pr.2.2.2.2.2], .bool pb])) w1) := hpk
      clear hpk
      with_reducible refine hpk2.mono ?_
      clear hpk2 q0 q1 q2 q3
      rintro e w2 ⟨_, rfl, rfl, hb2⟩
      have R1a := Lib.hid (row_to hb2 R1.out)
      have HB2 := Lib.hid (bstep HB1.out hb2)
      clear hb2
      go_wp2_with fail
      have R1b := Lib.hid (fresh_row R1a.out (.cells #[.int .i64 pr.1, .int .i64 pr.2.1, .int .i64 pr.2.2.1, .int .i64 pr.2.2.2.1, .int .i64 pr.2.2.2.2.1, .int .i64 pr.2.2.2.2.2] 31))
      have R6 := Lib.hid (heap_alloc_new w2 (.cells #[.int .i64 pr.1, .int .i64 pr.2.1, .int .i64 pr.2.2.1, .int .i64 pr.2.2.2.1, .int .i64 pr.2.2.2.2.1, .int .i64 pr.2.2.2.2.2] 31))
      have HB3 := Lib.hid (balloc HB2.out (.cells #[.int .i64 pr.1, .int .i64 pr.2.1, .int .i64 pr.2.2.1, .int .i64 pr.2.2.2.1, .int .i64 pr.2.2.2.2.1, .int .i64 pr.2.2.2.2.2] 31))
      generalize w2.alloc (.cells #[.int .i64 pr.1, .int .i64 pr.2.1, .int .i64 pr.2.2.1, .int .i64 pr.2.2.2.1, .int .i64 pr.2.2.2.2.1, .int .i64 pr.2.2.2.2.2] 31) = W1 at *
      go_loopw [8] (fun i wr => ∃ j : Nat, j ≤ m ∧ i = .int .i64 j ∧ (∀ k, ∀ h : k < l.length, k < j → fitsB l[k] ⟨va, vn, us, vc⟩ = false) ∧ Below W1.heap.size W1 wr) (fun i _ => m - (intOf i).toNat)
      case atStart => exact ⟨0, by omega, rfl, fun k _ hk => absurd hk (by omega), Below.refl _ _⟩
      case round =>
        obtain ⟨j, hj, rfl, hno, hbr⟩ := hrel
        have HN := Lib.hid hno
        have HBR := Lib.hid hbr
        clear hno hbr
        by_cases hlt : j < m
        · have hjl : j < l.length := by have := HML.out; omega
          have hlt' : (j : Int) < m := by omega
          obtain ⟨r, hr⟩ : ∃ r, l[j] = r := ⟨_, rfl⟩
          have HRR := Lib.hid hr
          obtain ⟨F, hF⟩ : ∃ F, fitsB r ⟨va, vn, us, vc⟩ = F := ⟨_, rfl⟩
          have HF := Lib.hid hF
          obtain ⟨b, o, rfl, hbl, c0, c1, c2, c3, c4, c5⟩ := (HL.out.below (bstep HB3.out HBR.out)).at_ hjl
          rw [hr] at c0 c1 c2 c3 c4 c5
          clear hF hr
          have f0 : ∀ W, Below wr.heap.size wr W → W.cell? ⟨b, o + j * 6, none⟩ = some (.int .i64 r.1) := fun W hC => (hC.cell (p := ⟨b, o + j * 6, none⟩) hbl).trans c0
          have f1 : ∀ W, Below wr.heap.size wr W → W.cell? ⟨b, o + j * 6 + 1, none⟩ = some (.int .i64 r.2.1) := fun W hC => (hC.cell (p := ⟨b, o + j * 6 + 1, none⟩) hbl).trans c1
          have f2 : ∀ W, Below wr.heap.size wr W → W.cell? ⟨b, o + j * 6 + 2, none⟩ = some (.int .i64 r.2.2.1) := fun W hC => (hC.cell (p := ⟨b, o + j * 6 + 2, none⟩) hbl).trans c2
          have f3 : ∀ W, Below wr.heap.size wr W → W.cell? ⟨b, o + j * 6 + 3, none⟩ = some (.int .i64 r.2.2.2.1) := fun W hC => (hC.cell (p := ⟨b, o + j * 6 + 3, none⟩) hbl).trans c3
          have f4 : ∀ W, Below wr.heap.size wr W → W.cell? ⟨b, o + j * 6 + 4, none⟩ = some (.int .i64 r.2.2.2.2.1) := fun W hC => (hC.cell (p := ⟨b, o + j * 6 + 4, none⟩) hbl).trans c4
          have f5 : ∀ W, Below wr.heap.size wr W → W.cell? ⟨b, o + j * 6 + 5, none⟩ = some (.int .i64 r.2.2.2.2.2) := fun W hC => (hC.cell (p := ⟨b, o + j * 6 + 5, none⟩) hbl).trans c5
          clear c0 c1 c2 c3 c4 c5
          go_wp2_with fail
          refine wp_region_rel (by kernel_rfl) (by decide +kernel) (by rfl) ?_
          repeat (first
            | (refine rel_skip ⟨_, _, _, _, rfl, rfl, rfl, ?_⟩ ?_
               focus (intro h; cases h; done))
            | refine rel_move _ (Just _) (.inl rfl) (by first | exact .inl rfl | exact .inr ⟨_, _, _, rfl, rfl, rfl⟩) rfl (lasts_just _) ?_
            | refine rel_move _ (Just _) (.inr rfl) (by first | exact .inl rfl | exact .inr ⟨_, _, _, rfl, rfl, rfl⟩) rfl (lasts_just _) ?_
            | refine rel_moveC _ (.inl rfl) (by first | exact .inl rfl | exact .inr ⟨_, _, _, rfl, rfl, rfl⟩) ?_
            | refine rel_moveC _ (.inr rfl) (by first | exact .inl rfl | exact .inr ⟨_, _, _, rfl, rfl, rfl⟩) ?_
            | refine rel_str _ _ rfl (by first | exact .inl rfl | exact .inr ⟨_, _, _, rfl, rfl, rfl⟩) rfl ?_
            | refine rel_lenB _ _ rfl (by first | exact .inl rfl | exact .inr ⟨_, _, _, rfl, rfl, rfl⟩) rfl ?_
            | refine rel_move _ (IsB _) (.inl rfl) (by first | exact .inl rfl | exact .inr ⟨_, _, _, rfl, rfl, rfl⟩) rfl (lasts_isB _) ?_
            | refine rel_move _ (IsB _) (.inr rfl) (by first | exact .inl rfl | exact .inr ⟨_, _, _, rfl, rfl, rfl⟩) rfl (lasts_isB _) ?_
            | (refine rel_exact ?_ (by first | exact .inl rfl | exact .inr ⟨_, _, _, rfl, rfl, rfl⟩) ?_ ?_
               rotate_left
               (intro ρ W hρ hC hk
                simp [known, looks, Op.operands, Call.operands, slotFact, Just, List.lookup] at hk
                obtain ⟨hρ1, hρ2, hρ3⟩ := hρ
                go_simp
                rfl)))
          refine rel_loadRow 3 w.heap.size 27 27 #[.int .i64 va, .int .i64 vn, .slice A n c, .int .i64 vc] (0, 0) _ rfl (by first | exact .inl rfl | exact .inr ⟨_, _, _, rfl, rfl, rfl⟩) rfl Try.underlying27 rfl viewSize (fun W hC => row_to (bstep HBR.out hC) R1b.out) ?_
          refine rel_op (Just (.bool (fitsB r ⟨va, vn, us, vc⟩))) (lasts_just _) (by first | exact .inl rfl | exact .inr ⟨_, _, _, rfl, rfl, rfl⟩) ?_ ?_
          · intro ρ W hρ hC hk
            simp [known, looks, Op.operands, Call.operands, slotFact, Just, List.lookup] at hk
            obtain ⟨hρ1, hρ2, hρ3⟩ := hρ
            go_simp
            exact ⟨Below.refl _ _, fitsx r va vn vc us A n c W (HR.out.below (bstep (bstep HB3.out HBR.out) hC))⟩
          rw [HF.out]
          repeat (first
            | (refine rel_skip ⟨_, _, _, _, rfl, rfl, rfl, ?_⟩ ?_
               focus (intro h; cases h; done))
            | refine rel_move _ (Just _) (.inl rfl) (by first | exact .inl rfl | exact .inr ⟨_, _, _, rfl, rfl, rfl⟩) rfl (lasts_just _) ?_
            | refine rel_move _ (Just _) (.inr rfl) (by first | exact .inl rfl | exact .inr ⟨_, _, _, rfl, rfl, rfl⟩) rfl (lasts_just _) ?_
            | refine rel_moveC _ (.inl rfl) (by first | exact .inl rfl | exact .inr ⟨_, _, _, rfl, rfl, rfl⟩) ?_
            | refine rel_moveC _ (.inr rfl) (by first | exact .inl rfl | exact .inr ⟨_, _, _, rfl, rfl, rfl⟩) ?_
            | refine rel_str _ _ rfl (by first | exact .inl rfl | exact .inr ⟨_, _, _, rfl, rfl, rfl⟩) rfl ?_
            | refine rel_lenB _ _ rfl (by first | exact .inl rfl | exact .inr ⟨_, _, _, rfl, rfl, rfl⟩) rfl ?_
            | refine rel_move _ (IsB _) (.inl rfl) (by first | exact .inl rfl | exact .inr ⟨_, _, _, rfl, rfl, rfl⟩) rfl (lasts_isB _) ?_
            | refine rel_move _ (IsB _) (.inr rfl) (by first | exact .inl rfl | exact .inr ⟨_, _, _, rfl, rfl, rfl⟩) rfl (lasts_isB _) ?_
            | (refine rel_exact ?_ (by first | exact .inl rfl | exact .inr ⟨_, _, _, rfl, rfl, rfl⟩) ?_ ?_
               rotate_left
               (intro ρ W hρ hC hk
                simp [known, looks, Op.operands, Call.operands, slotFact, Just, List.lookup] at hk
                obtain ⟨hρ1, hρ2, hρ3⟩ := hρ
                go_simp
                rfl)))
          cases F
          · refine rel_nil ?_
            intro a W hC hd hsz ht
            refine fin_exit hsz hd ht (of_decide_eq_true (by kernel_rfl)) ?_
            repeat (first
              | refine fin_just ?_
              | (intro _ _))
            refine fin_nil ?_
            simp only [Act.put, Option.getD_some, List.setIfInBounds_toArray, List.set_cons_zero, List.set_cons_succ]
            clear hd hsz ht
            clear f0 f1 f2 f3 f4 f5
            go_wp2
            go_roundw
            case rel => exact ⟨j + 1, by omega, by go_num, fun k hk hkj => by
              by_cases e : k = j
              · subst e
                rw [HRR.out]
                exact HF.out
              · exact HN.out k hk (by omega), bstep HBR.out hC⟩
            case measure => simp [intOf]; omega
          · have e2 : pr = r ∧ pb = true := by
              have hh := pickL_hit (v := ⟨va, vn, us, vc⟩) hjl (fun k hk => HN.out k (by omega) hk) (by rw [HRR.out]; exact HF.out)
              rw [HP.out, HRR.out] at hh
              simpa using hh
            obtain ⟨e1, rfl⟩ := e2
            subst e1
            refine rel_nil ?_
            intro a W hC hd hsz ht
            refine fin_exit hsz hd ht (of_decide_eq_true (by kernel_rfl)) ?_
            repeat (first
              | refine fin_just ?_
              | (intro _ _))
            refine fin_nil ?_
            simp only [Act.put, Option.getD_some, List.setIfInBounds_toArray, List.set_cons_zero, List.set_cons_succ]
            clear hd hsz ht
            rename World => W2
            have g0 := fun V (hD : Below W2.heap.size W2 V) => f0 V (bstep hC hD)
            have g1 := fun V (hD : Below W2.heap.size W2 V) => f1 V (bstep hC hD)
            have g2 := fun V (hD : Below W2.heap.size W2 V) => f2 V (bstep hC hD)
            have g3 := fun V (hD : Below W2.heap.size W2 V) => f3 V (bstep hC hD)
            have g4 := fun V (hD : Below W2.heap.size W2 V) => f4 V (bstep hC hD)
            have g5 := fun V (hD : Below W2.heap.size W2 V) => f5 V (bstep hC hD)
            have k0 := fun V (hD : Below W2.heap.size W2 V) => (row6 (row_to (bstep (bstep HBR.out hC) hD) R6.out)).1
            have k1 := fun V (hD : Below W2.heap.size W2 V) => (row6 (row_to (bstep (bstep HBR.out hC) hD) R6.out)).2.1
            have k2 := fun V (hD : Below W2.heap.size W2 V) => (row6 (row_to (bstep (bstep HBR.out hC) hD) R6.out)).2.2.1
            have k3 := fun V (hD : Below W2.heap.size W2 V) => (row6 (row_to (bstep (bstep HBR.out hC) hD) R6.out)).2.2.2.1
            have k4 := fun V (hD : Below W2.heap.size W2 V) => (row6 (row_to (bstep (bstep HBR.out hC) hD) R6.out)).2.2.2.2.1
            have k5 := fun V (hD : Below W2.heap.size W2 V) => (row6 (row_to (bstep (bstep HBR.out hC) hD) R6.out)).2.2.2.2.2
            have HCC := Lib.hid hC
            clear f0 f1 f2 f3 f4 f5 hC
            go_wp2_with fail
            refine wp_region_rel (by kernel_rfl) (by decide +kernel) (by rfl) ?_
            repeat (first
              | (refine rel_skip ⟨_, _, _, _, rfl, rfl, rfl, ?_⟩ ?_
                 focus (intro h; cases h; done))
              | refine rel_move _ (Just _) (.inl rfl) (by first | exact .inl rfl | exact .inr ⟨_, _, _, rfl, rfl, rfl⟩) rfl (lasts_just _) ?_
              | refine rel_move _ (Just _) (.inr rfl) (by first | exact .inl rfl | exact .inr ⟨_, _, _, rfl, rfl, rfl⟩) rfl (lasts_just _) ?_
              | refine rel_moveC _ (.inl rfl) (by first | exact .inl rfl | exact .inr ⟨_, _, _, rfl, rfl, rfl⟩) ?_
              | refine rel_moveC _ (.inr rfl) (by first | exact .inl rfl | exact .inr ⟨_, _, _, rfl, rfl, rfl⟩) ?_
              | refine rel_str _ _ rfl (by first | exact .inl rfl | exact .inr ⟨_, _, _, rfl, rfl, rfl⟩) rfl ?_
              | refine rel_lenB _ _ rfl (by first | exact .inl rfl | exact .inr ⟨_, _, _, rfl, rfl, rfl⟩) rfl ?_
              | refine rel_move _ (IsB _) (.inl rfl) (by first | exact .inl rfl | exact .inr ⟨_, _, _, rfl, rfl, rfl⟩) rfl (lasts_isB _) ?_
              | refine rel_move _ (IsB _) (.inr rfl) (by first | exact .inl rfl | exact .inr ⟨_, _, _, rfl, rfl, rfl⟩) rfl (lasts_isB _) ?_
              | (refine rel_exact ?_ (by first | exact .inl rfl | exact .inr ⟨_, _, _, rfl, rfl, rfl⟩) ?_ ?_
                 rotate_left
                 (intro ρ W hρ hC hk
                  simp [known, looks, Op.operands, Call.operands, slotFact, Just, List.lookup] at hk
                  obtain ⟨hρ1, hρ2, hρ3⟩ := hρ
                  go_simp
                  rfl)))
            refine rel_nil ?_
            intro a W hC hd hsz ht
            refine fin_exit hsz hd ht (of_decide_eq_true (by kernel_rfl)) ?_
            repeat (first
              | refine fin_just ?_
              | (intro _ _))
            refine fin_nil ?_
            simp only [Act.put, Option.getD_some, List.setIfInBounds_toArray, List.set_cons_zero, List.set_cons_succ]
            clear hd hsz ht
            go_wp2
            go_ret
            exact ⟨rfl, bstep HB3.out (bstep HBR.out (bstep HCC.out hC))⟩
        · obtain rfl : j = m := by omega
          have e2 : pr = rule0 ∧ pb = false := by
            have hh := pickL_none (v := ⟨va, vn, us, vc⟩) (l := l) (fun k hk => HN.out k hk (by have := HML.out; omega))
            rw [HP.out] at hh
            simpa using hh
          obtain ⟨rfl, rfl⟩ := e2
          obtain ⟨q0, q1, q2, q3, q4, q5⟩ := row6 (row_to HBR.out R6.out)
          simp only [rule0] at q0 q1 q2 q3 q4 q5
          go_wp2
          go_ret
          exact ⟨rfl, bstep HB3.out HBR.out⟩
end Go.Proofs.Ytmlhbmlppgoklab
