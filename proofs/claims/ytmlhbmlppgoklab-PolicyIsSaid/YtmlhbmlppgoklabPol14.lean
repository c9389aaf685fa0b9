/- The walk of PolicyIs: rules are what the document says. -/
import Derived.Test.YtmlhbmlppgoklabPolR4
import Derived.Test.YtmlhbmlppgoklabPolR5
import Derived.Test.YtmlhbmlppgoklabPolR6
import Derived.Test.YtmlhbmlppgoklabPol11
namespace Go.Proofs.Ytmlhbmlppgoklab
open Go.RowKit
set_option maxHeartbeats 4000000
set_option maxRecDepth 100000
set_option linter.unusedVariables false
set_option linter.unusedSimpArgs false

theorem sanex (r : Rul) (i : Bool) (w : World) : Calls Try.prog 9 #[.agg #[.int .i64 r.1, .int .i64 r.2.1, .int .i64 r.2.2.1, .int .i64 r.2.2.2.1, .int .i64 r.2.2.2.2.1, .int .i64 r.2.2.2.2.2], .bool i] w (Ret (Just (.bool (saneR r i))) w) := sane_any r.1 r.2.1 r.2.2.1 r.2.2.2.1 r.2.2.2.2.1 r.2.2.2.2.2 i w
theorem rsanex (r : Rul) (i : Bool) (w : World) : Calls Try.prog 10 #[.agg #[.int .i64 r.1, .int .i64 r.2.1, .int .i64 r.2.2.1, .int .i64 r.2.2.2.1, .int .i64 r.2.2.2.2.1, .int .i64 r.2.2.2.2.2], .bool i] w (Ret (Just (.bool (saneR r i))) w) := rsane_any r.1 r.2.1 r.2.2.1 r.2.2.2.1 r.2.2.2.2.1 r.2.2.2.2.2 i w

theorem policyIs_any (w : World) (B : Option Addr) (m d : Nat) (l : List Rul) (hl : RdR w B m d l) (v : Vw) (A : Option Addr) (n c : Nat) (h : RdI w A n c v.as) (cl : Int) (i : Bool) :
    Calls Try.prog 3 #[.slice B m d, .agg #[.int .i64 v.a, .int .i64 v.n, .slice A n c, .int .i64 v.cl], .int .i64 cl, .bool i] w fun e w' => e = .returned (.bool true) ∧ Below w.heap.size w w' := by
  obtain ⟨va, vn, us, vc⟩ := v
  simp only at h ⊢
  have HR := Lib.hid h
  have HL := Lib.hid hl
  have hml := hl.len
  have hcap := hl.le
  clear h hl
  have HML := Lib.hid hml
  clear hml
  by_cases hbig : 31 ≤ m
  · have i1 : decide ((30 : Int) < m) = true := decide_eq_true (by omega)
    clear hbig
    go_enter Try.func3, Try.ntmps3
    go_wp2_with fail
    with_reducible refine (awake_any _).mono ?_
    rintro e w1 ⟨_, rfl, rfl, hb1⟩
    go_wp2
    go_ret
    exact ⟨rfl, bstep (bnew w _) hb1⟩
  · by_cases hbig2 : 101 ≤ n
    · have i1 : decide ((30 : Int) < m) = false := decide_eq_false (by omega)
      have i2 : decide ((100 : Int) < n) = true := decide_eq_true (by omega)
      clear hbig hbig2
      go_enter Try.func3, Try.ntmps3
      go_wp2_with fail
      with_reducible refine (awake_any _).mono ?_
      rintro e w1 ⟨_, rfl, rfl, hb1⟩
      have hg2 := (hb1.block w.heap.size (by simp)).trans (heap_alloc_new w _)
      obtain ⟨q0, q1, q2, q3⟩ := row4 hg2
      clear hg2
      go_wp2
      go_ret
      exact ⟨rfl, bstep (bnew w _) hb1⟩
    · have i1 : decide ((30 : Int) < m) = false := decide_eq_false (by omega)
      have i2 : decide ((100 : Int) < n) = false := decide_eq_false (by omega)
      have hm30 : m ≤ 30 := by omega
      clear hbig hbig2
      obtain ⟨pr, pb, hp⟩ : ∃ pr pb, pickL l ⟨va, vn, us, vc⟩ = (pr, pb) := ⟨_, _, rfl⟩
      have HP := Lib.hid hp
      go_enter Try.func3, Try.ntmps3
      go_wp2_with fail
      with_reducible refine (awake_any _).mono ?_
      rintro e w1 ⟨_, rfl, rfl, hb1⟩
      have hg2 := (hb1.block w.heap.size (by simp)).trans (heap_alloc_new w _)
      obtain ⟨q0, q1, q2, q3⟩ := row4 hg2
      have R1 := Lib.hid hg2
      have HB1 := Lib.hid (bstep (bnew w _) hb1)
      clear hg2 hb1 hp
      go_wp2_with fail
      clear q0 q1 q2 q3
      go_loopw [10] (fun ii wr => ∃ j : Nat, j ≤ m ∧ ii = .int .i64 j ∧ Below w1.heap.size w1 wr) (fun ii _ => m - (intOf ii).toNat)
      case atStart => exact ⟨0, by omega, rfl, Below.refl _ _⟩
      case round =>
        obtain ⟨j, hj, rfl, hbr⟩ := hrel
        have HBR := Lib.hid hbr
        clear hbr
        by_cases hlt : j < m
        · have hjl : j < l.length := by have := HML.out; omega
          have hlt' : (j : Int) < m := by omega
          obtain ⟨b, o, rfl, hbl, c0, c1, c2, c3, c4, c5⟩ := (HL.out.below (bstep HB1.out HBR.out)).at_ hjl
          obtain ⟨r, hr⟩ : ∃ r, l[j] = r := ⟨_, rfl⟩
          rw [hr] at c0 c1 c2 c3 c4 c5
          clear hr
          obtain ⟨S, hS⟩ : ∃ S, saneR r i = S := ⟨_, rfl⟩
          obtain ⟨F, hF⟩ : ∃ F, fitsB r ⟨va, vn, us, vc⟩ = F := ⟨_, rfl⟩
          obtain ⟨T, hT⟩ : ∃ T, totalB r cl = T := ⟨_, rfl⟩
          have HS := Lib.hid hS
          have HF := Lib.hid hF
          have HT := Lib.hid hT
          clear hS hF hT
          have f0 : ∀ W, Below wr.heap.size wr W → W.cell? ⟨b, o + j * 6, none⟩ = some (.int .i64 r.1) := fun W hC => (hC.cell (p := ⟨b, o + j * 6, none⟩) hbl).trans c0
          have f1 : ∀ W, Below wr.heap.size wr W → W.cell? ⟨b, o + j * 6 + 1, none⟩ = some (.int .i64 r.2.1) := fun W hC => (hC.cell (p := ⟨b, o + j * 6 + 1, none⟩) hbl).trans c1
          have f2 : ∀ W, Below wr.heap.size wr W → W.cell? ⟨b, o + j * 6 + 2, none⟩ = some (.int .i64 r.2.2.1) := fun W hC => (hC.cell (p := ⟨b, o + j * 6 + 2, none⟩) hbl).trans c2
          have f3 : ∀ W, Below wr.heap.size wr W → W.cell? ⟨b, o + j * 6 + 3, none⟩ = some (.int .i64 r.2.2.2.1) := fun W hC => (hC.cell (p := ⟨b, o + j * 6 + 3, none⟩) hbl).trans c3
          have f4 : ∀ W, Below wr.heap.size wr W → W.cell? ⟨b, o + j * 6 + 4, none⟩ = some (.int .i64 r.2.2.2.2.1) := fun W hC => (hC.cell (p := ⟨b, o + j * 6 + 4, none⟩) hbl).trans c4
          have f5 : ∀ W, Below wr.heap.size wr W → W.cell? ⟨b, o + j * 6 + 5, none⟩ = some (.int .i64 r.2.2.2.2.2) := fun W hC => (hC.cell (p := ⟨b, o + j * 6 + 5, none⟩) hbl).trans c5
          clear c0 c1 c2 c3 c4 c5
          go_wp2_with fail
          refine wp_region_rel (by kernel_rfl) (by decide +kernel) (by rfl) ?_
          repeat (first
            | (refine rel_skip ⟨_, _, _, _, rfl, rfl, rfl, ?_⟩ ?_
               focus (intro h; cases h; done))
            | refine rel_move _ (Just _) (.inl rfl) (by first | exact .inl rfl | exact .inr ⟨_, _, _, rfl, rfl, rfl⟩) rfl (lasts_just _) ?_
            | refine rel_move _ (Just _) (.inr rfl) (by first | exact .inl rfl | exact .inr ⟨_, _, _, rfl, rfl, rfl⟩) rfl (lasts_just _) ?_
            | refine rel_moveC _ (.inl rfl) (by first | exact .inl rfl | exact .inr ⟨_, _, _, rfl, rfl, rfl⟩) ?_
            | refine rel_moveC _ (.inr rfl) (by first | exact .inl rfl | exact .inr ⟨_, _, _, rfl, rfl, rfl⟩) ?_
            | refine rel_str _ _ rfl (by first | exact .inl rfl | exact .inr ⟨_, _, _, rfl, rfl, rfl⟩) rfl ?_
            | refine rel_lenB _ _ rfl (by first | exact .inl rfl | exact .inr ⟨_, _, _, rfl, rfl, rfl⟩) rfl ?_
            | refine rel_move _ (IsB _) (.inl rfl) (by first | exact .inl rfl | exact .inr ⟨_, _, _, rfl, rfl, rfl⟩) rfl (lasts_isB _) ?_
            | refine rel_move _ (IsB _) (.inr rfl) (by first | exact .inl rfl | exact .inr ⟨_, _, _, rfl, rfl, rfl⟩) rfl (lasts_isB _) ?_
            | (refine rel_exact ?_ (by first | exact .inl rfl | exact .inr ⟨_, _, _, rfl, rfl, rfl⟩) ?_ ?_
               rotate_left
               (intro ρ W hρ hC hk
                simp [known, looks, Op.operands, Call.operands, slotFact, Just, List.lookup] at hk
                obtain ⟨hρ1, hρ2, hρ3⟩ := hρ
                go_simp
                rfl)))
          refine rel_op (Just (.bool (saneR r i))) (lasts_just _) (by first | exact .inl rfl | exact .inr ⟨_, _, _, rfl, rfl, rfl⟩) ?_ ?_
          · intro ρ W hρ hC hk
            simp [known, looks, Op.operands, Call.operands, slotFact, Just, List.lookup] at hk
            obtain ⟨hρ1, hρ2, hρ3⟩ := hρ
            go_simp
            exact ⟨Below.refl _ _, sanex r i W⟩
          rw [HS.out]
          repeat (first
            | (refine rel_skip ⟨_, _, _, _, rfl, rfl, rfl, ?_⟩ ?_
               focus (intro h; cases h; done))
            | refine rel_move _ (Just _) (.inl rfl) (by first | exact .inl rfl | exact .inr ⟨_, _, _, rfl, rfl, rfl⟩) rfl (lasts_just _) ?_
            | refine rel_move _ (Just _) (.inr rfl) (by first | exact .inl rfl | exact .inr ⟨_, _, _, rfl, rfl, rfl⟩) rfl (lasts_just _) ?_
            | refine rel_moveC _ (.inl rfl) (by first | exact .inl rfl | exact .inr ⟨_, _, _, rfl, rfl, rfl⟩) ?_
            | refine rel_moveC _ (.inr rfl) (by first | exact .inl rfl | exact .inr ⟨_, _, _, rfl, rfl, rfl⟩) ?_
            | refine rel_str _ _ rfl (by first | exact .inl rfl | exact .inr ⟨_, _, _, rfl, rfl, rfl⟩) rfl ?_
            | refine rel_lenB _ _ rfl (by first | exact .inl rfl | exact .inr ⟨_, _, _, rfl, rfl, rfl⟩) rfl ?_
            | refine rel_move _ (IsB _) (.inl rfl) (by first | exact .inl rfl | exact .inr ⟨_, _, _, rfl, rfl, rfl⟩) rfl (lasts_isB _) ?_
            | refine rel_move _ (IsB _) (.inr rfl) (by first | exact .inl rfl | exact .inr ⟨_, _, _, rfl, rfl, rfl⟩) rfl (lasts_isB _) ?_
            | (refine rel_exact ?_ (by first | exact .inl rfl | exact .inr ⟨_, _, _, rfl, rfl, rfl⟩) ?_ ?_
               rotate_left
               (intro ρ W hρ hC hk
                simp [known, looks, Op.operands, Call.operands, slotFact, Just, List.lookup] at hk
                obtain ⟨hρ1, hρ2, hρ3⟩ := hρ
                go_simp
                rfl)))
          refine rel_op (Just (.bool (saneR r i))) (lasts_just _) (by first | exact .inl rfl | exact .inr ⟨_, _, _, rfl, rfl, rfl⟩) ?_ ?_
          · intro ρ W hρ hC hk
            simp [known, looks, Op.operands, Call.operands, slotFact, Just, List.lookup] at hk
            obtain ⟨hρ1, hρ2, hρ3⟩ := hρ
            go_simp
            exact ⟨Below.refl _ _, rsanex r i W⟩
          rw [HS.out]
          repeat (first
            | (refine rel_skip ⟨_, _, _, _, rfl, rfl, rfl, ?_⟩ ?_
               focus (intro h; cases h; done))
            | refine rel_move _ (Just _) (.inl rfl) (by first | exact .inl rfl | exact .inr ⟨_, _, _, rfl, rfl, rfl⟩) rfl (lasts_just _) ?_
            | refine rel_move _ (Just _) (.inr rfl) (by first | exact .inl rfl | exact .inr ⟨_, _, _, rfl, rfl, rfl⟩) rfl (lasts_just _) ?_
            | refine rel_moveC _ (.inl rfl) (by first | exact .inl rfl | exact .inr ⟨_, _, _, rfl, rfl, rfl⟩) ?_
            | refine rel_moveC _ (.inr rfl) (by first | exact .inl rfl | exact .inr ⟨_, _, _, rfl, rfl, rfl⟩) ?_
            | refine rel_str _ _ rfl (by first | exact .inl rfl | exact .inr ⟨_, _, _, rfl, rfl, rfl⟩) rfl ?_
            | refine rel_lenB _ _ rfl (by first | exact .inl rfl | exact .inr ⟨_, _, _, rfl, rfl, rfl⟩) rfl ?_
            | refine rel_move _ (IsB _) (.inl rfl) (by first | exact .inl rfl | exact .inr ⟨_, _, _, rfl, rfl, rfl⟩) rfl (lasts_isB _) ?_
            | refine rel_move _ (IsB _) (.inr rfl) (by first | exact .inl rfl | exact .inr ⟨_, _, _, rfl, rfl, rfl⟩) rfl (lasts_isB _) ?_
            | (refine rel_exact ?_ (by first | exact .inl rfl | exact .inr ⟨_, _, _, rfl, rfl, rfl⟩) ?_ ?_
               rotate_left
               (intro ρ W hρ hC hk
                simp [known, looks, Op.operands, Call.operands, slotFact, Just, List.lookup] at hk
                obtain ⟨hρ1, hρ2, hρ3⟩ := hρ
                go_simp
                rfl)))
          refine rel_loadRow 5 w.heap.size 27 27 #[.int .i64 va, .int .i64 vn, .slice A n c, .int .i64 vc] (0, 0) _ rfl (by first | exact .inl rfl | exact .inr ⟨_, _, _, rfl, rfl, rfl⟩) rfl Try.underlying27 rfl viewSize (fun W hC => row_to (bstep HBR.out hC) R1.out) ?_
          refine rel_op (Just (.bool (fitsB r ⟨va, vn, us, vc⟩))) (lasts_just _) (by first | exact .inl rfl | exact .inr ⟨_, _, _, rfl, rfl, rfl⟩) ?_ ?_
          · intro ρ W hρ hC hk
            simp [known, looks, Op.operands, Call.operands, slotFact, Just, List.lookup] at hk
            obtain ⟨hρ1, hρ2, hρ3⟩ := hρ
            go_simp
            exact ⟨Below.refl _ _, fitsx r va vn vc us A n c W (HR.out.below (bstep (bstep HB1.out HBR.out) hC))⟩
          rw [HF.out]
          repeat (first
            | (refine rel_skip ⟨_, _, _, _, rfl, rfl, rfl, ?_⟩ ?_
               focus (intro h; cases h; done))
            | refine rel_move _ (Just _) (.inl rfl) (by first | exact .inl rfl | exact .inr ⟨_, _, _, rfl, rfl, rfl⟩) rfl (lasts_just _) ?_
            | refine rel_move _ (Just _) (.inr rfl) (by first | exact .inl rfl | exact .inr ⟨_, _, _, rfl, rfl, rfl⟩) rfl (lasts_just _) ?_
            | refine rel_moveC _ (.inl rfl) (by first | exact .inl rfl | exact .inr ⟨_, _, _, rfl, rfl, rfl⟩) ?_
            | refine rel_moveC _ (.inr rfl) (by first | exact .inl rfl | exact .inr ⟨_, _, _, rfl, rfl, rfl⟩) ?_
            | refine rel_str _ _ rfl (by first | exact .inl rfl | exact .inr ⟨_, _, _, rfl, rfl, rfl⟩) rfl ?_
            | refine rel_lenB _ _ rfl (by first | exact .inl rfl | exact .inr ⟨_, _, _, rfl, rfl, rfl⟩) rfl ?_
            | refine rel_move _ (IsB _) (.inl rfl) (by first | exact .inl rfl | exact .inr ⟨_, _, _, rfl, rfl, rfl⟩) rfl (lasts_isB _) ?_
            | refine rel_move _ (IsB _) (.inr rfl) (by first | exact .inl rfl | exact .inr ⟨_, _, _, rfl, rfl, rfl⟩) rfl (lasts_isB _) ?_
            | (refine rel_exact ?_ (by first | exact .inl rfl | exact .inr ⟨_, _, _, rfl, rfl, rfl⟩) ?_ ?_
               rotate_left
               (intro ρ W hρ hC hk
                simp [known, looks, Op.operands, Call.operands, slotFact, Just, List.lookup] at hk
                obtain ⟨hρ1, hρ2, hρ3⟩ := hρ
                go_simp
                rfl)))
          refine rel_loadRow 5 w.heap.size 27 27 #[.int .i64 va, .int .i64 vn, .slice A n c, .int .i64 vc] (0, 0) _ rfl (by first | exact .inl rfl | exact .inr ⟨_, _, _, rfl, rfl, rfl⟩) rfl Try.underlying27 rfl viewSize (fun W hC => row_to (bstep HBR.out hC) R1.out) ?_
          refine rel_op (Just (.bool (fitsB r ⟨va, vn, us, vc⟩))) (lasts_just _) (by first | exact .inl rfl | exact .inr ⟨_, _, _, rfl, rfl, rfl⟩) ?_ ?_
          · intro ρ W hρ hC hk
            simp [known, looks, Op.operands, Call.operands, slotFact, Just, List.lookup] at hk
            obtain ⟨hρ1, hρ2, hρ3⟩ := hρ
            go_simp
            exact ⟨Below.refl _ _, rfitsx r va vn vc us A n c W (HR.out.below (bstep (bstep HB1.out HBR.out) hC))⟩
          rw [HF.out]
          repeat (first
            | (refine rel_skip ⟨_, _, _, _, rfl, rfl, rfl, ?_⟩ ?_
               focus (intro h; cases h; done))
            | refine rel_move _ (Just _) (.inl rfl) (by first | exact .inl rfl | exact .inr ⟨_, _, _, rfl, rfl, rfl⟩) rfl (lasts_just _) ?_
            | refine rel_move _ (Just _) (.inr rfl) (by first | exact .inl rfl | exact .inr ⟨_, _, _, rfl, rfl, rfl⟩) rfl (lasts_just _) ?_
            | refine rel_moveC _ (.inl rfl) (by first | exact .inl rfl | exact .inr ⟨_, _, _, rfl, rfl, rfl⟩) ?_
            | refine rel_moveC _ (.inr rfl) (by first | exact .inl rfl | exact .inr ⟨_, _, _, rfl, rfl, rfl⟩) ?_
            | refine rel_str _ _ rfl (by first | exact .inl rfl | exact .inr ⟨_, _, _, rfl, rfl, rfl⟩) rfl ?_
            | refine rel_lenB _ _ rfl (by first | exact .inl rfl | exact .inr ⟨_, _, _, rfl, rfl, rfl⟩) rfl ?_
            | refine rel_move _ (IsB _) (.inl rfl) (by first | exact .inl rfl | exact .inr ⟨_, _, _, rfl, rfl, rfl⟩) rfl (lasts_isB _) ?_
            | refine rel_move _ (IsB _) (.inr rfl) (by first | exact .inl rfl | exact .inr ⟨_, _, _, rfl, rfl, rfl⟩) rfl (lasts_isB _) ?_
            | (refine rel_exact ?_ (by first | exact .inl rfl | exact .inr ⟨_, _, _, rfl, rfl, rfl⟩) ?_ ?_
               rotate_left
               (intro ρ W hρ hC hk
                simp [known, looks, Op.operands, Call.operands, slotFact, Just, List.lookup] at hk
                obtain ⟨hρ1, hρ2, hρ3⟩ := hρ
                go_simp
                rfl)))
          refine rel_op (Just (.bool (totalB r cl))) (lasts_just _) (by first | exact .inl rfl | exact .inr ⟨_, _, _, rfl, rfl, rfl⟩) ?_ ?_
          · intro ρ W hρ hC hk
            simp [known, looks, Op.operands, Call.operands, slotFact, Just, List.lookup] at hk
            obtain ⟨hρ1, hρ2, hρ3⟩ := hρ
            go_simp
            exact ⟨Below.refl _ _, total_any r cl W⟩
          rw [HT.out]
          repeat (first
            | (refine rel_skip ⟨_, _, _, _, rfl, rfl, rfl, ?_⟩ ?_
               focus (intro h; cases h; done))
            | refine rel_move _ (Just _) (.inl rfl) (by first | exact .inl rfl | exact .inr ⟨_, _, _, rfl, rfl, rfl⟩) rfl (lasts_just _) ?_
            | refine rel_move _ (Just _) (.inr rfl) (by first | exact .inl rfl | exact .inr ⟨_, _, _, rfl, rfl, rfl⟩) rfl (lasts_just _) ?_
            | refine rel_moveC _ (.inl rfl) (by first | exact .inl rfl | exact .inr ⟨_, _, _, rfl, rfl, rfl⟩) ?_
            | refine rel_moveC _ (.inr rfl) (by first | exact .inl rfl | exact .inr ⟨_, _, _, rfl, rfl, rfl⟩) ?_
            | refine rel_str _ _ rfl (by first | exact .inl rfl | exact .inr ⟨_, _, _, rfl, rfl, rfl⟩) rfl ?_
            | refine rel_lenB _ _ rfl (by first | exact .inl rfl | exact .inr ⟨_, _, _, rfl, rfl, rfl⟩) rfl ?_
            | refine rel_move _ (IsB _) (.inl rfl) (by first | exact .inl rfl | exact .inr ⟨_, _, _, rfl, rfl, rfl⟩) rfl (lasts_isB _) ?_
            | refine rel_move _ (IsB _) (.inr rfl) (by first | exact .inl rfl | exact .inr ⟨_, _, _, rfl, rfl, rfl⟩) rfl (lasts_isB _) ?_
            | (refine rel_exact ?_ (by first | exact .inl rfl | exact .inr ⟨_, _, _, rfl, rfl, rfl⟩) ?_ ?_
               rotate_left
               (intro ρ W hρ hC hk
                simp [known, looks, Op.operands, Call.operands, slotFact, Just, List.lookup] at hk
                obtain ⟨hρ1, hρ2, hρ3⟩ := hρ
                go_simp
                rfl)))
          refine rel_op (Just (.bool (totalB r cl))) (lasts_just _) (by first | exact .inl rfl | exact .inr ⟨_, _, _, rfl, rfl, rfl⟩) ?_ ?_
          · intro ρ W hρ hC hk
            simp [known, looks, Op.operands, Call.operands, slotFact, Just, List.lookup] at hk
            obtain ⟨hρ1, hρ2, hρ3⟩ := hρ
            go_simp
            exact ⟨Below.refl _ _, rtotal_any r cl W⟩
          rw [HT.out]
          repeat (first
            | (refine rel_skip ⟨_, _, _, _, rfl, rfl, rfl, ?_⟩ ?_
               focus (intro h; cases h; done))
            | refine rel_move _ (Just _) (.inl rfl) (by first | exact .inl rfl | exact .inr ⟨_, _, _, rfl, rfl, rfl⟩) rfl (lasts_just _) ?_
            | refine rel_move _ (Just _) (.inr rfl) (by first | exact .inl rfl | exact .inr ⟨_, _, _, rfl, rfl, rfl⟩) rfl (lasts_just _) ?_
            | refine rel_moveC _ (.inl rfl) (by first | exact .inl rfl | exact .inr ⟨_, _, _, rfl, rfl, rfl⟩) ?_
            | refine rel_moveC _ (.inr rfl) (by first | exact .inl rfl | exact .inr ⟨_, _, _, rfl, rfl, rfl⟩) ?_
            | refine rel_str _ _ rfl (by first | exact .inl rfl | exact .inr ⟨_, _, _, rfl, rfl, rfl⟩) rfl ?_
            | refine rel_lenB _ _ rfl (by first | exact .inl rfl | exact .inr ⟨_, _, _, rfl, rfl, rfl⟩) rfl ?_
            | refine rel_move _ (IsB _) (.inl rfl) (by first | exact .inl rfl | exact .inr ⟨_, _, _, rfl, rfl, rfl⟩) rfl (lasts_isB _) ?_
            | refine rel_move _ (IsB _) (.inr rfl) (by first | exact .inl rfl | exact .inr ⟨_, _, _, rfl, rfl, rfl⟩) rfl (lasts_isB _) ?_
            | (refine rel_exact ?_ (by first | exact .inl rfl | exact .inr ⟨_, _, _, rfl, rfl, rfl⟩) ?_ ?_
               rotate_left
               (intro ρ W hρ hC hk
                simp [known, looks, Op.operands, Call.operands, slotFact, Just, List.lookup] at hk
                obtain ⟨hρ1, hρ2, hρ3⟩ := hρ
                go_simp
                rfl)))
          refine rel_nil ?_
          intro a W hC hd hsz ht
          refine fin_exit hsz hd ht (of_decide_eq_true (by kernel_rfl)) ?_
          repeat (first
            | refine fin_just ?_
            | (intro _ _))
          refine fin_nil ?_
          simp only [Act.put, Option.getD_some, List.setIfInBounds_toArray, List.set_cons_zero, List.set_cons_succ]
          clear hd hsz ht
          clear f0 f1 f2 f3 f4 f5
          go_wp2
          go_roundw
          case rel => exact ⟨j + 1, by omega, by go_num, bstep HBR.out hC⟩
          case measure => simp [intOf]; omega
        · obtain rfl : j = m := by omega
          clear hlt
          have R3 := Lib.hid (row_to HBR.out R1.out)
          have HB3 := Lib.hid (bstep HB1.out HBR.out)
          obtain ⟨q0, q1, q2, q3⟩ := row4 R3.out
          go_wp2_with fail
          have hpk := pick_any B j d l ⟨va, vn, us, vc⟩ A n c wr (HL.out.below HB3.out) (HR.out.below HB3.out)
          rw [HP.out] at hpk
          have hpk2 : Calls Try.prog 15 #[.slice B j d, .agg #[.int .i64 va, .int .i64 vn, .slice A n c, .int .i64 vc]] wr (Ret (Just (.tuple #[.agg #[.int .i64 pr.1, .int .i64 pr.2.1, .int .i64 pr.2.2.1, .int .i64 pr.2.2.2.1, .int .i64 pr.2.2.2.2.1, .int .i64 pr.2.2.2.2.2], .bool pb])) wr) := hpk
          clear hpk
          with_reducible refine hpk2.mono ?_
          clear hpk2 q0 q1 q2 q3
          rintro e w4 ⟨_, rfl, rfl, hb4⟩
          have R4 := Lib.hid (row_to hb4 R3.out)
          have HB4 := Lib.hid (bstep HB3.out hb4)
          obtain ⟨q0, q1, q2, q3⟩ := row4 R4.out
          have z1 := row_lt R4.out
          clear hb4
          go_wp2_with fail
          have hpk := rpick_any B j d l ⟨va, vn, us, vc⟩ A n c (w4.alloc (.cells #[.int .i64 pr.1, .int .i64 pr.2.1, .int .i64 pr.2.2.1, .int .i64 pr.2.2.2.1, .int .i64 pr.2.2.2.2.1, .int .i64 pr.2.2.2.2.2] 31)) (HL.out.below (balloc HB4.out _)) (HR.out.below (balloc HB4.out _))
          rw [HP.out] at hpk
          have hpk2 : Calls Try.prog 16 #[.slice B j d, .agg #[.int .i64 va, .int .i64 vn, .slice A n c, .int .i64 vc]] (w4.alloc (.cells #[.int .i64 pr.1, .int .i64 pr.2.1, .int .i64 pr.2.2.1, .int .i64 pr.2.2.2.1, .int .i64 pr.2.2.2.2.1, .int .i64 pr.2.2.2.2.2] 31)) (Ret (Just (.tuple #[.agg #[.int .i64 pr.1, .int .i64 pr.2.1, .int .i64 pr.2.2.1, .int .i64 pr.2.2.2.1, .int .i64 pr.2.2.2.2.1, .int .i64 pr.2.2.2.2.2], .bool pb])) (w4.alloc (.cells #[.int .i64 pr.1, .int .i64 pr.2.1, .int .i64 pr.2.2.1, .int .i64 pr.2.2.2.1, .int .i64 pr.2.2.2.2.1, .int .i64 pr.2.2.2.2.2] 31))) := hpk
          clear hpk
          with_reducible refine hpk2.mono ?_
          clear hpk2 q0 q1 q2 q3 z1
          rintro e w5 ⟨_, rfl, rfl, hb5⟩
          have HB5 := Lib.hid (bstep (balloc HB4.out _) hb5)
          have R9 := Lib.hid ((hb5.block w4.heap.size (by simp)).trans (heap_alloc_new w4 _))
          obtain ⟨k0, k1, k2, k3, k4, k5⟩ := row6 R9.out
          have z9 := row_lt R9.out
          clear hb5
          go_wp2_with fail
          have hrc := reach_any B j d l cl (w5.alloc (.cells #[.int .i64 pr.1, .int .i64 pr.2.1, .int .i64 pr.2.2.1, .int .i64 pr.2.2.2.1, .int .i64 pr.2.2.2.2.1, .int .i64 pr.2.2.2.2.2] 31)) (HL.out.below (balloc HB5.out _)) (by omega)
          with_reducible refine hrc.mono ?_
          clear hrc k0 k1 k2 k3 k4 k5 z9
          rintro e w6 ⟨_, rfl, ⟨A6, n6, c6, rfl, hr6⟩, hb6⟩
          have HB6 := Lib.hid (bstep (balloc HB5.out _) hb6)
          have HR6 := Lib.hid hr6
          clear hb6 hr6
          go_wp2_with fail
          have hrc := rreach_any B j d l cl w6 (HL.out.below HB6.out) (by omega)
          with_reducible refine hrc.mono ?_
          clear hrc
          rintro e w7 ⟨_, rfl, ⟨A7, n7, c7, rfl, hr7⟩, hb7⟩
          have HB7 := Lib.hid (bstep HB6.out hb7)
          have HR7 := Lib.hid hr7
          have HR6a := Lib.hid (HR6.out.below hb7)
          clear hb7 hr7
          go_wp2_with fail
          have hsm := rsame_any A6 n6 c6 A7 n7 c7 (reachL cl l) w7 HR6a.out HR7.out
          with_reducible refine hsm.mono ?_
          clear hsm
          rintro e w8 ⟨_, rfl, rfl, hb8⟩
          go_wp2
          go_ret
          exact ⟨rfl, bstep HB7.out hb8⟩
end Go.Proofs.Ytmlhbmlppgoklab
