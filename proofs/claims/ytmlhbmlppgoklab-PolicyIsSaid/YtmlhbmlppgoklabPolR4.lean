/- The walks of the reference of layer 10: what is picked, what can be come to, the same. -/
import Derived.Test.YtmlhbmlppgoklabPolR3
namespace Go.Proofs.Ytmlhbmlppgoklab
open Go.RowKit
set_option maxHeartbeats 4000000
set_option linter.unusedVariables false
set_option linter.unusedSimpArgs false

theorem rpick_any (B : Option Addr) (m d : Nat) (l : List Rul) (v : Vw) (A : Option Addr) (n c : Nat) (w : World) (hl : RdR w B m d l) (h : RdI w A n c v.as) :
    Calls Try.prog 16 #[.slice B m d, .agg #[.int .i64 v.a, .int .i64 v.n, .slice A n c, .int .i64 v.cl]] w (Ret (Just (pickV (pickL l v))) w) := by
  have hlen := hl.len
  have hmx := hl.max
  have hle := hl.le
  unfold maxLen at hmx
  have HL := Lib.hid hl
  have HR := Lib.hid h
  obtain ⟨va, vn, us, vc⟩ := v
  clear hl h
  go_enter Try.func16, Try.ntmps16
  go_wp2_with fail
  have hb := balloc (bnew w (.cells #[.int .i64 va, .int .i64 vn, .slice A n c, .int .i64 vc] 27)) (.cells #[.int .i64 0, .int .i64 0, .int .i64 0, .int .i64 0, .int .i64 0, .int .i64 0] 31)
  have R1 := Lib.hid (heap_alloc2_old w (.cells #[.int .i64 va, .int .i64 vn, .slice A n c, .int .i64 vc] 27) (.cells #[.int .i64 0, .int .i64 0, .int .i64 0, .int .i64 0, .int .i64 0, .int .i64 0] 31))
  have R2 := Lib.hid (heap_alloc2_new w (.cells #[.int .i64 va, .int .i64 vn, .slice A n c, .int .i64 vc] 27) (.cells #[.int .i64 0, .int .i64 0, .int .i64 0, .int .i64 0, .int .i64 0, .int .i64 0] 31))
  generalize ((w.alloc (.cells #[.int .i64 va, .int .i64 vn, .slice A n c, .int .i64 vc] 27)).alloc (.cells #[.int .i64 0, .int .i64 0, .int .i64 0, .int .i64 0, .int .i64 0, .int .i64 0] 31)) = W0 at *
  have HB := Lib.hid hb
  clear hb
  go_loopw [6] (fun i wr => ∃ j : Nat, j ≤ m ∧ i = .int .i64 j ∧ (∀ k, ∀ h : k < l.length, k < j → fitsB l[k] ⟨va, vn, us, vc⟩ = false) ∧ Below W0.heap.size W0 wr) (fun i _ => m - (intOf i).toNat)
  case atStart => exact ⟨0, by omega, rfl, fun k _ hk => absurd hk (by omega), Below.refl _ _⟩
  case round =>
    obtain ⟨j, hj, rfl, hno, hbr⟩ := hrel
    have HN := Lib.hid hno
    have HBR := Lib.hid hbr
    clear hno hbr
    by_cases hlt : j < m
    · have hjl : j < l.length := by omega
      obtain ⟨b, o, rfl, hbl, c0, c1, c2, c3, c4, c5⟩ := (HL.out.below (bstep HB.out HBR.out)).at_ hjl
      obtain ⟨r, hr⟩ : ∃ r, l[j] = r := ⟨_, rfl⟩
      rw [hr] at c0 c1 c2 c3 c4 c5
      have HRR := Lib.hid hr
      clear hr
      have hlt' : (j : Int) < m := by omega
      obtain ⟨F, hF⟩ : ∃ F, fitsB r ⟨va, vn, us, vc⟩ = F := ⟨_, rfl⟩
      have HF := Lib.hid hF
      clear hF
      have f0 : ∀ W, Below wr.heap.size wr W → W.cell? ⟨b, o + j * 6, none⟩ = some (.int .i64 r.1) := fun W hC => (hC.cell (p := ⟨b, o + j * 6, none⟩) hbl).trans c0
      have f1 : ∀ W, Below wr.heap.size wr W → W.cell? ⟨b, o + j * 6 + 1, none⟩ = some (.int .i64 r.2.1) := fun W hC => (hC.cell (p := ⟨b, o + j * 6 + 1, none⟩) hbl).trans c1
      have f2 : ∀ W, Below wr.heap.size wr W → W.cell? ⟨b, o + j * 6 + 2, none⟩ = some (.int .i64 r.2.2.1) := fun W hC => (hC.cell (p := ⟨b, o + j * 6 + 2, none⟩) hbl).trans c2
      have f3 : ∀ W, Below wr.heap.size wr W → W.cell? ⟨b, o + j * 6 + 3, none⟩ = some (.int .i64 r.2.2.2.1) := fun W hC => (hC.cell (p := ⟨b, o + j * 6 + 3, none⟩) hbl).trans c3
      have f4 : ∀ W, Below wr.heap.size wr W → W.cell? ⟨b, o + j * 6 + 4, none⟩ = some (.int .i64 r.2.2.2.2.1) := fun W hC => (hC.cell (p := ⟨b, o + j * 6 + 4, none⟩) hbl).trans c4
      have f5 : ∀ W, Below wr.heap.size wr W → W.cell? ⟨b, o + j * 6 + 5, none⟩ = some (.int .i64 r.2.2.2.2.2) := fun W hC => (hC.cell (p := ⟨b, o + j * 6 + 5, none⟩) hbl).trans c5
      clear c0 c1 c2 c3 c4 c5
      go_wp2_with fail
      refine wp_region_rel (by kernel_rfl) (by decide +kernel) (by rfl) ?_
      repeat (first
        | (refine rel_skip ⟨_, _, _, _, rfl, rfl, rfl, ?_⟩ ?_
           focus (intro h; cases h; done))
        | refine rel_move _ (Just _) (.inl rfl) (by first | exact .inl rfl | exact .inr ⟨_, _, _, rfl, rfl, rfl⟩) rfl (lasts_just _) ?_
        | refine rel_move _ (Just _) (.inr rfl) (by first | exact .inl rfl | exact .inr ⟨_, _, _, rfl, rfl, rfl⟩) rfl (lasts_just _) ?_
        | refine rel_moveC _ (.inl rfl) (by first | exact .inl rfl | exact .inr ⟨_, _, _, rfl, rfl, rfl⟩) ?_
        | refine rel_moveC _ (.inr rfl) (by first | exact .inl rfl | exact .inr ⟨_, _, _, rfl, rfl, rfl⟩) ?_
        | refine rel_str _ _ rfl (by first | exact .inl rfl | exact .inr ⟨_, _, _, rfl, rfl, rfl⟩) rfl ?_
        | refine rel_lenB _ _ rfl (by first | exact .inl rfl | exact .inr ⟨_, _, _, rfl, rfl, rfl⟩) rfl ?_
        | refine rel_move _ (IsB _) (.inl rfl) (by first | exact .inl rfl | exact .inr ⟨_, _, _, rfl, rfl, rfl⟩) rfl (lasts_isB _) ?_
        | refine rel_move _ (IsB _) (.inr rfl) (by first | exact .inl rfl | exact .inr ⟨_, _, _, rfl, rfl, rfl⟩) rfl (lasts_isB _) ?_
        | (refine rel_exact ?_ (by first | exact .inl rfl | exact .inr ⟨_, _, _, rfl, rfl, rfl⟩) ?_ ?_
           rotate_left
           (intro ρ W hρ hC hk
            simp [known, looks, Op.operands, Call.operands, slotFact, Just, List.lookup] at hk
            obtain ⟨hρ1, hρ2, hρ3⟩ := hρ
            go_simp
            rfl)))
      refine rel_loadRow 3 w.heap.size 27 27 #[.int .i64 va, .int .i64 vn, .slice A n c, .int .i64 vc] (0, 0) _ rfl (by first | exact .inl rfl | exact .inr ⟨_, _, _, rfl, rfl, rfl⟩) rfl Try.underlying27 rfl viewSize (fun W hC => row_to (bstep HBR.out hC) R1.out) ?_
      refine rel_op (Just (.bool (fitsB r ⟨va, vn, us, vc⟩))) (lasts_just _) (by first | exact .inl rfl | exact .inr ⟨_, _, _, rfl, rfl, rfl⟩) ?_ ?_
      · intro ρ W hρ hC hk
        simp [known, looks, Op.operands, Call.operands, slotFact, Just, List.lookup] at hk
        obtain ⟨hρ1, hρ2, hρ3⟩ := hρ
        go_simp
        exact ⟨Below.refl _ _, rfitsx r va vn vc us A n c W (HR.out.below (bstep (bstep HB.out HBR.out) hC))⟩
      rw [HF.out]
      repeat (first
        | (refine rel_skip ⟨_, _, _, _, rfl, rfl, rfl, ?_⟩ ?_
           focus (intro h; cases h; done))
        | refine rel_move _ (Just _) (.inl rfl) (by first | exact .inl rfl | exact .inr ⟨_, _, _, rfl, rfl, rfl⟩) rfl (lasts_just _) ?_
        | refine rel_move _ (Just _) (.inr rfl) (by first | exact .inl rfl | exact .inr ⟨_, _, _, rfl, rfl, rfl⟩) rfl (lasts_just _) ?_
        | refine rel_moveC _ (.inl rfl) (by first | exact .inl rfl | exact .inr ⟨_, _, _, rfl, rfl, rfl⟩) ?_
        | refine rel_moveC _ (.inr rfl) (by first | exact .inl rfl | exact .inr ⟨_, _, _, rfl, rfl, rfl⟩) ?_
        | refine rel_str _ _ rfl (by first | exact .inl rfl | exact .inr ⟨_, _, _, rfl, rfl, rfl⟩) rfl ?_
        | refine rel_lenB _ _ rfl (by first | exact .inl rfl | exact .inr ⟨_, _, _, rfl, rfl, rfl⟩) rfl ?_
        | refine rel_move _ (IsB _) (.inl rfl) (by first | exact .inl rfl | exact .inr ⟨_, _, _, rfl, rfl, rfl⟩) rfl (lasts_isB _) ?_
        | refine rel_move _ (IsB _) (.inr rfl) (by first | exact .inl rfl | exact .inr ⟨_, _, _, rfl, rfl, rfl⟩) rfl (lasts_isB _) ?_
        | (refine rel_exact ?_ (by first | exact .inl rfl | exact .inr ⟨_, _, _, rfl, rfl, rfl⟩) ?_ ?_
           rotate_left
           (intro ρ W hρ hC hk
            simp [known, looks, Op.operands, Call.operands, slotFact, Just, List.lookup] at hk
            obtain ⟨hρ1, hρ2, hρ3⟩ := hρ
            go_simp
            rfl)))
      cases F
      · refine rel_nil ?_
        intro a W hC hd hsz ht
        refine fin_exit hsz hd ht (of_decide_eq_true (by kernel_rfl)) ?_
        repeat (first
          | refine fin_just ?_
          | (intro _ _))
        refine fin_nil ?_
        simp only [Act.put, Option.getD_some, List.setIfInBounds_toArray, List.set_cons_zero, List.set_cons_succ]
        clear hd hsz ht
        clear f0 f1 f2 f3 f4 f5
        go_wp2
        go_roundw
        case rel => exact ⟨j + 1, by omega, by go_num, fun k hk hkj => by
          by_cases e : k = j
          · subst e
            rw [HRR.out]
            exact HF.out
          · exact HN.out k hk (by omega), bstep HBR.out hC⟩
        case measure => simp [intOf]; omega
      · refine rel_nil ?_
        intro a W hC hd hsz ht
        refine fin_exit hsz hd ht (of_decide_eq_true (by kernel_rfl)) ?_
        repeat (first
          | refine fin_just ?_
          | (intro _ _))
        refine fin_nil ?_
        simp only [Act.put, Option.getD_some, List.setIfInBounds_toArray, List.set_cons_zero, List.set_cons_succ]
        clear hd hsz ht
        have k0 := f0 W hC
        have k1 := f1 W hC
        have k2 := f2 W hC
        have k3 := f3 W hC
        have k4 := f4 W hC
        have k5 := f5 W hC
        have R2' := Lib.hid (row_to (bstep HBR.out hC) R2.out)
        have HCC := Lib.hid hC
        clear f0 f1 f2 f3 f4 f5 hC
        go_wp2_with (refine wpList_store_row rfl 31 _ _ rfl (w.heap.size + 1) #[.int .i64 r.1, .int .i64 r.2.1, .int .i64 r.2.2.1, .int .i64 r.2.2.2.1, .int .i64 r.2.2.2.2.1, .int .i64 r.2.2.2.2.2] rfl rfl 31 #[.int .i64 0, .int .i64 0, .int .i64 0, .int .i64 0, .int .i64 0, .int .i64 0] R2'.out ruleSize rfl (by simp [Value.oneCell']) ?_)
        have hrow := setRow_heap W (w.heap.size + 1) _ #[.int .i64 r.1, .int .i64 r.2.1, .int .i64 r.2.2.1, .int .i64 r.2.2.2.1, .int .i64 r.2.2.2.2.1, .int .i64 r.2.2.2.2.2] _ _ R2'.out
        refine bodyPost_ret (results_ct rfl _ _ (w.heap.size + 1) _ _ _ _ _ rfl rfl hrow Try.underlying31 rfl ruleSize) rfl ⟨_, rfl, ?_, below_setRow (bstep HB.out (bstep HBR.out HCC.out)) (by omega) _⟩
        have hpk := pickL_hit (v := ⟨va, vn, us, vc⟩) hjl (fun k hk => HN.out k (by omega) hk) (by rw [HRR.out]; exact HF.out)
        rw [hpk, HRR.out]
        rfl
    · obtain rfl : j = m := by omega
      have R2' := Lib.hid (row_to HBR.out R2.out)
      go_wp2_with (refine wpList_store_row rfl 31 _ _ rfl (w.heap.size + 1) #[.int .i64 0, .int .i64 0, .int .i64 0, .int .i64 0, .int .i64 0, .int .i64 0] rfl rfl 31 #[.int .i64 0, .int .i64 0, .int .i64 0, .int .i64 0, .int .i64 0, .int .i64 0] R2'.out ruleSize rfl (by simp [Value.oneCell']) ?_)
      have hrow := setRow_heap wr (w.heap.size + 1) _ #[.int .i64 0, .int .i64 0, .int .i64 0, .int .i64 0, .int .i64 0, .int .i64 0] _ _ R2'.out
      refine bodyPost_ret (results_ct rfl _ _ (w.heap.size + 1) _ _ _ _ _ rfl rfl hrow Try.underlying31 rfl ruleSize) rfl ⟨_, rfl, ?_, below_setRow (bstep HB.out HBR.out) (by omega) _⟩
      rw [pickL_none (v := ⟨va, vn, us, vc⟩) (fun k hk => HN.out k hk (by omega))]
      rfl

theorem rsame_any (A : Option Addr) (n c : Nat) (B : Option Addr) (m d : Nat) (l : List Rul) (w : World) (h : RdR w A n c l) (k : RdR w B m d l) :
    Calls Try.prog 17 #[.slice A n c, .slice B m d] w (Ret (Just (.bool true)) w) := by
  have hlen := h.len
  have hlen2 := k.len
  have hmx := h.max
  have hle := h.le
  have hle2 := k.le
  unfold maxLen at hmx
  have H1 := Lib.hid h
  have H2 := Lib.hid k
  obtain rfl : n = m := by omega
  clear h k
  go_enter Try.func17, Try.ntmps17
  go_wp2
  go_loopw [5] (fun i wr => ∃ j : Nat, j ≤ n ∧ i = .int .i64 j ∧ Below w.heap.size w wr) (fun i _ => n - (intOf i).toNat)
  case atStart => exact ⟨0, by omega, rfl, Below.refl _ _⟩
  case round =>
    obtain ⟨j, hj, rfl, hbr⟩ := hrel
    have HBR := Lib.hid hbr
    clear hbr
    by_cases hlt : j < n
    · have hjl : j < l.length := by omega
      obtain ⟨b, o, rfl, hbl, c0, c1, c2, c3, c4, c5⟩ := (H1.out.below HBR.out).at_ hjl
      obtain ⟨b', o', rfl, hbl', e0, e1, e2, e3, e4, e5⟩ := (H2.out.below HBR.out).at_ hjl
      obtain ⟨r, hr⟩ : ∃ r, l[j] = r := ⟨_, rfl⟩
      rw [hr] at c0 c1 c2 c3 c4 c5 e0 e1 e2 e3 e4 e5
      have hlt' : (j : Int) < n := by omega
      clear hr
      have f0 : ∀ W, Below wr.heap.size wr W → W.cell? ⟨b, o + j * 6, none⟩ = some (.int .i64 r.1) := fun W hC => (hC.cell (p := ⟨b, o + j * 6, none⟩) hbl).trans c0
      have f1 : ∀ W, Below wr.heap.size wr W → W.cell? ⟨b, o + j * 6 + 1, none⟩ = some (.int .i64 r.2.1) := fun W hC => (hC.cell (p := ⟨b, o + j * 6 + 1, none⟩) hbl).trans c1
      have f2 : ∀ W, Below wr.heap.size wr W → W.cell? ⟨b, o + j * 6 + 2, none⟩ = some (.int .i64 r.2.2.1) := fun W hC => (hC.cell (p := ⟨b, o + j * 6 + 2, none⟩) hbl).trans c2
      have f3 : ∀ W, Below wr.heap.size wr W → W.cell? ⟨b, o + j * 6 + 3, none⟩ = some (.int .i64 r.2.2.2.1) := fun W hC => (hC.cell (p := ⟨b, o + j * 6 + 3, none⟩) hbl).trans c3
      have f4 : ∀ W, Below wr.heap.size wr W → W.cell? ⟨b, o + j * 6 + 4, none⟩ = some (.int .i64 r.2.2.2.2.1) := fun W hC => (hC.cell (p := ⟨b, o + j * 6 + 4, none⟩) hbl).trans c4
      have f5 : ∀ W, Below wr.heap.size wr W → W.cell? ⟨b, o + j * 6 + 5, none⟩ = some (.int .i64 r.2.2.2.2.2) := fun W hC => (hC.cell (p := ⟨b, o + j * 6 + 5, none⟩) hbl).trans c5
      have g0 : ∀ W, Below wr.heap.size wr W → W.cell? ⟨b', o' + j * 6, none⟩ = some (.int .i64 r.1) := fun W hC => (hC.cell (p := ⟨b', o' + j * 6, none⟩) hbl').trans e0
      have g1 : ∀ W, Below wr.heap.size wr W → W.cell? ⟨b', o' + j * 6 + 1, none⟩ = some (.int .i64 r.2.1) := fun W hC => (hC.cell (p := ⟨b', o' + j * 6 + 1, none⟩) hbl').trans e1
      have g2 : ∀ W, Below wr.heap.size wr W → W.cell? ⟨b', o' + j * 6 + 2, none⟩ = some (.int .i64 r.2.2.1) := fun W hC => (hC.cell (p := ⟨b', o' + j * 6 + 2, none⟩) hbl').trans e2
      have g3 : ∀ W, Below wr.heap.size wr W → W.cell? ⟨b', o' + j * 6 + 3, none⟩ = some (.int .i64 r.2.2.2.1) := fun W hC => (hC.cell (p := ⟨b', o' + j * 6 + 3, none⟩) hbl').trans e3
      have g4 : ∀ W, Below wr.heap.size wr W → W.cell? ⟨b', o' + j * 6 + 4, none⟩ = some (.int .i64 r.2.2.2.2.1) := fun W hC => (hC.cell (p := ⟨b', o' + j * 6 + 4, none⟩) hbl').trans e4
      have g5 : ∀ W, Below wr.heap.size wr W → W.cell? ⟨b', o' + j * 6 + 5, none⟩ = some (.int .i64 r.2.2.2.2.2) := fun W hC => (hC.cell (p := ⟨b', o' + j * 6 + 5, none⟩) hbl').trans e5
      clear c0 c1 c2 c3 c4 c5 e0 e1 e2 e3 e4 e5
      go_wp2_with fail
      refine wp_region_rel (by kernel_rfl) (by decide +kernel) (by rfl) ?_
      repeat (first
        | (refine rel_skip ⟨_, _, _, _, rfl, rfl, rfl, ?_⟩ ?_
           focus (intro h; cases h; done))
        | refine rel_move _ (Just _) (.inl rfl) (by first | exact .inl rfl | exact .inr ⟨_, _, _, rfl, rfl, rfl⟩) rfl (lasts_just _) ?_
        | refine rel_move _ (Just _) (.inr rfl) (by first | exact .inl rfl | exact .inr ⟨_, _, _, rfl, rfl, rfl⟩) rfl (lasts_just _) ?_
        | refine rel_moveC _ (.inl rfl) (by first | exact .inl rfl | exact .inr ⟨_, _, _, rfl, rfl, rfl⟩) ?_
        | refine rel_moveC _ (.inr rfl) (by first | exact .inl rfl | exact .inr ⟨_, _, _, rfl, rfl, rfl⟩) ?_
        | refine rel_str _ _ rfl (by first | exact .inl rfl | exact .inr ⟨_, _, _, rfl, rfl, rfl⟩) rfl ?_
        | refine rel_lenB _ _ rfl (by first | exact .inl rfl | exact .inr ⟨_, _, _, rfl, rfl, rfl⟩) rfl ?_
        | refine rel_move _ (IsB _) (.inl rfl) (by first | exact .inl rfl | exact .inr ⟨_, _, _, rfl, rfl, rfl⟩) rfl (lasts_isB _) ?_
        | refine rel_move _ (IsB _) (.inr rfl) (by first | exact .inl rfl | exact .inr ⟨_, _, _, rfl, rfl, rfl⟩) rfl (lasts_isB _) ?_
        | (refine rel_exact ?_ (by first | exact .inl rfl | exact .inr ⟨_, _, _, rfl, rfl, rfl⟩) ?_ ?_
           rotate_left
           (intro ρ W hρ hC hk
            simp [known, looks, Op.operands, Call.operands, slotFact, Just, List.lookup] at hk
            obtain ⟨hρ1, hρ2, hρ3⟩ := hρ
            go_simp
            rfl)))
      refine rel_nil ?_
      intro a W hC hd hsz ht
      refine fin_exit hsz hd ht (of_decide_eq_true (by kernel_rfl)) ?_
      repeat (first
        | refine fin_just ?_
        | (intro _ _))
      refine fin_nil ?_
      simp only [Act.put, Option.getD_some, List.setIfInBounds_toArray, List.set_cons_zero, List.set_cons_succ]
      clear hd hsz ht
      clear f0 f1 f2 f3 f4 f5 g0 g1 g2 g3 g4 g5
      go_wp2
      go_roundw
      case rel => exact ⟨j + 1, by omega, by go_num, bstep HBR.out hC⟩
      case measure => simp [intOf]; omega
    · obtain rfl : j = n := by omega
      go_wp2
      go_ret
      exact ⟨_, rfl, rfl, HBR.out⟩
end Go.Proofs.Ytmlhbmlppgoklab
