/- Slices of routes; the walks of slices.MinFunc at routes and of route.Best. -/
import Derived.Test.YtmlhbmlppgoklacRou4
namespace Go.Proofs.Ytmlhbmlppgoklac
open Go.RowKit
set_option maxHeartbeats 4000000
set_option maxRecDepth 100000
set_option linter.unusedVariables false
set_option linter.unusedSimpArgs false

/-- A route, and where its path lies. -/
structure Rv where
  r : Rt
  A : Option Addr
  n : Nat
  c : Nat
def rvV (x : Rv) : List Value := [.int .i64 x.r.pref, .int .i64 x.r.origin, .slice x.A x.n x.c, .int .i64 x.r.hop, .int .i64 x.r.otc, .int .i64 x.r.frm]
def rvsV (l : List Rv) : List Value := l.flatMap rvV
theorem rvsV_length (l : List Rv) : (rvsV l).length = l.length * 6 := by
  induction l with
  | nil => rfl
  | cons r l ih => simp [rvsV, rvV] at ih ⊢; omega
theorem rvsV_at : ∀ (l : List Rv) (j : Nat) (hj : j < l.length) (i : Nat) (hi : i < 6), (rvsV l)[j * 6 + i]? = (rvV l[j])[i]?
  | r :: l, 0, _, i, hi => by
    show (rvV r ++ rvsV l)[0 * 6 + i]? = _
    rw [Nat.zero_mul, Nat.zero_add, List.getElem?_append_left (by simpa [rvV] using hi)]
    rfl
  | r :: l, j + 1, hj, i, hi => by
    show (rvV r ++ rvsV l)[(j + 1) * 6 + i]? = _
    rw [List.getElem?_append_right (by simp [rvV]; omega)]
    have := rvsV_at l j (by simpa using hj) i hi
    rw [show (j + 1) * 6 + i - (rvV r).length = j * 6 + i by simp [rvV]; omega, this]
    rfl
/-- A slice of routes. -/
structure RdT (w : World) (A : Option Addr) (n c : Nat) (l : List Rv) : Prop where
  len : l.length = n
  le : n ≤ c
  max : c ≤ maxLen
  lies : Lies w A (rvsV l)
  each : ∀ x ∈ l, RdI w x.A x.n x.c x.r.as
theorem RdT.below {w w' : World} {n c : Nat} {A : Option Addr} {l : List Rv} (h : RdT w A n c l) (hb : Below w.heap.size w w') : RdT w' A n c l := ⟨h.len, h.le, h.max, h.lies.below hb, fun x hx => (h.each x hx).below hb⟩
theorem RdT.at_ {w : World} {n c : Nat} {A : Option Addr} {l : List Rv} (h : RdT w A n c l) {j : Nat} (hj : j < l.length) : ∃ b o, A = some ⟨b, o, none⟩ ∧ b < w.heap.size ∧
    w.cell? ⟨b, o + j * 6, none⟩ = some (.int .i64 l[j].r.pref) ∧ w.cell? ⟨b, o + j * 6 + 1, none⟩ = some (.int .i64 l[j].r.origin) ∧ w.cell? ⟨b, o + j * 6 + 2, none⟩ = some (.slice l[j].A l[j].n l[j].c) ∧
    w.cell? ⟨b, o + j * 6 + 3, none⟩ = some (.int .i64 l[j].r.hop) ∧ w.cell? ⟨b, o + j * 6 + 4, none⟩ = some (.int .i64 l[j].r.otc) ∧ w.cell? ⟨b, o + j * 6 + 5, none⟩ = some (.int .i64 l[j].r.frm) := by
  have hl := rvsV_length l
  rcases h.lies with h1 | ⟨b, o, hA, hc⟩
  · rw [h1] at hl
    simp at hl
    omega
  · have key : ∀ i, ∀ hi : i < 6, w.cell? ⟨b, o + (j * 6 + i), none⟩ = (rvV l[j])[i]? := fun i hi => by
      have h2 : j * 6 + i < (rvsV l).length := by omega
      rw [hc _ h2, ← List.getElem?_eq_getElem h2, rvsV_at l j hj i hi]
    have k0 := key 0 (by omega)
    refine ⟨b, o, hA, World.block_lt_of_cell? _ _ k0, k0, ?_, ?_, ?_, ?_, ?_⟩
    · exact key 1 (by omega)
    · exact key 2 (by omega)
    · exact key 3 (by omega)
    · exact key 4 (by omega)
    · exact key 5 (by omega)
theorem row6 {w : World} {g : Nat} {t : TypeId} {a b c d e f : Value} (h : w.heap[g]? = some (.cells #[a, b, c, d, e, f] t (0, 0))) :
    w.cell? ⟨g, 0, none⟩ = some a ∧ w.cell? ⟨g, 1, none⟩ = some b ∧ w.cell? ⟨g, 2, none⟩ = some c ∧ w.cell? ⟨g, 3, none⟩ = some d ∧ w.cell? ⟨g, 4, none⟩ = some e ∧ w.cell? ⟨g, 5, none⟩ = some f := by
  refine ⟨?_, ?_, ?_, ?_, ?_, ?_⟩ <;> simp [World.cell?, h]
theorem fresh_row {w : World} {g : Nat} {o : Obj} (h : w.heap[g]? = some o) (O : Obj) : (w.alloc O).heap[g]? = some o := (heap_alloc_old w O (row_lt h)).trans h

/-- The first of the best ones. -/
def bestV (x : Rv) (l : List Rv) : Rv := l.foldl (fun m y => if compareR y.r m.r < 0 then y else m) x
theorem bestV_snoc (x : Rv) (l : List Rv) (y : Rv) : bestV x (l ++ [y]) = if compareR y.r (bestV x l).r < 0 then y else bestV x l := by
  unfold bestV
  rw [List.foldl_append]
  rfl
theorem bestV_mem (x : Rv) (l : List Rv) : bestV x l ∈ x :: l := by
  induction l using snoc_ind with
  | h0 => simp [bestV]
  | h1 l y ih =>
    rw [bestV_snoc]
    split
    · simp
    · rcases List.mem_cons.1 ih with h | h
      · rw [h]; simp
      · simp [h]
theorem bestV_r (x : Rv) (l : List Rv) : (bestV x l).r = bestF x.r (l.map Rv.r) := by
  induction l using snoc_ind with
  | h0 => rfl
  | h1 l y ih =>
    rw [bestV_snoc, List.map_append, List.map_singleton, bestF_snoc, ← ih]
    split <;> rfl
theorem take_snoc (x : Rv) (t : List Rv) (j : Nat) (h : j < t.length) : bestV x (t.take (j + 1)) = if compareR t[j].r (bestV x (t.take j)).r < 0 then t[j] else bestV x (t.take j) := by
  rw [List.take_succ_eq_append_getElem h, bestV_snoc]

theorem min_any (A : Option Addr) (n c : Nat) (x : Rv) (t : List Rv) (w : World) (h : RdT w A n c (x :: t)) (hn : n ≤ 100000) :
    Calls Try.prog 31 #[.slice A n c, .func (.func 10) #[] #[]] w (Ret (Just (.agg #[.int .i64 (bestV x t).r.pref, .int .i64 (bestV x t).r.origin, .slice (bestV x t).A (bestV x t).n (bestV x t).c, .int .i64 (bestV x t).r.hop, .int .i64 (bestV x t).r.otc, .int .i64 (bestV x t).r.frm])) w) := by
  have hlen := h.len
  simp only [List.length_cons] at hlen
  have hle := h.le
  have H := Lib.hid h
  clear h
  obtain ⟨b0, o0, hA0, hbl0, c0, c1, c2, c3, c4, c5⟩ := H.out.at_ (j := 0) (by simp)
  simp only [List.getElem_cons_zero, Nat.zero_mul, Nat.add_zero] at c0 c1 c2 c3 c4 c5
  subst hA0
  have hn1 : ¬ (n : Int) < 1 := by omega
  have hn0 : (0 : Int) < n := by omega
  go_enter Try.func31, Try.ntmps31
  go_wp2_with fail
  have hb := balloc (bnew w (.cells #[.int .i64 0, .int .i64 0, .slice none 0 0, .int .i64 0, .int .i64 0, .int .i64 0] 27)) (.cells #[.int .i64 x.r.pref, .int .i64 x.r.origin, .slice x.A x.n x.c, .int .i64 x.r.hop, .int .i64 x.r.otc, .int .i64 x.r.frm] 27)
  have R0 := heap_alloc2_old w (.cells #[.int .i64 0, .int .i64 0, .slice none 0 0, .int .i64 0, .int .i64 0, .int .i64 0] 27) (.cells #[.int .i64 x.r.pref, .int .i64 x.r.origin, .slice x.A x.n x.c, .int .i64 x.r.hop, .int .i64 x.r.otc, .int .i64 x.r.frm] 27)
  have R1 := heap_alloc2_new w (.cells #[.int .i64 0, .int .i64 0, .slice none 0 0, .int .i64 0, .int .i64 0, .int .i64 0] 27) (.cells #[.int .i64 x.r.pref, .int .i64 x.r.origin, .slice x.A x.n x.c, .int .i64 x.r.hop, .int .i64 x.r.otc, .int .i64 x.r.frm] 27)
  generalize ((w.alloc (.cells #[.int .i64 0, .int .i64 0, .slice none 0 0, .int .i64 0, .int .i64 0, .int .i64 0] 27)).alloc (.cells #[.int .i64 x.r.pref, .int .i64 x.r.origin, .slice x.A x.n x.c, .int .i64 x.r.hop, .int .i64 x.r.otc, .int .i64 x.r.frm] 27)) = W0 at *
  have HB := Lib.hid hb
  have HR0 := Lib.hid R0
  have HR1 := Lib.hid R1
  clear hb R0 R1 c0 c1 c2 c3 c4 c5
  go_loopw [6] (fun i wr => ∃ j : Nat, j + 1 ≤ n ∧ i = .int .i64 ((j + 1 : Nat) : Int) ∧ (∃ y, y = bestV x (t.take j) ∧ wr.heap[w.heap.size + 1]? = some (.cells #[.int .i64 y.r.pref, .int .i64 y.r.origin, .slice y.A y.n y.c, .int .i64 y.r.hop, .int .i64 y.r.otc, .int .i64 y.r.frm] 27 (0, 0))) ∧ wr.heap[w.heap.size]? = some (.cells #[.int .i64 0, .int .i64 0, .slice none 0 0, .int .i64 0, .int .i64 0, .int .i64 0] 27 (0, 0)) ∧ Below w.heap.size w wr) (fun i _ => n - (intOf i).toNat)
  case atStart => exact ⟨0, by omega, rfl, ⟨x, rfl, HR1.out⟩, HR0.out, HB.out⟩
  case round =>
    obtain ⟨j, hj, rfl, ⟨y, hy, hr1⟩, hr0, hbr⟩ := hrel
    have HY := Lib.hid hy
    have HQ1 := Lib.hid hr1
    have HQ0 := Lib.hid hr0
    have HBR := Lib.hid hbr
    have hyw : RdI w y.A y.n y.c y.r.as := H.out.each y (by
      rw [hy]
      rcases List.mem_cons.1 (bestV_mem x (t.take j)) with h1 | h1
      · rw [h1]; simp
      · exact List.mem_cons_of_mem _ (List.mem_of_mem_take h1))
    have HYW := Lib.hid hyw
    clear hy hr1 hr0 hbr hyw
    by_cases hlt : j + 1 < n
    · have hjl : j < t.length := by omega
      have hjl2 : j + 1 < (x :: t).length := by simp; omega
      obtain ⟨b, o, hAA, hbl, c0, c1, c2, c3, c4, c5⟩ := (H.out.below HBR.out).at_ hjl2
      injection hAA with hAA
      injection hAA with e1 e2
      subst e1 e2
      simp only [List.getElem_cons_succ] at c0 c1 c2 c3 c4 c5
      have HTS := Lib.hid (take_snoc x t j hjl)
      have hzw : RdI w t[j].A t[j].n t[j].c t[j].r.as := H.out.each t[j] (List.mem_cons_of_mem _ (List.getElem_mem _))
      obtain ⟨z, hz⟩ : ∃ z, t[j] = z := ⟨_, rfl⟩
      rw [hz] at c0 c1 c2 c3 c4 c5 HTS hzw
      rw [← HY.out] at HTS
      have HZW := Lib.hid hzw
      obtain ⟨q, hq⟩ : ∃ q : Nat, j + 1 = q := ⟨_, rfl⟩
      have HQ := Lib.hid hq
      rw [hq] at c0 c1 c2 c3 c4 c5 hlt hj HTS
      rw [HQ.out]
      have hlt' : (q : Int) < n := by omega
      have hq1 : 1 ≤ q := by omega
      obtain ⟨C, hC⟩ : ∃ C, compareR z.r y.r = C := ⟨_, rfl⟩
      have HC := Lib.hid hC
      rw [hC] at HTS
      obtain ⟨D, hD⟩ : ∃ D, decide (C < 0) = D := ⟨_, rfl⟩
      have HD := Lib.hid hD
      clear hz hq hC hzw
      have f0 : ∀ W, Below wr.heap.size wr W → W.cell? ⟨b0, o0 + q * 6, none⟩ = some (.int .i64 z.r.pref) := fun W hC => (hC.cell (p := ⟨b0, o0 + q * 6, none⟩) hbl).trans c0
      have f1 : ∀ W, Below wr.heap.size wr W → W.cell? ⟨b0, o0 + q * 6 + 1, none⟩ = some (.int .i64 z.r.origin) := fun W hC => (hC.cell (p := ⟨b0, o0 + q * 6 + 1, none⟩) hbl).trans c1
      have f2 : ∀ W, Below wr.heap.size wr W → W.cell? ⟨b0, o0 + q * 6 + 2, none⟩ = some (.slice z.A z.n z.c) := fun W hC => (hC.cell (p := ⟨b0, o0 + q * 6 + 2, none⟩) hbl).trans c2
      have f3 : ∀ W, Below wr.heap.size wr W → W.cell? ⟨b0, o0 + q * 6 + 3, none⟩ = some (.int .i64 z.r.hop) := fun W hC => (hC.cell (p := ⟨b0, o0 + q * 6 + 3, none⟩) hbl).trans c3
      have f4 : ∀ W, Below wr.heap.size wr W → W.cell? ⟨b0, o0 + q * 6 + 4, none⟩ = some (.int .i64 z.r.otc) := fun W hC => (hC.cell (p := ⟨b0, o0 + q * 6 + 4, none⟩) hbl).trans c4
      have f5 : ∀ W, Below wr.heap.size wr W → W.cell? ⟨b0, o0 + q * 6 + 5, none⟩ = some (.int .i64 z.r.frm) := fun W hC => (hC.cell (p := ⟨b0, o0 + q * 6 + 5, none⟩) hbl).trans c5
      have g0 := fun W (hC : Below wr.heap.size wr W) => (row6 (row_to hC HQ1.out)).1
      have g1 := fun W (hC : Below wr.heap.size wr W) => (row6 (row_to hC HQ1.out)).2.1
      have g2 := fun W (hC : Below wr.heap.size wr W) => (row6 (row_to hC HQ1.out)).2.2.1
      have g3 := fun W (hC : Below wr.heap.size wr W) => (row6 (row_to hC HQ1.out)).2.2.2.1
      have g4 := fun W (hC : Below wr.heap.size wr W) => (row6 (row_to hC HQ1.out)).2.2.2.2.1
      have g5 := fun W (hC : Below wr.heap.size wr W) => (row6 (row_to hC HQ1.out)).2.2.2.2.2
      clear c0 c1 c2 c3 c4 c5
      go_wp2_with fail
      refine wp_region_rel (by kernel_rfl) (by decide +kernel) (by rfl) ?_
      repeat (first
        | (refine rel_skip ⟨_, _, _, _, rfl, rfl, rfl, ?_⟩ ?_
           focus (intro h; cases h; done))
        | refine rel_move _ (Just _) (.inl rfl) (by first | exact .inl rfl | exact .inr ⟨_, _, _, rfl, rfl, rfl⟩) rfl (lasts_just _) ?_
        | refine rel_move _ (Just _) (.inr rfl) (by first | exact .inl rfl | exact .inr ⟨_, _, _, rfl, rfl, rfl⟩) rfl (lasts_just _) ?_
        | refine rel_moveC _ (.inl rfl) (by first | exact .inl rfl | exact .inr ⟨_, _, _, rfl, rfl, rfl⟩) ?_
        | refine rel_moveC _ (.inr rfl) (by first | exact .inl rfl | exact .inr ⟨_, _, _, rfl, rfl, rfl⟩) ?_
        | refine rel_str _ _ rfl (by first | exact .inl rfl | exact .inr ⟨_, _, _, rfl, rfl, rfl⟩) rfl ?_
        | refine rel_lenB _ _ rfl (by first | exact .inl rfl | exact .inr ⟨_, _, _, rfl, rfl, rfl⟩) rfl ?_
        | refine rel_move _ (IsB _) (.inl rfl) (by first | exact .inl rfl | exact .inr ⟨_, _, _, rfl, rfl, rfl⟩) rfl (lasts_isB _) ?_
        | refine rel_move _ (IsB _) (.inr rfl) (by first | exact .inl rfl | exact .inr ⟨_, _, _, rfl, rfl, rfl⟩) rfl (lasts_isB _) ?_
        | (refine rel_exact ?_ (by first | exact .inl rfl | exact .inr ⟨_, _, _, rfl, rfl, rfl⟩) ?_ ?_
           rotate_left
           (intro ρ W hρ hC hk
            simp [known, looks, Op.operands, Call.operands, slotFact, Just, List.lookup] at hk
            obtain ⟨hρ1, hρ2, hρ3⟩ := hρ
            go_simp
            rfl)))
      refine rel_op (Just (.int .i64 (compareR z.r y.r))) (lasts_just _) (by first | exact .inl rfl | exact .inr ⟨_, _, _, rfl, rfl, rfl⟩) ?_ ?_
      · intro ρ W hρ hC hk
        simp [known, looks, Op.operands, Call.operands, slotFact, Just, List.lookup] at hk
        obtain ⟨hρ1, hρ2, hρ3⟩ := hρ
        go_simp
        exact ⟨Below.refl _ _, compare_any z.r y.r z.A z.n z.c y.A y.n y.c W (HZW.out.below (bstep HBR.out hC)) (HYW.out.below (bstep HBR.out hC))⟩
      rw [HC.out]
      repeat (first
        | (refine rel_skip ⟨_, _, _, _, rfl, rfl, rfl, ?_⟩ ?_
           focus (intro h; cases h; done))
        | refine rel_move _ (Just _) (.inl rfl) (by first | exact .inl rfl | exact .inr ⟨_, _, _, rfl, rfl, rfl⟩) rfl (lasts_just _) ?_
        | refine rel_move _ (Just _) (.inr rfl) (by first | exact .inl rfl | exact .inr ⟨_, _, _, rfl, rfl, rfl⟩) rfl (lasts_just _) ?_
        | refine rel_moveC _ (.inl rfl) (by first | exact .inl rfl | exact .inr ⟨_, _, _, rfl, rfl, rfl⟩) ?_
        | refine rel_moveC _ (.inr rfl) (by first | exact .inl rfl | exact .inr ⟨_, _, _, rfl, rfl, rfl⟩) ?_
        | refine rel_str _ _ rfl (by first | exact .inl rfl | exact .inr ⟨_, _, _, rfl, rfl, rfl⟩) rfl ?_
        | refine rel_lenB _ _ rfl (by first | exact .inl rfl | exact .inr ⟨_, _, _, rfl, rfl, rfl⟩) rfl ?_
        | refine rel_move _ (IsB _) (.inl rfl) (by first | exact .inl rfl | exact .inr ⟨_, _, _, rfl, rfl, rfl⟩) rfl (lasts_isB _) ?_
        | refine rel_move _ (IsB _) (.inr rfl) (by first | exact .inl rfl | exact .inr ⟨_, _, _, rfl, rfl, rfl⟩) rfl (lasts_isB _) ?_
        | (refine rel_exact ?_ (by first | exact .inl rfl | exact .inr ⟨_, _, _, rfl, rfl, rfl⟩) ?_ ?_
           rotate_left
           (intro ρ W hρ hC hk
            simp [known, looks, Op.operands, Call.operands, slotFact, Just, List.lookup] at hk
            obtain ⟨hρ1, hρ2, hρ3⟩ := hρ
            go_simp
            rfl)))
      cases D
      · refine rel_nil ?_
        intro a W hC hd hsz ht
        refine fin_exit hsz hd ht (of_decide_eq_true (by kernel_rfl)) ?_
        repeat (first
          | refine fin_just ?_
          | (intro _ _))
        refine fin_nil ?_
        simp only [Act.put, Option.getD_some, List.setIfInBounds_toArray, List.set_cons_zero, List.set_cons_succ]
        clear hd hsz ht
        clear f0 f1 f2 f3 f4 f5 g0 g1 g2 g3 g4 g5
        go_wp2
        go_roundw
        case rel => exact ⟨j + 1, by have := HQ.out; omega, by rw [show ((j + 1 + 1 : Nat) : Int) = (q : Int) + 1 by have := HQ.out; omega], ⟨y, by rw [HQ.out, HTS.out, if_neg (of_decide_eq_false HD.out)], row_to hC HQ1.out⟩, row_to hC HQ0.out, bstep HBR.out hC⟩
        case measure => simp [intOf]; omega
      · refine rel_nil ?_
        intro a W hC hd hsz ht
        refine fin_exit hsz hd ht (of_decide_eq_true (by kernel_rfl)) ?_
        repeat (first
          | refine fin_just ?_
          | (intro _ _))
        refine fin_nil ?_
        simp only [Act.put, Option.getD_some, List.setIfInBounds_toArray, List.set_cons_zero, List.set_cons_succ]
        clear hd hsz ht
        have k0 := f0 W hC
        have k1 := f1 W hC
        have k2 := f2 W hC
        have k3 := f3 W hC
        have k4 := f4 W hC
        have k5 := f5 W hC
        have HS1 := Lib.hid (row_to hC HQ1.out)
        have HS0 := Lib.hid (row_to hC HQ0.out)
        have HBC := Lib.hid (bstep HBR.out hC)
        clear f0 f1 f2 f3 f4 f5 g0 g1 g2 g3 g4 g5 hC
        go_wp2_with (refine wpList_store_row rfl 27 _ _ rfl (w.heap.size + 1) #[.int .i64 z.r.pref, .int .i64 z.r.origin, .slice z.A z.n z.c, .int .i64 z.r.hop, .int .i64 z.r.otc, .int .i64 z.r.frm] rfl rfl 27 #[.int .i64 y.r.pref, .int .i64 y.r.origin, .slice y.A y.n y.c, .int .i64 y.r.hop, .int .i64 y.r.otc, .int .i64 y.r.frm] HS1.out routeSize rfl (by simp [Value.oneCell']) ?_)
        have hrow := setRow_heap W (w.heap.size + 1) _ #[.int .i64 z.r.pref, .int .i64 z.r.origin, .slice z.A z.n z.c, .int .i64 z.r.hop, .int .i64 z.r.otc, .int .i64 z.r.frm] _ _ HS1.out
        have hrow0 := (setRow_other W (w.heap.size + 1) w.heap.size #[.int .i64 z.r.pref, .int .i64 z.r.origin, .slice z.A z.n z.c, .int .i64 z.r.hop, .int .i64 z.r.otc, .int .i64 z.r.frm] (by omega)).trans HS0.out
        go_roundw
        case rel => exact ⟨j + 1, by have := HQ.out; omega, by rw [show ((j + 1 + 1 : Nat) : Int) = (q : Int) + 1 by have := HQ.out; omega], ⟨z, by rw [HQ.out, HTS.out, if_pos (of_decide_eq_true HD.out)], hrow⟩, hrow0, below_setRow HBC.out (by omega) _⟩
        case measure => simp [intOf]; omega
    · obtain rfl : n = j + 1 := by omega
      have HF := Lib.hid (show y = bestV x t by rw [HY.out, List.take_of_length_le (by omega)])
      obtain ⟨k0, k1, k2, k3, k4, k5⟩ := row6 HQ1.out
      go_wp2_with (refine wpList_store_row rfl 27 _ _ rfl w.heap.size #[.int .i64 y.r.pref, .int .i64 y.r.origin, .slice y.A y.n y.c, .int .i64 y.r.hop, .int .i64 y.r.otc, .int .i64 y.r.frm] rfl rfl 27 #[.int .i64 0, .int .i64 0, .slice none 0 0, .int .i64 0, .int .i64 0, .int .i64 0] HQ0.out routeSize rfl (by simp [Value.oneCell']) ?_)
      have hrow := setRow_heap wr w.heap.size _ #[.int .i64 y.r.pref, .int .i64 y.r.origin, .slice y.A y.n y.c, .int .i64 y.r.hop, .int .i64 y.r.otc, .int .i64 y.r.frm] _ _ HQ0.out
      refine bodyPost_ret (results_cell_row rfl _ _ w.heap.size _ _ _ _ rfl hrow Try.underlying27 rfl routeSize) rfl ⟨_, rfl, ?_, below_setRow HBR.out (Nat.le_refl _) _⟩
      rw [← HF.out]
      rfl
end Go.Proofs.Ytmlhbmlppgoklac
