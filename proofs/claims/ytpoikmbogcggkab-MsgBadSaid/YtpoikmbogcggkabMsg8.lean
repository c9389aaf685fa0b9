/- The law MsgTwo. -/
import Derived.Test.YtpoikmbogcggkabMsg7
namespace Go.Proofs.Ytpoikmbogcggkab
open Go.RowKit
set_option maxHeartbeats 400000
set_option linter.unusedVariables false
set_option linter.unusedSimpArgs false

theorem rel_loadRow {P : Program} {ops : Array Oper} {a0 : Act} {C : World → Prop} {Q : Env → Prop} {env : Env} {o : Oper} {rest : List Oper} (t g : Nat) (ty tt : TypeId) (cs : Array Value) (fr : Nat × Nat) (d : TypeDesc)
    (hop : o.op = .load ty (.tmp t)) (hg : GuardYes ops a0 env o) (hs : slotFact a0 env t = Just (.pointer (some ⟨g, 0, none⟩)))
    (hu : P.underlying ty = some d) (hd : (match d with | .struct _ | .array _ _ => true | _ => false) = true) (hi : (P.info? ty).map (·.size) = some cs.size)
    (hrow : ∀ w, C w → w.heap[g]? = some (.cells cs tt fr)) (h : Rel P ops C a0 Q ((o.dst.getD 0, Just (.agg cs)) :: env) rest) : Rel P ops C a0 Q env (o :: rest) := by
  refine rel_exact (.agg cs) hg (fun ρ w hρ hC hk => ?_) h
  obtain ⟨dst, op, type, pos, after, guard⟩ := o
  simp only at hop
  subst hop
  simp only [looks, Op.operands] at hk
  simp [known] at hk
  rw [hs] at hk
  have hk : ρ (.tmp t) = _ := hk
  unfold execOp
  simp only [hk, Instr.loadAt, Instr.sureAddr, Sem.run_bind, Sem.run_pure, Result.andThen_ok, run_loadVar_row w g tt ty cs fr d (hrow w hC) hu hd hi]

theorem row2 {w : World} {g : Nat} {t : TypeId} {a b : Value} (h : w.heap[g]? = some (.cells #[a, b] t (0, 0))) : w.cell? ⟨g, 0, none⟩ = some a ∧ w.cell? ⟨g, 1, none⟩ = some b := by
  constructor <;> simp [World.cell?, h]
theorem row_lt {w : World} {g : Nat} {o : Obj} (h : w.heap[g]? = some o) : g < w.heap.size := (Array.getElem?_eq_some_iff.1 h).1
theorem row_to {w w' : World} {g : Nat} {o : Obj} (hb : Below w.heap.size w w') (h : w.heap[g]? = some o) : w'.heap[g]? = some o := (hb.block _ (row_lt h)).trans h

theorem mtwo_main (A : Option Addr) (n c : Nat) (la : List UInt8) (ta : Int) (B : Option Addr) (m d : Nat) (lb : List UInt8) (tb : Int) (w0 : World) (h : RdB w0 A n c la) (k : RdB w0 B m d lb) (hn : n ≤ 5000) (hm : m ≤ 5000) (hsa : saneB ta n = true) (hsb : saneB tb m = true) :
    Calls Try.prog 6 #[.agg #[.int .i64 ta, .slice A n c], .agg #[.int .i64 tb, .slice B m d]] w0 fun e w' => e = .returned (.bool true) ∧ Below w0.heap.size w0 w' := by
  have h1 : ¬ (5000 : Int) < n := by omega
  have h2 : ¬ (5000 : Int) < m := by omega
  have HSA := Lib.hid hsa
  have HSB := Lib.hid hsb
  have HA := Lib.hid h
  have HK := Lib.hid k
  clear hsa hsb h k
  go_enter Try.func6, Try.ntmps6
  go_wp2_with fail
  with_reducible refine (awake_any _).mono ?_
  rintro e w1 ⟨rfl, hb1⟩
  have HG1 := Lib.hid ((hb1.block w0.heap.size (by simp; omega)).trans (heap_alloc2_old w0 _ _))
  have HG2 := Lib.hid ((hb1.block (w0.heap.size + 1) (by simp)).trans (heap_alloc2_new w0 _ _))
  have HB1 := Lib.hid (bstep (balloc (bnew w0 _) _) hb1)
  have q0 := cell_of_row _ _ 0 _ _ _ HG1.out
  have q1 := cell_of_row _ _ 1 _ _ _ HG1.out
  have q2 := cell_of_row _ _ 0 _ _ _ HG2.out
  have q3 := cell_of_row _ _ 1 _ _ _ HG2.out
  simp at q0 q1 q2 q3
  clear hb1
  go_wp2_with fail
  with_reducible refine (sane_any _ _ _ _ _ (by omega)).mono ?_
  rw [HSA.out]
  rintro e w2 ⟨rfl, hb2⟩
  have HG3 := Lib.hid ((hb2.block w0.heap.size (by have := (Array.getElem?_eq_some_iff.1 HG1.out).1; omega)).trans HG1.out)
  have HG4 := Lib.hid ((hb2.block (w0.heap.size + 1) (by have := (Array.getElem?_eq_some_iff.1 HG2.out).1; omega)).trans HG2.out)
  have HB2 := Lib.hid (bstep HB1.out hb2)
  have p2 := cell_of_row _ _ 0 _ _ _ HG4.out
  have p3 := cell_of_row _ _ 1 _ _ _ HG4.out
  simp at p2 p3
  clear hb2 q0 q1 q2 q3
  go_wp2_with fail
  with_reducible refine (sane_any _ _ _ _ _ (by omega)).mono ?_
  rw [HSB.out]
  rintro e w3 ⟨rfl, hb3⟩
  have HG5 := Lib.hid ((hb3.block w0.heap.size (by have := (Array.getElem?_eq_some_iff.1 HG3.out).1; omega)).trans HG3.out)
  have HG6 := Lib.hid ((hb3.block (w0.heap.size + 1) (by have := (Array.getElem?_eq_some_iff.1 HG4.out).1; omega)).trans HG4.out)
  have HB3 := Lib.hid (bstep HB2.out hb3)
  clear hb3 p2 p3
  go_wp2_with fail
  refine wp_region_rel (by kernel_rfl) (by decide +kernel) (by rfl) ?_
  refine rel_loadRow 2 w0.heap.size 24 24 #[.int .i64 ta, .slice A n c] (0, 0) _ rfl (by first | exact .inl rfl | exact .inr ⟨_, _, _, rfl, rfl, rfl⟩) rfl Try.underlying24 rfl msgSize (fun W hC => (hC.block _ (Array.getElem?_eq_some_iff.1 HG5.out).1).trans HG5.out) ?_
  refine rel_op (IsB (msgL ta la)) (lasts_isB _) (by first | exact .inl rfl | exact .inr ⟨_, _, _, rfl, rfl, rfl⟩) ?_ ?_
  · intro ρ W hρ hC hk
    simp [known, looks, Op.operands, Call.operands, slotFact, Just, List.lookup] at hk
    obtain ⟨hρ1, hρ2, hρ3⟩ := hρ
    go_simp
    exact ⟨Below.refl _ _, mput_yes none 0 0 [] ta A n c la W (RdB.nil _) (HA.out.below (bstep HB3.out hC)) (by omega) (by omega) HSA.out⟩
  refine rel_loadRow 3 (w0.heap.size + 1) 24 24 #[.int .i64 tb, .slice B m d] (0, 0) _ rfl (by first | exact .inl rfl | exact .inr ⟨_, _, _, rfl, rfl, rfl⟩) rfl Try.underlying24 rfl msgSize (fun W hC => (hC.block _ (Array.getElem?_eq_some_iff.1 HG6.out).1).trans HG6.out) ?_
  refine rel_op (IsB (msgL ta la ++ msgL tb lb)) (lasts_isB _) (by first | exact .inl rfl | exact .inr ⟨_, _, _, rfl, rfl, rfl⟩) ?_ ?_
  · intro ρ W hρ hC hk
    simp [known, looks, Op.operands, Call.operands, slotFact, Just, List.lookup] at hk
    obtain ⟨hρ1, hρ2, hρ3⟩ := hρ
    go_simp
    obtain ⟨⟨A6, n6, c6, hv, hr6⟩, _⟩ := hk
    rw [hv]
    have hl6 := hr6.len
    rw [msgL_length, HA.out.len] at hl6
    exact ⟨Below.refl _ _, mput_yes _ _ _ _ tb B m d lb W hr6 (HK.out.below (bstep HB3.out hC)) (by omega) (by omega) HSB.out⟩
  repeat (first
    | (refine rel_skip ⟨_, _, _, _, rfl, rfl, rfl, ?_⟩ ?_
       focus (intro h; cases h; done))
    | refine rel_move _ (Just _) (.inl rfl) (by first | exact .inl rfl | exact .inr ⟨_, _, _, rfl, rfl, rfl⟩) rfl (lasts_just _) ?_
    | refine rel_move _ (Just _) (.inr rfl) (by first | exact .inl rfl | exact .inr ⟨_, _, _, rfl, rfl, rfl⟩) rfl (lasts_just _) ?_
    | refine rel_moveC _ (.inl rfl) (by first | exact .inl rfl | exact .inr ⟨_, _, _, rfl, rfl, rfl⟩) ?_
    | refine rel_moveC _ (.inr rfl) (by first | exact .inl rfl | exact .inr ⟨_, _, _, rfl, rfl, rfl⟩) ?_
    | refine rel_str _ _ rfl (by first | exact .inl rfl | exact .inr ⟨_, _, _, rfl, rfl, rfl⟩) rfl ?_
    | refine rel_lenB _ _ rfl (by first | exact .inl rfl | exact .inr ⟨_, _, _, rfl, rfl, rfl⟩) rfl ?_
    | refine rel_move _ (IsB _) (.inl rfl) (by first | exact .inl rfl | exact .inr ⟨_, _, _, rfl, rfl, rfl⟩) rfl (lasts_isB _) ?_
    | refine rel_move _ (IsB _) (.inr rfl) (by first | exact .inl rfl | exact .inr ⟨_, _, _, rfl, rfl, rfl⟩) rfl (lasts_isB _) ?_
    | (refine rel_exact ?_ (by first | exact .inl rfl | exact .inr ⟨_, _, _, rfl, rfl, rfl⟩) ?_ ?_
       rotate_left
       (intro ρ W hρ hC hk
        simp [known, looks, Op.operands, Call.operands, slotFact, Just, List.lookup] at hk
        obtain ⟨hρ1, hρ2, hρ3⟩ := hρ
        go_simp
        rfl)))
  refine rel_nil ?_
  intro a W hC hd hsz ht
  refine fin_exit hsz hd ht (of_decide_eq_true (by kernel_rfl)) ?_
  repeat (first
    | refine fin_just ?_
    | (intro _ _))
  refine fin_nil ?_
  simp only [Act.put, Option.getD_some, List.setIfInBounds_toArray, List.set_cons_zero, List.set_cons_succ]
  clear hd hsz ht
  rename_i v6 h6 v38 h38 v36 h36
  obtain ⟨A6, n6, c6, rfl, hr6⟩ := h6
  clear h36 h38
  have hN : n6 = 38 + n + m := by have := hr6.len; rw [List.length_append, msgL_length, msgL_length, HA.out.len, HK.out.len] at this; omega
  have hN1 : (n6 : Int) = 38 + n + m := by omega
  have e1 := getM_msg (body := la) (t := ta) (by rw [HA.out.len]; exact HSA.out) (msgL tb lb)
  rw [HA.out.len] at e1
  have hget := get_any _ _ _ _ _ hr6
  rw [e1] at hget
  have HN := Lib.hid hN
  have HG7 := Lib.hid ((hC.block _ (Array.getElem?_eq_some_iff.1 HG5.out).1).trans HG5.out)
  have HG8 := Lib.hid ((hC.block _ (Array.getElem?_eq_some_iff.1 HG6.out).1).trans HG6.out)
  have HB4 := Lib.hid (bstep HB3.out hC)
  have HR6 := Lib.hid hr6
  clear hN e1 hr6 hC HG5 HG6
  go_wp2_with fail
  with_reducible refine hget.mono ?_
  clear hget
  rintro e w4 ⟨_, rfl, ⟨A2, n2, c2, A3, n3, c3, rfl, hr2, hr3⟩, hb4⟩
  have HB5 := Lib.hid (bstep HB4.out hb4)
  have HR2 := Lib.hid hr2
  have hcap := HR6.out.le
  have hcap1 : (n6 : Int) ≤ c6 := by omega
  clear hr2 hr3 hcap
  have hcut := HR6.out.cut (k := 19 + n) (by have := HN.out; omega)
  rw [if_neg (by have := HN.out; omega)] at hcut
  have e2 : (msgL ta la ++ msgL tb lb).drop (19 + n) = msgL tb lb := List.drop_left' (by rw [msgL_length, HA.out.len])
  rw [e2] at hcut
  have HCUT := Lib.hid hcut
  clear hcut e2
  go_wp2_with fail
  have hget := get_any _ _ _ _ _ ((HCUT.out.below hb4).below (balloc (bnew w4 (.cells #[.int .i64 ta, .slice A2 n2 c2] 24)) (.cells #[.int .i64 0, .int .i64 0, .slice A3 n3 c3] 29)))
  have e1 := getM_msg (body := lb) (t := tb) (by rw [HK.out.len]; exact HSB.out) []
  rw [List.append_nil, HK.out.len] at e1
  rw [e1] at hget
  with_reducible refine hget.mono ?_
  clear hget e1
  rintro e w5 ⟨_, rfl, ⟨A4, n4, c4, A5, n5, c5, rfl, hr4, hr5⟩, hb5⟩
  have hbx := bstep (balloc (bnew w4 (.cells #[.int .i64 ta, .slice A2 n2 c2] 24)) (.cells #[.int .i64 0, .int .i64 0, .slice A3 n3 c3] 29)) hb5
  have HR2' := Lib.hid (HR2.out.below hbx)
  have HG9 := Lib.hid (row_to hbx (row_to hb4 HG7.out))
  have HG10 := Lib.hid (row_to hbx (row_to hb4 HG8.out))
  have HG11 := Lib.hid (row_to hb5 (heap_alloc2_old w4 (.cells #[.int .i64 ta, .slice A2 n2 c2] 24) (.cells #[.int .i64 0, .int .i64 0, .slice A3 n3 c3] 29)))
  have HB6 := Lib.hid (bstep HB5.out hbx)
  obtain ⟨q0, q1⟩ := row2 HG9.out
  obtain ⟨q2, q3⟩ := row2 HG11.out
  have z1 := row_lt HG9.out
  have z2 := row_lt HG11.out
  have HR4 := Lib.hid hr4
  clear hb4 hb5 hbx hr4 hr5
  go_wp2_with fail
  with_reducible refine (same_yes _ _ _ _ _ _ _ _ _ (HR2'.out.below (balloc (bnew w5 _) _)) (HA.out.below (bstep HB6.out (balloc (bnew w5 _) _)))).mono ?_
  rintro e w6 ⟨rfl, hb6⟩
  have hbx := bstep (balloc (bnew w5 (.cells #[.int .i64 tb, .slice A4 n4 c4] 24)) (.cells #[.int .i64 0, .int .i64 0, .slice A5 n5 c5] 29)) hb6
  have HG12 := Lib.hid (row_to hbx HG10.out)
  have HG13 := Lib.hid (row_to hb6 (heap_alloc2_old w5 (.cells #[.int .i64 tb, .slice A4 n4 c4] 24) (.cells #[.int .i64 0, .int .i64 0, .slice A5 n5 c5] 29)))
  obtain ⟨q4, q5⟩ := row2 HG12.out
  obtain ⟨q6, q7⟩ := row2 HG13.out
  have z3 := row_lt HG12.out
  have z4 := row_lt HG13.out
  have HB7 := Lib.hid (bstep HB6.out hbx)
  have HR4' := Lib.hid (HR4.out.below hbx)
  clear hb6 hbx
  go_wp2_with fail
  with_reducible refine (same_yes _ _ _ _ _ _ _ _ _ HR4'.out (HK.out.below HB7.out)).mono ?_
  rintro e w7 ⟨rfl, hb7⟩
  have e5 : (19 + (n : Int) + (19 + (m : Int)) == 38 + (n : Int) + (m : Int)) = true := beq_iff_eq.2 (by omega)
  go_wp2
  go_ret
  exact ⟨rfl, bstep HB7.out hb7⟩

theorem msgTwo_law (w0 : World) (ta : Int) (A : Option Addr) (n c : Nat) (la : List UInt8) (h : RdB w0 A n c la) (tb : Int) (B : Option Addr) (m d : Nat) (lb : List UInt8) (k : RdB w0 B m d lb) :
    Calls Try.prog 6 #[.agg #[.int .i64 ta, .slice A n c], .agg #[.int .i64 tb, .slice B m d]] w0 fun e w' => e = .returned (.bool true) ∧ Below w0.heap.size w0 w' := by
  by_cases hn : n ≤ 5000
  · by_cases hm : m ≤ 5000
    · cases hsa : saneB ta n
      · have h1 : ¬ (5000 : Int) < n := by omega
        have h2 : ¬ (5000 : Int) < m := by omega
        have HSA := Lib.hid hsa
        clear hsa h k
        go_enter Try.func6, Try.ntmps6
        go_wp2_with fail
        with_reducible refine (awake_any _).mono ?_
        rintro e w1 ⟨rfl, hb1⟩
        obtain ⟨q0, q1⟩ := row2 (row_to hb1 (heap_alloc2_old w0 _ _))
        obtain ⟨q2, q3⟩ := row2 (row_to hb1 (heap_alloc2_new w0 _ _))
        have HB1 := Lib.hid (bstep (balloc (bnew w0 _) _) hb1)
        clear hb1
        go_wp2_with fail
        with_reducible refine (sane_any _ _ _ _ _ (by omega)).mono ?_
        rw [HSA.out]
        rintro e w2 ⟨rfl, hb2⟩
        go_wp2
        go_ret
        exact ⟨rfl, bstep HB1.out hb2⟩
      · cases hsb : saneB tb m
        · have h1 : ¬ (5000 : Int) < n := by omega
          have h2 : ¬ (5000 : Int) < m := by omega
          have HSA := Lib.hid hsa
          have HSB := Lib.hid hsb
          clear hsa hsb h k
          go_enter Try.func6, Try.ntmps6
          go_wp2_with fail
          with_reducible refine (awake_any _).mono ?_
          rintro e w1 ⟨rfl, hb1⟩
          obtain ⟨q0, q1⟩ := row2 (row_to hb1 (heap_alloc2_old w0 _ _))
          have HG2 := Lib.hid (row_to hb1 (heap_alloc2_new w0 (.cells #[.int .i64 ta, .slice A n c] 24) (.cells #[.int .i64 tb, .slice B m d] 24)))
          obtain ⟨q2, q3⟩ := row2 HG2.out
          have HB1 := Lib.hid (bstep (balloc (bnew w0 _) _) hb1)
          clear hb1
          go_wp2_with fail
          with_reducible refine (sane_any _ _ _ _ _ (by omega)).mono ?_
          rw [HSA.out]
          rintro e w2 ⟨rfl, hb2⟩
          obtain ⟨q4, q5⟩ := row2 (row_to hb2 HG2.out)
          have HB2 := Lib.hid (bstep HB1.out hb2)
          clear hb2
          go_wp2_with fail
          with_reducible refine (sane_any _ _ _ _ _ (by omega)).mono ?_
          rw [HSB.out]
          rintro e w3 ⟨rfl, hb3⟩
          go_wp2
          go_ret
          exact ⟨rfl, bstep HB2.out hb3⟩
        · exact mtwo_main A n c la ta B m d lb tb w0 h k hn hm hsa hsb
    · have h1 : ¬ (5000 : Int) < n := by omega
      have h2 : (5000 : Int) < m := by omega
      clear hn hm h k
      go_enter Try.func6, Try.ntmps6
      go_wp2_with fail
      with_reducible refine (awake_any _).mono ?_
      rintro e w1 ⟨rfl, hb1⟩
      obtain ⟨q0, q1⟩ := row2 (row_to hb1 (heap_alloc2_old w0 _ _))
      obtain ⟨q2, q3⟩ := row2 (row_to hb1 (heap_alloc2_new w0 _ _))
      go_wp2
      go_ret
      exact ⟨rfl, bstep (balloc (bnew w0 _) _) hb1⟩
  · have h1 : (5000 : Int) < n := by omega
    clear hn h k
    go_enter Try.func6, Try.ntmps6
    go_wp2_with fail
    with_reducible refine (awake_any _).mono ?_
    rintro e w1 ⟨rfl, hb1⟩
    obtain ⟨q0, q1⟩ := row2 (row_to hb1 (heap_alloc2_old w0 _ _))
    obtain ⟨q2, q3⟩ := row2 (row_to hb1 (heap_alloc2_new w0 _ _))
    go_wp2
    go_ret
    exact ⟨rfl, bstep (balloc (bnew w0 _) _) hb1⟩
end Go.Proofs.Ytpoikmbogcggkab
