/- The law MsgBack. -/
import Derived.Test.YtpoikmbogcggkabMsg9
namespace Go.Proofs.Ytpoikmbogcggkab
open Go.RowKit
set_option maxHeartbeats 400000
set_option maxRecDepth 100000
set_option linter.unusedVariables false
set_option linter.unusedSimpArgs false

theorem own_below {w w' : World} {base e size n : Nat} {v : Value} {xs : List Value} (h : w.ownsRow base e size v n xs) (hb : Below w.heap.size w w') : w'.ownsRow base e size v n xs :=
  ⟨h.1, h.2.imp id fun ⟨g, cap, cur, hv, h1, hg, rest⟩ => ⟨g, cap, cur, hv, h1, row_to hb hg, rest⟩⟩

theorem wpList_max {P : Program} (w : World) {ops : Array Oper} {rest : List Oper} {o : Oper} {a : Act} {Q : Exit → Act → World → Prop} (hgd : o.guard = none) (s x : Operand) (T U : TypeId)
    (ho : o.op = .call { callee := .builtin .max, args := #[s, x], argTypes := #[T, U] }) (k : IntKind) (u v z : Int) (hs : a.eval s = .int k u) (hx : a.eval x = .int k v) (hz : (if v > u then v else u) = z)
    (h : wpList P ops Q rest (a.put o.dst (.int k z)) w) : wpList P ops Q (o :: rest) a w := by
  refine wpList_plain hgd fun K hK => ?_
  have hrun : (Builtin.max_ #[T, U] o.type #[.int k u, .int k v]).run P w = .ok (.int k z) w := by rw [run_max_int2, hz]
  unfold Oper.wp
  simp [execOp, ho, resolve, invoke, hs, hx, builtin, Sem.run_bind, hrun, Result.andThen]
  subst hz
  exact hK _ _ h

theorem mback_main (w0 : World) (t : Int) (A : Option Addr) (n c : Nat) (la : List UInt8) (h : RdB w0 A n c la) (B : Option Addr) (m d : Nat) (more : List UInt8) (k : RdB w0 B m d more) (kk : Int) (hn : n ≤ 5000) (hm : m ≤ 400) (hsa : saneB t n = true) :
    Calls Try.prog 3 #[.agg #[.int .i64 t, .slice A n c], .slice B m d, .int .i64 kk] w0 fun e w' => e = .returned (.bool true) ∧ Below w0.heap.size w0 w' := by
  have h1 : ¬ (5000 : Int) < n := by omega
  have h2 : ¬ (400 : Int) < m := by omega
  have hand := and_mask kk 16 (by omega)
  rw [show (2 : Int) ^ 16 - 1 = 65535 by decide, show (2 : Int) ^ 16 = 65536 by decide] at hand
  obtain ⟨q, hq⟩ : ∃ q : Nat, kk % 65536 = q := ⟨(kk % 65536).toNat, by omega⟩
  rw [hq] at hand
  have HSA := Lib.hid hsa
  have HA := Lib.hid h
  have HK := Lib.hid k
  clear hsa h k hq
  go_enter Try.func3, Try.ntmps3
  go_wp2_with fail
  with_reducible refine (awake_any _).mono ?_
  rintro e w1 ⟨rfl, hb1⟩
  have HG1 := Lib.hid (row_to hb1 (heap_alloc_new w0 (.cells #[.int .i64 t, .slice A n c] 24)))
  obtain ⟨q0, q1⟩ := row2 HG1.out
  have z1 := row_lt HG1.out
  have HB1 := Lib.hid (bstep (bnew w0 _) hb1)
  clear hb1
  go_wp2_with fail
  with_reducible refine (sane_any _ _ _ _ _ (by omega)).mono ?_
  rw [HSA.out]
  rintro e w2 ⟨rfl, hb2⟩
  have HG2 := Lib.hid (row_to hb2 HG1.out)
  obtain ⟨p0, p1⟩ := row2 HG2.out
  have z2 := row_lt HG2.out
  have HB2 := Lib.hid (bstep HB1.out hb2)
  clear hb2 q0 q1 z1
  go_wp2_with fail
  have hput := mput_yes none 0 0 [] t A n c la (w2.alloc (.cells #[] 5)) (RdB.nil _) (HA.out.below (bstep HB2.out (bnew _ _))) (by omega) (by omega) HSA.out
  with_reducible refine hput.mono ?_
  clear hput
  rintro e w3 ⟨_, rfl, ⟨A3, n3, c3, rfl, hr3⟩, hb3⟩
  have HR3 := Lib.hid (show RdB w3 A3 n3 c3 (msgL t la) from hr3)
  have HN3 := Lib.hid (show n3 = 19 + n by have := HR3.out.len; rw [msgL_length, HA.out.len] at this; omega)
  have HB3 := Lib.hid (bstep HB2.out (bstep (bnew _ _) hb3))
  have HG3 := Lib.hid (row_to (bstep (bnew _ _) hb3) HG2.out)
  obtain ⟨i0, hi, hz0, hz1, hz2⟩ := info_row infoB
  have HI := Lib.hid hi
  have H0 := Lib.hid hz0
  have H1 := Lib.hid hz1
  have H2 := Lib.hid hz2
  clear hi hz0 hz1 hz2 hr3 hb3 p0 p1 z2
  have HNB := Lib.hid (show 0 < n3 ∧ n3 ≤ 6000 by have := HN3.out; omega)
  have HL3 := Lib.hid HR3.out.len
  go_wp2_with (
    at_builtin
    refine wpList_append_gr _ rfl _ _ 22 rfl w3.heap.size 5 i0 (.int .u8 0) 1 1 Try.underlying22 HI.out H0.out H1.out H2.out rfl (by decide) _ 0 [] rfl (.inr ⟨rfl, Nat.zero_le _, _, rfl, .inl rfl⟩) A3 n3 c3 ((msgL t la).map bv) rfl (by simp [HL3.out]) HR3.out.lies ?_ (oneCell_bv _) (by have := HNB.out; unfold maxLen; omega) (by have := HNB.out; omega) (Nat.le_refl _)
    intro A4 c4 w4 hG
    have hG1 := hG.own (.inl (by have := HNB.out; omega))
    have hG2 := hG.below
    simp only [Nat.zero_add, List.nil_append] at hG1 hG2
    clear hG
    have HO := Lib.hid hG1
    have HR4 := Lib.hid (rdB_of_own hG1)
    have HB4 := Lib.hid (bstep HB3.out hG2)
    have HG4 := Lib.hid (row_to hG2 HG3.out)
    have HZ := Lib.hid hG2.size
    have g1 : (1 : Int) ≤ n3 := by have := HNB.out; omega
    have g2 : ¬ (n3 : Int) < 1 := by omega
    have gm : (if (n3 : Int) < 1 then (1 : Int) else n3) = n3 := if_neg (by omega)
    have hcl : q % n3 < n3 := Nat.mod_lt _ (by omega)
    have HCL := Lib.hid hcl
    have HCC := Lib.hid (show q % n3 ≤ c4 by have := HR4.out.le; omega)
    have HCB := Lib.hid (show q % n3 < 19 + la.length by rw [HA.out.len, ← HN3.out]; exact hcl)
    have hc1 : ((q % n3 : Nat) : Int) ≤ c4 := by have := HR4.out.le; omega
    have hc3 : (q : Int) % (n3 : Int) ≤ c4 := by rw [← Int.natCast_emod]; exact hc1
    have hc4 : 0 ≤ (q : Int) % (n3 : Int) := by rw [← Int.natCast_emod]; omega
    clear hG1 hG2)
  have e1 : getM ((msgL t la).take (q % n3)) = ⟨0, [], 0, 0, 0, []⟩ := getM_cut (by rw [HA.out.len]; exact HSA.out) _ HCB.out
  have hget := get_any _ _ _ _ _ (HR4.out.take (k := q % n3) (c' := c4) (Nat.le_of_lt HCL.out) HCC.out (Nat.le_refl _))
  rw [e1] at hget
  with_reducible refine hget.mono ?_
  clear hget e1
  rintro e w5 ⟨_, rfl, ⟨A5, n5, c5, A6, n6, c6, rfl, hr5, hr6⟩, hb5⟩
  have hl5 : n5 = 0 := hr5.len.symm
  subst hl5
  have HG5 := Lib.hid (row_to hb5 HG4.out)
  have HO5 := Lib.hid (own_below HO.out hb5)
  have HB5 := Lib.hid (bstep HB4.out hb5)
  have HK5 := Lib.hid (HK.out.below HB5.out)
  have HZ5 := Lib.hid (Nat.le_trans HZ.out hb5.size)
  have HML := Lib.hid HK.out.len
  clear hr5 hr6 hb5
  obtain ⟨W0, hW0⟩ : ∃ W0, W0 = (w5.alloc (.cells #[.int .i64 0, .slice A5 0 c5] 24)).alloc (.cells #[.int .i64 0, .int .i64 0, .slice A6 n6 c6] 29) := ⟨_, rfl⟩
  have hbW : Below w5.heap.size w5 W0 := by rw [hW0]; exact balloc (bnew _ _) _
  have hOW := own_below HO5.out hbW
  have hKW := (HK5.out.below hbW).lies
  have hZW := Nat.le_trans HZ5.out hbW.size
  rw [hW0] at hOW hKW hZW
  clear hbW hW0
  have HOW := Lib.hid hOW
  have HKW := Lib.hid hKW
  have HZW := Lib.hid hZW
  clear hOW hKW hZW
  go_wp2_with (at_builtin; (refine wpList_append_gr _ rfl _ _ 22 rfl w3.heap.size 5 i0 (.int .u8 0) 1 1 Try.underlying22 HI.out H0.out H1.out H2.out rfl (by decide) _ n3 _ rfl (.inl HOW.out) B m d (more.map bv) rfl (by simp [HML.out]) HKW.out ?_ (oneCell_bv _) ?c2 ?c3 ?c4; intro A7 c7 w7 hG))
  case c2 => have := HN3.out; unfold maxLen; omega
  case c3 => have := HN3.out; omega
  case c4 => exact HZW.out
  have hG1 := hG.own (.inr HOW.out)
  have hG2 := hG.below
  rw [← List.map_append] at hG1
  have HR7 := Lib.hid (rdB_of_own hG1)
  have hB7 : Below w0.heap.size w0 w7 := (balloc (balloc HB5.out _) _).trans (hG2.mono (Nat.le_trans HB3.out.size (Nat.le_refl _)))
  have hG7 : w7.heap[w0.heap.size]? = some (.cells #[.int .i64 t, .slice A n c] 24 (0, 0)) := by
    rw [hG2.block _ (row_lt HG3.out), Below.heap_alloc _ _ _ (by have := row_lt HG5.out; simp; omega), Below.heap_alloc _ _ _ (row_lt HG5.out)]
    exact HG5.out
  have HB7 := Lib.hid hB7
  have HG7 := Lib.hid hG7
  clear hG hG1 hG2 hB7 hG7
  have hget := get_any _ _ _ _ _ HR7.out
  have e1 := getM_msg (body := la) (t := t) (by rw [HA.out.len]; exact HSA.out) more
  rw [HA.out.len] at e1
  rw [e1] at hget
  with_reducible refine hget.mono ?_
  clear hget e1
  rintro e w8 ⟨_, rfl, ⟨A8, n8, c8, A9, n9, c9, rfl, hr8, hr9⟩, hb8⟩
  have HR8 := Lib.hid hr8
  have HG8 := Lib.hid (row_to hb8 HG7.out)
  have HB8 := Lib.hid (bstep HB7.out hb8)
  have HA8 := Lib.hid (HA.out.below HB8.out)
  obtain ⟨q0, q1⟩ := row2 HG8.out
  have z8 := row_lt HG8.out
  have e2 : ((n3 : Int) == (n : Int) + 19) = true := beq_iff_eq.2 (by have := HN3.out; omega)
  have e3 : (19 + (n : Int) == (n3 : Int)) = true := beq_iff_eq.2 (by have := HN3.out; omega)
  clear hr8 hr9 hb8
  go_wp2_with fail
  with_reducible refine (same_yes _ _ _ _ _ _ _ _ _ (HR8.out.below (balloc (bnew w8 _) _)) (HA8.out.below (balloc (bnew w8 _) _))).mono ?_
  rintro e w9 ⟨rfl, hb9⟩
  go_wp2
  go_ret
  exact ⟨rfl, bstep (balloc (balloc HB8.out _) _) hb9⟩

theorem msgBack_law (w0 : World) (t : Int) (A : Option Addr) (n c : Nat) (la : List UInt8) (h : RdB w0 A n c la) (B : Option Addr) (m d : Nat) (more : List UInt8) (k : RdB w0 B m d more) (kk : Int) :
    Calls Try.prog 3 #[.agg #[.int .i64 t, .slice A n c], .slice B m d, .int .i64 kk] w0 fun e w' => e = .returned (.bool true) ∧ Below w0.heap.size w0 w' := by
  by_cases hn : n ≤ 5000
  · by_cases hm : m ≤ 400
    · cases hsa : saneB t n
      · have h1 : ¬ (5000 : Int) < n := by omega
        have h2 : ¬ (400 : Int) < m := by omega
        have HSA := Lib.hid hsa
        clear hsa h k
        go_enter Try.func3, Try.ntmps3
        go_wp2_with fail
        with_reducible refine (awake_any _).mono ?_
        rintro e w1 ⟨rfl, hb1⟩
        obtain ⟨q0, q1⟩ := row2 (row_to hb1 (heap_alloc_new w0 _))
        have HB1 := Lib.hid (bstep (bnew w0 _) hb1)
        clear hb1
        go_wp2_with fail
        with_reducible refine (sane_any _ _ _ _ _ (by omega)).mono ?_
        rw [HSA.out]
        rintro e w2 ⟨rfl, hb2⟩
        go_wp2
        go_ret
        exact ⟨rfl, bstep HB1.out hb2⟩
      · exact mback_main w0 t A n c la h B m d more k kk hn hm hsa
    · have h1 : ¬ (5000 : Int) < n := by omega
      have h2 : (400 : Int) < m := by omega
      clear hn hm h k
      go_enter Try.func3, Try.ntmps3
      go_wp2_with fail
      with_reducible refine (awake_any _).mono ?_
      rintro e w1 ⟨rfl, hb1⟩
      obtain ⟨q0, q1⟩ := row2 (row_to hb1 (heap_alloc_new w0 _))
      go_wp2
      go_ret
      exact ⟨rfl, bstep (bnew w0 _) hb1⟩
  · have h1 : (5000 : Int) < n := by omega
    clear hn h k
    go_enter Try.func3, Try.ntmps3
    go_wp2_with fail
    with_reducible refine (awake_any _).mono ?_
    rintro e w1 ⟨rfl, hb1⟩
    obtain ⟨q0, q1⟩ := row2 (row_to hb1 (heap_alloc_new w0 _))
    go_wp2
    go_ret
    exact ⟨rfl, bstep (bnew w0 _) hb1⟩
end Go.Proofs.Ytpoikmbogcggkab
