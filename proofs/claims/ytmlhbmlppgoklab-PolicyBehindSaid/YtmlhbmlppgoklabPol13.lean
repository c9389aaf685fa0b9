/- The walk of PolicyBehind: what stands behind a total rule is never picked. -/
import Derived.Test.YtmlhbmlppgoklabPol11
namespace Go.Proofs.Ytmlhbmlppgoklab
open Go.RowKit
set_option maxHeartbeats 4000000
set_option maxRecDepth 100000
set_option linter.unusedVariables false
set_option linter.unusedSimpArgs false

theorem rel_lenR {ops : Array Oper} {a0 : Act} {C : World → Prop} {Q : Env → Prop} {env : Env} {o : Oper} {rest : List Oper} (t : Nat) (l : List Rul) (hop : o.op = .call { callee := .builtin .len, args := #[.tmp t], argTypes := #[22] }) (hg : GuardYes ops a0 env o)
    (hV : slotFact a0 env t = IsRs l) (h : Rel Try.prog ops C a0 Q ((o.dst.getD 0, Just (.int .i64 l.length)) :: env) rest) : Rel Try.prog ops C a0 Q env (o :: rest) := by
  refine rel_exact _ hg (fun ρ w hρ hC hk => ?_) h
  obtain ⟨dst, op, type, pos, after, guard⟩ := o
  simp only at hop
  subst hop
  simp only [looks, Op.operands, Call.operands] at hk
  simp [known] at hk
  rw [hV] at hk
  obtain ⟨A, n, c, hv, hr⟩ := hk
  have hl := hr.len
  subst hl
  obtain ⟨hρ1, hρ2, hρ3⟩ := hρ
  go_simp

theorem policyBehind_any (w : World) (B : Option Addr) (m d : Nat) (l : List Rul) (hl : RdR w B m d l) (r : Rul) (B2 : Option Addr) (m2 d2 : Nat) (mo : List Rul) (hmo : RdR w B2 m2 d2 mo) (v : Vw) (A : Option Addr) (n c : Nat) (h : RdI w A n c v.as) :
    Calls Try.prog 7 #[.slice B m d, .agg (ruleA r), .slice B2 m2 d2, .agg #[.int .i64 v.a, .int .i64 v.n, .slice A n c, .int .i64 v.cl]] w fun e w' => e = .returned (.bool true) ∧ Below w.heap.size w w' := by
  obtain ⟨va, vn, us, vc⟩ := v
  unfold ruleA
  simp only at h ⊢
  have HR := Lib.hid h
  have HL := Lib.hid hl
  have HMO := Lib.hid hmo
  have HML := Lib.hid hl.len
  have HMO2 := Lib.hid hmo.len
  clear h hl hmo
  obtain ⟨T, hT⟩ : ∃ T, totalB r vc = T := ⟨_, rfl⟩
  have HT := Lib.hid hT
  clear hT
  have hcase : (21 ≤ m) ∨ (m ≤ 20 ∧ 21 ≤ m2) ∨ (m ≤ 20 ∧ m2 ≤ 20 ∧ 101 ≤ n) ∨ (m ≤ 20 ∧ m2 ≤ 20 ∧ n ≤ 100) := by omega
  rcases hcase with h1 | ⟨h1, h2⟩ | ⟨h1, h2, h3⟩ | ⟨h1, h2, h3⟩
  · go_enter Try.func7, Try.ntmps7
    go_wp2_with fail
    with_reducible refine (awake_any _).mono ?_
    rintro e w1 ⟨_, rfl, rfl, hb1⟩
    have hg2 := (hb1.block (w.heap.size + 1) (by simp)).trans (heap_alloc2_new w _ _)
    obtain ⟨q0, q1, q2, q3⟩ := row4 hg2
    clear hg2
    go_wp2
    go_ret
    exact ⟨rfl, bstep (balloc (bnew w _) _) hb1⟩
  · go_enter Try.func7, Try.ntmps7
    go_wp2_with fail
    with_reducible refine (awake_any _).mono ?_
    rintro e w1 ⟨_, rfl, rfl, hb1⟩
    have hg2 := (hb1.block (w.heap.size + 1) (by simp)).trans (heap_alloc2_new w _ _)
    obtain ⟨q0, q1, q2, q3⟩ := row4 hg2
    clear hg2
    go_wp2
    go_ret
    exact ⟨rfl, bstep (balloc (bnew w _) _) hb1⟩
  · go_enter Try.func7, Try.ntmps7
    go_wp2_with fail
    with_reducible refine (awake_any _).mono ?_
    rintro e w1 ⟨_, rfl, rfl, hb1⟩
    have hg2 := (hb1.block (w.heap.size + 1) (by simp)).trans (heap_alloc2_new w _ _)
    obtain ⟨q0, q1, q2, q3⟩ := row4 hg2
    clear hg2
    go_wp2
    go_ret
    exact ⟨rfl, bstep (balloc (bnew w _) _) hb1⟩
  · go_enter Try.func7, Try.ntmps7
    go_wp2_with fail
    with_reducible refine (awake_any _).mono ?_
    rintro e w1 ⟨_, rfl, rfl, hb1⟩
    have R1 := Lib.hid ((hb1.block w.heap.size (by simp; omega)).trans (heap_alloc2_old w _ _))
    have R2 := Lib.hid ((hb1.block (w.heap.size + 1) (by simp)).trans (heap_alloc2_new w _ _))
    have HB1 := Lib.hid (bstep (balloc (bnew w _) _) hb1)
    obtain ⟨p0, p1, p2, p3, p4, p5⟩ := row6 R1.out
    obtain ⟨q0, q1, q2, q3⟩ := row4 R2.out
    clear hb1
    go_wp2_with fail
    have ht := total_any r vc w1
    rw [HT.out] at ht
    with_reducible refine ht.mono ?_
    clear ht p0 p1 p2 p3 p4 p5 q0 q1 q2 q3
    rintro e w3 ⟨_, rfl, rfl, hb3⟩
    have R1a := Lib.hid (row_to hb3 R1.out)
    have R2a := Lib.hid (row_to hb3 R2.out)
    have HB3 := Lib.hid (bstep HB1.out hb3)
    clear hb3
    cases T
    · go_wp2
      go_ret
      exact ⟨rfl, HB3.out⟩
    · obtain ⟨i0, hi, hz0, hz1, hz2⟩ := info_row infoR
      have HI := Lib.hid hi
      have H0 := Lib.hid hz0
      have H1 := Lib.hid hz1
      have H2 := Lib.hid hz2
      clear hi hz0 hz1 hz2
      have own1 := Lib.hid (own_empty w3 31 6 (Nat.le_refl _))
      go_upto_region 5 with (at_builtin; (refine wpList_append_gr _ rfl _ _ 22 rfl w3.heap.size 31 i0 (.agg #[.int .i64 0, .int .i64 0, .int .i64 0, .int .i64 0, .int .i64 0, .int .i64 0]) 6 48 Try.underlying22 HI.out H0.out H1.out H2.out rfl (by decide) _ 0 [] rfl (.inl own1.out) B m d (rulesV l) rfl (by rw [rulesV_length, HML.out]) ((HL.out.below (balloc HB3.out _)).lies) ?_ (oneCell_rules l) (by unfold maxLen; omega) (by omega) (by simp); intro A1 c1 w4 hG; have HO1 : Hid (w4.ownsRow w3.heap.size 31 6 (.slice A1 m c1) m (rulesV l)) := Lib.hid (by have hh := hG.own (.inr own1.out); rw [Nat.zero_add] at hh; exact hh); have HB4 := Lib.hid (show Below w3.heap.size w3 w4 from (bnew w3 _).trans hG.below); clear hG))
      have R1b := Lib.hid (row_to HB4.out R1a.out)
      have hsz4 := HB4.out.size
      obtain ⟨p0, p1, p2, p3, p4, p5⟩ := row6 R1b.out
      have z1 := row_lt R1b.out
      go_upto_region 6 with (at_builtin; (refine wpList_append_gr _ rfl _ _ 22 rfl w3.heap.size 31 i0 (.agg #[.int .i64 0, .int .i64 0, .int .i64 0, .int .i64 0, .int .i64 0, .int .i64 0]) 6 48 Try.underlying22 HI.out H0.out H1.out H2.out rfl (by decide) _ m (rulesV l) rfl (.inl (HO1.out.alloc _)) _ 1 1 (ruleV r) rfl rfl (lies_newR w4 r _) ?_ (oneCell_rule r) (by unfold maxLen; omega) (by omega) (by simp; omega); intro A2 c2 w5 hG; have HO2 : Hid (w5.ownsRow w3.heap.size 31 6 (.slice A2 (m + 1) c2) (m + 1) (rulesV (l ++ [r]))) := Lib.hid (by rw [← rulesV_snoc]; exact hG.own (.inl (by omega))); have HB5 := Lib.hid (show Below w3.heap.size w3 w5 from (balloc HB4.out _).trans hG.below); clear hG))
      clear p0 p1 p2 p3 p4 p5 z1
      obtain ⟨la, hla⟩ : ∃ la, l ++ [r] = la := ⟨_, rfl⟩
      obtain ⟨na, hna⟩ : ∃ na, m + 1 = na := ⟨_, rfl⟩
      have hna21 : na ≤ 21 := by omega
      have hna1 : 1 ≤ na := by omega
      have HO3 : Hid (w5.ownsRow w3.heap.size 31 6 (.slice A2 na c2) na (rulesV la)) := Lib.hid (by rw [← hna, ← hla]; exact HO2.out)
      obtain ⟨pr, hpr⟩ : ∃ pr, pickL la ⟨va, vn, us, vc⟩ = (pr, true) := by
        have h2 := (pick_total ⟨va, vn, us, vc⟩ l r mo HT.out).2
        rw [hla] at h2
        exact ⟨_, Prod.ext rfl h2⟩
      have HPA := Lib.hid hpr
      have HPB := Lib.hid (show pickL (la ++ mo) ⟨va, vn, us, vc⟩ = (pr, true) by rw [← hla, (pick_total ⟨va, vn, us, vc⟩ l r mo HT.out).1, hla]; exact hpr)
      obtain ⟨ML, hML⟩ : ∃ ML, reachL vc la = ML := ⟨_, rfl⟩
      have HRA := Lib.hid hML
      have HRB := Lib.hid (show reachL vc (la ++ mo) = ML by rw [← hla, reach_total vc l r mo HT.out, hla]; exact hML)
      clear hpr hML
      rw [hna]
      have HA5 := Lib.hid (rdR_of_gr (.inl HO3.out))
      have R2b := Lib.hid (row_to HB5.out R2a.out)
      have HW5 := Lib.hid (bstep HB3.out HB5.out)
      have own2 := Lib.hid (own_empty w5 31 6 (Nat.le_refl _))
      clear HO2 HO1 hla hna
      go_upto_region 7 with (at_builtin; (refine wpList_append_gr _ rfl _ _ 22 rfl w5.heap.size 31 i0 (.agg #[.int .i64 0, .int .i64 0, .int .i64 0, .int .i64 0, .int .i64 0, .int .i64 0]) 6 48 Try.underlying22 HI.out H0.out H1.out H2.out rfl (by decide) _ 0 [] rfl (.inl own2.out) A2 na c2 (rulesV la) rfl (by rw [rulesV_length, HA5.out.len]) ((HA5.out.below (bnew w5 _)).lies) ?_ (oneCell_rules la) (by unfold maxLen; omega) (by omega) (by simp); intro A3 c3 w6 hG; have HO4 : Hid (w6.ownsRow w5.heap.size 31 6 (.slice A3 na c3) na (rulesV la)) := Lib.hid (by have hh := hG.own (.inr own2.out); rw [Nat.zero_add] at hh; exact hh); have HB6 := Lib.hid (show Below w5.heap.size w5 w6 from (bnew w5 _).trans hG.below); clear hG))
      have hsz6 := HB6.out.size
      go_upto_region 8 with (at_builtin; (refine wpList_append_gr _ rfl _ _ 22 rfl w5.heap.size 31 i0 (.agg #[.int .i64 0, .int .i64 0, .int .i64 0, .int .i64 0, .int .i64 0, .int .i64 0]) 6 48 Try.underlying22 HI.out H0.out H1.out H2.out rfl (by decide) _ na (rulesV la) rfl (.inl HO4.out) B2 m2 d2 (rulesV mo) rfl (by rw [rulesV_length, HMO2.out]) ((HMO.out.below (bstep HW5.out HB6.out)).lies) ?_ (oneCell_rules mo) (by unfold maxLen; omega) (by omega) (by omega); intro A4 c4 w7 hG; have HO5 : Hid (w7.ownsRow w5.heap.size 31 6 (.slice A4 (na + m2) c4) (na + m2) (rulesV (la ++ mo))) := Lib.hid (by rw [show rulesV (la ++ mo) = rulesV la ++ rulesV mo by simp [rulesV]]; exact hG.own (.inr HO4.out)); have HB7 := Lib.hid (show Below w5.heap.size w5 w7 from HB6.out.trans hG.below); clear hG))
      have R2c := Lib.hid (row_to HB7.out R2b.out)
      have HA7 := Lib.hid (HA5.out.below HB7.out)
      have HBB := Lib.hid (rdR_of_gr (.inl HO5.out))
      have HW7 := Lib.hid (bstep HW5.out HB7.out)
      clear HO4 HO5 HO3 hsz4 hsz6
      obtain ⟨q0, q1, q2, q3⟩ := row4 R2c.out
      go_wp2_with fail
      have hpk := pick_any A2 na c2 la ⟨va, vn, us, vc⟩ A n c w7 HA7.out (HR.out.below HW7.out)
      rw [HPA.out] at hpk
      have hpk2 : Calls Try.prog 15 #[.slice A2 na c2, .agg #[.int .i64 va, .int .i64 vn, .slice A n c, .int .i64 vc]] w7 (Ret (Just (.tuple #[.agg #[.int .i64 pr.1, .int .i64 pr.2.1, .int .i64 pr.2.2.1, .int .i64 pr.2.2.2.1, .int .i64 pr.2.2.2.2.1, .int .i64 pr.2.2.2.2.2], .bool true])) w7) := hpk
      clear hpk
      with_reducible refine hpk2.mono ?_
      clear hpk2 q0 q1 q2 q3
      rintro e w8 ⟨_, rfl, rfl, hb8⟩
      have R2d := Lib.hid (row_to hb8 R2c.out)
      have HW8 := Lib.hid (bstep HW7.out hb8)
      have HA8 := Lib.hid (HA7.out.below (balloc hb8 (.cells #[.int .i64 pr.1, .int .i64 pr.2.1, .int .i64 pr.2.2.1, .int .i64 pr.2.2.2.1, .int .i64 pr.2.2.2.2.1, .int .i64 pr.2.2.2.2.2] 31)))
      have HB8 := Lib.hid (HBB.out.below (balloc hb8 (.cells #[.int .i64 pr.1, .int .i64 pr.2.1, .int .i64 pr.2.2.1, .int .i64 pr.2.2.2.1, .int .i64 pr.2.2.2.2.1, .int .i64 pr.2.2.2.2.2] 31)))
      clear hb8
      obtain ⟨q0, q1, q2, q3⟩ := row4 R2d.out
      have z1 := row_lt R2d.out
      go_wp2_with fail
      have hpk := pick_any A4 (na + m2) c4 (la ++ mo) ⟨va, vn, us, vc⟩ A n c (w8.alloc (.cells #[.int .i64 pr.1, .int .i64 pr.2.1, .int .i64 pr.2.2.1, .int .i64 pr.2.2.2.1, .int .i64 pr.2.2.2.2.1, .int .i64 pr.2.2.2.2.2] 31)) HB8.out (HR.out.below (balloc HW8.out _))
      rw [HPB.out] at hpk
      have hpk2 : Calls Try.prog 15 #[.slice A4 (na + m2) c4, .agg #[.int .i64 va, .int .i64 vn, .slice A n c, .int .i64 vc]] (w8.alloc (.cells #[.int .i64 pr.1, .int .i64 pr.2.1, .int .i64 pr.2.2.1, .int .i64 pr.2.2.2.1, .int .i64 pr.2.2.2.2.1, .int .i64 pr.2.2.2.2.2] 31)) (Ret (Just (.tuple #[.agg #[.int .i64 pr.1, .int .i64 pr.2.1, .int .i64 pr.2.2.1, .int .i64 pr.2.2.2.1, .int .i64 pr.2.2.2.2.1, .int .i64 pr.2.2.2.2.2], .bool true])) (w8.alloc (.cells #[.int .i64 pr.1, .int .i64 pr.2.1, .int .i64 pr.2.2.1, .int .i64 pr.2.2.2.1, .int .i64 pr.2.2.2.2.1, .int .i64 pr.2.2.2.2.2] 31))) := hpk
      clear hpk
      with_reducible refine hpk2.mono ?_
      clear hpk2 q0 q1 q2 q3 z1
      rintro e w9 ⟨_, rfl, rfl, hb9⟩
      have R2e := Lib.hid (row_to hb9 (fresh_row R2d.out _))
      have R12 := Lib.hid ((hb9.block w8.heap.size (by simp)).trans (heap_alloc_new w8 _))
      have HW9 := Lib.hid (bstep (balloc HW8.out _) hb9)
      have HA9 := Lib.hid (HA8.out.below hb9)
      have HB9 := Lib.hid (HB8.out.below hb9)
      clear hb9
      go_wp2_with fail
      have R14 := Lib.hid (heap_alloc_new w9 (.cells #[.int .i64 pr.1, .int .i64 pr.2.1, .int .i64 pr.2.2.1, .int .i64 pr.2.2.2.1, .int .i64 pr.2.2.2.2.1, .int .i64 pr.2.2.2.2.2] 31))
      have R12a := Lib.hid (fresh_row R12.out (.cells #[.int .i64 pr.1, .int .i64 pr.2.1, .int .i64 pr.2.2.1, .int .i64 pr.2.2.2.1, .int .i64 pr.2.2.2.2.1, .int .i64 pr.2.2.2.2.2] 31))
      have R2f := Lib.hid (fresh_row R2e.out (.cells #[.int .i64 pr.1, .int .i64 pr.2.1, .int .i64 pr.2.2.1, .int .i64 pr.2.2.2.1, .int .i64 pr.2.2.2.2.1, .int .i64 pr.2.2.2.2.2] 31))
      have HW10 := Lib.hid (balloc HW9.out (.cells #[.int .i64 pr.1, .int .i64 pr.2.1, .int .i64 pr.2.2.1, .int .i64 pr.2.2.2.1, .int .i64 pr.2.2.2.2.1, .int .i64 pr.2.2.2.2.2] 31))
      have HA10 := Lib.hid (HA9.out.below (bnew w9 (.cells #[.int .i64 pr.1, .int .i64 pr.2.1, .int .i64 pr.2.2.1, .int .i64 pr.2.2.2.1, .int .i64 pr.2.2.2.2.1, .int .i64 pr.2.2.2.2.2] 31)))
      have HB10 := Lib.hid (HB9.out.below (bnew w9 (.cells #[.int .i64 pr.1, .int .i64 pr.2.1, .int .i64 pr.2.2.1, .int .i64 pr.2.2.2.1, .int .i64 pr.2.2.2.2.1, .int .i64 pr.2.2.2.2.2] 31)))
      generalize w9.alloc (.cells #[.int .i64 pr.1, .int .i64 pr.2.1, .int .i64 pr.2.2.1, .int .i64 pr.2.2.2.1, .int .i64 pr.2.2.2.2.1, .int .i64 pr.2.2.2.2.2] 31) = W1 at *
      have f0 := fun W (hC : Below W1.heap.size W1 W) => (row4 (row_to hC R2f.out)).2.2.2
      have fa0 := fun W (hC : Below W1.heap.size W1 W) => (row6 (row_to hC R12a.out)).1
      have fa1 := fun W (hC : Below W1.heap.size W1 W) => (row6 (row_to hC R12a.out)).2.1
      have fa2 := fun W (hC : Below W1.heap.size W1 W) => (row6 (row_to hC R12a.out)).2.2.1
      have fa3 := fun W (hC : Below W1.heap.size W1 W) => (row6 (row_to hC R12a.out)).2.2.2.1
      have fa4 := fun W (hC : Below W1.heap.size W1 W) => (row6 (row_to hC R12a.out)).2.2.2.2.1
      have fa5 := fun W (hC : Below W1.heap.size W1 W) => (row6 (row_to hC R12a.out)).2.2.2.2.2
      have fb0 := fun W (hC : Below W1.heap.size W1 W) => (row6 (row_to hC R14.out)).1
      have fb1 := fun W (hC : Below W1.heap.size W1 W) => (row6 (row_to hC R14.out)).2.1
      have fb2 := fun W (hC : Below W1.heap.size W1 W) => (row6 (row_to hC R14.out)).2.2.1
      have fb3 := fun W (hC : Below W1.heap.size W1 W) => (row6 (row_to hC R14.out)).2.2.2.1
      have fb4 := fun W (hC : Below W1.heap.size W1 W) => (row6 (row_to hC R14.out)).2.2.2.2.1
      have fb5 := fun W (hC : Below W1.heap.size W1 W) => (row6 (row_to hC R14.out)).2.2.2.2.2
      refine wp_region_rel (by kernel_rfl) (by decide +kernel) (by rfl) ?_
      repeat (first
        | (refine rel_skip ⟨_, _, _, _, rfl, rfl, rfl, ?_⟩ ?_
           focus (intro h; cases h; done))
        | refine rel_move _ (Just _) (.inl rfl) (by first | exact .inl rfl | exact .inr ⟨_, _, _, rfl, rfl, rfl⟩) rfl (lasts_just _) ?_
        | refine rel_move _ (Just _) (.inr rfl) (by first | exact .inl rfl | exact .inr ⟨_, _, _, rfl, rfl, rfl⟩) rfl (lasts_just _) ?_
        | refine rel_moveC _ (.inl rfl) (by first | exact .inl rfl | exact .inr ⟨_, _, _, rfl, rfl, rfl⟩) ?_
        | refine rel_moveC _ (.inr rfl) (by first | exact .inl rfl | exact .inr ⟨_, _, _, rfl, rfl, rfl⟩) ?_
        | refine rel_str _ _ rfl (by first | exact .inl rfl | exact .inr ⟨_, _, _, rfl, rfl, rfl⟩) rfl ?_
        | refine rel_lenB _ _ rfl (by first | exact .inl rfl | exact .inr ⟨_, _, _, rfl, rfl, rfl⟩) rfl ?_
        | refine rel_move _ (IsB _) (.inl rfl) (by first | exact .inl rfl | exact .inr ⟨_, _, _, rfl, rfl, rfl⟩) rfl (lasts_isB _) ?_
        | refine rel_move _ (IsB _) (.inr rfl) (by first | exact .inl rfl | exact .inr ⟨_, _, _, rfl, rfl, rfl⟩) rfl (lasts_isB _) ?_
        | (refine rel_exact ?_ (by first | exact .inl rfl | exact .inr ⟨_, _, _, rfl, rfl, rfl⟩) ?_ ?_
           rotate_left
           (intro ρ W hρ hC hk
            simp [known, looks, Op.operands, Call.operands, slotFact, Just, List.lookup] at hk
            obtain ⟨hρ1, hρ2, hρ3⟩ := hρ
            go_simp
            rfl)))
      refine rel_op (IsRs ML) (lasts_isRs _) (by first | exact .inl rfl | exact .inr ⟨_, _, _, rfl, rfl, rfl⟩) ?_ ?_
      · intro ρ W hρ hC hk
        simp [known, looks, Op.operands, Call.operands, slotFact, Just, List.lookup] at hk
        obtain ⟨hρ1, hρ2, hρ3⟩ := hρ
        go_simp
        have hx := reach_any A4 (na + m2) c4 (la ++ mo) vc W (HB10.out.below hC) (by omega)
        rw [HRB.out] at hx
        exact ⟨Below.refl _ _, hx⟩
      refine rel_lenR _ ML rfl (by first | exact .inl rfl | exact .inr ⟨_, _, _, rfl, rfl, rfl⟩) rfl ?_
      repeat (first
        | (refine rel_skip ⟨_, _, _, _, rfl, rfl, rfl, ?_⟩ ?_
           focus (intro h; cases h; done))
        | refine rel_move _ (Just _) (.inl rfl) (by first | exact .inl rfl | exact .inr ⟨_, _, _, rfl, rfl, rfl⟩) rfl (lasts_just _) ?_
        | refine rel_move _ (Just _) (.inr rfl) (by first | exact .inl rfl | exact .inr ⟨_, _, _, rfl, rfl, rfl⟩) rfl (lasts_just _) ?_
        | refine rel_moveC _ (.inl rfl) (by first | exact .inl rfl | exact .inr ⟨_, _, _, rfl, rfl, rfl⟩) ?_
        | refine rel_moveC _ (.inr rfl) (by first | exact .inl rfl | exact .inr ⟨_, _, _, rfl, rfl, rfl⟩) ?_
        | refine rel_str _ _ rfl (by first | exact .inl rfl | exact .inr ⟨_, _, _, rfl, rfl, rfl⟩) rfl ?_
        | refine rel_lenB _ _ rfl (by first | exact .inl rfl | exact .inr ⟨_, _, _, rfl, rfl, rfl⟩) rfl ?_
        | refine rel_move _ (IsB _) (.inl rfl) (by first | exact .inl rfl | exact .inr ⟨_, _, _, rfl, rfl, rfl⟩) rfl (lasts_isB _) ?_
        | refine rel_move _ (IsB _) (.inr rfl) (by first | exact .inl rfl | exact .inr ⟨_, _, _, rfl, rfl, rfl⟩) rfl (lasts_isB _) ?_
        | (refine rel_exact ?_ (by first | exact .inl rfl | exact .inr ⟨_, _, _, rfl, rfl, rfl⟩) ?_ ?_
           rotate_left
           (intro ρ W hρ hC hk
            simp [known, looks, Op.operands, Call.operands, slotFact, Just, List.lookup] at hk
            obtain ⟨hρ1, hρ2, hρ3⟩ := hρ
            go_simp
            rfl)))
      refine rel_op (IsRs ML) (lasts_isRs _) (by first | exact .inl rfl | exact .inr ⟨_, _, _, rfl, rfl, rfl⟩) ?_ ?_
      · intro ρ W hρ hC hk
        simp [known, looks, Op.operands, Call.operands, slotFact, Just, List.lookup] at hk
        obtain ⟨hρ1, hρ2, hρ3⟩ := hρ
        go_simp
        have hx := reach_any A2 na c2 la vc W (HA10.out.below hC) (by omega)
        rw [HRA.out] at hx
        exact ⟨Below.refl _ _, hx⟩
      refine rel_lenR _ ML rfl (by first | exact .inl rfl | exact .inr ⟨_, _, _, rfl, rfl, rfl⟩) rfl ?_
      repeat (first
        | (refine rel_skip ⟨_, _, _, _, rfl, rfl, rfl, ?_⟩ ?_
           focus (intro h; cases h; done))
        | refine rel_move _ (Just _) (.inl rfl) (by first | exact .inl rfl | exact .inr ⟨_, _, _, rfl, rfl, rfl⟩) rfl (lasts_just _) ?_
        | refine rel_move _ (Just _) (.inr rfl) (by first | exact .inl rfl | exact .inr ⟨_, _, _, rfl, rfl, rfl⟩) rfl (lasts_just _) ?_
        | refine rel_moveC _ (.inl rfl) (by first | exact .inl rfl | exact .inr ⟨_, _, _, rfl, rfl, rfl⟩) ?_
        | refine rel_moveC _ (.inr rfl) (by first | exact .inl rfl | exact .inr ⟨_, _, _, rfl, rfl, rfl⟩) ?_
        | refine rel_str _ _ rfl (by first | exact .inl rfl | exact .inr ⟨_, _, _, rfl, rfl, rfl⟩) rfl ?_
        | refine rel_lenB _ _ rfl (by first | exact .inl rfl | exact .inr ⟨_, _, _, rfl, rfl, rfl⟩) rfl ?_
        | refine rel_move _ (IsB _) (.inl rfl) (by first | exact .inl rfl | exact .inr ⟨_, _, _, rfl, rfl, rfl⟩) rfl (lasts_isB _) ?_
        | refine rel_move _ (IsB _) (.inr rfl) (by first | exact .inl rfl | exact .inr ⟨_, _, _, rfl, rfl, rfl⟩) rfl (lasts_isB _) ?_
        | (refine rel_exact ?_ (by first | exact .inl rfl | exact .inr ⟨_, _, _, rfl, rfl, rfl⟩) ?_ ?_
           rotate_left
           (intro ρ W hρ hC hk
            simp [known, looks, Op.operands, Call.operands, slotFact, Just, List.lookup] at hk
            obtain ⟨hρ1, hρ2, hρ3⟩ := hρ
            go_simp
            rfl)))
      refine rel_nil ?_
      intro a W hC hd hsz ht
      refine fin_exit hsz hd ht (of_decide_eq_true (by kernel_rfl)) ?_
      repeat (first
        | refine fin_just ?_
        | (intro _ _))
      refine fin_nil ?_
      simp only [Act.put, Option.getD_some, List.setIfInBounds_toArray, List.set_cons_zero, List.set_cons_succ]
      clear hd hsz ht
      rename World => W2
      have HWW := Lib.hid hC
      clear hC f0 fa0 fa1 fa2 fa3 fa4 fa5 fb0 fb1 fb2 fb3 fb4 fb5
      have R2g := Lib.hid (row_to HWW.out R2f.out)
      have R12b := Lib.hid (row_to HWW.out R12a.out)
      have HA11 := Lib.hid (HA10.out.below HWW.out)
      have HW11 := Lib.hid (bstep HW10.out HWW.out)
      go_wp2_with fail
      cases mo with
      | nil =>
        obtain rfl : m2 = 0 := HMO2.out.symm
        refine wp_region_rel (by kernel_rfl) (by decide +kernel) (by rfl) ?_
        repeat (first
          | (refine rel_skip ⟨_, _, _, _, rfl, rfl, rfl, ?_⟩ ?_
             focus (intro h; cases h; done))
          | refine rel_move _ (Just _) (.inl rfl) (by first | exact .inl rfl | exact .inr ⟨_, _, _, rfl, rfl, rfl⟩) rfl (lasts_just _) ?_
          | refine rel_move _ (Just _) (.inr rfl) (by first | exact .inl rfl | exact .inr ⟨_, _, _, rfl, rfl, rfl⟩) rfl (lasts_just _) ?_
          | refine rel_moveC _ (.inl rfl) (by first | exact .inl rfl | exact .inr ⟨_, _, _, rfl, rfl, rfl⟩) ?_
          | refine rel_moveC _ (.inr rfl) (by first | exact .inl rfl | exact .inr ⟨_, _, _, rfl, rfl, rfl⟩) ?_
          | refine rel_str _ _ rfl (by first | exact .inl rfl | exact .inr ⟨_, _, _, rfl, rfl, rfl⟩) rfl ?_
          | refine rel_lenB _ _ rfl (by first | exact .inl rfl | exact .inr ⟨_, _, _, rfl, rfl, rfl⟩) rfl ?_
          | refine rel_move _ (IsB _) (.inl rfl) (by first | exact .inl rfl | exact .inr ⟨_, _, _, rfl, rfl, rfl⟩) rfl (lasts_isB _) ?_
          | refine rel_move _ (IsB _) (.inr rfl) (by first | exact .inl rfl | exact .inr ⟨_, _, _, rfl, rfl, rfl⟩) rfl (lasts_isB _) ?_
          | (refine rel_exact ?_ (by first | exact .inl rfl | exact .inr ⟨_, _, _, rfl, rfl, rfl⟩) ?_ ?_
             rotate_left
             (intro ρ W hρ hC hk
              simp [known, looks, Op.operands, Call.operands, slotFact, Just, List.lookup] at hk
              obtain ⟨hρ1, hρ2, hρ3⟩ := hρ
              go_simp
              rfl)))
        refine rel_nil ?_
        intro a W hC hd hsz ht
        refine fin_exit hsz hd ht (of_decide_eq_true (by kernel_rfl)) ?_
        repeat (first
          | refine fin_just ?_
          | (intro _ _))
        refine fin_nil ?_
        simp only [Act.put, Option.getD_some, List.setIfInBounds_toArray, List.set_cons_zero, List.set_cons_succ]
        clear hd hsz ht
        go_wp2
        go_ret
        exact ⟨rfl, bstep HW11.out hC⟩
      | cons x mt =>
        have hm0 : 0 < (x :: mt).length := by simp
        have hm2 : (x :: mt).length = m2 := HMO2.out
        obtain ⟨b, o, rfl, hbl, c0, c1', c2', c3', c4', c5'⟩ := (HMO.out.below HW11.out).at_ hm0
        simp only [List.getElem_cons_zero, Nat.zero_mul, Nat.add_zero] at c0 c1' c2' c3' c4' c5'
        have e1 : (m2 : Int) ≠ 0 := by omega
        have e2 : ((m2 : Int) == 0) = false := beq_eq_false_iff_ne.2 e1
        have e3 : (0 : Int) < m2 := by omega
        have e4 : 0 < m2 := by omega
        obtain ⟨F, hF⟩ : ∃ F, fitsB x ⟨va, vn, us, vc⟩ = F := ⟨_, rfl⟩
        have HF := Lib.hid hF
        clear hF hm0 hm2
        have g0 : ∀ W, Below W2.heap.size W2 W → W.cell? ⟨b, o, none⟩ = some (.int .i64 x.1) := fun W hC => (hC.cell (p := ⟨b, o, none⟩) hbl).trans c0
        have g1 : ∀ W, Below W2.heap.size W2 W → W.cell? ⟨b, o + 1, none⟩ = some (.int .i64 x.2.1) := fun W hC => (hC.cell (p := ⟨b, o + 1, none⟩) hbl).trans c1'
        have g2 : ∀ W, Below W2.heap.size W2 W → W.cell? ⟨b, o + 2, none⟩ = some (.int .i64 x.2.2.1) := fun W hC => (hC.cell (p := ⟨b, o + 2, none⟩) hbl).trans c2'
        have g3 : ∀ W, Below W2.heap.size W2 W → W.cell? ⟨b, o + 3, none⟩ = some (.int .i64 x.2.2.2.1) := fun W hC => (hC.cell (p := ⟨b, o + 3, none⟩) hbl).trans c3'
        have g4 : ∀ W, Below W2.heap.size W2 W → W.cell? ⟨b, o + 4, none⟩ = some (.int .i64 x.2.2.2.2.1) := fun W hC => (hC.cell (p := ⟨b, o + 4, none⟩) hbl).trans c4'
        have g5 : ∀ W, Below W2.heap.size W2 W → W.cell? ⟨b, o + 5, none⟩ = some (.int .i64 x.2.2.2.2.2) := fun W hC => (hC.cell (p := ⟨b, o + 5, none⟩) hbl).trans c5'
        refine wp_region_rel (by kernel_rfl) (by decide +kernel) (by rfl) ?_
        repeat (first
          | (refine rel_skip ⟨_, _, _, _, rfl, rfl, rfl, ?_⟩ ?_
             focus (intro h; cases h; done))
          | refine rel_move _ (Just _) (.inl rfl) (by first | exact .inl rfl | exact .inr ⟨_, _, _, rfl, rfl, rfl⟩) rfl (lasts_just _) ?_
          | refine rel_move _ (Just _) (.inr rfl) (by first | exact .inl rfl | exact .inr ⟨_, _, _, rfl, rfl, rfl⟩) rfl (lasts_just _) ?_
          | refine rel_moveC _ (.inl rfl) (by first | exact .inl rfl | exact .inr ⟨_, _, _, rfl, rfl, rfl⟩) ?_
          | refine rel_moveC _ (.inr rfl) (by first | exact .inl rfl | exact .inr ⟨_, _, _, rfl, rfl, rfl⟩) ?_
          | refine rel_str _ _ rfl (by first | exact .inl rfl | exact .inr ⟨_, _, _, rfl, rfl, rfl⟩) rfl ?_
          | refine rel_lenB _ _ rfl (by first | exact .inl rfl | exact .inr ⟨_, _, _, rfl, rfl, rfl⟩) rfl ?_
          | refine rel_move _ (IsB _) (.inl rfl) (by first | exact .inl rfl | exact .inr ⟨_, _, _, rfl, rfl, rfl⟩) rfl (lasts_isB _) ?_
          | refine rel_move _ (IsB _) (.inr rfl) (by first | exact .inl rfl | exact .inr ⟨_, _, _, rfl, rfl, rfl⟩) rfl (lasts_isB _) ?_
          | (refine rel_exact ?_ (by first | exact .inl rfl | exact .inr ⟨_, _, _, rfl, rfl, rfl⟩) ?_ ?_
             rotate_left
             (intro ρ W hρ hC hk
              simp [known, looks, Op.operands, Call.operands, slotFact, Just, List.lookup] at hk
              obtain ⟨hρ1, hρ2, hρ3⟩ := hρ
              go_simp
              rfl)))
        refine rel_loadRow 7 (w.heap.size + 1) 27 27 #[.int .i64 va, .int .i64 vn, .slice A n c, .int .i64 vc] (0, 0) _ rfl (by first | exact .inl rfl | exact .inr ⟨_, _, _, rfl, rfl, rfl⟩) rfl Try.underlying27 rfl viewSize (fun W hC => row_to hC R2g.out) ?_
        refine rel_op (Just (.bool (fitsB x ⟨va, vn, us, vc⟩))) (lasts_just _) (by first | exact .inl rfl | exact .inr ⟨_, _, _, rfl, rfl, rfl⟩) ?_ ?_
        · intro ρ W hρ hC hk
          simp [known, looks, Op.operands, Call.operands, slotFact, Just, List.lookup] at hk
          obtain ⟨hρ1, hρ2, hρ3⟩ := hρ
          go_simp
          exact ⟨Below.refl _ _, fitsx x va vn vc us A n c W (HR.out.below (bstep HW11.out hC))⟩
        rw [HF.out]
        repeat (first
          | (refine rel_skip ⟨_, _, _, _, rfl, rfl, rfl, ?_⟩ ?_
             focus (intro h; cases h; done))
          | refine rel_move _ (Just _) (.inl rfl) (by first | exact .inl rfl | exact .inr ⟨_, _, _, rfl, rfl, rfl⟩) rfl (lasts_just _) ?_
          | refine rel_move _ (Just _) (.inr rfl) (by first | exact .inl rfl | exact .inr ⟨_, _, _, rfl, rfl, rfl⟩) rfl (lasts_just _) ?_
          | refine rel_moveC _ (.inl rfl) (by first | exact .inl rfl | exact .inr ⟨_, _, _, rfl, rfl, rfl⟩) ?_
          | refine rel_moveC _ (.inr rfl) (by first | exact .inl rfl | exact .inr ⟨_, _, _, rfl, rfl, rfl⟩) ?_
          | refine rel_str _ _ rfl (by first | exact .inl rfl | exact .inr ⟨_, _, _, rfl, rfl, rfl⟩) rfl ?_
          | refine rel_lenB _ _ rfl (by first | exact .inl rfl | exact .inr ⟨_, _, _, rfl, rfl, rfl⟩) rfl ?_
          | refine rel_move _ (IsB _) (.inl rfl) (by first | exact .inl rfl | exact .inr ⟨_, _, _, rfl, rfl, rfl⟩) rfl (lasts_isB _) ?_
          | refine rel_move _ (IsB _) (.inr rfl) (by first | exact .inl rfl | exact .inr ⟨_, _, _, rfl, rfl, rfl⟩) rfl (lasts_isB _) ?_
          | (refine rel_exact ?_ (by first | exact .inl rfl | exact .inr ⟨_, _, _, rfl, rfl, rfl⟩) ?_ ?_
             rotate_left
             (intro ρ W hρ hC hk
              simp [known, looks, Op.operands, Call.operands, slotFact, Just, List.lookup] at hk
              obtain ⟨hρ1, hρ2, hρ3⟩ := hρ
              go_simp
              rfl)))
        cases F
        · refine rel_nil ?_
          intro a W hC hd hsz ht
          refine fin_exit hsz hd ht (of_decide_eq_true (by kernel_rfl)) ?_
          repeat (first
            | refine fin_just ?_
            | (intro _ _))
          refine fin_nil ?_
          simp only [Act.put, Option.getD_some, List.setIfInBounds_toArray, List.set_cons_zero, List.set_cons_succ]
          clear hd hsz ht
          rename World => W3
          have HP3 := Lib.hid (show pickL (x :: la) ⟨va, vn, us, vc⟩ = (pr, true) by rw [find_cons_no HF.out]; exact HPA.out)
          have h0 := g0 W3 hC
          have h1 := g1 W3 hC
          have h2 := g2 W3 hC
          have h3 := g3 W3 hC
          have h4 := g4 W3 hC
          have h5 := g5 W3 hC
          have R2h := Lib.hid (row_to hC R2g.out)
          have R12c := Lib.hid (row_to hC R12b.out)
          have HA12 := Lib.hid (HA11.out.below hC)
          have HW12 := Lib.hid (bstep HW11.out hC)
          have hbl3 : b < W3.heap.size := Nat.lt_of_lt_of_le hbl hC.size
          clear g0 g1 g2 g3 g4 g5 c0 c1' c2' c3' c4' c5' hbl hC
          go_upto_region 15 with (at_builtin; (refine wpList_append_gr _ rfl _ _ 22 rfl W3.heap.size 31 i0 (.agg #[.int .i64 0, .int .i64 0, .int .i64 0, .int .i64 0, .int .i64 0, .int .i64 0]) 6 48 Try.underlying22 HI.out H0.out H1.out H2.out rfl (by decide) _ 1 (ruleV x) rfl (.inr ⟨rfl, by unfold maxLen; omega, _, rfl, lies_newR W3 x _⟩) A2 na c2 (rulesV la) rfl (by rw [rulesV_length, HA12.out.len]) ((HA12.out.below (bnew W3 _)).lies) ?_ (oneCell_rules la) (by unfold maxLen; omega) (by omega) (by simp); intro A5 c5 w13 hG; have HC13 : Hid (RdR w13 A5 (1 + na) c5 (x :: la)) := Lib.hid (rdR_of_gr hG.gr); have HB13 := Lib.hid (show Below W3.heap.size W3 w13 from (bnew W3 _).trans hG.below); clear hG))
          have R2i := Lib.hid (row_to HB13.out R2h.out)
          have R12d := Lib.hid (row_to HB13.out R12c.out)
          have HW13 := Lib.hid (bstep HW12.out HB13.out)
          clear h0 h1 h2 h3 h4 h5
          obtain ⟨q0, q1, q2, q3⟩ := row4 R2i.out
          go_wp2_with fail
          have hpk := pick_any A5 (1 + na) c5 (x :: la) ⟨va, vn, us, vc⟩ A n c w13 HC13.out (HR.out.below HW13.out)
          rw [HP3.out] at hpk
          have hpk2 : Calls Try.prog 15 #[.slice A5 (1 + na) c5, .agg #[.int .i64 va, .int .i64 vn, .slice A n c, .int .i64 vc]] w13 (Ret (Just (.tuple #[.agg #[.int .i64 pr.1, .int .i64 pr.2.1, .int .i64 pr.2.2.1, .int .i64 pr.2.2.2.1, .int .i64 pr.2.2.2.2.1, .int .i64 pr.2.2.2.2.2], .bool true])) w13) := hpk
          clear hpk
          with_reducible refine hpk2.mono ?_
          clear hpk2 q0 q1 q2 q3
          rintro e w14 ⟨_, rfl, rfl, hb14⟩
          have HW14 := Lib.hid (bstep HW13.out hb14)
          have R12e := Lib.hid (row_to hb14 R12d.out)
          obtain ⟨k0, k1, k2, k3, k4, k5⟩ := row6 R12e.out
          have z9 := row_lt R12e.out
          clear hb14
          go_wp2
          go_ret
          exact ⟨rfl, balloc HW14.out _⟩
        · refine rel_nil ?_
          intro a W hC hd hsz ht
          refine fin_exit hsz hd ht (of_decide_eq_true (by kernel_rfl)) ?_
          repeat (first
            | refine fin_just ?_
            | (intro _ _))
          refine fin_nil ?_
          simp only [Act.put, Option.getD_some, List.setIfInBounds_toArray, List.set_cons_zero, List.set_cons_succ]
          clear hd hsz ht
          go_wp2
          go_ret
          exact ⟨rfl, bstep HW11.out hC⟩
end Go.Proofs.Ytmlhbmlppgoklab
