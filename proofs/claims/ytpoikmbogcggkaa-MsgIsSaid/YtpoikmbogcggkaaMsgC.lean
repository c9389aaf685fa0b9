/- Common words for the laws of layer 3. -/
import Derived.Test.YtpoikmbogcggkaaMsg7
namespace Go.Proofs.Ytpoikmbogcggkaa
open Go.RowKit
set_option maxHeartbeats 400000
set_option maxRecDepth 100000
set_option linter.unusedVariables false
set_option linter.unusedSimpArgs false

theorem rel_loadRow {P : Program} {ops : Array Oper} {a0 : Act} {C : World → Prop} {Q : Env → Prop} {env : Env} {o : Oper} {rest : List Oper} (t g : Nat) (ty tt : TypeId) (cs : Array Value) (fr : Nat × Nat) (d : TypeDesc)
    (hop : o.op = .load ty (.tmp t)) (hg : GuardYes ops a0 env o) (hs : slotFact a0 env t = Just (.pointer (some ⟨g, 0, none⟩)))
    (hu : P.underlying ty = some d) (hd : (match d with | .struct _ | .array _ _ => true | _ => false) = true) (hi : (P.info? ty).map (·.size) = some cs.size)
    (hrow : ∀ w, C w → w.heap[g]? = some (.cells cs tt fr)) (h : Rel P ops C a0 Q ((o.dst.getD 0, Just (.agg cs)) :: env) rest) : Rel P ops C a0 Q env (o :: rest) := by
  refine rel_exact (.agg cs) hg (fun ρ w hρ hC hk => ?_) h
  obtain ⟨dst, op, type, pos, after, guard⟩ := o
  simp only at hop
  subst hop
  simp only [looks, Op.operands] at hk
  simp [known] at hk
  rw [hs] at hk
  have hk : ρ (.tmp t) = _ := hk
  unfold execOp
  simp only [hk, Instr.loadAt, Instr.sureAddr, Sem.run_bind, Sem.run_pure, Result.andThen_ok, run_loadVar_row w g tt ty cs fr d (hrow w hC) hu hd hi]

theorem row2 {w : World} {g : Nat} {t : TypeId} {a b : Value} (h : w.heap[g]? = some (.cells #[a, b] t (0, 0))) : w.cell? ⟨g, 0, none⟩ = some a ∧ w.cell? ⟨g, 1, none⟩ = some b := by
  constructor <;> simp [World.cell?, h]
theorem row_lt {w : World} {g : Nat} {o : Obj} (h : w.heap[g]? = some o) : g < w.heap.size := (Array.getElem?_eq_some_iff.1 h).1
theorem row_to {w w' : World} {g : Nat} {o : Obj} (hb : Below w.heap.size w w') (h : w.heap[g]? = some o) : w'.heap[g]? = some o := (hb.block _ (row_lt h)).trans h

theorem octAt_eq {v : Int} {j : Nat} {x : UInt8} (h : v / (2 : Int) ^ (8 * j) % 256 = x.toNat) : octAt v j = x := by
  have := octAt_toNat v j
  rw [h] at this
  exact UInt8.toNat_inj.1 (by omega)
theorem octAt_hi (a b : UInt8) : octAt ((a.toNat * 256 + b.toNat : Nat) : Int) 1 = a := by
  have := a.toNat_lt
  have := b.toNat_lt
  exact octAt_eq (by simp; omega)
theorem octAt_lo (a b : UInt8) : octAt ((a.toNat * 256 + b.toNat : Nat) : Int) 0 = b := by
  have := a.toNat_lt
  have := b.toNat_lt
  exact octAt_eq (by simp; omega)
theorem octAt_one (a : UInt8) : octAt (a.toNat : Int) 0 = a := by
  have := a.toNat_lt
  exact octAt_eq (by simp; omega)

theorem head_of {l : List UInt8} (h : 19 ≤ l.length) (hP : l.take 16 = List.replicate 16 255) : ∃ a b c R, l = List.replicate 16 255 ++ (a :: b :: c :: R) := by
  have e := List.take_append_drop 16 l
  rw [hP] at e
  have hd : 3 ≤ (l.drop 16).length := by rw [List.length_drop]; omega
  match hR : l.drop 16, hd with
  | a :: b :: c :: R, _ =>
    rw [hR] at e
    exact ⟨a, b, c, R, e.symm⟩

theorem getM_cases (l : List UInt8) :
    (getM l = ⟨0, [], 0, 0, 0, []⟩ ∧ l.length < 4096) ∨
    (∃ (s : Int) (d : List UInt8), getM l = ⟨0, [], 0, 1, s, d⟩ ∧ 19 ≤ l.length ∧ ((s = 1 ∧ d = []) ∨ (s = 2 ∧ d = (l.drop 16).take 2) ∨ (s = 3 ∧ d = (l.drop 18).take 1))) ∨
    (∃ (t : Int) (s : Nat), OkS t s ∧ s ≤ l.length ∧ getM l = ⟨t, (l.take s).drop 19, s, 0, 0, []⟩ ∧ l.take s = msgL t ((l.take s).drop 19)) := by
  by_cases h1 : l.length < 19
  · left
    unfold getM
    rw [if_pos h1]
    exact ⟨rfl, by omega⟩
  · by_cases hP : l.take 16 = List.replicate 16 255
    · obtain ⟨a, b, c, R, rfl⟩ := head_of (by omega) hP
      have hl : (List.replicate 16 255 ++ (a :: b :: c :: R)).length = R.length + 19 := by simp
      have ha := a.toNat_lt
      have hb := b.toNat_lt
      have ec : octAt (c.toNat : Int) 0 = c := octAt_one c
      have p2 : putL ((a.toNat * 256 + b.toNat : Nat) : Int) 2 = [a, b] := by
        have : putL ((a.toNat * 256 + b.toNat : Nat) : Int) 2 = [octAt ((a.toNat * 256 + b.toNat : Nat) : Int) 1, octAt ((a.toNat * 256 + b.toNat : Nat) : Int) 0] := by simp [putL, List.range_succ]
        rw [this, octAt_hi, octAt_lo]
      have p1 : putL (c.toNat : Int) 1 = [c] := by
        have : putL (c.toNat : Int) 1 = [octAt (c.toNat : Int) 0] := by simp [putL, List.range_succ]
        rw [this, ec]
      by_cases h2 : 19 ≤ ((a.toNat * 256 + b.toNat : Nat) : Int) ∧ ((a.toNat * 256 + b.toNat : Nat) : Int) ≤ 4096
      · cases h3 : (leastZ c.toNat == 0)
        · cases h4 : wrongB c.toNat ((a.toNat * 256 + b.toNat : Nat) : Int)
          · have hne : leastZ (c.toNat : Int) ≠ 0 := by
              intro e
              rw [e] at h3
              simp at h3
            have hbd := leastZ_bd (c.toNat : Int)
            have hk : OkS (c.toNat : Int) (a.toNat * 256 + b.toNat) := ⟨by omega, h4, by omega⟩
            have hf := getM_form hk R
            rw [octAt_hi, octAt_lo, ec] at hf
            by_cases h5 : R.length + 19 < a.toNat * 256 + b.toNat
            · left
              rw [hf, if_pos h5]
              exact ⟨rfl, by rw [hl]; omega⟩
            · right; right
              have hge := hk.ge
              have et : ((List.replicate 16 255 ++ (a :: b :: c :: R)).take (a.toNat * 256 + b.toNat)).drop 19 = R.take (a.toNat * 256 + b.toNat - 19) := by
                rw [List.drop_take, show (19 : Nat) = 19 + 0 from rfl, head_drop]
                simp
              refine ⟨c.toNat, a.toNat * 256 + b.toNat, hk, by rw [hl]; omega, ?_, ?_⟩
              · rw [hf, if_neg h5, et]
              · rw [et, msgL_form]
                have e0 : 19 + (R.take (a.toNat * 256 + b.toNat - 19)).length = a.toNat * 256 + b.toNat := by rw [List.length_take]; omega
                rw [e0, octAt_hi, octAt_lo, ec]
                obtain ⟨j, hj⟩ : ∃ j, a.toNat * 256 + b.toNat = 19 + j := ⟨_, (Nat.add_sub_of_le hge).symm⟩
                rw [hj, List.take_append]
                simp only [List.length_replicate]
                rw [List.take_of_length_le (by simp; omega), show 19 + j - 16 = j + 1 + 1 + 1 by omega, show 19 + j - 19 = j by omega]
                rfl
          · right; left
            refine ⟨2, [a, b], ?_, by rw [hl]; omega, .inr (.inl ⟨rfl, rfl⟩)⟩
            unfold getM
            rw [head_szN, head_kdN, head_take, decide_eq_true rfl, hl, if_neg (by omega)]
            have hf : faultN true ((a.toNat * 256 + b.toNat : Nat) : Int) c.toNat = (1, 2, [a, b]) := by
              unfold faultN
              rw [if_neg (by decide), if_pos h2, if_neg (by rw [h3]; decide), if_pos h4, p2]
            rw [hf, if_pos (.inl (show (0 : Int) < 1 by decide))]
        · right; left
          refine ⟨3, [c], ?_, by rw [hl]; omega, .inr (.inr ⟨rfl, rfl⟩)⟩
          unfold getM
          rw [head_szN, head_kdN, head_take, decide_eq_true rfl, hl, if_neg (by omega)]
          have hf : faultN true ((a.toNat * 256 + b.toNat : Nat) : Int) c.toNat = (1, 3, [c]) := by
            unfold faultN
            rw [if_neg (by decide), if_pos h2, if_pos h3, p1]
          rw [hf, if_pos (.inl (show (0 : Int) < 1 by decide))]
      · right; left
        refine ⟨2, [a, b], ?_, by rw [hl]; omega, .inr (.inl ⟨rfl, rfl⟩)⟩
        unfold getM
        rw [head_szN, head_kdN, head_take, decide_eq_true rfl, hl, if_neg (by omega)]
        have hf : faultN true ((a.toNat * 256 + b.toNat : Nat) : Int) c.toNat = (1, 2, [a, b]) := by
          unfold faultN
          rw [if_neg (by decide), if_neg h2, p2]
        rw [hf, if_pos (.inl (show (0 : Int) < 1 by decide))]
    · right; left
      refine ⟨1, [], ?_, by omega, .inl ⟨rfl, rfl⟩⟩
      unfold getM
      rw [if_neg h1, decide_eq_false hP]
      have hf : faultN false (szN l) (kdN l) = (1, 1, []) := by unfold faultN; rw [if_pos rfl]
      rw [hf, if_pos (.inl (show (0 : Int) < 1 by decide))]

theorem row3 {w : World} {g : Nat} {t : TypeId} {a b c : Value} (h : w.heap[g]? = some (.cells #[a, b, c] t (0, 0))) : w.cell? ⟨g, 0, none⟩ = some a ∧ w.cell? ⟨g, 1, none⟩ = some b ∧ w.cell? ⟨g, 2, none⟩ = some c := by
  refine ⟨?_, ?_, ?_⟩ <;> simp [World.cell?, h]
theorem own_below {w w' : World} {base e size n : Nat} {v : Value} {xs : List Value} (h : w.ownsRow base e size v n xs) (hb : Below w.heap.size w w') : w'.ownsRow base e size v n xs :=
  ⟨h.1, h.2.imp id fun ⟨g, cap, cur, hv, h1, hg, rest⟩ => ⟨g, cap, cur, hv, h1, row_to hb hg, rest⟩⟩

theorem wpList_max {P : Program} (w : World) {ops : Array Oper} {rest : List Oper} {o : Oper} {a : Act} {Q : Exit → Act → World → Prop} (hgd : o.guard = none) (s x : Operand) (T U : TypeId)
    (ho : o.op = .call { callee := .builtin .max, args := #[s, x], argTypes := #[T, U] }) (k : IntKind) (u v z : Int) (hs : a.eval s = .int k u) (hx : a.eval x = .int k v) (hz : (if v > u then v else u) = z)
    (h : wpList P ops Q rest (a.put o.dst (.int k z)) w) : wpList P ops Q (o :: rest) a w := by
  refine wpList_plain hgd fun K hK => ?_
  have hrun : (Builtin.max_ #[T, U] o.type #[.int k u, .int k v]).run P w = .ok (.int k z) w := by rw [run_max_int2, hz]
  unfold Oper.wp
  simp [execOp, ho, resolve, invoke, hs, hx, builtin, Sem.run_bind, hrun, Result.andThen]
  subst hz
  exact hK _ _ h

end Go.Proofs.Ytpoikmbogcggkaa
