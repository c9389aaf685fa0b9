/- The steps of the walk through a region. -/
import Derived.Test.YtmlhbmlppgoklacRegion
import Derived.Tactics
namespace Go.Proofs.Ytmlhbmlppgoklac
open Go.RowKit

section
variable {P : Program} {ops : Array Oper} {a0 : Act} {C : World → Prop} {Q : Env → Prop} {env : Env} {o : Oper} {rest : List Oper}

theorem run_move {ρ : Operand → Value} {x : Operand} {w : World} (h : o.op = .move x ∨ o.op = .assign x) : (execOp ρ o).run P w = .ok (.value (ρ x)) w := by
  obtain ⟨dst, op, type, pos, after, guard⟩ := o
  rcases h with h | h <;> (simp only at h; subst h; simp [execOp])

theorem rel_move (t : Nat) (V : Value → World → Prop) (hop : o.op = .move (.tmp t) ∨ o.op = .assign (.tmp t)) (hg : GuardYes ops a0 env o) (hV : slotFact a0 env t = V) (hl : Lasts V)
    (h : Rel P ops C a0 Q ((o.dst.getD 0, V) :: env) rest) : Rel P ops C a0 Q env (o :: rest) := by
  refine ⟨V, hl, .inl ⟨hg, fun ρ w hρ hC hf => ?_⟩, h⟩
  rw [run_move hop]
  have : t ∈ looks o := by
    unfold looks
    rcases hop with h | h <;> simp [h, Op.operands]
  have := hf t this
  rw [hV] at this
  exact ⟨this, Below.refl _ _⟩

theorem rel_moveC (v : Value) (hop : o.op = .move (.const v) ∨ o.op = .assign (.const v)) (hg : GuardYes ops a0 env o)
    (h : Rel P ops C a0 Q ((o.dst.getD 0, Just v) :: env) rest) : Rel P ops C a0 Q env (o :: rest) := by
  refine ⟨Just v, lasts_just v, .inl ⟨hg, fun ρ w hρ hC hf => ?_⟩, h⟩
  rw [run_move hop, hρ.const]
  exact ⟨rfl, Below.refl _ _⟩

/-- What is known of the slots that an operation looks at, one by one. -/
def known (a0 : Act) (env : Env) (ρ : Operand → Value) (w : World) : List Nat → Prop
  | [] => True
  | t :: ts => slotFact a0 env t (ρ (.tmp t)) w ∧ known a0 env ρ w ts
theorem known_of {ρ : Operand → Value} {w : World} : ∀ {ts : List Nat}, (∀ t ∈ ts, slotFact a0 env t (ρ (.tmp t)) w) → known a0 env ρ w ts
  | [], _ => trivial
  | _ :: _, h => ⟨h _ (by simp), known_of fun t ht => h t (by simp [ht])⟩

theorem rel_exact (v : Value) (hg : GuardYes ops a0 env o) (hs : ∀ ρ w, Reads ρ → C w → known a0 env ρ w (looks o) → (execOp ρ o).run P w = .ok (.value v) w)
    (h : Rel P ops C a0 Q ((o.dst.getD 0, Just v) :: env) rest) : Rel P ops C a0 Q env (o :: rest) := by
  refine ⟨Just v, lasts_just v, .inl ⟨hg, fun ρ w hρ hC hf => ?_⟩, h⟩
  rw [hs ρ w hρ hC (known_of hf)]
  exact ⟨rfl, Below.refl _ _⟩

theorem rel_skip (hg : GuardNo ops a0 env o) (h : Rel P ops C a0 Q ((o.dst.getD 0, Just undef) :: env) rest) : Rel P ops C a0 Q env (o :: rest) :=
  ⟨Just undef, lasts_just _, .inr ⟨hg, rfl⟩, h⟩

/-- An operation of whose value a lasting fact is told. -/
theorem rel_op (V : Value → World → Prop) (hl : Lasts V) (hg : GuardYes ops a0 env o) (hs : ∀ ρ w, Reads ρ → C w → known a0 env ρ w (looks o) → StepOK P V w ((execOp ρ o).run P w))
    (h : Rel P ops C a0 Q ((o.dst.getD 0, V) :: env) rest) : Rel P ops C a0 Q env (o :: rest) :=
  ⟨V, hl, .inl ⟨hg, fun ρ w hρ hC hf => hs ρ w hρ hC (known_of hf)⟩, h⟩

/-- The frame behind the region: the old one, with what the region has written. -/
def Fin (W : World) (K : Act → Prop) : Env → Act → Prop
  | [], a => K a
  | (d, V) :: E, a => ∀ v, V v W → Fin W K E (a.put (some d) v)

theorem fin_go {W : World} {K : Act → Prop} {a : Act} : ∀ (E : Env) (b : Act), b.tmps.size = a.tmps.size → b.defers = a.defers → (∀ p ∈ E, p.2 (a.tmps.getD p.1 undef) W) →
    (∀ t, (∀ p ∈ E, p.1 ≠ t) → b.tmps.getD t undef = a.tmps.getD t undef) → Fin W K E b → K a
  | [], b, hs, hd, _, ht, h => by
    have : b = a := by
      cases b with | mk bt bd =>
      cases a with | mk at_ ad =>
      simp only at hs hd
      subst hd
      have : bt = at_ := by
        apply Array.ext hs
        intro i h1 h2
        have := ht i (by simp)
        simpa [Array.getD_eq_getD_getElem?, h1, h2] using this
      rw [this]
    subst this
    exact h
  | (d, V) :: E, b, hs, hd, hV, ht, h => by
    refine fin_go E (b.put (some d) (a.tmps.getD d undef)) (by simp [Act.put, hs]) (by simp [Act.put, hd]) (fun p hp => hV p (by simp [hp])) (fun t h1 => ?_) (h _ (hV (d, V) (by simp)))
    by_cases hdt : d < b.tmps.size
    · rw [getD_put hdt]
      by_cases e : t = d
      · rw [if_pos e, e]
      · rw [if_neg e]
        exact ht t fun p hp => by
          rcases List.mem_cons.1 hp with rfl | hp
          · exact Ne.symm e
          · exact h1 p hp
    · have hb : (b.put (some d) (a.tmps.getD d undef)) = b := by simp [Act.put, Array.setIfInBounds, hdt]
      rw [hb]
      by_cases e : t = d
      · subst e
        rw [Array.getD_eq_getD_getElem?, Array.getD_eq_getD_getElem?, Array.getElem?_eq_none (by omega), Array.getElem?_eq_none (by omega)]
      · exact ht t fun p hp => by
          rcases List.mem_cons.1 hp with rfl | hp
          · exact Ne.symm e
          · exact h1 p hp

theorem slotFact_mem {a0 : Act} : ∀ {E : Env}, (E.map (·.1)).Nodup → ∀ p ∈ E, slotFact a0 E p.1 = p.2
  | (d, V) :: E, hn, p, hp => by
    simp only [List.map_cons, List.nodup_cons] at hn
    rcases List.mem_cons.1 hp with rfl | hp
    · simp [slotFact]
    · have hne : d ≠ p.1 := fun e => hn.1 (e ▸ List.mem_map.2 ⟨p, hp, rfl⟩)
      have := slotFact_append (a0 := a0) (s := [(d, V)]) (env := E) (t := p.1) (by simpa using hne)
      simp only [List.cons_append, List.nil_append] at this
      rw [this]
      exact slotFact_mem hn.2 p hp

theorem fin_of {a0 a : Act} {E : Env} {W : World} {K : Act → Prop} (hs : a.tmps.size = a0.tmps.size) (hd : a.defers = a0.defers) (ht : ∀ t, slotFact a0 E t (a.tmps.getD t undef) W) (hn : (E.map (·.1)).Nodup) (h : Fin W K E a0) : K a :=
  fin_go E a0 hs.symm hd.symm (fun p hp => by have := ht p.1; rwa [slotFact_mem hn p hp] at this) (fun t h1 => by
    have := ht t
    rw [slotFact_none h1] at this
    exact this.symm) h
theorem fin_exit {a0 a : Act} {E : Env} {W : World} {R : Exit → Act → World → Prop} (hs : a.tmps.size = a0.tmps.size) (hd : a.defers = a0.defers) (ht : ∀ t, slotFact a0 E t (a.tmps.getD t undef) W) (hn : (E.map (·.1)).Nodup) (h : Fin W (fun a => R .normal a W) E a0) : R .normal a W :=
  fin_of (K := fun a => R .normal a W) hs hd ht hn h
theorem fin_just {W : World} {K : Act → Prop} {d : Nat} {u : Value} {E : Env} {a : Act} (h : Fin W K E (a.put (some d) u)) : Fin W K ((d, Just u) :: E) a := by
  intro v hv
  have hv : v = u := hv
  rw [hv]
  exact h
theorem fin_nil {W : World} {K : Act → Prop} {a : Act} (h : K a) : Fin W K [] a := h

theorem rel_nil (h : Q env) : Rel P ops C a0 Q env [] := h
end
end Go.Proofs.Ytmlhbmlppgoklac
