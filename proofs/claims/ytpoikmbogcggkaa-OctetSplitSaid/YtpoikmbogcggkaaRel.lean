/- The steps of the walk through a region. -/
import Derived.Test.YtpoikmbogcggkaaRegion
import Derived.Tactics
namespace Go.Proofs.Ytpoikmbogcggkaa
open Go.RowKit

section
variable {P : Program} {ops : Array Oper} {a0 : Act} {C : World → Prop} {Q : Env → Prop} {env : Env} {o : Oper} {rest : List Oper}

theorem run_move {ρ : Operand → Value} {x : Operand} {w : World} (h : o.op = .move x ∨ o.op = .assign x) : (execOp ρ o).run P w = .ok (.value (ρ x)) w := by
  obtain ⟨dst, op, type, pos, after, guard⟩ := o
  rcases h with h | h <;> (simp only at h; subst h; simp [execOp])

theorem rel_move (t : Nat) (V : Value → World → Prop) (hop : o.op = .move (.tmp t) ∨ o.op = .assign (.tmp t)) (hg : GuardYes ops a0 env o) (hV : slotFact a0 env t = V) (hl : Lasts V)
    (h : Rel P ops C a0 Q ((o.dst.getD 0, V) :: env) rest) : Rel P ops C a0 Q env (o :: rest) := by
  refine ⟨V, hl, .inl ⟨hg, fun ρ w hρ hC hf => ?_⟩, h⟩
  rw [run_move hop]
  have : t ∈ looks o := by
    unfold looks
    rcases hop with h | h <;> simp [h, Op.operands]
  have := hf t this
  rw [hV] at this
  exact ⟨this, Below.refl _ _⟩

theorem rel_moveC (v : Value) (hop : o.op = .move (.const v) ∨ o.op = .assign (.const v)) (hg : GuardYes ops a0 env o)
    (h : Rel P ops C a0 Q ((o.dst.getD 0, Just v) :: env) rest) : Rel P ops C a0 Q env (o :: rest) := by
  refine ⟨Just v, lasts_just v, .inl ⟨hg, fun ρ w hρ hC hf => ?_⟩, h⟩
  rw [run_move hop, hρ.const]
  exact ⟨rfl, Below.refl _ _⟩

/-- What is known of the slots that an operation looks at, one by one. -/
def known (a0 : Act) (env : Env) (ρ : Operand → Value) (w : World) : List Nat → Prop
  | [] => True
  | t :: ts => slotFact a0 env t (ρ (.tmp t)) w ∧ known a0 env ρ w ts
theorem known_of {ρ : Operand → Value} {w : World} : ∀ {ts : List Nat}, (∀ t ∈ ts, slotFact a0 env t (ρ (.tmp t)) w) → known a0 env ρ w ts
  | [], _ => trivial
  | _ :: _, h => ⟨h _ (by simp), known_of fun t ht => h t (by simp [ht])⟩

theorem rel_exact (v : Value) (hg : GuardYes ops a0 env o) (hs : ∀ ρ w, Reads ρ → C w → known a0 env ρ w (looks o) → (execOp ρ o).run P w = .ok (.value v) w)
    (h : Rel P ops C a0 Q ((o.dst.getD 0, Just v) :: env) rest) : Rel P ops C a0 Q env (o :: rest) := by
  refine ⟨Just v, lasts_just v, .inl ⟨hg, fun ρ w hρ hC hf => ?_⟩, h⟩
  rw [hs ρ w hρ hC (known_of hf)]
  exact ⟨rfl, Below.refl _ _⟩

theorem rel_skip (hg : GuardNo ops a0 env o) (h : Rel P ops C a0 Q ((o.dst.getD 0, Just undef) :: env) rest) : Rel P ops C a0 Q env (o :: rest) :=
  ⟨Just undef, lasts_just _, .inr ⟨hg, rfl⟩, h⟩

/-- An operation of whose value a lasting fact is told. -/
theorem rel_op (V : Value → World → Prop) (hl : Lasts V) (hg : GuardYes ops a0 env o) (hs : ∀ ρ w, Reads ρ → C w → known a0 env ρ w (looks o) → StepOK P V w ((execOp ρ o).run P w))
    (h : Rel P ops C a0 Q ((o.dst.getD 0, V) :: env) rest) : Rel P ops C a0 Q env (o :: rest) :=
  ⟨V, hl, .inl ⟨hg, fun ρ w hρ hC hf => hs ρ w hρ hC (known_of hf)⟩, h⟩

theorem rel_nil (h : Q env) : Rel P ops C a0 Q env [] := h
end
end Go.Proofs.Ytpoikmbogcggkaa
