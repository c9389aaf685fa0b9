import Derived.Test.YtibploaibljcmaaGreatDoorWords
import Derived.Orders
import Derived.Still
import Derived.Deep.Quiet
namespace Go.Proofs.YtibploaibljcmaaGreatDoor
open Go.RowKit
def Lasts (V : Value → World → Prop) : Prop := ∀ v w w', Below w.heap.size w w' → V v w → V v w'
def Just (u : Value) : Value → World → Prop := fun v _ => v = u
def Ret (V : Value → World → Prop) (w : World) (e : Ending) (w' : World) : Prop := ∃ v, e = .returned v ∧ V v w' ∧ Below w.heap.size w w'
abbrev Env := List (Nat × (Value → World → Prop))
def slotFact (a0 : Act) (env : Env) (t : Nat) : Value → World → Prop :=
 match env.lookup t with
 | some V => V
 | none => Just (a0.tmps.getD t undef)
def StepOK (P : Program) (V : Value → World → Prop) (w : World) : Result Next → Prop
 | .ok (.value u) w' => V u w' ∧ Below w.heap.size w w'
 | .ok .skip w' => V undef w' ∧ Below w.heap.size w w'
 | .ok (.enter f args) w' => Below w.heap.size w w' ∧ Calls P f args w' (Ret V w')
 | _ => False
structure Reads (ρ : Operand → Value) : Prop where
 const : ∀ v, ρ (.const v) = v
 global : ∀ g, ρ (.global g) = .pointer (some ⟨g, 0, none⟩)
 func : ∀ f, ρ (.func f) = .func (.func f) #[] #[]
def looks (o : Oper) : List Nat := o.op.operands.toList.filterMap fun | .tmp t => some t | _ => none
def GuardYes (ops : Array Oper) (a0 : Act) (env : Env) (o : Oper) : Prop :=
 o.guard = none ∨ ∃ g d b, o.guard = some (g, b) ∧ (ops[g]?).bind (·.dst) = some d ∧ slotFact a0 env d = Just (.bool b)
def GuardNo (ops : Array Oper) (a0 : Act) (env : Env) (o : Oper) : Prop :=
 ∃ g d b v, o.guard = some (g, b) ∧ (ops[g]?).bind (·.dst) = some d ∧ slotFact a0 env d = Just v ∧ v ≠ .bool b
def Rel (P : Program) (ops : Array Oper) (C : World → Prop) (a0 : Act) (Q : Env → Prop) : Env → List Oper → Prop
 | env, [] => Q env
 | env, o :: rest => ∃ V, Lasts V ∧
     ((GuardYes ops a0 env o ∧ ∀ ρ w, Reads ρ → C w → (∀ t ∈ looks o, slotFact a0 env t (ρ (.tmp t)) w) → StepOK P V w ((execOp ρ o).run P w)) ∨ (GuardNo ops a0 env o ∧ V = Just undef)) ∧
     Rel P ops C a0 Q ((o.dst.getD 0, V) :: env) rest
def okBefore (dsts : List Nat) (ops : Array Oper) (i : Nat) (o : Oper) : Bool :=
 o.dst.isSome && !dsts.contains (o.dst.getD 0) &&
 (match o.op with | .select _ _ => false | _ => true) &&
 (o.after.all fun e => e.on < i) &&
 ((looks o).all fun t => (t != o.dst.getD 0) && ((List.range ops.size).all fun j => (match ops[j]? with | some oj => oj.dst != some t | none => true) || (o.after.any fun e => Region.binds .any e && e.on == j))) &&
 (match o.guard with | some (g, _) => o.after.any fun e => Region.binds .any e && e.on == g | none => true)
def okFrom (ops : Array Oper) : List Nat → Nat → List Oper → Bool
 | _, _, [] => true
 | dsts, i, o :: rest => okBefore dsts ops i o && okFrom ops ((o.dst.getD 0) :: dsts) (i + 1) rest
section
variable {P : Program} {ops : Array Oper} {a0 : Act} {C : World → Prop} {Q : Env → Prop}
def Obl (P : Program) (ops : Array Oper) (C : World → Prop) (a0 : Act) (E : Env) (o : Oper) : Prop :=
 Lasts (slotFact a0 E (o.dst.getD 0)) ∧
 ((GuardYes ops a0 E o ∧ ∀ ρ w, Reads ρ → C w → (∀ t ∈ looks o, slotFact a0 E t (ρ (.tmp t)) w) → StepOK P (slotFact a0 E (o.dst.getD 0)) w ((execOp ρ o).run P w)) ∨
  (GuardNo ops a0 E o ∧ slotFact a0 E (o.dst.getD 0) = Just undef))
structure Inv (ops : Array Oper) (a0 : Act) (w0 : World) (E : Env) (listed : Array Bool) (a : Act) (w : World) : Prop where
 size : listed.size = ops.size
 below : Below w0.heap.size w0 w
 defers : a.defers = a0.defers
 tmps : a.tmps.size = a0.tmps.size
 done : ∀ (j : Nat) (oj : Oper) (d : Nat), ops[j]? = some oj → oj.dst = some d → listed.getD j false = true → slotFact a0 E d (a.tmps.getD d undef) w
 still : ∀ (t : Nat), (∀ (j : Nat) (oj : Oper), ops[j]? = some oj → oj.dst = some t → listed.getD j false = false) → a.tmps.getD t undef = a0.tmps.getD t undef
theorem getD_some {x : Array Value} {t : Nat} {v : Value} (h : x.getD t undef = v) (hv : v ≠ undef) : x[t]? = some v := by
 rw [Array.getD_eq_getD_getElem?] at h
 cases hx : x[t]? with
 | none => rw [hx] at h; exact absurd h.symm hv
 | some u => rw [hx] at h; simpa using h
theorem getD_bool (l : Array Bool) (j : Nat) (hj : j < l.size) : l.getD j true = l.getD j false := by simp [hj]
end
end Go.Proofs.YtibploaibljcmaaGreatDoor
