import Derived.Test.YtibploaibljcmaaGreatDoorAv12d
import Derived.Test.YtibploaibljcmaaGreatDoorAv12
namespace Go.Proofs.YtibploaibljcmaaGreatDoor
open Go.RowKit
set_option linter.unusedVariables false
set_option linter.unusedSimpArgs false
set_option maxHeartbeats 1000000
def AOp.fl (a : AOp) : Bool := a.free || (match a with | .ld _ _ => true | _ => false)
theorem fl_ld {a : AOp} (h : a.fl = true) (hf : a.free = false) : ∃ n x, a = .ld n x := by
 unfold AOp.fl at h
 rw [hf] at h
 cases a <;> simp at h
 exact ⟨_, _, rfl⟩
theorem qop_ld_nb {ν : AX → AV} {σ : Nat → Option (TypeId × List AV)} {n : Nat} {k : Option Nat} {x : AX} {p : AV × Option (TypeId × List AV)} (hq : qop ν σ n (.ld k x) = some p) : p.2 = none := by
 simp only [qop] at hq
 repeat' (first
   | (cases hq; done)
   | (obtain ⟨_, _, e⟩ := Option.map_eq_some_iff.1 hq; rw [← e]; done)
   | (split at hq))
theorem qop_ld_more {ν : AX → AV} {σ σ' : Nat → Option (TypeId × List AV)} {n n' : Nat} {k : Option Nat} {x : AX} {p : AV × Option (TypeId × List AV)} (h : ∀ l b, σ l = some b → σ' l = some b) (hq : qop ν σ n (.ld k x) = some p) : qop ν σ' n' (.ld k x) = some p := by
 simp only [qop] at hq ⊢
 split at hq
 · rename_i l off hx
   cases hl : σ l with
   | none => rw [hl] at hq; cases hq
   | some b => rw [hl] at hq; rw [h l b hl]; exact hq
 · exact hq
 · cases hq
theorem qop_free {ν : AX → AV} {σ σ' : Nat → Option (TypeId × List AV)} {n n' : Nat} {ao : AOp} (h : ao.free = true) : qop ν σ n ao = qop ν σ' n' ao := by
 cases ao <;> first | rfl | cases h
theorem map_none2 {α : Type} {o : Option α} {f : α → AV} {p : AV × Option (TypeId × List AV)} (h : (o.map fun a => (f a, (none : Option (TypeId × List AV)))) = some p) : p.2 = none := by
 cases o with
 | none => cases h
 | some a => simp only [Option.map_some, Option.some.injEq] at h; rw [← h]
theorem qop_free_nb {ν : AX → AV} {σ : Nat → Option (TypeId × List AV)} {n : Nat} {ao : AOp} {p : AV × Option (TypeId × List AV)} (h : ao.free = true) (hq : qop ν σ n ao = some p) : p.2 = none := by
 cases ao <;> first | (cases h; done) | skip
 all_goals simp only [qop] at hq
 all_goals (repeat' split at hq)
 all_goals first
   | (cases hq; done)
   | (injection hq with hq; rw [← hq])
   | exact map_none2 hq
def argSlots (ao : AO) : List Nat := (ao.op.args.filterMap fun | .tmp t => some t | .val _ => none) ++ (match ao.guard with | some (d, _) => [d] | none => [])
def nmAt (ops : Array Oper) (aos : List AO) (i : Nat) : List Nat := (match ops[i]? with | some o => namesOf ops o | none => []) ++ (match aos[i]? with | some ao => argSlots ao | none => [])
def dsAt (ops : Array Oper) (i : Nat) : Option Nat := (ops[i]?).bind (·.dst)
def bitAt (ops : Array Oper) (i j : Nat) : Bool := ((masks ops.toList []).getD i 0).testBit j
def okFloat (ops : Array Oper) (aos : List AO) (p p' : Nat) : Bool :=
 let A := masks ops.toList []
 let bit (i j : Nat) : Bool := (A.getD i 0).testBit j
 (ops.toList.zipIdx.all fun q => q.1.after.all fun e => !Region.binds .any e || e.on < q.2) &&
 ((List.range ops.size).all fun i => i < p' || (List.range i).all fun j => (p ≤ j && j < p') || bit i j) &&
 ((List.range p').all fun i => (nmAt ops aos i).all fun t => (List.range p').all fun j => dsAt ops j != some t || j == i || (if j < i then bit i j else bit j i)) &&
 ((List.range p').all fun i => (List.range p').all fun j => j == i || (dsAt ops i).isNone || dsAt ops j != dsAt ops i) &&
 ((List.range p').all fun f => f < p || (((nmAt ops aos f).all fun t => (List.range p').all fun j => j ≤ f || dsAt ops j != some t) && (match dsAt ops f with | some t => !(nmAt ops aos f).contains t | none => false))) &&
 ((List.range ops.size).all fun i => i < p' || (List.range p').all fun f => f < p ||
   (((nmAt ops aos i).all fun t => dsAt ops f != some t || bit i f) &&
    dsAt ops i != dsAt ops f &&
    (match dsAt ops i with | some t => !(nmAt ops aos f).contains t || bit i f | none => true)))
structure OkFloat (ops : Array Oper) (aos : List AO) (p p' : Nat) : Prop where
 edge : ∀ (i : Nat) (o : Oper), ops[i]? = some o → ∀ e ∈ o.after, Region.binds .any e = true → e.on < i
 tail : ∀ (i : Nat), i < ops.size → p' ≤ i → ∀ j, j < i → ¬ (p ≤ j ∧ j < p') → bitAt ops i j = true
 names : ∀ i, i < p' → ∀ t ∈ nmAt ops aos i, ∀ j, j < p' → dsAt ops j = some t → j ≠ i → (j < i ∧ bitAt ops i j = true) ∨ (i < j ∧ bitAt ops j i = true)
 dsts : ∀ i j, i < p' → j < p' → j ≠ i → ∀ d, dsAt ops i = some d → dsAt ops j ≠ some d
 later : ∀ f, p ≤ f → f < p' → ∀ t ∈ nmAt ops aos f, ∀ j, j < p' → f < j → dsAt ops j ≠ some t
 own : ∀ f, p ≤ f → f < p' → ∃ t, dsAt ops f = some t ∧ t ∉ nmAt ops aos f
 reads : ∀ i, i < ops.size → p' ≤ i → ∀ f, p ≤ f → f < p' → ∀ t ∈ nmAt ops aos i, dsAt ops f = some t → bitAt ops i f = true
 apart : ∀ i, i < ops.size → p' ≤ i → ∀ f, p ≤ f → f < p' → dsAt ops i ≠ dsAt ops f
 writes : ∀ i, i < ops.size → p' ≤ i → ∀ f, p ≤ f → f < p' → ∀ t, dsAt ops i = some t → t ∈ nmAt ops aos f → bitAt ops i f = true
theorem okFloat_spec {ops : Array Oper} {aos : List AO} {p p' : Nat} (h : okFloat ops aos p p' = true) : OkFloat ops aos p p' := by
 simp only [okFloat, Bool.and_eq_true] at h
 obtain ⟨⟨⟨⟨⟨h1, h2⟩, h3⟩, h4⟩, h5⟩, h6⟩ := h
 have all : ∀ {n : Nat} {q : Nat → Bool}, (List.range n).all q = true → ∀ i, i < n → q i = true := fun h i hi => List.all_eq_true.1 h i (List.mem_range.2 hi)
 refine ⟨fun i o ho e he hb => ?_, fun i hi hp j hj hn => ?_, fun i hi t ht j hj hd hne => ?_, fun i j hi hj hne d hd hd' => ?_, fun f hf hf' t ht j hj hfj hd => ?_, fun f hf hf' => ?_, fun i hi hp f hf hf' t ht hd => ?_, fun i hi hp f hf hf' hd => ?_, fun i hi hp f hf hf' t hd ht => ?_⟩
 · have := (List.all_eq_true.1 h1) (o, i) (mem_zipIdx_of ho)
   have := (Array.all_eq_true_iff_forall_mem.1 this) e he
   simp [hb] at this
   exact this
 · have := all h2 i hi
   simp only [Bool.or_eq_true, decide_eq_true_eq] at this
   have := all (this.resolve_left (by omega)) j hj
   simp only [Bool.or_eq_true, Bool.and_eq_true, decide_eq_true_eq] at this
   exact this.resolve_left hn
 · have := all (List.all_eq_true.1 (all h3 i hi) t ht) j hj
   simp only [Bool.or_eq_true, bne_iff_ne, ne_eq, beq_iff_eq] at this
   rcases this with (this | this) | this
   · exact absurd hd this
   · exact absurd this hne
   · split at this
     · exact .inl ⟨by assumption, this⟩
     · exact .inr ⟨by omega, this⟩
 · have := all (all h4 i hi) j hj
   simp only [Bool.or_eq_true, bne_iff_ne, ne_eq, beq_iff_eq] at this
   rcases this with (this | this) | this
   · exact hne this
   · rw [hd] at this
     cases this
   · exact this (by rw [hd, hd'])
 · have := all h5 f hf'
   simp only [Bool.or_eq_true, Bool.and_eq_true, decide_eq_true_eq] at this
   have := all (List.all_eq_true.1 (this.resolve_left (by omega)).1 t ht) j hj
   simp only [Bool.or_eq_true, bne_iff_ne, ne_eq, decide_eq_true_eq] at this
   exact (this.resolve_left (by omega)) hd
 · have := all h5 f hf'
   simp only [Bool.or_eq_true, Bool.and_eq_true, decide_eq_true_eq] at this
   have := (this.resolve_left (by omega)).2
   split at this
   · rename_i t ht
     exact ⟨t, ht, by simpa using this⟩
   · cases this
 · have := all h6 i hi
   simp only [Bool.or_eq_true, decide_eq_true_eq] at this
   have := all (this.resolve_left (by omega)) f hf'
   simp only [Bool.or_eq_true, Bool.and_eq_true, decide_eq_true_eq] at this
   have := List.all_eq_true.1 (this.resolve_left (by omega)).1.1 t ht
   simp only [Bool.or_eq_true, bne_iff_ne, ne_eq] at this
   exact this.resolve_left (fun e => e hd)
 · have := all h6 i hi
   simp only [Bool.or_eq_true, decide_eq_true_eq] at this
   have := all (this.resolve_left (by omega)) f hf'
   simp only [Bool.or_eq_true, Bool.and_eq_true, decide_eq_true_eq] at this
   have := (this.resolve_left (by omega)).1.2
   simp only [bne_iff_ne, ne_eq] at this
   exact this hd
 · have := all h6 i hi
   simp only [Bool.or_eq_true, decide_eq_true_eq] at this
   have := all (this.resolve_left (by omega)) f hf'
   simp only [Bool.or_eq_true, Bool.and_eq_true, decide_eq_true_eq] at this
   have := (this.resolve_left (by omega)).2
   rw [hd] at this
   simp only [Bool.or_eq_true, Bool.not_eq_true'] at this
   rcases this with this | this
   · have : t ∉ nmAt ops aos f := by simpa using this
     exact absurd ht this
   · exact this
end Go.Proofs.YtibploaibljcmaaGreatDoor
