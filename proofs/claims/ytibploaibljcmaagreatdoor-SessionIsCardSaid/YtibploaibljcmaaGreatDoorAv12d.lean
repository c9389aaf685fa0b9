import Derived.Test.YtibploaibljcmaaGreatDoorAv12c
namespace Go.Proofs.YtibploaibljcmaaGreatDoor
open Go.RowKit
set_option linter.unusedVariables false
set_option linter.unusedSimpArgs false
set_option maxHeartbeats 1000000
def renO (ρ : Nat → Nat) (o : Oper) : Oper := { o with after := o.after.map (fun e => { e with on := ρ e.on }), guard := o.guard.map fun g => (ρ g.1, g.2) }
structure Perm (n : Nat) (π ρ : Nat → Nat) : Prop where
 pr : ∀ i, π (ρ i) = i
 rp : ∀ i, ρ (π i) = i
 lt : ∀ i, ρ i < n ↔ i < n
section
variable {P : Program} {ops ops' : Array Oper} {π ρ : Nat → Nat} (hp : Perm ops.size π ρ) (ho : ∀ i, ops'[ρ i]? = (ops[i]?).map (renO ρ)) (hsz : ops'.size = ops.size)
include ho in
theorem renO_yielded {tmps : Array Value} {g : Nat} : yielded ops' tmps (ρ g) = yielded ops tmps g := by
 unfold yielded
 rw [ho g]
 cases ops[g]? <;> rfl
include ho in
theorem renO_wanted {o : Oper} {tmps : Array Value} : Region.wanted (renO ρ o) (yielded ops' tmps) = Region.wanted o (yielded ops tmps) := by
 unfold Region.wanted renO
 cases h : o.guard with
 | none => simp [h]
 | some g => simp [h, renO_yielded ho]
include ho in
theorem ren_wpOp {i : Nat} {a : Act} {w : World} {K K' : Act → World → Prop} {Q : Exit → Act → World → Prop} (hK : ∀ a w, K' a w → K a w) (h : wpOp P ops' Q (ρ i) K' a w) : wpOp P ops Q i K a w := by
 refine wpOp_mono hK ?_
 unfold wpOp at h ⊢
 rw [ho i] at h
 cases hi : ops[i]? with
 | none => simp only [hi, Option.map_none] at h ⊢; exact h
 | some o =>
   simp only [hi, Option.map_some] at h ⊢
   rw [renO_wanted ho] at h
   exact h
include ho in
theorem ren_ready {listed listed' : Array Bool} (h0 : ∀ j, listed'.getD (ρ j) false = listed.getD j false) (h1 : ∀ j, listed'.getD (ρ j) true = listed.getD j true) {i : Nat} : ρ i ∈ Region.ready .any ops' listed' ↔ i ∈ Region.ready .any ops listed := by
 rw [mem_ready, mem_ready, h1]
 refine and_congr_right fun _ => ?_
 rw [ho i]
 cases hi : ops[i]? with
 | none => simp
 | some o =>
   simp only [Option.map_some, Option.some.injEq, exists_eq_left']
   constructor
   · intro h e he hb
     have := h { e with on := ρ e.on } (by simp [renO]; exact ⟨e, he, rfl, rfl⟩) (by unfold Region.binds at hb ⊢; exact hb)
     rw [h0] at this
     exact this
   · intro h e he hb
     simp only [renO, Array.mem_map] at he
     obtain ⟨e', he', rfl⟩ := he
     show listed'.getD (ρ e'.on) false = true
     rw [h0]
     exact h e' he' (by unfold Region.binds at hb ⊢; exact hb)
include hp ho in
theorem ren_wpAny {Q : Exit → Act → World → Prop} : ∀ (fuel : Nat) (listed listed' : Array Bool) (a : Act) (w : World), listed.size = ops.size → listed'.size = ops.size → (∀ j, listed'.getD (ρ j) false = listed.getD j false) → (∀ j, listed'.getD (ρ j) true = listed.getD j true) → wpAny P .any ops' Q fuel listed' a w → wpAny P .any ops Q fuel listed a w := by
 have nil : ∀ listed listed' : Array Bool, (∀ j, listed'.getD (ρ j) false = listed.getD j false) → (∀ j, listed'.getD (ρ j) true = listed.getD j true) → (Region.ready .any ops listed = [] ↔ Region.ready .any ops' listed' = []) := fun listed listed' h0 h1 => by
   rw [List.eq_nil_iff_forall_not_mem, List.eq_nil_iff_forall_not_mem]
   constructor
   · intro h k hk
     have : k = ρ (π k) := (hp.rp k).symm
     rw [this, ren_ready ho h0 h1] at hk
     exact h _ hk
   · intro h i hi
     rw [← ren_ready ho h0 h1] at hi
     exact h _ hi
 intro fuel
 induction fuel with
 | zero =>
   intro listed listed' a w _ _ h0 h1 h
   exact ⟨(nil _ _ h0 h1).2 h.1, h.2⟩
 | succ fuel ih =>
   intro listed listed' a w s0 s1 h0 h1 h
   refine ⟨fun hr => h.1 ((nil _ _ h0 h1).1 hr), fun i hi => ?_⟩
   have h2 := h.2 (ρ i) ((ren_ready ho h0 h1).2 hi)
   have hlt : i < ops.size := by
     obtain ⟨_, o, hoi, _⟩ := mem_ready.1 hi
     exact (Array.getElem?_eq_some_iff.1 hoi).1
   have set : ∀ (d : Bool), (∀ j, listed'.getD (ρ j) d = listed.getD j d) → ∀ j, (listed'.setIfInBounds (ρ i) true).getD (ρ j) d = (listed.setIfInBounds i true).getD j d := fun d hd j => by
     by_cases hji : j = i
     · subst hji
       have := (hp.lt j).2 hlt
       simp [Array.getD_eq_getD_getElem?, Array.getElem?_setIfInBounds, s0, s1, hlt, this]
     · have hne : ρ i ≠ ρ j := fun e => hji (by have := congrArg π e; rw [hp.pr, hp.pr] at this; exact this.symm)
       have := hd j
       simp only [Array.getD_eq_getD_getElem?, Array.getElem?_setIfInBounds] at this ⊢
       rw [if_neg hne, if_neg (fun e => hji e.symm)]
       exact this
   exact ren_wpOp ho (fun a w => ih _ _ a w (by simp [s0]) (by simp [s1]) (set false h0) (set true h1)) h2
end
end Go.Proofs.YtibploaibljcmaaGreatDoor
