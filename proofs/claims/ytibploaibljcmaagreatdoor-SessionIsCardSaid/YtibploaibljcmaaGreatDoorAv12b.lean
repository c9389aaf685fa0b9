import Derived.Test.YtibploaibljcmaaGreatDoorAv11
namespace Go.Proofs.YtibploaibljcmaaGreatDoor
open Go.RowKit
set_option linter.unusedVariables false
set_option linter.unusedSimpArgs false
set_option maxHeartbeats 1000000
def AOp.args : AOp → List AX
 | .mv x => [x]
 | .pick c a b => [c, a, b]
 | .prim _ xs => xs
 | .box _ _ x => [x]
 | .ld _ x => [x]
 | .st _ a x => [a, x]
 | .off _ x => [x]
 | .idxA _ x i => [x, i]
 | .idxS x i => [x, i]
 | .bin _ x y => [x, y]
 | .eqB _ x y => [x, y]
 | .un _ x => [x]
 | .conv _ x => [x]
 | .slc _ x a b c => x :: (a.toList ++ b.toList ++ c.toList)
 | .slcS x a b => x :: (a.toList ++ b.toList)
 | .ext x _ => [x]
 | .len x => [x]
 | .lenS x => [x]
 | .app _ _ _ x y => [x, y]
 | .call _ q => q
 | .callv x q => x :: q
 | .mkfn _ q => q
 | .mkclo _ q => q
 | .mkif _ x => [x]
 | .tas _ _ _ x => [x]
 | .isNil _ x => [x]
 | .nilc x => [x]
 | .callS _ q => q
 | .callvS x q => x :: q
 | .chk cs => cs.flatMap fun c => [c.2.1, .tmp c.2.2]
 | .lit _ _ _ q => q
 | .bld _ q => q.map fun z => z.2.2
 | .mx x y => [x, y]
 | .mn x y => [x, y]
 | .eqA _ _ _ x y => [x, y]
 | .prt _ _ _ _ x y => [x, y]
 | .b2s x => [x]
 | .s2b _ x => [x]
 | .bad => []
def AOp.free : AOp → Bool
 | .nilc _ | .lit _ _ _ _ | .isNil _ _ | .mv _ | .pick _ _ _ | .off _ _ | .idxA _ _ _ | .idxS _ _ | .bin _ _ _ | .eqB _ _ _ | .un _ _ | .conv _ _ | .slc _ _ _ _ _ | .slcS _ _ _ | .ext _ _ | .len _ | .lenS _ | .bld _ _ | .mx _ _ | .mn _ _ | .eqA _ _ _ _ _ | .prt _ _ _ _ _ _ => true
 | _ => false
theorem map_agree {ν ν' : AX → AV} {q : List AX} {f : AV → AV} (h : ∀ x ∈ q, ν x = ν' x) : (q.map fun x => f (ν x)) = q.map fun x => f (ν' x) :=
 List.map_congr_left fun x hx => by rw [h x hx]
theorem bldAV_agree {ν ν' : AX → AV} : ∀ {q : List (Nat × Nat × AX)} {cs : List AV}, (∀ z ∈ q, ν z.2.2 = ν' z.2.2) → bldAV ν cs q = bldAV ν' cs q
 | [], cs, _ => rfl
 | (off, sz, x) :: q, cs, h => by
   have hx : ν x = ν' x := h (off, sz, x) (by simp)
   simp only [bldAV, hx]
   split
   · split
     · exact bldAV_agree fun z hz => h z (by simp [hz])
     · rfl
   · rfl
theorem opt_agree {ν ν' : AX → AV} {o : Option AX} (h : ∀ x ∈ o.toList, ν x = ν' x) : o.map ν = o.map ν' := by
 cases o with
 | none => rfl
 | some x => simp [h x (by simp)]
theorem qop_agree {ν ν' : AX → AV} {σ : Nat → Option (TypeId × List AV)} {n : Nat} {ao : AOp} (h : ∀ x ∈ ao.args, ν x = ν' x) : qop ν σ n ao = qop ν' σ n ao := by
 cases ao <;> simp only [AOp.args, List.mem_cons, List.mem_append, List.not_mem_nil, or_false, forall_eq_or_imp, forall_eq, List.mem_map, forall_exists_index, and_imp, forall_apply_eq_imp_iff₂] at h <;> try (simp only [qop]; done)
 case slc sz x a b c =>
   obtain ⟨h1, h2⟩ := h
   simp only [qop, h1, opt_agree fun x hx => h2 x (.inl (.inl hx)), opt_agree fun x hx => h2 x (.inl (.inr hx)), opt_agree fun x hx => h2 x (.inr hx)]
 case slcS x a b =>
   obtain ⟨h1, h2⟩ := h
   simp only [qop, h1, opt_agree fun x hx => h2 x (.inl hx), opt_agree fun x hx => h2 x (.inr hx)]
 case mkfn f q => simp only [qop]; rw [map_agree h]
 case mkclo f q => simp only [qop]; rw [map_agree h]
 case lit e sz ks q =>
   have h1 : (q.all fun x => (cellsOf (ν x)).map List.length == some sz) = q.all fun x => (cellsOf (ν' x)).map List.length == some sz := by
     rw [Bool.eq_iff_iff, List.all_eq_true, List.all_eq_true]
     exact ⟨fun k x hx => by rw [← h x hx]; exact k x hx, fun k x hx => by rw [h x hx]; exact k x hx⟩
   simp only [qop, h1]
   rw [show q.map (fun x => canA ks (imm1 (ν x))) = q.map (fun x => canA ks (imm1 (ν' x))) from List.map_congr_left fun x hx => by rw [h x hx]]
 case bld z q => simp only [qop]; rw [bldAV_agree fun z hz => h z hz]
 all_goals (try obtain ⟨h1, h2, h3⟩ := h) <;> (try obtain ⟨h1, h2⟩ := h) <;> simp only [qop, *]
end Go.Proofs.YtibploaibljcmaaGreatDoor
