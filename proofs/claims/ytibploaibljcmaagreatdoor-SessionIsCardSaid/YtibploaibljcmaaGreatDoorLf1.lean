import Derived.Test.YtibploaibljcmaaGreatDoorLf0
namespace Go.Proofs.YtibploaibljcmaaGreatDoor
open Go.RowKit
set_option linter.unusedVariables false
set_option linter.unusedSimpArgs false
class KeyE (α : Type) [Enc α] [DecidableEq α] where
 K : KeyK
 eq : ∀ a b : α, K.eq (Enc.enc a) (Enc.enc b) = some (decide (a = b))
 ok : ∀ a : α, keyOkA K (Enc.enc a) = true
instance keyInt : KeyE Int := ⟨.sc 0, fun a b => by
 show eqS 0 (.int .i64 a) (.int .i64 b) = _
 simp [eqS]
 by_cases h : a = b <;> simp [h], fun _ => rfl⟩
instance keyStr : KeyE Str := ⟨.sc 2, fun a b => by
 show eqS 2 (.str ⟨a.b.toArray⟩) (.str ⟨b.b.toArray⟩) = _
 simp only [eqS, ByteArray.toList_eq]
 congr 1
 cases a; cases b
 simp only [Str.mk.injEq]
 by_cases h : ‹List UInt8› = ‹List UInt8›
 all_goals (rw [Bool.eq_iff_iff]; simp), fun _ => rfl⟩
def kv {α β : Type} [Enc α] [Enc β] (m : List (α × β)) : List AV := m.flatMap fun p => [Enc.enc p.1, Enc.enc p.2]
section
variable {α β : Type} [Enc α] [Enc β] [DecidableEq α] [KeyE α]
variable {P : Program} {s : St} {l : List AO} {K : St → Prop} {dst : Option Nat} {m zs : List (α × β)} {k : α} {v : β} {bl : Nat} {T : TypeId} {KK : KeyK} {ak av z : AV} {R : Type} {r : R} {A : β → Option R} {B : Option R}
end
theorem wkc_same {m b : Nat} {fr : List (TypeId × Nat)} : ∀ {as : List AV}, okBL m b as = true → WkC m b fr as as
 | [], _ => trivial
 | a :: as, h => by
   have h : (okB m b a && okBL m b as) = true := h
   rw [Bool.and_eq_true] at h
   exact ⟨.same _ h.1, wkc_same h.2⟩
theorem wkc_FL {α : Type} [Enc α] {m b : Nat} {fr : List (TypeId × Nat)} {xs : List α} : WkC m b fr (FL xs) (FL xs) := by
 refine wkc_same (okBL_of fun a ha => ?_)
 unfold FL flatAV at ha
 obtain ⟨q, hq, ha⟩ := List.mem_flatMap.1 ha
 obtain ⟨x, _, rfl⟩ := List.mem_map.1 hq
 obtain ⟨cs, h1, _⟩ := Enc.cel x
 rw [h1] at ha
 obtain ⟨i, hi, rfl⟩ := List.getElem_of_mem ha
 exact okB_pur (purL_get (pur_cells (Enc.pure_enc x) h1) i hi)
theorem frz_kv {α β : Type} [Enc α] [Enc β] {m l sz : Nat} {ys : List AV} (xs : List (α × β)) : (kv xs).map (frz1 m l sz ys) = kv xs := by
 rw [List.map_congr_left (g := id) (fun a ha => ?_), List.map_id]
 obtain ⟨p, _, hp⟩ := List.mem_flatMap.1 ha
 rcases List.mem_cons.1 hp with rfl | hp
 · exact frz1_pur (Enc.pure_enc _)
 · rcases List.mem_cons.1 hp with rfl | hp
   · exact frz1_pur (Enc.pure_enc _)
   · cases hp
section
variable {P : Program} {s : St} {l : List AO} {K : St → Prop} {dst : Option Nat}
end
theorem wka_full {α : Type} [Enc α] {m b : Nat} {fr : List (TypeId × Nat)} {sz : Nat} {xs : List α} : WkA m b fr (.slice .full sz (xs.map Enc.enc)) (.slice .full sz (xs.map Enc.enc)) := .same _ (okBL_enc xs)
theorem le_full0 {α : Type} [Enc α] {sz sz' : Nat} : LeA (.slice .full sz []) (.slice .full sz' (([] : List α).map Enc.enc)) := fun M v h => rep_sz h (.inr rfl)
theorem wka_full0 {α : Type} [Enc α] {m b : Nat} {fr : List (TypeId × Nat)} {sz sz' : Nat} : WkA m b fr (.slice .full sz []) (.slice .full sz' (([] : List α).map Enc.enc)) := .le _ _ le_full0 rfl
theorem le_eq {a b : AV} (h : a = b) : LeA a b := h ▸ le_same _
theorem bcontra {b : Bool} {G : Prop} (h1 : b = true) (h2 : b = false) : G := by rw [h1] at h2; cases h2
theorem z_succ (n : Nat) : (0 = n + 1) = False := by simp
attribute [irreducible] kv
end Go.Proofs.YtibploaibljcmaaGreatDoor
