import Derived.Below
import Derived.Laws.OwnMore
import Derived.Deep.AppendLies
import Derived.Deep.Draws
import Derived.WalkKit
import Derived.Lib.Hide
namespace Go.Proofs.YtibploaibljcmaaGreatDoor
open Go.RowKit
theorem bnew (w : World) (o : Obj) : Below w.heap.size w (w.alloc o) := (Below.refl _ _).alloc (Nat.le_refl _) o
def bv (x : UInt8) : Value := .int .u8 (x.toNat : Int)
def Lies (w : World) (A : Option Addr) (xs : List Value) : Prop :=
 xs = [] ∨ ∃ b o, A = some ⟨b, o, none⟩ ∧ ∀ j, ∀ h : j < xs.length, w.cell? ⟨b, o + j, none⟩ = some xs[j]
structure Rd (w : World) (size : Nat) (A : Option Addr) (n c : Nat) (xs : List Value) : Prop where
 len : xs.length = n * size
 le : n ≤ c
 max : c ≤ maxLen
 lies : Lies w A xs
structure RdB (w : World) (A : Option Addr) (n c : Nat) (l : List UInt8) : Prop where
 len : l.length = n
 le : n ≤ c
 max : c ≤ maxLen
 lies : Lies w A (l.map bv)
theorem Lies.keep {w w' : World} {A : Option Addr} {xs : List Value} (h : Lies w A xs) (hk : ∀ p : Addr, p.block < w.heap.size → w'.cell? p = w.cell? p) : Lies w' A xs := by
 rcases h with h | ⟨b, o, hA, hc⟩
 · exact .inl h
 · refine .inr ⟨b, o, hA, fun j hj => ?_⟩
   rw [hk _ (World.block_lt_of_cell? _ _ (hc j hj))]
   exact hc j hj
theorem Lies.below {w w' : World} {A : Option Addr} {xs : List Value} (h : Lies w A xs) (hb : Below w.heap.size w w') : Lies w' A xs := h.keep fun _ hp => hb.cell hp
theorem Rd.below {w w' : World} {size n c : Nat} {A : Option Addr} {xs : List Value} (h : Rd w size A n c xs) (hb : Below w.heap.size w w') : Rd w' size A n c xs := ⟨h.len, h.le, h.max, h.lies.below hb⟩
theorem RdB.below {w w' : World} {n c : Nat} {A : Option Addr} {l : List UInt8} (h : RdB w A n c l) (hb : Below w.heap.size w w') : RdB w' A n c l := ⟨h.len, h.le, h.max, h.lies.below hb⟩
theorem RdB.nil (w : World) : RdB w none 0 0 [] := ⟨rfl, Nat.le_refl _, Nat.zero_le _, .inl rfl⟩
theorem RdB.at_ {w : World} {n c : Nat} {A : Option Addr} {l : List UInt8} (h : RdB w A n c l) {k : Nat} (hk : k < n) : ∃ b o, A = some ⟨b, o, none⟩ ∧ ∀ j, ∀ hj : j < l.length, w.cell? ⟨b, o + j, none⟩ = some (.int .u8 (l[j].toNat : Int)) := by
 rcases h.lies with e | ⟨b, o, hA, hc⟩
 · have : l.length = 0 := by simpa using congrArg List.length e
   have := h.len; omega
 · exact ⟨b, o, hA, fun j hj => by have := hc j (by simpa using hj); simpa [bv] using this⟩
theorem Lies.cut {w : World} {A : Option Addr} {xs : List Value} (h : Lies w A xs) {k cap : Nat} (hk : cap = k → xs.length ≤ k) : Lies w (if cap = k then A else A.map (·.add k)) (xs.drop k) := by
 by_cases hx : xs.length ≤ k
 · exact .inl (List.drop_eq_nil_of_le hx)
 rcases h with h | ⟨b, o, hA, hc⟩
 · subst h; simp at hx
 · rw [if_neg (fun e => hx (hk e)), hA]
   refine .inr ⟨b, o + k, ?_, fun j hj => ?_⟩
   · by_cases h0 : k = 0
     · subst h0; rfl
     · simp [Addr.add, h0]
   · have hlt : k + j < xs.length := by rw [List.length_drop] at hj; omega
     rw [Nat.add_assoc, List.getElem_drop]
     exact hc (k + j) hlt
theorem RdB.cut {w : World} {n c : Nat} {A : Option Addr} {l : List UInt8} (h : RdB w A n c l) {k : Nat} (hk : k ≤ n) :
   RdB w (if c = k then A else A.map (·.add k)) (n - k) (c - k) (l.drop k) := by
 refine ⟨by rw [List.length_drop, h.len], by have := h.le; omega, by have := h.max; omega, ?_⟩
 rw [List.map_drop]
 exact h.lies.cut (fun e => by have := h.len; have := h.le; simp; omega)
theorem Lies.take {w : World} {A : Option Addr} {xs : List Value} (h : Lies w A xs) (k : Nat) : Lies w A (xs.take k) := by
 rcases h with h | ⟨b, o, hA, hc⟩
 · subst h; exact .inl (by simp)
 · exact .inr ⟨b, o, hA, fun j hj => by rw [List.getElem_take]; exact hc j (by rw [List.length_take] at hj; omega)⟩
theorem RdB.take {w : World} {n c c' : Nat} {A : Option Addr} {l : List UInt8} (h : RdB w A n c l) {k : Nat} (hk : k ≤ n) (hc : k ≤ c') (hc' : c' ≤ c) : RdB w A k c' (l.take k) := by
 refine ⟨by rw [List.length_take, h.len]; omega, hc, by have := h.max; omega, ?_⟩
 rw [List.map_take]
 exact h.lies.take k
def Gr (base : Nat) (e : TypeId) (size : Nat) (w : World) (v : Value) (n : Nat) (xs : List Value) : Prop :=
 w.ownsRow base e size v n xs ∨ (xs.length = n * size ∧ n ≤ maxLen ∧ ∃ A, v = .slice A n n ∧ Lies w A xs)
#print axioms RdB.cut
end Go.Proofs.YtibploaibljcmaaGreatDoor
