import Derived.Test.YtibploaibljcmaaGreatDoorWords
import Derived.Deep.Upon
import Derived.Maps.AppendAt
import Derived.OwnWalk
namespace Go.Proofs.YtibploaibljcmaaGreatDoor
open Go.RowKit
theorem Lies.at_add {w : World} {A : Option Addr} {xs : List Value} (h : Lies w A xs) (hx : 0 < xs.length) : ∃ a, A = some a ∧ ∀ j u, xs[j]? = some u → w.cell? (a.add j) = some u := by
 rcases h with rfl | ⟨b, o, hA, hc⟩
 · simp at hx
 · refine ⟨_, hA, fun j u hu => ?_⟩
   obtain ⟨hj, rfl⟩ := List.getElem?_eq_some_iff.1 hu
   rw [Addr.add_lit]
   exact hc j hj
theorem Lies.src {P : Program} {w : World} {A : Option Addr} {xs : List Value} (h : Lies w A xs) {size : Nat} (hsz : 0 < size) {tx e' : TypeId} (hk : P.underlying tx = some (.slice e')) (m c : Nat) (hl : xs.length = m * size)
   (h1 : ∀ u ∈ xs, u.oneCell' = true) : Src P size tx (.slice A m c) m xs w := by
 rcases Nat.eq_zero_or_pos m with h0 | h0
 · subst h0
   obtain rfl : xs = [] := List.eq_nil_of_length_eq_zero (by simpa using hl)
   cases A with
   | none => exact Src.ofNil w hk c
   | some a => exact Src.ofSlice w hk a 0 c [] (by simp) (fun j u hu => by simp at hu) (by simp)
 · have hp : 0 < xs.length := by rw [hl]; exact Nat.mul_pos h0 hsz
   obtain ⟨a, rfl, hc⟩ := h.at_add hp
   exact Src.ofSlice w hk a m c xs hl hc h1
theorem lies_alloc {w : World} {A : Option Addr} {xs : List Value} (h : Lies w A xs) (o : Obj) : Lies (w.alloc o) A xs := h.keep fun p hp => World.cell?_alloc_lt w o p hp
theorem Gr.alloc {base : Nat} {e : TypeId} {size : Nat} {w : World} {v : Value} {n : Nat} {xs : List Value} (h : Gr base e size w v n xs) (o : Obj) : Gr base e size (w.alloc o) v n xs :=
 h.imp (fun h => h.alloc o) fun ⟨h1, h2, A, h3, h4⟩ => ⟨h1, h2, A, h3, lies_alloc h4 o⟩
structure Grew (base : Nat) (e : TypeId) (size : Nat) (w : World) (v : Value) (n m : Nat) (xs news : List Value) (A' : Option Addr) (c' : Nat) (w' : World) : Prop where
 gr : Gr base e size w' (.slice A' (n + m) c') (n + m) (xs ++ news)
 own : 0 < m ∨ w.ownsRow base e size v n xs → w'.ownsRow base e size (.slice A' (n + m) c') (n + m) (xs ++ news)
 grown : w.grownBy w' v.ownBlock
 where_ : Value.ownBlock (.slice A' (n + m) c') = v.ownBlock ∨ Value.ownBlock (.slice A' (n + m) c') = some w.heap.size
 below : Below base w w'
end Go.Proofs.YtibploaibljcmaaGreatDoor
