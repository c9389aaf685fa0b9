import Derived.Test.YtibploaibljcmaaGreatDoorOpenA
import Derived.Test.YtibploaibljcmaaGreatDoorMo
namespace Go.Proofs.YtibploaibljcmaaGreatDoor
open Go.RowKit
set_option maxHeartbeats 1000000
set_option linter.unusedSimpArgs false
set_option linter.unusedVariables false
theorem act_bool {P : Program} {f : FuncId} {q : List AV} {b : Bool} (h : ACt P f q (.bool b) []) {w : World} {args : Array Value} (ha : Reps (M0 w.cell?) args.toList q) (hk : KG w.cell? := by exact ⟨fun g vs hg => by simp [gam] at hg, fun g hg => by simp [gamI] at hg⟩) : Calls P f args w fun e w' => e = .returned (.bool b) ∧ Below w.heap.size w w' :=
 (h.2 w w.cell? args (fun _ _ h => h) ha hk).mono fun e w' ⟨v, M', he, hm, _, hr⟩ => ⟨by
   have hr : Rep (M0 M'.κ) v (.bool b) := by
     unfold RepR at hr
     simp only at hr
     unfold RepR1 at hr
     exact hr
   cases hr
   exact he, hm.bel⟩
class Opn (α : Type) [Enc α] where
 T : Ty
 ok : α → Prop
 ag : Bool
 agg : ∀ x : α, ag = true → ∃ cs, Enc.enc x = .agg cs
 nag : ∀ x : α, ag = false → cellsOf (Enc.enc x) = some [Enc.enc x]
 of : ∀ {qs : List AV}, Shp T qs → ∃ x : α, ok x ∧ cellsOf (Enc.enc x) = some qs
 shp : ∀ {a : AV}, ShA T a → ∃ qs, Shp T qs ∧ (if ag then a = .agg qs else qs = [a])
instance opnInt : Opn Int where
 T := .int .i64
 ok n := -9223372036854775808 ≤ n ∧ n ≤ 9223372036854775807
 ag := false
 agg _ h := nomatch h
 nag _ _ := rfl
 of h := by
   obtain ⟨n, rfl, hw⟩ := h
   exact ⟨n, Go.bounds_i64 hw, rfl⟩
 shp h := ⟨_, h, rfl⟩
instance opnBool : Opn Bool where
 T := .bool
 ok _ := True
 ag := false
 agg _ h := nomatch h
 nag _ _ := rfl
 of h := by
   obtain ⟨n, rfl⟩ := h
   exact ⟨n, trivial, rfl⟩
 shp h := ⟨_, h, rfl⟩
instance opnU8 : Opn UInt8 where
 T := .int .u8
 ok _ := True
 ag := false
 agg _ h := nomatch h
 nag _ _ := rfl
 of h := by
   obtain ⟨n, rfl, hw⟩ := h
   have := Go.bounds_u8 hw
   refine ⟨UInt8.ofNat n.toNat, trivial, ?_⟩
   show some [AV.int .u8 ((UInt8.ofNat n.toNat).toNat : Int)] = _
   rw [UInt8.toNat_ofNat', show ((n.toNat % 256 : Nat) : Int) = n by omega]
 shp h := ⟨_, h, rfl⟩
instance opnStr : Opn Str where
 T := .str
 ok s := s.b.length ≤ maxLen
 ag := false
 agg _ h := nomatch h
 nag _ _ := rfl
 of h := by
   obtain ⟨s, rfl, hl⟩ := h
   refine ⟨⟨s.data.toList⟩, by rw [Array.length_toList]; exact hl, ?_⟩
   rfl
 shp h := ⟨_, h, rfl⟩
theorem opn_map {α : Type} [Enc α] {p : α → Prop} : ∀ {xs : List AV}, (∀ x ∈ xs, ∃ y : α, p y ∧ x = Enc.enc y) → ∃ l : List α, (∀ y ∈ l, p y) ∧ xs = l.map Enc.enc
 | [], _ => ⟨[], by simp, rfl⟩
 | x :: xs, h => by
   obtain ⟨y, hy, rfl⟩ := h x (by simp)
   obtain ⟨l, hl, rfl⟩ := opn_map (xs := xs) fun z hz => h z (List.mem_cons_of_mem _ hz)
   refine ⟨y :: l, ?_, rfl⟩
   intro z hz
   rcases List.mem_cons.1 hz with rfl | hz
   · exact hy
   · exact hl z hz
theorem enc_of_cells {α : Type} [Enc α] [Opn α] (x : α) {cs : List AV} (h : cellsOf (Enc.enc x) = some cs) (g : Opn.ag α = true) : Enc.enc x = .agg cs := by
 obtain ⟨ds, e⟩ := Opn.agg x g
 rw [e] at h ⊢
 injection h with h
 rw [h]
theorem enc_of_cell {α : Type} [Enc α] [Opn α] (x : α) {a : AV} (h : cellsOf (Enc.enc x) = some [a]) (g : Opn.ag α = false) : Enc.enc x = a := by
 rw [Opn.nag x g] at h
 injection h with h
 injection h
instance opnList {α : Type} [Enc α] [Opn α] : Opn (List α) where
 T := .sl (Enc.sz α) (Opn.ag α) (Opn.T α)
 ok l := l.length ≤ maxLen ∧ ∀ x ∈ l, Opn.ok x
 ag := false
 agg _ h := nomatch h
 nag _ _ := rfl
 of h := by
   obtain ⟨xs, rfl, hl, hx⟩ := h
   obtain ⟨l, h1, rfl⟩ := opn_map (p := fun y : α => Opn.ok y) (xs := xs) fun x hxm => by
     have hx := hx x hxm
     cases g : Opn.ag α with
     | true =>
       rw [if_pos g] at hx
       obtain ⟨cs, rfl, h⟩ := hx
       obtain ⟨y, h1, h2⟩ := Opn.of h
       exact ⟨y, h1, (enc_of_cells y h2 g).symm⟩
     | false =>
       rw [if_neg (by rw [g]; decide)] at hx
       obtain ⟨y, h1, h2⟩ := Opn.of hx
       exact ⟨y, h1, (enc_of_cell y h2 g).symm⟩
   exact ⟨l, ⟨by simpa using hl, h1⟩, rfl⟩
 shp h := ⟨_, h, rfl⟩
theorem opn {α : Type} [Enc α] [Opn α] {a : AV} (h : ShA (Opn.T α) a) : ∃ x : α, Opn.ok x ∧ a = Enc.enc x := by
 obtain ⟨qs, h1, h2⟩ := Opn.shp h
 obtain ⟨x, h3, h4⟩ := Opn.of h1
 refine ⟨x, h3, ?_⟩
 cases g : Opn.ag α with
 | true =>
   rw [if_pos g] at h2
   rw [h2, enc_of_cells x h4 g]
 | false =>
   rw [if_neg (by rw [g]; decide)] at h2
   subst h2
   exact (enc_of_cell x h4 g).symm
end Go.Proofs.YtibploaibljcmaaGreatDoor
