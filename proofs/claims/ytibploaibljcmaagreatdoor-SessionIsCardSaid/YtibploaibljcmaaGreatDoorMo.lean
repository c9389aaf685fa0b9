import Derived.Test.YtibploaibljcmaaGreatDoorAv17
namespace Go.Proofs.YtibploaibljcmaaGreatDoor
open Go.RowKit
set_option linter.unusedVariables false
class Enc (α : Type) where
 sz : Nat
 enc : α → AV
 pure_enc : ∀ x, pur (enc x) = true
 cel : ∀ x, ∃ cs, cellsOf (enc x) = some cs ∧ cs.length = sz
instance encInt : Enc Int := ⟨1, fun x => .int .i64 x, fun _ => rfl, fun _ => ⟨_, rfl, rfl⟩⟩
instance encBool : Enc Bool := ⟨1, fun x => .bool x, fun _ => rfl, fun _ => ⟨_, rfl, rfl⟩⟩
instance encU8 : Enc UInt8 := ⟨1, bA, fun _ => rfl, fun _ => ⟨_, rfl, rfl⟩⟩
theorem purL_enc {α : Type} [Enc α] (xs : List α) : purL (xs.map Enc.enc) = true := purL_map Enc.pure_enc
instance encList {α : Type} [Enc α] : Enc (List α) := ⟨1, fun xs => .slice .imm (Enc.sz α) (xs.map Enc.enc), fun xs => purL_enc xs, fun _ => ⟨_, rfl, rfl⟩⟩
structure Str where
 b : List UInt8
deriving DecidableEq
instance encStr : Enc Str := ⟨1, fun s => .str ⟨s.b.toArray⟩, fun _ => rfl, fun _ => ⟨_, rfl, rfl⟩⟩
structure U64 where
 v : Int
deriving DecidableEq
instance encU64 : Enc U64 := ⟨1, fun s => .int .u64 s.v, fun _ => rfl, fun _ => ⟨_, rfl, rfl⟩⟩
structure U32 where
 v : Int
deriving DecidableEq
instance encU32 : Enc U32 := ⟨1, fun s => .int .u32 s.v, fun _ => rfl, fun _ => ⟨_, rfl, rfl⟩⟩
structure I32 where
 v : Int
deriving DecidableEq
instance encI32 : Enc I32 := ⟨1, fun s => .int .i32 s.v, fun _ => rfl, fun _ => ⟨_, rfl, rfl⟩⟩
theorem enc_u64 (s : U64) : Enc.enc s = .int .u64 s.v := rfl
theorem enc_u32 (s : U32) : Enc.enc s = .int .u32 s.v := rfl
theorem enc_i32 (s : I32) : Enc.enc s = .int .i32 s.v := rfl
theorem sz_u64 : Enc.sz U64 = 1 := rfl
theorem sz_u32 : Enc.sz U32 = 1 := rfl
theorem sz_i32 : Enc.sz I32 = 1 := rfl
def sa (a b : List UInt8) : Option (List UInt8) := if ((a.length + b.length : Nat) : Int) ≤ IntKind.i64.max then some (a ++ b) else none
theorem sw_fork {R : Type} {p : Prop} {_ : Decidable p} {A B : Option R} {r : R} {G : Prop} (h : (bif decide p then A else B) = some r) (h1 : p → A = some r → G) (h2 : ¬ p → B = some r → G) : G := by
 by_cases hp : p
 · rw [decide_eq_true hp] at h; exact h1 hp h
 · rw [decide_eq_false hp] at h; exact h2 hp h
def BIG : Nat := 1180591620717411303424
def ix {α : Type} (xs : List α) (i : Int) : Option α := if 0 ≤ i then xs[i.toNat]? else none
def sl {α : Type} (xs : List α) (lo hi : Int) : Option (List α) := if 0 ≤ lo ∧ lo ≤ hi ∧ hi ≤ xs.length then some ((xs.take hi.toNat).drop lo.toNat) else none
def ap {α : Type} (bytes : Nat) (xs ys : List α) : Option (List α) := if (xs.length + ys.length) * bytes ≤ 140737488355328 ∧ xs.length + ys.length ≤ maxLen then some (xs ++ ys) else none
def nz {R : Type} (b : Int) (m : Option R) : Option R := if b = 0 then none else m
def nn {R : Type} (b : Int) (m : Option R) : Option R := if b < 0 then none else m
def bd {α R : Type} (m : Option α) (k : α → Option R) : Option R := m.bind k
def an {α : Type} (bytes : Nat) (ys : List α) : Option (List α) := if 0 < ys.length ∧ ys.length * bytes ≤ 140737488355328 ∧ ys.length ≤ maxLen then some ys else none
def up {α : Type} (xs : List α) (i : Int) (y : α) : Option (List α) := some (xs.set i.toNat y)
def fz {α : Type} (l : Nat) (xs : List α) : Option Unit := some ()
def toB (x : Int) : UInt8 := UInt8.ofNat x.toNat
def loopC {σ ε R : Type} (step : σ → (σ → Option R) → (ε → Option R) → Option R) (bk : ε → Option R) : Nat → σ → Option R
 | 0, _ => none
 | n + 1, s => step s (fun s' => loopC step bk n s') bk
def jn {τ R : Type} (i : Nat) (f : (τ → Option R) → Option R) (k : τ → Option R) : Option R := f k
theorem bd_some {α R : Type} {x : α} {k : α → Option R} : bd (some x) k = k x := rfl
theorem bd_elim {α R : Type} {m : Option α} {k : α → Option R} {r : R} (h : bd m k = some r) : ∃ x, m = some x ∧ k x = some r := Option.bind_eq_some_iff.1 h
theorem nz_elim {R : Type} {b : Int} {m : Option R} {r : R} (h : nz b m = some r) : ¬ b = 0 ∧ m = some r := by
 unfold nz at h
 split at h
 · cases h
 · exact ⟨‹_›, h⟩
theorem nn_elim {R : Type} {b : Int} {m : Option R} {r : R} (h : nn b m = some r) : ¬ b < 0 ∧ m = some r := by
 unfold nn at h
 split at h
 · cases h
 · exact ⟨‹_›, h⟩
theorem bd_go {α R : Type} {m : Option α} {k : α → Option R} {r : R} {G : Prop} (h : bd m k = some r) (g : ∀ x, m = some x → k x = some r → G) : G := by
 obtain ⟨x, h1, h2⟩ := bd_elim h
 exact g x h1 h2
theorem nz_go {R : Type} {b : Int} {m : Option R} {r : R} {G : Prop} (h : nz b m = some r) (g : ¬ b = 0 → m = some r → G) : G := g (nz_elim h).1 (nz_elim h).2
theorem nn_go {R : Type} {b : Int} {m : Option R} {r : R} {G : Prop} (h : nn b m = some r) (g : ¬ b < 0 → m = some r → G) : G := g (nn_elim h).1 (nn_elim h).2
theorem loopC_zero {σ ε R : Type} {step : σ → (σ → Option R) → (ε → Option R) → Option R} {bk : ε → Option R} {s : σ} : loopC step bk 0 s = none := rfl
theorem loopC_succ {σ ε R : Type} {step : σ → (σ → Option R) → (ε → Option R) → Option R} {bk : ε → Option R} {n : Nat} {s : σ} : loopC step bk (n + 1) s = step s (fun s' => loopC step bk n s') bk := rfl
theorem ix_get {α : Type} {xs : List α} {i : Int} {y : α} (h : ix xs i = some y) : 0 ≤ i ∧ xs[i.toNat]? = some y := by
 unfold ix at h
 split at h
 · exact ⟨‹_›, h⟩
 · cases h
theorem sl_get {α : Type} {xs ys : List α} {lo hi : Int} (h : sl xs lo hi = some ys) : (0 ≤ lo ∧ lo ≤ hi ∧ hi ≤ xs.length) ∧ ys = (xs.take hi.toNat).drop lo.toNat := by
 unfold sl at h
 split at h
 · exact ⟨‹_›, (Option.some.inj h).symm⟩
 · cases h
theorem ap_get {α : Type} {b : Nat} {xs ys zs : List α} (h : ap b xs ys = some zs) : ((xs.length + ys.length) * b ≤ 140737488355328 ∧ xs.length + ys.length ≤ maxLen) ∧ zs = xs ++ ys := by
 unfold ap at h
 split at h
 · exact ⟨‹_›, (Option.some.inj h).symm⟩
 · cases h
theorem bd_none {α R : Type} (k : α → Option R) : bd none k = none := rfl
theorem jn_eq {τ R : Type} (i : Nat) (f : (τ → Option R) → Option R) (k : τ → Option R) : jn i f k = f k := rfl
theorem nz_eq {R : Type} (b : Int) (m : Option R) : nz b m = if b = 0 then none else m := rfl
theorem nn_eq {R : Type} (b : Int) (m : Option R) : nn b m = if b < 0 then none else m := rfl
theorem ix_eq {α : Type} (xs : List α) (i : Int) : ix xs i = if 0 ≤ i then xs[i.toNat]? else none := rfl
theorem sl_eq {α : Type} (xs : List α) (lo hi : Int) : sl xs lo hi = if 0 ≤ lo ∧ lo ≤ hi ∧ hi ≤ xs.length then some ((xs.take hi.toNat).drop lo.toNat) else none := rfl
theorem ap_eq {α : Type} (b : Nat) (xs ys : List α) : ap b xs ys = if (xs.length + ys.length) * b ≤ 140737488355328 ∧ xs.length + ys.length ≤ maxLen then some (xs ++ ys) else none := rfl
def mkz {α : Type} (bytes : Nat) (z : α) (n : Int) : Option (List α) := if 0 ≤ n ∧ n.toNat * bytes ≤ 140737488355328 ∧ n ≤ 9223372036854775807 then some (List.replicate n.toNat z) else none
def ixn {α : Type} (n : Nat) (xs : List α) (i : Int) : Option α := if n = xs.length then ix xs i else none
def slb (n : Nat) (lo hi : Int) : Option Unit := if 0 ≤ lo ∧ lo < hi ∧ hi ≤ n then some () else none
def cpn {α : Type} (xs : List α) (off n : Nat) (ys : List α) : Option (List α) := if off + min ys.length n ≤ xs.length then some (xs.take off ++ ys.take (min ys.length n) ++ xs.drop (off + min ys.length n)) else none
def sub {α : Type} (xs : List α) (off n : Nat) : Option (List α) := if off + n ≤ xs.length then some ((xs.drop off).take n) else none
def fzn {α : Type} (n : Nat) (xs : List α) : Option Unit := if n = xs.length then some () else none
def mget {α β : Type} [DecidableEq α] (m : List (α × β)) (k : α) : Option β := (m.find? fun p => decide (p.1 = k)).map (·.2)
def mhas {α β : Type} [DecidableEq α] (m : List (α × β)) (k : α) : Bool := m.any fun p => decide (p.1 = k)
def msetL {α β : Type} [DecidableEq α] : List (α × β) → α → β → List (α × β)
 | [], k, v => [(k, v)]
 | (a, b) :: r, k, v => if a = k then (k, v) :: r else (a, b) :: msetL r k v
def mdelL {α β : Type} [DecidableEq α] : List (α × β) → α → List (α × β)
 | [], _ => []
 | (a, b) :: r, k => if a = k then r else (a, b) :: mdelL r k
def ms {α β : Type} [DecidableEq α] (m : List (α × β)) (k : α) (v : β) : Option (List (α × β)) := some (msetL m k v)
def md {α β : Type} [DecidableEq α] (m : List (α × β)) (k : α) : Option (List (α × β)) := some (mdelL m k)
attribute [irreducible] mkz ixn slb cpn sub fzn bd jn nz nn ix sl ap sa an up fz loopC mget mhas ms md
theorem enc_int (x : Int) : Enc.enc x = .int .i64 x := rfl
theorem enc_bool (x : Bool) : Enc.enc x = .bool x := rfl
theorem enc_u8 (x : UInt8) : Enc.enc x = .int .u8 (x.toNat : Int) := rfl
theorem enc_list {α : Type} [Enc α] (xs : List α) : Enc.enc xs = .slice .imm (Enc.sz α) (xs.map Enc.enc) := rfl
theorem enc_str (s : Str) : Enc.enc s = .str ⟨s.b.toArray⟩ := rfl
theorem sz_int : Enc.sz Int = 1 := rfl
theorem sz_bool : Enc.sz Bool = 1 := rfl
theorem sz_u8 : Enc.sz UInt8 = 1 := rfl
theorem sz_list {α : Type} [Enc α] : Enc.sz (List α) = 1 := rfl
theorem sz_str : Enc.sz Str = 1 := rfl
theorem toB_nat (x : UInt8) : toB (x.toNat : Int) = x := by
 unfold toB
 rw [Int.toNat_natCast]
 exact UInt8.ofNat_toNat
theorem toB_of {x : Int} (h : 0 ≤ x ∧ x < 256) : ((toB x).toNat : Int) = x := by
 unfold toB
 rw [UInt8.toNat_ofNat']
 omega
theorem u8wrap_in (x : Int) : 0 ≤ IntKind.u8.wrap x ∧ IntKind.u8.wrap x < 256 := by
 simp only [IntKind.wrap, IntKind.signed, IntKind.bits, Bool.false_and, Bool.false_eq_true, if_false]
 omega
theorem toB_wrap (x : Int) : ((toB (IntKind.u8.wrap x)).toNat : Int) = IntKind.u8.wrap x := toB_of (u8wrap_in x)
theorem bytes_enc (l : List UInt8) : bytesOf (l.map Enc.enc) = some l := bytesOf_map l
end Go.Proofs.YtibploaibljcmaaGreatDoor
