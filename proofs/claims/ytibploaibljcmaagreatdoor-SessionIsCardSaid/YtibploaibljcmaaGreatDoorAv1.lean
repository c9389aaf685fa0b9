import Derived.Test.YtibploaibljcmaaGreatDoorGam
namespace Go.Proofs.YtibploaibljcmaaGreatDoor
open Go.RowKit
set_option linter.unusedVariables false
set_option linter.unusedSimpArgs false
inductive Tag where
 | imm
 | full
 | app (s : Nat)
inductive AV where
 | und
 | nov
 | bool (b : Bool)
 | int (k : IntKind) (n : Int)
 | str (s : ByteArray)
 | slice (t : Tag) (sz : Nat) (xs : List AV)
 | agg (cs : List AV)
 | tup (vs : List AV)
 | fn (f : FuncId) (bs : List AV)
 | clo (f : FuncId) (cs : List AV)
 | nilFn
 | ptr (l off : Nat)
 | cptr (xs : List AV) (i off : Nat)
 | bsl (l off n sz q : Nat)
 | mp (l : Nat)
 | iface (t : TypeId) (v : AV)
 | nilIface
structure Mem where
 κ : Addr → Option Value
 μ : Nat → Option Nat
 β : Nat → Option (Nat × Nat)
 fr : Nat → Option (TypeId × Nat)
def flat (vs : List Value) : List Value := vs.flatMap fun v => v.cells.toList
def LiesK (κ : Addr → Option Value) (A : Option Addr) (xs : List Value) : Prop :=
 xs = [] ∨ ∃ b o, A = some ⟨b, o, none⟩ ∧ ∀ j, ∀ h : j < xs.length, κ ⟨b, o + j, none⟩ = some xs[j]
def TagOk (M : Mem) : Tag → Option Addr → Nat → Nat → Prop
 | .imm, _, _, _ => True
 | .full, _, n, c => c = n
 | .app s, A, n, c => ∃ e f, M.fr s = some (e, f) ∧ n ≤ f ∧ (n = f → c = n ∨ ∃ g, A = some ⟨g, 0, none⟩ ∧ M.β s = some (g, c))
def ElemOk (sz : Nat) (v : Value) : Prop := v.cells.size = sz ∧ ∀ u ∈ v.cells.toList, u.oneCell' = true
inductive Rep (M : Mem) : Value → AV → Prop where
 | und (v : Value) : Rep M v .und
 | nov : Rep M undef .nov
 | bool (b : Bool) : Rep M (.bool b) (.bool b)
 | int (k : IntKind) (n : Int) : Rep M (.int k n) (.int k n)
 | str (s : ByteArray) : Rep M (.string s) (.str s)
 | slice (t : Tag) (A : Option Addr) (n c sz : Nat) (vs : List Value) (xs : List AV) (hl : vs.length = xs.length) (hn : n = xs.length) (hc : n ≤ c) (hm : c ≤ maxLen)
     (hs : ∀ v, v ∈ vs → ElemOk sz v) (hA : LiesK M.κ A (flat vs))
     (hr : ∀ (i : Nat) (h1 : i < vs.length) (h2 : i < xs.length), Rep M vs[i] xs[i]) (ht : TagOk M t A n c) : Rep M (.slice A n c) (.slice t sz xs)
 | agg (vs : List Value) (cs : List AV) (hl : vs.length = cs.length) (h1 : ∀ v, v ∈ vs → v.oneCell' = true)
     (hr : ∀ (i : Nat) (h1 : i < vs.length) (h2 : i < cs.length), Rep M vs[i] cs[i]) : Rep M (.agg vs.toArray) (.agg cs)
 | tup (vs : List Value) (cs : List AV) (hl : vs.length = cs.length)
     (hr : ∀ (i : Nat) (h1 : i < vs.length) (h2 : i < cs.length), Rep M vs[i] cs[i]) : Rep M (.tuple vs.toArray) (.tup cs)
 | fn (f : FuncId) (vs : List Value) (bs : List AV) (hl : vs.length = bs.length)
     (hr : ∀ (i : Nat) (h1 : i < vs.length) (h2 : i < bs.length), Rep M vs[i] bs[i]) : Rep M (.func (.func f) vs.toArray #[]) (.fn f bs)
 | clo (f : FuncId) (vs : List Value) (cs : List AV) (hl : vs.length = cs.length)
     (hr : ∀ (i : Nat) (h1 : i < vs.length) (h2 : i < cs.length), Rep M vs[i] cs[i]) : Rep M (.func (.func f) #[] vs.toArray) (.clo f cs)
 | nilFn : Rep M .nilFunc .nilFn
 | ptr (l off g : Nat) (h : M.μ l = some g) : Rep M (.pointer (some ⟨g, off, none⟩)) (.ptr l off)
 | cptr (b o i off sz : Nat) (vs : List Value) (xs : List AV) (hl : vs.length = xs.length) (hs : ∀ v, v ∈ vs → ElemOk sz v)
     (hK : ∀ j, ∀ h : j < (flat vs).length, M.κ ⟨b, o + j, none⟩ = some (flat vs)[j])
     (hr : ∀ (i : Nat) (h1 : i < vs.length) (h2 : i < xs.length), Rep M vs[i] xs[i]) : Rep M (.pointer (some ⟨b, o + i * sz + off, none⟩)) (.cptr xs i off)
 | bsl (l off n sz q g c : Nat) (h : M.μ l = some g) (hn : n ≤ c) (hm : c ≤ maxLen) (hq : q = 0 ∨ q = c + 1) : Rep M (.slice (some ⟨g, off * sz, none⟩) n c) (.bsl l off n sz q)
 | mp (l g : Nat) (h : M.μ l = some g) : Rep M (.map (some g)) (.mp l)
 | iface (t : TypeId) (v : Value) (a : AV) (h : Rep M v a) : Rep M (.iface t v) (.iface t a)
 | nilIface : Rep M .nilIface .nilIface
def M0 (κ : Addr → Option Value) : Mem := ⟨κ, fun _ => none, fun _ => none, fun _ => none⟩
def Reps (M : Mem) (vs : List Value) (cs : List AV) : Prop := vs.length = cs.length ∧ ∀ (i : Nat) (h1 : i < vs.length) (h2 : i < cs.length), Rep M vs[i] cs[i]
structure Mem.le (M M' : Mem) : Prop where
 κ : ∀ a v, M.κ a = some v → M'.κ a = some v
 μ : ∀ l g, M.μ l = some g → M'.μ l = some g
 fr : ∀ s e f, M.fr s = some (e, f) → ∃ f', M'.fr s = some (e, f') ∧ f ≤ f' ∧ (f = f' → M'.β s = M.β s)
theorem Mem.le.refl (M : Mem) : Mem.le M M := ⟨fun _ _ h => h, fun _ _ h => h, fun s e f h => ⟨f, h, Nat.le_refl _, fun _ => rfl⟩⟩
theorem Mem.le.trans {M M' M'' : Mem} (h : Mem.le M M') (k : Mem.le M' M'') : Mem.le M M'' :=
 ⟨fun a v e => k.κ a v (h.κ a v e), fun l g e => k.μ l g (h.μ l g e), fun s e f hf => by
   obtain ⟨f1, h1, h2, h3⟩ := h.fr s e f hf
   obtain ⟨f2, k1, k2, k3⟩ := k.fr s e f1 h1
   exact ⟨f2, k1, by omega, fun e => by rw [k3 (by omega), h3 (by omega)]⟩⟩
theorem LiesK.mono {κ κ' : Addr → Option Value} (hk : ∀ a v, κ a = some v → κ' a = some v) {A : Option Addr} {xs : List Value} (h : LiesK κ A xs) : LiesK κ' A xs := by
 rcases h with h | ⟨b, o, hA, hc⟩
 · exact .inl h
 · exact .inr ⟨b, o, hA, fun j hj => hk _ _ (hc j hj)⟩
theorem TagOk.mono {M M' : Mem} (h : Mem.le M M') {t : Tag} {A : Option Addr} {n c : Nat} (k : TagOk M t A n c) : TagOk M' t A n c := by
 cases t with
 | imm => trivial
 | full => exact k
 | app s =>
   obtain ⟨e, f, h1, h2, h3⟩ := k
   obtain ⟨f', g1, g2, g3⟩ := h.fr s e f h1
   refine ⟨e, f', g1, by omega, fun e' => ?_⟩
   have : f = f' := by omega
   rw [g3 this]
   exact h3 (by omega)
theorem Rep.mono {M M' : Mem} (h : Mem.le M M') {v : Value} {a : AV} (k : Rep M v a) : Rep M' v a := by
 induction k with
 | und v => exact .und v
 | nov => exact .nov
 | bool b => exact .bool b
 | int k n => exact .int k n
 | str s => exact .str s
 | slice t A n c sz vs xs hl hn hc hm hs hA hr ht ih => exact .slice t A n c sz vs xs hl hn hc hm hs (hA.mono h.κ) ih (ht.mono h)
 | agg vs cs hl h1 hr ih => exact .agg vs cs hl h1 ih
 | tup vs cs hl hr ih => exact .tup vs cs hl ih
 | fn f vs bs hl hr ih => exact .fn f vs bs hl ih
 | clo f vs cs hl hr ih => exact .clo f vs cs hl ih
 | nilFn => exact .nilFn
 | ptr l off g hg => exact .ptr l off g (h.μ l g hg)
 | cptr b o i off sz vs xs hl hs hK hr ih => exact .cptr b o i off sz vs xs hl hs (fun j hj => h.κ _ _ (hK j hj)) ih
 | bsl l off n sz q g c hg hn hm hq => exact .bsl l off n sz q g c (h.μ l g hg) hn hm hq
 | mp l g hg => exact .mp l g (h.μ l g hg)
 | iface t v a hr ih => exact .iface t v a ih
 | nilIface => exact .nilIface
theorem Reps.mono {M M' : Mem} (h : Mem.le M M') {vs : List Value} {cs : List AV} (k : Reps M vs cs) : Reps M' vs cs := ⟨k.1, fun i h1 h2 => (k.2 i h1 h2).mono h⟩
abbrev MAPT : Nat := 1099511627776
def flatKV (es : List MapEntry) : List Value := es.flatMap fun e => [e.key, e.val]
def BoxIs (w : World) (g : Nat) (T : TypeId) (vs us : List Value) : Prop :=
 (T < 1099511627776 ∧ w.heap[g]? = some (.cells (vs ++ us).toArray T (0, 0)) ∧ ∀ v ∈ vs, v.oneCell' = true) ∨
 (1099511627776 ≤ T ∧ ∃ (es : List MapEntry) (clock : Nat), w.heap[g]? = some (.map es.toArray clock) ∧ vs = flatKV es ∧ (es.map (·.born)).Nodup ∧ ∀ e ∈ es, e.born < clock)
theorem BoxIs.heap {w w' : World} {g : Nat} {T : TypeId} {vs us : List Value} (h : BoxIs w g T vs us) (hw : w'.heap[g]? = w.heap[g]?) : BoxIs w' g T vs us := by
 unfold BoxIs
 rw [hw]
 exact h
theorem BoxIs.lt {w : World} {g : Nat} {T : TypeId} {vs us : List Value} (h : BoxIs w g T vs us) : g < w.heap.size := by
 rcases h with ⟨_, h, _⟩ | ⟨_, es, c, h, _⟩
 · exact (Array.getElem?_eq_some_iff.1 h).1
 · exact (Array.getElem?_eq_some_iff.1 h).1
theorem BoxIs.cells {w : World} {g : Nat} {T : TypeId} {vs us : List Value} (h : BoxIs w g T vs us) (hT : T < 1099511627776) : w.heap[g]? = some (.cells (vs ++ us).toArray T (0, 0)) ∧ ∀ v ∈ vs, v.oneCell' = true := by
 rcases h with ⟨_, h⟩ | ⟨h, _⟩
 · exact h
 · exact absurd h (Nat.not_le.mpr hT)
def BoxAt (M : Mem) (w : World) (g : Nat) (T : TypeId) (cs : List AV) : Prop :=
 ∃ vs us : List Value, BoxIs w g T vs us ∧ Reps M vs cs
def KG (κ : Addr → Option Value) : Prop := (∀ g vs, gam g = some vs → ∀ j, ∀ h : j < vs.length, κ ⟨g, j, none⟩ = some vs[j]) ∧ ∀ g ∈ gamI, ∃ m : Int, κ ⟨g, 0, none⟩ = some (.int .i64 m)
structure Cx where
 P : Program
 base : Nat
 κ0 : Addr → Option Value
 w0 : World
 M1 : Mem
 gk : KG M1.κ
structure MR (X : Cx) (M : Mem) (σ : Nat → Option (TypeId × List AV)) (w : World) : Prop where
 kap : ∀ a v, M.κ a = some v → w.cell? a = some v
 old : ∀ a, a.block < X.base → M.κ a = X.κ0 a
 bel : Below X.base X.w0 w
 hb : X.base ≤ w.heap.size
 box : ∀ l g, M.μ l = some g → X.base ≤ g ∧ (∀ o, M.κ ⟨g, o, none⟩ = none) ∧ ∃ T cs, σ l = some (T, cs) ∧ BoxAt M w g T cs
 inj : ∀ l l' g, M.μ l = some g → M.μ l' = some g → l = l'
 tok : ∀ s g c, M.β s = some (g, c) → X.base ≤ g ∧ (∀ l, M.μ l ≠ some g) ∧ ∃ e n i cells, M.fr s = some (e, n) ∧ X.P.info? e = some i ∧ n ≤ c ∧ c ≤ maxLen ∧
   w.heap[g]? = some (.cells cells e (0, 0)) ∧ cells.size = c * i.size ∧ ∀ o, n * i.size ≤ o → M.κ ⟨g, o, none⟩ = none
 tinj : ∀ s s' g c c', M.β s = some (g, c) → M.β s' = some (g, c') → s = s'
 prot : Mem.le X.M1 M
theorem MR.kg {X : Cx} {M : Mem} {σ : Nat → Option (TypeId × List AV)} {w : World} (h : MR X M σ w) : KG M.κ := ⟨fun g vs e j hj => h.prot.κ _ _ (X.gk.1 g vs e j hj), fun g hg => (X.gk.2 g hg).imp fun m hm => h.prot.κ _ _ hm⟩
theorem kap_lt {X : Cx} {M : Mem} {σ : Nat → Option (TypeId × List AV)} {w : World} (h : MR X M σ w) {a : Addr} {v : Value} (k : M.κ a = some v) : a.block < w.heap.size :=
 World.block_lt_of_cell? _ _ (h.kap a v k)
theorem box_lt {X : Cx} {M : Mem} {σ : Nat → Option (TypeId × List AV)} {w : World} (h : MR X M σ w) {l g : Nat} (k : M.μ l = some g) : g < w.heap.size := by
 obtain ⟨_, _, T, cs, _, vs, us, hg, _⟩ := h.box l g k
 exact hg.lt
theorem tok_lt {X : Cx} {M : Mem} {σ : Nat → Option (TypeId × List AV)} {w : World} (h : MR X M σ w) {s g c : Nat} (k : M.β s = some (g, c)) : g < w.heap.size := by
 obtain ⟨_, _, e, n, i, cells, _, _, _, _, hg, _⟩ := h.tok s g c k
 exact (Array.getElem?_eq_some_iff.1 hg).1
theorem BoxAt.mono {M M' : Mem} {w w' : World} {g : Nat} {T : TypeId} {cs : List AV} (h : BoxAt M w g T cs) (hM : Mem.le M M') (hw : w'.heap[g]? = w.heap[g]?) : BoxAt M' w' g T cs := by
 obtain ⟨vs, us, h1, h3⟩ := h
 exact ⟨vs, us, h1.heap hw, h3.mono hM⟩
theorem MR.grow {X : Cx} {M : Mem} {σ : Nat → Option (TypeId × List AV)} {w w' : World} (h : MR X M σ w) (hb : Below w.heap.size w w') (κ' : Addr → Option Value)
   (h1 : ∀ a, a.block < w.heap.size → κ' a = M.κ a) (h2 : ∀ a v, w.heap.size ≤ a.block → κ' a = some v → w'.cell? a = some v) :
   MR X { M with κ := κ' } σ w' ∧ Mem.le M { M with κ := κ' } := by
 have hle : Mem.le M { M with κ := κ' } := by
   refine ⟨fun a v hv => ?_, fun _ _ h => h, fun s e f hf => ⟨f, hf, Nat.le_refl _, fun _ => rfl⟩⟩
   show κ' a = some v
   rw [h1 a (kap_lt h hv)]
   exact hv
 refine ⟨⟨?_, ?_, ?_, ?_, ?_, h.inj, ?_, h.tinj, h.prot.trans hle⟩, hle⟩
 · intro a v hv
   have hv : κ' a = some v := hv
   by_cases ha : a.block < w.heap.size
   · rw [h1 a ha] at hv
     rw [hb.cell ha]
     exact h.kap a v hv
   · exact h2 a v (by omega) hv
 · intro a ha
   show κ' a = _
   rw [h1 a (by have := h.hb; omega)]
   exact h.old a ha
 · exact h.bel.trans (hb.mono h.hb)
 · have := hb.size
   have := h.hb
   omega
 · intro l g hg
   have hlt := box_lt h hg
   obtain ⟨k1, k2, T, cs, k3, k4⟩ := h.box l g hg
   refine ⟨k1, fun o => ?_, T, cs, k3, k4.mono hle (hb.block g hlt)⟩
   show κ' _ = none
   rw [h1 _ hlt]
   exact k2 o
 · intro s g c hs
   have hlt := tok_lt h hs
   obtain ⟨k1, k2, e, n, i, cells, k3, k4, k5, k6, k7, k8, k9⟩ := h.tok s g c hs
   refine ⟨k1, k2, e, n, i, cells, k3, k4, k5, k6, (hb.block g hlt).trans k7, k8, fun o ho => ?_⟩
   show κ' _ = none
   rw [h1 _ hlt]
   exact k9 o ho
end Go.Proofs.YtibploaibljcmaaGreatDoor
