import Derived.Test.YtibploaibljcmaaGreatDoorAv3
import Derived.WalkLawsBesides
namespace Go.Proofs.YtibploaibljcmaaGreatDoor
open Go.RowKit
set_option linter.unusedVariables false
set_option linter.unusedSimpArgs false
structure QOk (X : Cx) (M : Mem) (σ : Nat → Option (TypeId × List AV)) (w : World) (nl : Nat) (nb : Option (TypeId × List AV)) (a : AV) (v : Value) (w' : World) (M' : Mem) : Prop where
 le : Mem.le M M'
 mr : MR X M' σ w'
 rep : Rep M' v a
 bel : Below w.heap.size w w'
 fr : M'.fr = M.fr
 β : M'.β = M.β
 μ : ∀ l, l ≠ nl → M'.μ l = M.μ l
 μ0 : nb = none → M'.μ = M.μ
 μ1 : nb ≠ none → M'.μ nl ≠ none
theorem qok_same {X : Cx} {M : Mem} {σ : Nat → Option (TypeId × List AV)} {w : World} {nl : Nat} {a : AV} {v : Value} (h : MR X M σ w) (k : Rep M v a) : QOk X M σ w nl none a v w M :=
 ⟨.refl M, h, k, Below.refl _ _, rfl, rfl, fun _ _ => rfl, fun _ => rfl, fun h => absurd rfl h⟩
theorem scalar_rep {M : Mem} {v : Value} {a : AV} (h : scalarOf v = some a) : Rep M v a := by
 unfold scalarOf at h
 split at h
 all_goals first
   | cases h
   | skip
 · exact .bool _
 · exact .int _ _
 · exact .str _
 · exact .slice .full none 0 0 0 [] [] rfl rfl (Nat.le_refl _) (Nat.zero_le _) (by simp) (.inl rfl) (fun i h => absurd h (by simp)) rfl
 · exact .nilFn
 · exact .nilIface
 · exact .und _
theorem scalar_one {v : Value} {a : AV} (h : scalarOf v = some a) : v.oneCell' = true := by
 unfold scalarOf at h
 split at h <;> first | rfl | cases h
theorem scalars_rep {M : Mem} : ∀ {vs : List Value} {as : List AV}, vs.mapM scalarOf = some as → Reps M vs as ∧ ∀ v ∈ vs, v.oneCell' = true
 | [], as, h => by
   simp at h
   subst h
   exact ⟨reps_nil, by simp⟩
 | v :: vs, as, h => by
   rw [List.mapM_cons] at h
   cases hv : scalarOf v with
   | none => simp [hv] at h
   | some a =>
     cases hvs : vs.mapM scalarOf with
     | none => simp [hv, hvs] at h
     | some as' =>
       simp [hv, hvs] at h
       subst h
       obtain ⟨h1, h2⟩ := scalars_rep (M := M) hvs
       exact ⟨reps_cons (scalar_rep hv) h1, fun u hu => by
         rcases List.mem_cons.1 hu with rfl | hu
         · exact scalar_one hv
         · exact h2 u hu⟩
theorem avOf_rep {M : Mem} {v : Value} {a : AV} (h : avOf v = some a) : Rep M v a := by
 unfold avOf at h
 split at h
 · rename_i cs
   cases hm : cs.toList.mapM scalarOf with
   | none => simp [hm] at h
   | some as =>
     simp [hm] at h
     subst h
     obtain ⟨h1, h2⟩ := scalars_rep (M := M) hm
     have := Rep.agg (M := M) cs.toList as h1.1 h2 h1.2
     simpa using this
 · exact scalar_rep h
theorem gam_rep {M : Mem} (hk : KG M.κ) {g : Nat} {ax : AX} (h : gamAX g = some ax) : ∃ b, ax = .val b ∧ Rep M (.pointer (some ⟨g, 0, none⟩)) b := by
 unfold gamAX at h
 obtain ⟨vs, hv, h⟩ := Option.bind_eq_some_iff.1 h
 obtain ⟨cs, hc, rfl⟩ := Option.map_eq_some_iff.1 h
 obtain ⟨h1, h2⟩ := scalars_rep (M := M) hc
 have hf : flat [Value.agg vs.toArray] = vs := by simp [flat, Value.cells]
 have := Rep.cptr (M := M) g 0 0 0 vs.length [.agg vs.toArray] [.agg cs] rfl (fun v hv => by
   obtain rfl : v = .agg vs.toArray := by simpa using hv
   exact ⟨by simp [Value.cells], fun u hu => h2 u (by simpa [Value.cells] using hu)⟩) (fun j hj => by
   have hj' : j < vs.length := by rw [hf] at hj; exact hj
   rw [Nat.zero_add, hk.1 g vs hv j hj']
   exact congrArg some (by simp [hf])) (fun i i1 i2 => by
   have : i = 0 := by simpa using i1
   subst this
   exact .agg vs cs h1.1 h2 h1.2)
 refine ⟨_, rfl, ?_⟩
 simpa using this
theorem MR.addObj {X : Cx} {M : Mem} {σ : Nat → Option (TypeId × List AV)} {w : World} (h : MR X M σ w) {nl : Nat} (hn : M.μ nl = none) {T : TypeId} {cs : List AV} (hσ : σ nl = some (T, cs)) {vs : List Value}
   (us : List Value) (hr : Reps M vs cs) {ob : Obj} (hob : ∀ w' : World, w'.heap[w.heap.size]? = some ob → BoxIs w' w.heap.size T vs us) :
   ∃ M', Mem.le M M' ∧ MR X M' σ (w.alloc ob) ∧ M'.fr = M.fr ∧ M'.β = M.β ∧ (∀ l, l ≠ nl → M'.μ l = M.μ l) ∧ M'.μ nl = some w.heap.size := by
 refine ⟨{ M with μ := fun l => if l = nl then some w.heap.size else M.μ l }, ?_, ?_, rfl, rfl, fun l hl => if_neg hl, if_pos rfl⟩
 · refine ⟨fun _ _ h => h, fun l g hg => ?_, fun s e f hf => ⟨f, hf, Nat.le_refl _, fun _ => rfl⟩⟩
   show (if l = nl then some w.heap.size else M.μ l) = some g
   rw [if_neg (fun e => by rw [e, hn] at hg; cases hg)]
   exact hg
 · have hle : Mem.le M { M with μ := fun l => if l = nl then some w.heap.size else M.μ l } := by
     refine ⟨fun _ _ h => h, fun l g hg => ?_, fun s e f hf => ⟨f, hf, Nat.le_refl _, fun _ => rfl⟩⟩
     show (if l = nl then some w.heap.size else M.μ l) = some g
     rw [if_neg (fun e => by rw [e, hn] at hg; cases hg)]
     exact hg
   have hκ : ∀ o, M.κ ⟨w.heap.size, o, none⟩ = none := fun o => by
     cases hk : M.κ ⟨w.heap.size, o, none⟩ with
     | none => rfl
     | some u => exact absurd (kap_lt h hk) (Nat.lt_irrefl _)
   refine ⟨fun a v hv => ?_, h.old, h.bel.alloc h.hb _, by have := h.hb; simp; omega, fun l g hg => ?_, fun l l' g hg hg' => ?_, fun s g c hs => ?_, h.tinj, h.prot.trans hle⟩
   · have hlt := kap_lt h hv
     exact (World.cell?_alloc_lt w _ a hlt).trans (h.kap a v hv)
   · have hg : (if l = nl then some w.heap.size else M.μ l) = some g := hg
     by_cases e : l = nl
     · rw [if_pos e] at hg
       have hg : w.heap.size = g := Option.some.inj hg
       rw [← hg, e]
       exact ⟨h.hb, hκ, T, cs, hσ, vs, us, hob _ (heap_alloc_new w _), hr.mono hle⟩
     · rw [if_neg e] at hg
       obtain ⟨k1, k2, T', cs', k3, k4⟩ := h.box l g hg
       exact ⟨k1, k2, T', cs', k3, k4.mono hle (heap_alloc_old w _ (box_lt h hg))⟩
   · have hg : (if l = nl then some w.heap.size else M.μ l) = some g := hg
     have hg' : (if l' = nl then some w.heap.size else M.μ l') = some g := hg'
     by_cases e : l = nl <;> by_cases e' : l' = nl
     · rw [e, e']
     · rw [if_pos e] at hg
       rw [if_neg e'] at hg'
       injection hg with hg
       have := box_lt h hg'
       omega
     · rw [if_neg e] at hg
       rw [if_pos e'] at hg'
       injection hg' with hg'
       have := box_lt h hg
       omega
     · rw [if_neg e] at hg
       rw [if_neg e'] at hg'
       exact h.inj l l' g hg hg'
   · have hlt := tok_lt h hs
     obtain ⟨k1, k2, e, n, i, cells, k3, k4, k5, k6, k7, k8, k9⟩ := h.tok s g c hs
     refine ⟨k1, fun l hl => ?_, e, n, i, cells, k3, k4, k5, k6, (heap_alloc_old w _ hlt).trans k7, k8, k9⟩
     have hl : (if l = nl then some w.heap.size else M.μ l) = some g := hl
     by_cases e : l = nl
     · rw [if_pos e] at hl
       injection hl with hl
       omega
     · rw [if_neg e] at hl
       exact k2 l hl
theorem MR.addBox {X : Cx} {M : Mem} {σ : Nat → Option (TypeId × List AV)} {w : World} (h : MR X M σ w) {nl : Nat} (hn : M.μ nl = none) {T : TypeId} {cs : List AV} (hσ : σ nl = some (T, cs)) {vs : List Value}
   (us : List Value) (hr : Reps M vs cs) (hT : T < 1099511627776) (h1 : ∀ v ∈ vs, v.oneCell' = true) :
   ∃ M', Mem.le M M' ∧ MR X M' σ (w.alloc (.cells (vs ++ us).toArray T)) ∧ M'.fr = M.fr ∧ M'.β = M.β ∧ (∀ l, l ≠ nl → M'.μ l = M.μ l) ∧ M'.μ nl = some w.heap.size :=
 h.addObj hn hσ us hr (fun w hw => .inl ⟨hT, hw, h1⟩)
theorem MR.addRow {X : Cx} {M : Mem} {σ : Nat → Option (TypeId × List AV)} {w : World} (h : MR X M σ w) (cells : Array Value) (T : TypeId) (fz : Nat × Nat) :
   ∃ M', Mem.le M M' ∧ MR X M' σ (w.alloc (.cells cells T fz)) ∧ M'.fr = M.fr ∧ M'.β = M.β ∧ M'.μ = M.μ ∧ ∀ j u, cells[j]? = some u → M'.κ ⟨w.heap.size, j, none⟩ = some u := by
 have hcell : ∀ a : Addr, a.block = w.heap.size → a.spot = none → (w.alloc (.cells cells T fz)).cell? a = cells[a.off]? := fun a ha hs => by
   unfold World.cell?
   rw [ha, heap_alloc_new]
   simp [hs]
 obtain ⟨g1, g2⟩ := h.grow (w' := w.alloc (.cells cells T fz)) (bnew w _) (fun a => if a.block < w.heap.size then M.κ a else if a.block = w.heap.size ∧ a.spot = none then cells[a.off]? else none)
   (fun a ha => if_pos ha) (fun a v ha hv => by
     rw [if_neg (by omega)] at hv
     split at hv
     · rename_i hc
       rw [hcell a hc.1 hc.2]
       exact hv
     · cases hv)
 refine ⟨_, g2, g1, rfl, rfl, rfl, fun j u hj => ?_⟩
 show (if (⟨w.heap.size, j, none⟩ : Addr).block < w.heap.size then _ else _) = _
 rw [if_neg (by simp), if_pos ⟨rfl, rfl⟩]
 exact hj
section
variable {X : Cx} {M : Mem} {σ σt : Nat → Option (TypeId × List AV)} {w : World}
theorem rep_int {v : Value} {k : IntKind} {n : Int} (h : Rep M v (.int k n)) : v = .int k n := by cases h; rfl
theorem rep_bool {v : Value} {b : Bool} (h : Rep M v (.bool b)) : v = .bool b := by cases h; rfl
theorem rep_str {v : Value} {s : ByteArray} (h : Rep M v (.str s)) : v = .string s := by cases h; rfl
theorem elem_of {P : Program} {t e : TypeId} (h : P.underlying t = some (.slice e)) : P.elem t = e := by simp [Program.elem, h]
theorem run_idxA (h : MR X M σ w) {t e : TypeId} {i : TypeInfo} (ht : X.P.underlying t = some (.slice e)) (hi : X.P.info? e = some i) (h0 : i.size ≠ 0) {v u : Value} {tg : Tag} {xs : List AV} {k : IntKind} {n : Int}
   (hv : Rep M v (.slice tg i.size xs)) (hu : Rep M u (.int k n)) (hn : 0 ≤ n ∧ n < xs.length) : ∃ p, (Instr.indexAt t v u).run X.P w = .ok p w ∧ Rep M p (.cptr xs n.toNat 0) := by
 obtain rfl := rep_int hu
 cases hv with
 | slice _ A m c _ vs _ hl hm hc hx hs hA hr htg =>
   have hfl := flat_length vs hs
   have hpos : 0 < (flat vs).length := by
     rw [hfl]
     exact Nat.mul_pos (by omega) (by omega)
   rcases hA with hA | ⟨b, o, rfl, hA⟩
   · rw [hA] at hpos
     simp at hpos
   · refine ⟨.pointer (some ⟨b, o + n.toNat * i.size + 0, none⟩), ?_, .cptr b o n.toNat 0 i.size vs xs hl hs hA hr⟩
     have hs' : (sizeOf e).run X.P w = .ok i.size w := by simp [sizeOf, typeInfo, hi]
     rw [run_indexAt_slice w t _ _ _ _ _ (by rw [elem_of ht]; exact ht), if_pos ⟨hn.1, by omega⟩, elem_of ht, hs', Result.andThen_ok, Addr.add_lit]
     rfl
theorem rep_one {p : Value} {xs : List AV} {i off : Nat} {x : AV} (h : Rep M p (.cptr xs i off)) (hx : xs[i]? = some x) : Rep M p (.cptr [x] 0 off) := by
 cases h with
 | cptr b o _ _ sz vs _ hl hs hK hr =>
   obtain ⟨hi, rfl⟩ := List.getElem?_eq_some_iff.1 hx
   have hv : i < vs.length := by rw [hl]; exact hi
   have e : vs.drop i = vs[i] :: vs.drop (i + 1) := List.drop_eq_getElem_cons hv
   have hd := flat_drop i vs hs
   rw [e, flat_cons] at hd
   have h1 : flat [vs[i]] = vs[i].cells.toList := by simp [flat]
   have hr' := hr i hv hi
   have := Rep.cptr (M := M) b (o + i * sz) 0 off sz [vs[i]] [xs[i]] rfl (fun v hm => by
     rw [List.mem_singleton] at hm
     subst hm
     exact hs _ (List.getElem_mem hv)) (fun j hj => by
     have hj' : j < vs[i].cells.toList.length := by rw [← h1]; exact hj
     have h2 : i * sz + j < (flat vs).length := by
       have := congrArg List.length hd
       rw [List.length_append, List.length_drop] at this
       omega
     have h3 := hK (i * sz + j) h2
     rw [← Nat.add_assoc] at h3
     rw [h3]
     congr 1
     have h4 : (vs[i].cells.toList ++ flat (vs.drop (i + 1)))[j]'(by rw [List.length_append]; omega) = vs[i].cells.toList[j] := List.getElem_append_left hj'
     have h5 : ((flat vs).drop (i * sz))[j]'(by rw [List.length_drop]; omega) = (flat vs)[i * sz + j] := List.getElem_drop
     rw [← h5]
     simp only [h1]
     rw [← h4]
     congr 1
     exact hd.symm) (fun k h1 h2 => by
     have : k = 0 := by simp at h1; omega
     subst this
     exact hr')
   simpa using this
theorem run_ld (h : MR X M σ w) (hσ : ∀ l b, σt l = some b → σ l = some b) {t : TypeId} {n : Option Nat} (ht : aggSize X.P t = some n) {v : Value} {p : AV} (hv : Rep M v p) {a : AV}
   (hq : (match p with
     | .ptr l off => match σt l with
       | some (T, cs) => if T < 1099511627776 then (ldAt n cs off).map fun a => (a, (none : Option (TypeId × List AV))) else none
       | none => none
     | .cptr xs i off => match xs[i]? with
       | some x => match cellsOf x with
         | some cs => (ldAt n cs off).map fun a => (a, none)
         | none => none
       | none => none
     | _ => none) = some (a, none)) : ∃ u, (Instr.loadAt t v).run X.P w = .ok u w ∧ Rep M u a := by
 cases hv with
 | ptr l off g hg =>
   simp only at hq
   cases hl : σt l with
   | none => rw [hl] at hq; cases hq
   | some b =>
     obtain ⟨T, cs⟩ := b
     rw [hl] at hq
     obtain ⟨_, _, T', cs', k3, vs, us, kb, k6⟩ := h.box l g hg
     have := (hσ l _ hl).symm.trans k3
     injection this with this
     injection this with e1 e2
     subst e1 e2
     dsimp only at hq
     split at hq
     rotate_left
     · cases hq
     rename_i hT
     obtain ⟨k4, k5⟩ := kb.cells hT
     cases hld : ldAt n cs off with
     | none => simp [hld] at hq
     | some a' =>
       simp [hld] at hq
       subst hq
       obtain ⟨u, hu, hrep⟩ := ld_rep k6 k5 hld
       refine ⟨u, ?_, hrep⟩
       have := run_load_at (P := X.P) (w := w) ht (b := g) (o := 0) (off := off) (vs := vs) (fun j u hj => by
         simp [World.cell?, k4]
         rw [List.getElem?_append_left (List.getElem?_eq_some_iff.1 hj).1]
         exact hj) hu
       rw [Nat.zero_add] at this
       simp [Instr.loadAt, Instr.sureAddr, this]
 | cptr b o i off sz vs xs hl hs hK hr =>
   simp only at hq
   cases hx : xs[i]? with
   | none => rw [hx] at hq; cases hq
   | some x =>
     rw [hx] at hq
     simp only at hq
     cases hc : cellsOf x with
     | none => rw [hc] at hq; cases hq
     | some cs =>
       rw [hc] at hq
       simp only at hq
       cases hld : ldAt n cs off with
       | none => simp [hld] at hq
       | some a' =>
         simp [hld] at hq
         subst hq
         obtain ⟨u0, hu0, hru0⟩ := reps_get (M := M) (vs := vs) (as := xs) ⟨hl, hr⟩ hx
         obtain ⟨hcs, h1⟩ := rep_cells hru0 hc
         obtain ⟨u, hu, hrep⟩ := ld_rep hcs h1 hld
         refine ⟨u, ?_, hrep⟩
         have hsz := (hs u0 (List.mem_of_getElem? hu0)).1
         have := run_load_at (P := X.P) (w := w) ht (b := b) (o := o + i * sz) (off := off) (vs := u0.cells.toList) (fun j u hj => by
           have hjl : j < sz := by
             have := (List.getElem?_eq_some_iff.1 hj).1
             rw [Array.length_toList, hsz] at this
             exact this
           have hf := flat_at vs hs hu0 hjl
           rw [hj] at hf
           obtain ⟨hlt, hf⟩ := List.getElem?_eq_some_iff.1 hf
           have := h.kap _ _ (hK _ hlt)
           rw [hf] at this
           rw [Nat.add_assoc]
           exact this) hu
         simp [Instr.loadAt, Instr.sureAddr, this]
 | und v => simp at hq
 | nov => simp at hq
 | bool b => simp at hq
 | int k n => simp at hq
 | str s => simp at hq
 | slice t A n c sz vs xs hl hn hc hm hs hA hr htg => simp at hq
 | agg vs cs hl h1 hr => simp at hq
 | tup vs cs hl hr => simp at hq
 | fn f vs bs hl hr => simp at hq
 | clo f vs bs hl hr => simp at hq
 | nilFn => simp at hq
 | bsl l off n sz q g c hg hn hm _ => simp at hq
 | mp l g hg => simp at hq
 | iface t v a hr => simp at hq
 | nilIface => simp at hq
theorem run_off (h : MR X M σ w) {s : TypeId} {f : Nat} {fs : Array Field} {fd : Field} {i : TypeInfo} (hs : X.P.underlying s = some (.struct fs)) (hf : fs[f]? = some fd) (hi : X.P.info? fd.type = some i) (h0 : i.size ≠ 0) {v : Value} {p a : AV} (hv : Rep M v p)
   (hq : (match p with
     | .ptr l off => some (AV.ptr l (off + fd.offset), (none : Option (TypeId × List AV)))
     | .cptr xs i off => some (.cptr xs i (off + fd.offset), none)
     | _ => none) = some (a, none)) : ∃ u, (Instr.fieldAt s v f).run X.P w = .ok u w ∧ Rep M u a := by
 have hsz : (sizeOf fd.type).run X.P w = .ok i.size w := by simp [sizeOf, typeInfo, hi]
 have key : ∀ A : Addr, (Instr.fieldAt s (.pointer (some A)) f).run X.P w = .ok (.pointer (some (A.add fd.offset))) w := fun A => by
   simp [Instr.fieldAt, run_underlying hs w, hf, Instr.sureAddr, fieldPlace, hsz, h0]
 cases hv with
 | ptr l off g hg =>
   simp at hq
   subst hq
   refine ⟨_, key _, ?_⟩
   rw [Addr.add_lit]
   exact .ptr l _ g hg
 | cptr b o i off sz vs xs hl hs hK hr =>
   simp at hq
   subst hq
   refine ⟨_, key _, ?_⟩
   rw [Addr.add_lit, Nat.add_assoc]
   exact .cptr b o i _ sz vs xs hl hs hK hr
 | und v => simp at hq
 | nov => simp at hq
 | bool b => simp at hq
 | int k n => simp at hq
 | str s => simp at hq
 | slice t A n c sz vs xs hl hn hc hm hs hA hr htg => simp at hq
 | agg vs cs hl h1 hr => simp at hq
 | tup vs cs hl hr => simp at hq
 | fn f vs bs hl hr => simp at hq
 | clo f vs bs hl hr => simp at hq
 | nilFn => simp at hq
 | bsl l off n sz q g c hg hn hm _ => simp at hq
 | mp l g hg => simp at hq
 | iface t v a hr => simp at hq
 | nilIface => simp at hq
theorem run_offA (h : MR X M σ w) {s e : TypeId} {n : Nat} {kd : IntKind} {z : Int} {ti : TypeInfo} (hs : X.P.underlying s = some (.array n e)) (hi : X.P.info? e = some ti) (hz : 0 ≤ z ∧ z < n) {v : Value} {p a : AV} (hv : Rep M v p)
   (hq : (match p with
     | .ptr l off => some (AV.ptr l (off + (z.toNat * ti.size)), (none : Option (TypeId × List AV)))
     | .cptr xs i off => some (.cptr xs i (off + (z.toNat * ti.size)), none)
     | _ => none) = some (a, none)) : ∃ u, (Instr.indexAt s v (.int kd z)).run X.P w = .ok u w ∧ Rep M u a := by
 have hsz : (sizeOf e).run X.P w = .ok ti.size w := by simp [sizeOf, typeInfo, hi]
 have key : ∀ A : Addr, (Instr.indexAt s (.pointer (some A)) (.int kd z)).run X.P w = .ok (.pointer (some (A.add (z.toNat * ti.size)))) w := fun A => by
   simp [Instr.indexAt, run_underlying hs w, Instr.sureAddr, asIntOf, hz, hsz]
 cases hv with
 | ptr l off g hg =>
   simp at hq
   subst hq
   refine ⟨_, key _, ?_⟩
   rw [Addr.add_lit]
   exact .ptr l _ g hg
 | cptr b o i off sz vs xs hl hs hK hr =>
   simp at hq
   subst hq
   refine ⟨_, key _, ?_⟩
   rw [Addr.add_lit, Nat.add_assoc]
   exact .cptr b o i _ sz vs xs hl hs hK hr
 | und v => simp at hq
 | nov => simp at hq
 | bool b => simp at hq
 | int k n => simp at hq
 | str s => simp at hq
 | slice t A n c sz vs xs hl hn hc hm hs hA hr htg => simp at hq
 | agg vs cs hl h1 hr => simp at hq
 | tup vs cs hl hr => simp at hq
 | fn f vs bs hl hr => simp at hq
 | clo f vs bs hl hr => simp at hq
 | nilFn => simp at hq
 | bsl l off n sz q g c hg hn hm _ => simp at hq
 | mp l g hg => simp at hq
 | iface t v a hr => simp at hq
 | nilIface => simp at hq
theorem run_intBin {op : BinOp} {t : TypeId} {k : IntKind} {a0 b0 : Int} {a : AV} (hq : intBin op k a0 b0 = some a) : ∃ r, (binOp op t (.int k a0) (.int k b0)).run X.P w = .ok r w ∧ Rep M r a := by
 cases op <;> simp only [intBin] at hq
 case shl => cases hq
 case shr => cases hq
 case quo =>
   split at hq
   · cases hq
   · rename_i hb
     injection hq with hq
     subst hq
     refine ⟨_, ?_, .int _ _⟩
     simp only [binOp, ne_eq, not_true_eq_false, if_false, Op.intDiv, if_neg hb]
     rfl
 case rem =>
   split at hq
   · cases hq
   · rename_i hb
     injection hq with hq
     subst hq
     refine ⟨_, ?_, .int _ _⟩
     simp only [binOp, ne_eq, not_true_eq_false, if_false, Op.intDiv, if_neg hb]
     rfl
 all_goals
   injection hq with hq
   subst hq
   first
     | refine ⟨_, ?_, .int _ _⟩
     | refine ⟨_, ?_, .bool _⟩
   simp only [binOp, ne_eq, not_true_eq_false, if_false]
   rfl
theorem run_strBin {op : BinOp} {t : TypeId} {a0 b0 : ByteArray} {a : AV} (hq : strBin op a0 b0 = some a) : ∃ r, (binOp op t (.string a0) (.string b0)).run X.P w = .ok r w ∧ Rep M r a := by
 cases op <;> simp only [strBin] at hq
 case add =>
   split at hq
   · rename_i hle
     injection hq with hq
     subst hq
     exact ⟨_, by simp only [binOp, Op.stringOp]; rw [if_neg (by omega)]; rfl, .str _⟩
   · cases hq
 all_goals first
   | (cases hq; done)
   | skip
 all_goals
   injection hq with hq
   subst hq
   exact ⟨_, by simp only [binOp, Op.stringOp]; rfl, .bool _⟩
theorem run_bin {op : BinOp} {t : TypeId} {x y : Operand} {u v : Value} {p q a : AV} (hu : Rep M u p) (hv : Rep M v q) (hq : binAV op p q = some a) :
   ∃ r, (do eqGuard op t x y u v; binOp op t u v : Sem Value).run X.P w = .ok r w ∧ Rep M r a := by
 unfold binAV at hq
 split at hq
 next k a0 k' b0 =>
   obtain rfl := rep_int hu
   obtain rfl := rep_int hv
   have hg : (eqGuard op t x y (.int k a0) (.int k' b0)).run X.P w = .ok () w := by
     cases op <;> simp [eqGuard]
   rw [Sem.run_bind, hg, Result.andThen_ok]
   split at hq
   next =>
     split at hq
     next => cases hq
     next hb =>
       injection hq with hq
       subst hq
       exact ⟨_, by simp only [binOp, Op.shift, if_neg hb]; rfl, .int _ _⟩
   next =>
     split at hq
     next => cases hq
     next hb =>
       injection hq with hq
       subst hq
       exact ⟨_, by simp only [binOp, Op.shift, if_neg hb]; rfl, .int _ _⟩
   next =>
     split at hq
     next hk =>
       subst hk
       exact run_intBin hq
     next => cases hq
 next a0 b0 =>
   obtain rfl := rep_str hu
   obtain rfl := rep_str hv
   have hg : (eqGuard op t x y (.string a0) (.string b0)).run X.P w = .ok () w := by
     cases op <;> simp [eqGuard]
   rw [Sem.run_bind, hg, Result.andThen_ok]
   exact run_strBin hq
 next => cases hq
end
end Go.Proofs.YtibploaibljcmaaGreatDoor
