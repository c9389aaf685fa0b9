import Derived.Test.YtibploaibljcmaaGreatDoorAv8
import Derived.Test.YtibploaibljcmaaGreatDoorRegion
namespace Go.Proofs.YtibploaibljcmaaGreatDoor
open Go.RowKit
set_option linter.unusedVariables false
set_option linter.unusedSimpArgs false
set_option maxHeartbeats 1000000
mutual
def pur : AV → Bool
 | .slice (.app _) _ _ => false
 | .slice _ _ xs => purL xs
 | .agg cs => purL cs
 | .tup vs => purL vs
 | .ptr _ _ => false
 | .cptr _ _ _ => false
 | .bsl _ _ _ _ _ => false
 | .mp _ => false
 | .iface _ v => pur v
 | .fn _ bs => purL bs
 | .clo _ bs => purL bs
 | _ => true
def purL : List AV → Bool
 | [] => true
 | a :: as => pur a && purL as
end
theorem purL_get : ∀ {as : List AV}, purL as = true → ∀ i (h : i < as.length), pur as[i] = true
 | [], _, i, h => absurd h (by simp)
 | a :: as, k, 0, _ => by
   simp only [purL, Bool.and_eq_true] at k
   exact k.1
 | a :: as, k, i + 1, h => by
   simp only [purL, Bool.and_eq_true] at k
   exact purL_get k.2 i (by simpa using h)
theorem purL_of : ∀ {as : List AV}, (∀ a ∈ as, pur a = true) → purL as = true
 | [], _ => rfl
 | a :: as, h => by
   simp only [purL, Bool.and_eq_true]
   exact ⟨h a (by simp), purL_of fun b hb => h b (by simp [hb])⟩
theorem purL_map {α : Type} {f : α → AV} {l : List α} (h : ∀ a, pur (f a) = true) : purL (l.map f) = true :=
 purL_of fun a ha => by
   obtain ⟨x, _, rfl⟩ := List.mem_map.1 ha
   exact h x
theorem m0_le {M : Mem} : Mem.le (M0 M.κ) M := ⟨fun _ _ h => h, fun _ _ h => (by cases h), fun _ _ _ h => (by cases h)⟩
theorem rep_pur {M : Mem} {v : Value} {a : AV} (h : Rep M v a) (k : pur a = true) : Rep (M0 M.κ) v a := by
 induction h with
 | und v => exact .und v
 | nov => exact .nov
 | bool b => exact .bool b
 | int kk n => exact .int kk n
 | str s => exact .str s
 | slice t A n c sz vs xs hl hn hc hm hs hA hr ht ih =>
   cases t with
   | app s => simp [pur] at k
   | imm =>
     have k : purL xs = true := k
     exact .slice .imm A n c sz vs xs hl hn hc hm hs hA (fun i h1 h2 => ih i h1 h2 (purL_get k i h2)) trivial
   | full =>
     have k : purL xs = true := k
     exact .slice .full A n c sz vs xs hl hn hc hm hs hA (fun i h1 h2 => ih i h1 h2 (purL_get k i h2)) ht
 | agg vs cs hl h1 hr ih =>
   have k : purL cs = true := k
   exact .agg vs cs hl h1 (fun i h1 h2 => ih i h1 h2 (purL_get k i h2))
 | tup vs cs hl hr ih =>
   have k : purL cs = true := k
   exact .tup vs cs hl (fun i h1 h2 => ih i h1 h2 (purL_get k i h2))
 | fn f vs bs hl hr ih =>
   have k : purL bs = true := k
   exact .fn f vs bs hl (fun i h1 h2 => ih i h1 h2 (purL_get k i h2))
 | clo f vs cs hl hr ih =>
   have k : purL cs = true := k
   exact .clo f vs cs hl (fun i h1 h2 => ih i h1 h2 (purL_get k i h2))
 | nilFn => exact .nilFn
 | ptr l off g hg => simp [pur] at k
 | cptr b o i off sz vs xs hl hs hK hr ih => simp [pur] at k
 | bsl l off n sz q g c hg hn hm _ => simp [pur] at k
 | mp l g hg => simp [pur] at k
 | iface t v a hr ih => exact .iface t v a (ih k)
 | nilIface => exact .nilIface
def RepR1 (M : Mem) (v : Value) (r : AV) : Prop :=
 match r with
 | .slice (.app i) sz xs => Rep (M0 M.κ) v (.slice .imm sz xs) ∧ ∀ A n c, v = .slice A n c → TagOk M (.app i) A n c
 | r => Rep (M0 M.κ) v r
def RepR (M : Mem) (v : Value) (r : AV) : Prop :=
 match r with
 | .tup rs => ∃ vs : List Value, v = .tuple vs.toArray ∧ vs.length = rs.length ∧ ∀ (i : Nat) (h1 : i < vs.length) (h2 : i < rs.length), RepR1 M vs[i] rs[i]
 | r => RepR1 M v r
def sh1 (k : Nat) : AV → AV
 | .slice (.app i) sz xs => .slice (.app (k + i)) sz xs
 | a => a
def sh (k : Nat) : AV → AV
 | .tup rs => .tup (rs.map (sh1 k))
 | a => sh1 k a
def hasBody (P : Program) (f : FuncId) : Bool :=
 match P.funcs[f]? with
 | some fn => fn.body.isSome && fn.name != "runtime.NumGoroutine"
 | none => false
def ACt (P : Program) (f : FuncId) (as : List AV) (r : AV) (rfr : List (TypeId × Nat)) : Prop :=
 hasBody P f = true ∧ ∀ (w : World) (κ : Addr → Option Value) (args : Array Value), (∀ a v, κ a = some v → w.cell? a = some v) → Reps (M0 κ) args.toList as → ∀ hg : KG κ,
   Calls P f args w fun e w' => ∃ v M', e = .returned v ∧ MR ⟨P, w.heap.size, κ, w, M0 κ, hg⟩ M' (fun _ => none) w' ∧ (M'.fr = fun s => rfr[s]?) ∧ RepR M' v r
def ACs (P : Program) (f : FuncId) (as : List AV) (B : List (TypeId × List AV)) (F : List (TypeId × Nat)) (Q : AV → List (TypeId × List AV) → List (TypeId × Nat) → Prop) : Prop :=
 hasBody P f = true ∧ ∀ (X : Cx) (w : World) (M : Mem) (args : Array Value), X.P = P → MR X M (fun l => B[l]?) w → (∀ l, l < B.length → M.μ l ≠ none) → (M.fr = fun k => F[k]?) → Reps M args.toList as →
   Calls P f args w fun e w' => ∃ v M' r B' F', e = .returned v ∧ Q r B' F' ∧ MR X M' (fun l => B'[l]?) w' ∧ (∀ l, l < B'.length → M'.μ l ≠ none) ∧ (M'.fr = fun k => F'[k]?) ∧ Mem.le M M' ∧ Rep M' v r
theorem repR1_sh {M' M'' : Mem} {nt : Nat} (hκ : M''.κ = M'.κ) (hfr : ∀ i e f, M'.fr i = some (e, f) → M''.fr (nt + i) = some (e, f) ∧ M''.β (nt + i) = M'.β i) {v : Value} {r : AV} (h : RepR1 M' v r) : Rep M'' v (sh1 nt r) := by
 have hle : Mem.le (M0 M'.κ) M'' := by rw [← hκ]; exact m0_le
 unfold RepR1 at h
 split at h
 · rename_i i sz xs
   obtain ⟨h1, h2⟩ := h
   have h1 := h1.mono hle
   cases h1 with
   | slice _ A n c _ vs _ hl hn hc hm hs hA hr ht =>
     obtain ⟨e, f, t1, t2, t3⟩ := h2 A n c rfl
     obtain ⟨q1, q2⟩ := hfr i e f t1
     exact .slice _ A n c sz vs xs hl hn hc hm hs hA hr ⟨e, f, q1, t2, fun q => by rw [q2]; exact t3 q⟩
 · rename_i hne
   have : sh1 nt r = r := by
     unfold sh1
     split
     · exact absurd rfl (hne _ _ _)
     · rfl
   rw [this]
   exact h.mono hle
theorem repR_sh {M' M'' : Mem} {nt : Nat} (hκ : M''.κ = M'.κ) (hfr : ∀ i e f, M'.fr i = some (e, f) → M''.fr (nt + i) = some (e, f) ∧ M''.β (nt + i) = M'.β i) {v : Value} {r : AV} (h : RepR M' v r) : Rep M'' v (sh nt r) := by
 unfold RepR at h
 split at h
 · rename_i rs
   obtain ⟨vs, rfl, hl, hr⟩ := h
   exact .tup vs _ (by simpa using hl) (fun i h1 h2 => by
     rw [List.getElem_map]
     exact repR1_sh hκ hfr (hr i h1 (by simpa using h2)))
 · rename_i hne
   have : sh nt r = sh1 nt r := by
     unfold sh
     split
     · exact absurd rfl (hne _)
     · rfl
   rw [this]
   exact repR1_sh hκ hfr h
theorem MR.called {X : Cx} {M : Mem} {σ : Nat → Option (TypeId × List AV)} {w : World} (h : MR X M σ w) {w' : World} {M' : Mem} (h' : MR ⟨X.P, w.heap.size, M.κ, w, M0 M.κ, h.kg⟩ M' (fun _ => none) w') {nt : Nat} {rfr : List (TypeId × Nat)}
   (hfr : M'.fr = fun s => rfr[s]?) (hfree : ∀ k, k < rfr.length → M.fr (nt + k) = none) :
   ∃ M'', Mem.le M M'' ∧ MR X M'' σ w' ∧ M''.μ = M.μ ∧ (M''.fr = fun s => if nt ≤ s ∧ s < nt + rfr.length then rfr[s - nt]? else M.fr s) ∧ ∀ v r, RepR M' v r → Rep M'' v (sh nt r) := by
 have hb : Below w.heap.size w w' := h'.bel
 have hκ : ∀ a v, M.κ a = some v → M'.κ a = some v := fun a v hv => by
   rw [h'.old a (kap_lt h hv)]
   exact hv
 have hfre : ∀ s e f, M.fr s = some (e, f) → ¬ (nt ≤ s ∧ s < nt + rfr.length) := fun s e f hs q => by
   have := hfree (s - nt) (by omega)
   rw [show nt + (s - nt) = s by omega, hs] at this
   cases this
 have hle : Mem.le M { κ := M'.κ, μ := M.μ, β := fun s => if nt ≤ s ∧ s < nt + rfr.length then M'.β (s - nt) else M.β s, fr := fun s => if nt ≤ s ∧ s < nt + rfr.length then rfr[s - nt]? else M.fr s } := by
   refine ⟨hκ, fun _ _ h => h, fun s e f hs => ⟨f, ?_, Nat.le_refl _, fun _ => ?_⟩⟩
   · show (if _ then _ else _) = _
     rw [if_neg (hfre s e f hs)]
     exact hs
   · show (if _ then _ else _) = _
     rw [if_neg (hfre s e f hs)]
 refine ⟨_, hle, ⟨h'.kap, fun a ha => ?_, h.bel.trans (hb.mono h.hb), Nat.le_trans h.hb hb.size, fun l g hg => ?_, h.inj, fun s g c hs => ?_, fun s s' g c c' hs hs' => ?_, h.prot.trans hle⟩, rfl, rfl, fun v r hr => repR_sh (M' := M') (nt := nt) (M'' := { κ := M'.κ, μ := M.μ, β := fun s => if nt ≤ s ∧ s < nt + rfr.length then M'.β (s - nt) else M.β s, fr := fun s => if nt ≤ s ∧ s < nt + rfr.length then rfr[s - nt]? else M.fr s }) rfl (fun i e f hi => ?_) hr⟩
 · have hlt : a.block < w.heap.size := Nat.lt_of_lt_of_le ha h.hb
   show M'.κ a = _
   rw [h'.old a hlt]
   exact h.old a ha
 · have hlt := box_lt h hg
   obtain ⟨k1, k2, T, cs, k3, k4⟩ := h.box l g hg
   refine ⟨k1, fun o => ?_, T, cs, k3, k4.mono hle (hb.block g hlt)⟩
   show M'.κ _ = none
   rw [h'.old _ hlt]
   exact k2 o
 · have hs : (if nt ≤ s ∧ s < nt + rfr.length then M'.β (s - nt) else M.β s) = some (g, c) := hs
   split at hs
   · rename_i q
     obtain ⟨k1, k2, e, n, i, cells, k3, k4, k5, k6, k7, k8, k9⟩ := h'.tok _ g c hs
     have k1 : w.heap.size ≤ g := k1
     refine ⟨Nat.le_trans h.hb k1, fun l hl => by have := box_lt h hl; omega, e, n, i, cells, ?_, k4, k5, k6, k7, k8, k9⟩
     show (if _ then _ else _) = _
     rw [if_pos q]
     rw [hfr] at k3
     exact k3
   · rename_i q
     obtain ⟨k1, k2, e, n, i, cells, k3, k4, k5, k6, k7, k8, k9⟩ := h.tok s g c hs
     have hlt := tok_lt h hs
     refine ⟨k1, k2, e, n, i, cells, ?_, k4, k5, k6, (hb.block g hlt).trans k7, k8, fun o ho => ?_⟩
     · show (if _ then _ else _) = _
       rw [if_neg q]
       exact k3
     · show M'.κ _ = none
       rw [h'.old _ hlt]
       exact k9 o ho
 · have hs : (if nt ≤ s ∧ s < nt + rfr.length then M'.β (s - nt) else M.β s) = some (g, c) := hs
   have hs' : (if nt ≤ s' ∧ s' < nt + rfr.length then M'.β (s' - nt) else M.β s') = some (g, c') := hs'
   split at hs <;> split at hs'
   · have := h'.tinj _ _ g c c' hs hs'
     omega
   · have h1 : w.heap.size ≤ g := (h'.tok _ g c hs).1
     have h2 := tok_lt h hs'
     omega
   · have h1 : w.heap.size ≤ g := (h'.tok _ g c' hs').1
     have h2 := tok_lt h hs
     omega
   · exact h.tinj s s' g c c' hs hs'
 · have hi' := hi
   rw [hfr] at hi'
   have hlt : i < rfr.length := (List.getElem?_eq_some_iff.1 hi').1
   have q : nt ≤ nt + i ∧ nt + i < nt + rfr.length := by omega
   constructor
   · show (if _ then _ else _) = _
     rw [if_pos q, Nat.add_sub_cancel_left]
     exact hi'
   · show (if _ then _ else _) = _
     rw [if_pos q, Nat.add_sub_cancel_left]
structure Out where
 v : AV
 nb : Option (TypeId × List AV)
 nt : List (TypeId × Nat)
def St.next (s : St) (dst : Option Nat) (u : Out) : St := { n := s.n, tm := putT s.n s.tm dst u.v, box := s.box ++ u.nb.toList, fr := s.fr ++ u.nt, p := s.p }
def CallOut (P : Program) (s : St) (f : FuncId) (as : List AV) (u : Out) : Prop :=
 purL as = true ∧ ∃ r, ACt P f as r u.nt ∧ u.v = sh s.fr.length r ∧ u.nb = none
def QOut (P : Program) (s : St) (ao : AOp) (u : Out) : Prop :=
 match ao with
 | .call f args => CallOut P s f (args.map fun x => imm1 (s.ν x)) u
 | .callv x args => ∃ f bs, s.ν x = .fn f bs ∧ CallOut P s f (bs ++ args.map fun x => imm1 (s.ν x)) u
 | ao => qop s.ν s.σ s.box.length ao = some (u.v, u.nb) ∧ u.nt = []
structure Grew1 (X : Cx) (M : Mem) (σ : Nat → Option (TypeId × List AV)) (w : World) (s : St) (u : Out) (v : Value) (w' : World) (M' : Mem) : Prop where
 le : Mem.le M M'
 mr : MR X M' σ w'
 rep : Rep M' v u.v
 bel : Below w.heap.size w w'
 fr : M'.fr = fun k => if s.fr.length ≤ k ∧ k < s.fr.length + u.nt.length then u.nt[k - s.fr.length]? else M.fr k
 μ : ∀ l, l ≠ s.box.length → M'.μ l = M.μ l
 μ0 : u.nb = none → M'.μ = M.μ
 μ1 : u.nb ≠ none → M'.μ s.box.length ≠ none
theorem wp_call {X : Cx} {M : Mem} {σ : Nat → Option (TypeId × List AV)} {w : World} (h : MR X M σ w) {o : Oper} {a : Act} {s : St} {u : Out} {f : FuncId} {as : List AV} {vs : Array Value} (hc : CallOut X.P s f as u)
   (hrun : (execOp a.eval o).run X.P w = .ok (.enter f vs) w) (hvs : Reps M vs.toList as) (hnt : ∀ k, k < u.nt.length → M.fr (s.fr.length + k) = none) {next : Act → World → Prop} {Q : Exit → Act → World → Prop}
   (hnext : ∀ v w' M', Grew1 X M σ w s u v w' M' → next (a.put o.dst v) w') : o.wp X.P a w next Q := by
 obtain ⟨hp, r, hr, hv, hnb⟩ := hc
 unfold Oper.wp
 rw [hrun]
 show Calls _ _ _ _ _
 have hargs : Reps (M0 M.κ) vs.toList as := ⟨hvs.1, fun i h1 h2 => rep_pur (hvs.2 i h1 h2) (purL_get hp i h2)⟩
 refine (hr.2 w M.κ vs h.kap hargs h.kg).mono ?_
 rintro e w' ⟨v, M', rfl, hm, hf, hrep⟩
 obtain ⟨M'', g1, g2, g3, g4, g5⟩ := h.called hm hf hnt
 exact hnext v w' M'' ⟨g1, g2, by rw [hv]; exact g5 v r hrep, hm.bel, g4, fun l _ => by rw [g3], fun _ => g3, fun e => absurd hnb e⟩
theorem run_callFunc {P : Program} {w : World} {f : FuncId} (h : hasBody P f = true) (args : Array Value) : (callFunc f args).run P w = .ok (.enter f args) w := by
 unfold hasBody at h
 split at h
 · rename_i fn hf
   rw [Bool.and_eq_true] at h
   have hb : fn.body.isNone = false := by
     cases hbd : fn.body with
     | none => rw [hbd] at h; simp at h
     | some _ => rfl
   have hn : fn.name ≠ "runtime.NumGoroutine" := by
     have := h.2
     simpa using this
   have hb' : fn.body ≠ none := fun e => by rw [e] at hb; cases hb
   simp [callFunc, hf, hb', hn]
 · cases h
def isCall : AOp → Bool
 | .call _ _ => true
 | .callv _ _ => true
 | .callS _ _ => true
 | .callvS _ _ => true
 | _ => false
theorem prep_call {P : Program} {o : Oper} {ao : AOp} (h : prep P o = some ao) (hc : isCall ao = true) : ∃ c, o.op = .call c ∧ prepCall P c = some ao := by
 unfold prep at h
 split at h
 case h_19 c heq => exact ⟨c, heq, h⟩
 all_goals exfalso
 all_goals try (cases h; done)
 all_goals try (obtain ⟨_, _, rfl⟩ := Option.map_eq_some_iff.1 h; cases hc; done)
 all_goals repeat' (first
   | (cases h; done)
   | (obtain ⟨_, _, rfl⟩ := Option.map_eq_some_iff.1 h; cases hc; done)
   | (split at h)
   | (simp only [Option.bind_eq_bind, Option.bind_eq_some_iff, Option.pure_def, Option.some.injEq] at h; obtain ⟨_, _, h⟩ := h)
   | (obtain ⟨_, _, h⟩ := h))
 all_goals first
   | (cases hc; done)
   | (subst h; cases hc)
theorem prepCall_f {P : Program} {c : Call} {f : FuncId} {args : List AX} (h : prepCall P c = some (.call f args)) : c.callee = .value (.func f) ∧ c.args.toList.mapM axOf = some args := by
 unfold prepCall at h
 split at h
 · exfalso
   repeat' (first
     | (cases h; done)
     | (split at h)
     | (obtain ⟨_, _, e⟩ := Option.map_eq_some_iff.1 h; cases e; done)
     | (simp only [Option.bind_eq_bind, Option.bind_eq_some_iff, Option.pure_def, Option.some.injEq] at h; obtain ⟨_, _, h⟩ := h)
     | (obtain ⟨_, _, h⟩ := h))
 · rename_i f' hf
   simp only [Option.bind_eq_bind, Option.bind_eq_some_iff, Option.pure_def, Option.some.injEq] at h
   obtain ⟨fn, hfn, h⟩ := h
   split at h
   · simp only [Option.bind_eq_some_iff, Option.some.injEq, AOp.call.injEq] at h
     obtain ⟨as, has, rfl, rfl⟩ := h
     exact ⟨hf, has⟩
   · cases h
 · simp [Option.bind_eq_some_iff] at h
 · cases h
theorem prepCall_v {P : Program} {c : Call} {x : AX} {args : List AX} (h : prepCall P c = some (.callv x args)) : ∃ t, c.callee = .value (.tmp t) ∧ x = .tmp t ∧ c.args.toList.mapM axOf = some args := by
 unfold prepCall at h
 split at h
 · exfalso
   repeat' (first
     | (cases h; done)
     | (split at h)
     | (obtain ⟨_, _, e⟩ := Option.map_eq_some_iff.1 h; cases e; done)
     | (simp only [Option.bind_eq_bind, Option.bind_eq_some_iff, Option.pure_def, Option.some.injEq] at h; obtain ⟨_, _, h⟩ := h)
     | (obtain ⟨_, _, h⟩ := h))
 · rename_i f' hf
   simp only [Option.bind_eq_bind, Option.bind_eq_some_iff, Option.pure_def, Option.some.injEq] at h
   obtain ⟨fn, hfn, h⟩ := h
   split at h
   · simp [Option.bind_eq_some_iff] at h
   · cases h
 · rename_i t ht
   simp only [Option.bind_eq_bind, Option.bind_eq_some_iff, Option.pure_def, Option.some.injEq, AOp.callv.injEq] at h
   obtain ⟨as, has, rfl, rfl⟩ := h
   exact ⟨t, ht, rfl, has⟩
 · cases h
theorem prep_noChk {P : Program} {o : Oper} {cs : List (Option Nat × AX × Nat)} (h : prep P o = some (.chk cs)) : False := by
 unfold prep at h
 split at h
 case h_19 c heq =>
   unfold prepCall at h
   repeat' (first
     | (cases h; done)
     | (split at h)
     | (obtain ⟨_, _, e⟩ := Option.map_eq_some_iff.1 h; cases e; done)
     | (simp only [Option.bind_eq_bind, Option.bind_eq_some_iff, Option.pure_def, Option.some.injEq] at h; obtain ⟨_, _, h⟩ := h)
     | (obtain ⟨_, _, h⟩ := h))
 all_goals repeat' (first
   | (cases h; done)
   | (obtain ⟨_, _, e⟩ := Option.map_eq_some_iff.1 h; cases e; done)
   | (split at h)
   | (simp only [Option.bind_eq_bind, Option.bind_eq_some_iff, Option.pure_def, Option.some.injEq] at h; obtain ⟨_, _, h⟩ := h)
   | (obtain ⟨_, _, h⟩ := h))
theorem prep_noPrim {P : Program} {o : Oper} {k : PK} {xs : List AX} (h : prep P o = some (.prim k xs)) : False := by
 unfold prep at h
 split at h
 case h_19 c heq =>
   unfold prepCall at h
   repeat' (first
     | (cases h; done)
     | (split at h)
     | (obtain ⟨_, _, e⟩ := Option.map_eq_some_iff.1 h; cases e; done)
     | (simp only [Option.bind_eq_bind, Option.bind_eq_some_iff, Option.pure_def, Option.some.injEq] at h; obtain ⟨_, _, h⟩ := h)
     | (obtain ⟨_, _, h⟩ := h))
 all_goals repeat' (first
   | (cases h; done)
   | (obtain ⟨_, _, e⟩ := Option.map_eq_some_iff.1 h; cases e; done)
   | (split at h)
   | (simp only [Option.bind_eq_bind, Option.bind_eq_some_iff, Option.pure_def, Option.some.injEq] at h; obtain ⟨_, _, h⟩ := h)
   | (obtain ⟨_, _, h⟩ := h))
theorem prepCall_noS {P : Program} {c : Call} {f : FuncId} {args : List AX} (h : prepCall P c = some (.callS f args)) : False := by
 unfold prepCall at h
 repeat' (first
   | (cases h; done)
   | (split at h)
   | (obtain ⟨_, _, e⟩ := Option.map_eq_some_iff.1 h; cases e; done)
   | (simp only [Option.bind_eq_bind, Option.bind_eq_some_iff, Option.pure_def, Option.some.injEq] at h; obtain ⟨_, _, h⟩ := h)
   | (obtain ⟨_, _, h⟩ := h))
theorem prepCall_noVS {P : Program} {c : Call} {x : AX} {args : List AX} (h : prepCall P c = some (.callvS x args)) : False := by
 unfold prepCall at h
 repeat' (first
   | (cases h; done)
   | (split at h)
   | (obtain ⟨_, _, e⟩ := Option.map_eq_some_iff.1 h; cases e; done)
   | (simp only [Option.bind_eq_bind, Option.bind_eq_some_iff, Option.pure_def, Option.some.injEq] at h; obtain ⟨_, _, h⟩ := h)
   | (obtain ⟨_, _, h⟩ := h))
theorem q_ok {X : Cx} {M : Mem} {σ : Nat → Option (TypeId × List AV)} {w : World} (h : MR X M σ w) {o : Oper} {ao : AOp} {a : Act} {s : St} {u : Out} (hpb : (prep X.P o).getD .bad = ao) (hq : QOut X.P s ao u) (hσ : ∀ l b, s.σ l = some b → σ l = some b)
   (hν : ∀ x ∈ o.op.operands.toList, ∀ ax, axOf x = some ax → Rep M (a.eval x) (s.ν ax)) (hnl : u.nb ≠ none → M.μ s.box.length = none) (hnb : ∀ b, u.nb = some b → σ s.box.length = some b) (hnt : ∀ k, k < u.nt.length → M.fr (s.fr.length + k) = none)
   {next : Act → World → Prop} {Q : Exit → Act → World → Prop} (hnext : ∀ v w' M', Grew1 X M σ w s u v w' M' → next (a.put o.dst v) w') : o.wp X.P a w next Q := by
 have hprep : prep X.P o = some ao := by
   cases hp : prep X.P o with
   | some x => rw [hp] at hpb; exact congrArg some hpb
   | none =>
     rw [hp] at hpb
     subst hpb
     exact absurd hq.1 (by simp [qop])
 have key : qop s.ν s.σ s.box.length ao = some (u.v, u.nb) ∧ u.nt = [] → o.wp X.P a w next Q := fun ⟨k1, k2⟩ => by
   obtain ⟨v, w', M', g1, g2⟩ := qop_ok (ρ := a.eval) hprep h hσ (fun _ => rfl) (fun _ => rfl) (fun _ => rfl) hν k1 hnl hnb
   unfold Oper.wp
   rw [g1]
   refine hnext v w' M' ⟨g2.le, g2.mr, g2.rep, g2.bel, ?_, g2.μ, g2.μ0, g2.μ1⟩
   rw [g2.fr, k2]
   funext k
   rw [if_neg (fun q => by have q2 := q.2; have q1 := q.1; rw [List.length_nil] at q2; omega)]
 have calls : ∀ c f args bs (us : List Value), o.op = .call c → c.args.toList.mapM axOf = some args → Reps M us bs → CallOut X.P s f (bs ++ args.map fun x => imm1 (s.ν x)) u → (∀ vs : Array Value, (Deferred.ofValue (a.eval (match c.callee with | .value x => x | _ => .const undef)) vs).run X.P w = .ok { target := .fn (.func f) #[], args := us.toArray ++ vs } w) → (∃ x, c.callee = .value x) → o.wp X.P a w next Q := fun c f args bs us hop hargs hus hco hdef hcl => by
   obtain ⟨x, hx⟩ := hcl
   rw [hx] at hdef
   refine wp_call h hco (vs := us.toArray ++ c.args.map a.eval ++ #[]) ?_ ?_ hnt hnext
   · simp only [execOp, hop, resolve, hx, Sem.run_bind, hdef, Result.andThen_ok, invoke]
     exact run_callFunc hco.2.choose_spec.1.1 _
   · have := axsOf_rep (M := M) (ρ := a.eval) (ν := s.ν) hargs (fun y hy ax hax => hν y (by
       simp only [hop, Op.operands, Call.operands, Array.toList_append]
       exact List.mem_append_right _ hy) ax hax)
     have h2 : Reps M (c.args.toList.map a.eval) (args.map fun x => imm1 (s.ν x)) := ⟨by simpa using this.1, fun i h1 h2 => by
       have := rep_imm1 (this.2 i h1 (by simpa using h2))
       simpa using this⟩
     simpa using reps_append hus h2
 unfold QOut at hq
 split at hq
 · -- a call
   rename_i f args
   obtain ⟨c, hop, hpc⟩ := prep_call hprep rfl
   obtain ⟨h1, h2⟩ := prepCall_f hpc
   exact calls c f args [] [] hop h2 reps_nil hq (fun vs => by simp [h1, Act.eval, Deferred.ofValue]) ⟨_, h1⟩
 · rename_i x args
   obtain ⟨f, bs, hf, hq⟩ := hq
   obtain ⟨c, hop, hpc⟩ := prep_call hprep rfl
   obtain ⟨t, h1, rfl, h2⟩ := prepCall_v hpc
   have hr : Rep M (a.eval (.tmp t)) (s.ν (.tmp t)) := hν (.tmp t) (by simp [hop, Op.operands, Call.operands, h1]) (.tmp t) rfl
   rw [hf] at hr
   obtain ⟨us, he, hus⟩ : ∃ us : List Value, a.eval (.tmp t) = .func (.func f) us.toArray #[] ∧ Reps M us bs := by
     generalize a.eval (.tmp t) = u at hr
     cases hr with
     | fn _ us _ hl hrr => exact ⟨us, rfl, hl, hrr⟩
   exact calls c f args bs us hop h2 hus hq (fun vs => by simp [h1, he, Deferred.ofValue]) ⟨_, h1⟩
 · exact key hq
end Go.Proofs.YtibploaibljcmaaGreatDoor
