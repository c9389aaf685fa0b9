import Derived.Test.YtibploaibljcmaaGreatDoorAv12h
import Derived.Scope
import Derived.Scope
namespace Go.Proofs.YtibploaibljcmaaGreatDoor
open Go.RowKit
set_option linter.unusedVariables false
set_option linter.unusedSimpArgs false
set_option maxHeartbeats 1000000
mutual
def okB (m b : Nat) : AV → Bool
 | .slice (.app k) _ xs => decide (k < m) && okBL m b xs
 | .slice _ _ xs => okBL m b xs
 | .agg cs => okBL m b cs
 | .tup vs => okBL m b vs
 | .ptr l _ => decide (l < b)
 | .bsl l _ _ _ _ => decide (l < b)
 | .mp l => decide (l < b)
 | .cptr xs _ _ => okBL m b xs
 | .iface _ v => okB m b v
 | .fn _ bs => okBL m b bs
 | .clo _ bs => okBL m b bs
 | _ => true
def okBL (m b : Nat) : List AV → Bool
 | [] => true
 | a :: as => okB m b a && okBL m b as
end
theorem okBL_get {m b : Nat} : ∀ {as : List AV}, okBL m b as = true → ∀ i (h : i < as.length), okB m b as[i] = true
 | [], _, i, h => absurd h (by simp)
 | a :: as, k, 0, _ => by
   simp only [okBL, Bool.and_eq_true] at k
   exact k.1
 | a :: as, k, i + 1, h => by
   simp only [okBL, Bool.and_eq_true] at k
   exact okBL_get k.2 i (by simpa using h)
theorem okBL_of {m b : Nat} : ∀ {as : List AV}, (∀ a ∈ as, okB m b a = true) → okBL m b as = true
 | [], _ => rfl
 | a :: as, h => by
   simp only [okBL, Bool.and_eq_true]
   exact ⟨h a (by simp), okBL_of fun c hc => h c (by simp [hc])⟩
mutual
theorem okB_pur {m b : Nat} : ∀ {a : AV}, pur a = true → okB m b a = true
 | .und, _ => rfl
 | .nov, _ => rfl
 | .bool _, _ => rfl
 | .int _ _, _ => rfl
 | .str _, _ => rfl
 | .slice .imm _ xs, h => okBL_pur (as := xs) h
 | .slice .full _ xs, h => okBL_pur (as := xs) h
 | .slice (.app _) _ _, h => by simp [pur] at h
 | .agg cs, h => okBL_pur (as := cs) h
 | .tup vs, h => okBL_pur (as := vs) h
 | .fn _ bs, h => okBL_pur (as := bs) h
 | .clo _ bs, h => okBL_pur (as := bs) h
 | .nilFn, _ => rfl
 | .ptr _ _, h => by simp [pur] at h
 | .bsl _ _ _ _ _, h => by simp [pur] at h
 | .mp _, h => by simp [pur] at h
 | .cptr _ _ _, h => by simp [pur] at h
 | .iface _ v, h => okB_pur (a := v) h
 | .nilIface, _ => rfl
theorem okBL_pur {m b : Nat} : ∀ {as : List AV}, purL as = true → okBL m b as = true
 | [], _ => rfl
 | a :: as, h => by
   simp only [purL, Bool.and_eq_true] at h
   simp only [okBL, Bool.and_eq_true]
   exact ⟨okB_pur h.1, okBL_pur h.2⟩
end
def Mem.cut (M : Mem) (m b : Nat) (fr : Nat → Option (TypeId × Nat)) : Mem :=
 { κ := M.κ, μ := fun l => if l < b then M.μ l else none, β := fun k => if k < m then M.β k else none, fr := fr }
theorem rep_cut' {M : Mem} {m b : Nat} {fr : Nat → Option (TypeId × Nat)} (hf : ∀ k, k < m → fr k = M.fr k) {v : Value} {a : AV} (h : Rep M v a) (k : okB m b a = true) : Rep (M.cut m b fr) v a := by
 induction h with
 | und v => exact .und v
 | nov => exact .nov
 | bool c => exact .bool c
 | int kk n => exact .int kk n
 | str s => exact .str s
 | slice t A n c sz vs xs hl hn hc hm hs hA hr ht ih =>
   cases t with
   | app s =>
     simp only [okB, Bool.and_eq_true, decide_eq_true_eq] at k
     refine .slice _ A n c sz vs xs hl hn hc hm hs hA (fun i h1 h2 => ih i h1 h2 (okBL_get k.2 i h2)) ?_
     obtain ⟨e, f, t1, t2, t3⟩ := ht
     refine ⟨e, f, (hf s k.1).trans t1, t2, fun q => (t3 q).imp id fun ⟨g, g1, g2⟩ => ⟨g, g1, ?_⟩⟩
     show (if s < m then M.β s else none) = _
     rw [if_pos k.1]
     exact g2
   | imm =>
     have k : okBL m b xs = true := k
     exact .slice .imm A n c sz vs xs hl hn hc hm hs hA (fun i h1 h2 => ih i h1 h2 (okBL_get k i h2)) trivial
   | full =>
     have k : okBL m b xs = true := k
     exact .slice .full A n c sz vs xs hl hn hc hm hs hA (fun i h1 h2 => ih i h1 h2 (okBL_get k i h2)) ht
 | agg vs cs hl h1 hr ih =>
   have k : okBL m b cs = true := k
   exact .agg vs cs hl h1 (fun i h1 h2 => ih i h1 h2 (okBL_get k i h2))
 | tup vs cs hl hr ih =>
   have k : okBL m b cs = true := k
   exact .tup vs cs hl (fun i h1 h2 => ih i h1 h2 (okBL_get k i h2))
 | fn f vs bs hl hr ih =>
   have k : okBL m b bs = true := k
   exact .fn f vs bs hl (fun i h1 h2 => ih i h1 h2 (okBL_get k i h2))
 | clo f vs bs hl hr ih =>
   have k : okBL m b bs = true := k
   exact .clo f vs bs hl (fun i h1 h2 => ih i h1 h2 (okBL_get k i h2))
 | nilFn => exact .nilFn
 | ptr l off g hg =>
   have k : l < b := by simpa [okB] using k
   refine .ptr l off g ?_
   show (if l < b then M.μ l else none) = _
   rw [if_pos k]
   exact hg
 | mp l g hg =>
   have k : l < b := by simpa [okB] using k
   refine .mp l g ?_
   show (if l < b then M.μ l else none) = _
   rw [if_pos k]
   exact hg
 | bsl l off n sz q g c hg hn hm hq =>
   have k : l < b := by simpa [okB] using k
   refine .bsl l off n sz q g c ?_ hn hm hq
   show (if l < b then M.μ l else none) = _
   rw [if_pos k]
   exact hg
 | cptr c o i off sz vs xs hl hs hK hr ih =>
   have k : okBL m b xs = true := k
   exact .cptr c o i off sz vs xs hl hs hK (fun i h1 h2 => ih i h1 h2 (okBL_get k i h2))
 | iface t v a hr ih => exact .iface t v a (ih k)
 | nilIface => exact .nilIface
inductive WkA (m b : Nat) (fr : List (TypeId × Nat)) : AV → AV → Prop
 | und (a : AV) : WkA m b fr a .und
 | same (a : AV) (h : okB m b a = true) : WkA m b fr a a
 | tag (sz sz' : Nat) (xs : List AV) (k : Nat) (e : TypeId) (h0 : sz = sz' ∨ xs = []) (h1 : m ≤ k) (h2 : fr[k]? = some (e, xs.length)) (h3 : okBL m b xs = true) : WkA m b fr (.slice .full sz xs) (.slice (.app k) sz' xs)
 | imm (t : Tag) (sz sz' : Nat) (xs : List AV) (h0 : sz = sz' ∨ xs = []) (h3 : okBL m b xs = true) : WkA m b fr (.slice t sz xs) (.slice .imm sz' xs)
 | le (a c : AV) (h : ∀ (M : Mem) (v : Value), Rep M v a → Rep M v c) (hk : okB m b c = true) : WkA m b fr a c
def WkT (m b : Nat) (fr : List (TypeId × Nat)) (s : List (Nat × AV)) : List (Nat × AV) → Prop
 | [] => True
 | (k, v) :: l => WkA m b fr (getT s k) v ∧ WkT m b fr s l
def WkC (m b : Nat) (fr : List (TypeId × Nat)) : List AV → List AV → Prop
 | [], [] => True
 | a :: as, c :: cs => WkA m b fr a c ∧ WkC m b fr as cs
 | _, _ => False
def WkB (m b : Nat) (fr : List (TypeId × Nat)) : List (TypeId × List AV) → List (TypeId × List AV) → Prop
 | _, [] => True
 | (T, as) :: s, (T', cs) :: t => T = T' ∧ WkC m b fr as cs ∧ WkB m b fr s t
 | [], _ :: _ => False
structure Wk (s t : St) : Prop where
 n : s.n = t.n
 p : s.p = t.p ∧ s.p.1 ≤ t.box.length
 fr : ∃ m nt, t.fr = s.fr.take m ++ nt ∧ m ≤ s.fr.length ∧ s.p.2 ≤ m ∧ WkT m t.box.length t.fr s.tm t.tm ∧ WkB m t.box.length t.fr s.box t.box
theorem wkA_rep {M : Mem} {m b : Nat} {fr : List (TypeId × Nat)} (hf : ∀ k, k < m → fr[k]? = M.fr k) {v : Value} {a c : AV} (h : WkA m b fr a c) (k : Rep M v a) : Rep (M.cut m b fun k => fr[k]?) v c := by
 cases h with
 | und a => exact .und v
 | same a h => exact rep_cut' hf k h
 | le a c h hk => exact rep_cut' hf (h M v k) hk
 | tag sz sz' xs j e h0 h1 h2 h3 =>
   cases k with
   | slice _ A n c _ vs _ hl hn hc hm hs hA hr ht =>
     have hs' : ∀ v ∈ vs, ElemOk sz' v := by
       rcases h0 with h0 | h0
       · rw [← h0]; exact hs
       · intro v hv
         have : vs = [] := List.eq_nil_of_length_eq_zero (by rw [hl, h0]; rfl)
         rw [this] at hv
         cases hv
     have ht : c = n := ht
     exact .slice _ A n c sz' vs xs hl hn hc hm hs' hA (fun i h1 h2 => rep_cut' hf (hr i h1 h2) (okBL_get h3 i h2)) ⟨e, xs.length, h2, by omega, fun _ => .inl ht⟩
 | imm t sz sz' xs h0 h3 =>
   cases k with
   | slice _ A n c _ vs _ hl hn hc hm hs hA hr ht =>
     have hs' : ∀ v ∈ vs, ElemOk sz' v := by
       rcases h0 with h0 | h0
       · rw [← h0]; exact hs
       · intro v hv
         have : vs = [] := List.eq_nil_of_length_eq_zero (by rw [hl, h0]; rfl)
         rw [this] at hv
         cases hv
     exact .slice _ A n c sz' vs xs hl hn hc hm hs' hA (fun i h1 h2 => rep_cut' hf (hr i h1 h2) (okBL_get h3 i h2)) trivial
theorem wkT_rep {M : Mem} {m b : Nat} {fr : List (TypeId × Nat)} (hf : ∀ k, k < m → fr[k]? = M.fr k) {s : List (Nat × AV)} {f : Nat → Value} (hs : ∀ t, Rep M (f t) (getT s t)) : ∀ {l : List (Nat × AV)}, WkT m b fr s l → ∀ t, Rep (M.cut m b fun k => fr[k]?) (f t) (getT l t)
 | [], _, t => .und _
 | (k, v) :: l, h, t => by
   unfold getT
   split
   · rename_i e
     subst e
     exact wkA_rep hf h.1 (hs _)
   · exact wkT_rep hf hs h.2 t
theorem wkC_reps {M : Mem} {m b : Nat} {fr : List (TypeId × Nat)} (hf : ∀ k, k < m → fr[k]? = M.fr k) : ∀ {as cs : List AV} {vs : List Value}, WkC m b fr as cs → Reps M vs as → Reps (M.cut m b fun k => fr[k]?) vs cs
 | [], [], vs, _, k => ⟨k.1, fun i h1 h2 => absurd h2 (by simp)⟩
 | a :: as, c :: cs, [], _, k => absurd k.1 (by simp)
 | a :: as, c :: cs, v :: vs, h, k => by
   obtain ⟨k1, k2⟩ := reps_uncons k
   exact reps_cons (wkA_rep hf h.1 k1) (wkC_reps hf h.2 k2)
 | [], _ :: _, _, h, _ => h.elim
 | _ :: _, [], _, h, _ => h.elim
theorem wkB_at {m b : Nat} {fr : List (TypeId × Nat)} : ∀ {s t : List (TypeId × List AV)}, WkB m b fr s t → ∀ (l : Nat) (T : TypeId) (cs : List AV), t[l]? = some (T, cs) → ∃ as, s[l]? = some (T, as) ∧ WkC m b fr as cs
 | s, [], _, l, T, cs, h => by simp at h
 | [], _ :: _, h, _, _, _, _ => h.elim
 | (T1, as) :: s, (T2, ds) :: t, h, 0, T, cs, hl => by
   obtain ⟨h1, h2, h3⟩ := h
   simp only [List.getElem?_cons_zero, Option.some.injEq, Prod.mk.injEq] at hl
   obtain ⟨rfl, rfl⟩ := hl
   exact ⟨as, by rw [h1]; rfl, h2⟩
 | (T1, as) :: s, (T2, ds) :: t, h, l + 1, T, cs, hl => wkB_at h.2.2 l T cs (by simpa using hl)
theorem StR.weakM {X : Cx} {s t : St} {a : Act} {w : World} {M : Mem} (h : StR X s a w M) (k : Wk s t) (m : Nat) (nt : List (TypeId × Nat)) (hfr : t.fr = s.fr.take m ++ nt) (hm : m ≤ s.fr.length) (hpm : s.p.2 ≤ m) (hT : WkT m t.box.length t.fr s.tm t.tm) (hB : WkB m t.box.length t.fr s.box t.box) : StR X t a w (M.cut m t.box.length t.τ) := by
 obtain ⟨hn, ⟨hp, hpb⟩, _⟩ := k
 have hf : ∀ k, k < m → t.fr[k]? = M.fr k := fun k hk => by
   rw [hfr, h.fr, List.getElem?_append_left (by rw [List.length_take]; omega), List.getElem?_take_of_lt hk]
   rfl
 refine ⟨⟨h.mr.kap, h.mr.old, h.mr.bel, h.mr.hb, fun l g hg => ?_, fun l l' g hg hg' => ?_, fun k g c hs => ?_, fun k k' g c c' hs hs' => ?_, ⟨h.mr.prot.κ, fun l g hl => ?_, fun k e f hk => ?_⟩⟩, fun l hl => ?_, rfl, h.defers, h.size.trans hn, fun x => wkT_rep hf h.tmps hT x, by rw [← hp]; exact h.pp⟩
 · have hg : (if l < t.box.length then M.μ l else none) = some g := hg
   split at hg
   · rename_i hlt
     obtain ⟨k1, k2, T, as, k3, vs, us, k4, k6⟩ := h.mr.box l g hg
     obtain ⟨T', cs', e⟩ : ∃ T' cs', t.box[l]? = some (T', cs') := ⟨_, _, List.getElem?_eq_getElem hlt⟩
     obtain ⟨as', e1, e2⟩ := wkB_at hB l T' cs' e
     have k3 : s.box[l]? = some (T, as) := k3
     rw [e1] at k3
     injection k3 with k3
     injection k3 with q1 q2
     subst q1 q2
     exact ⟨k1, k2, T', cs', e, vs, us, k4, wkC_reps hf e2 k6⟩
   · cases hg
 · have hg : (if l < t.box.length then M.μ l else none) = some g := hg
   have hg' : (if l' < t.box.length then M.μ l' else none) = some g := hg'
   split at hg
   · split at hg'
     · exact h.mr.inj l l' g hg hg'
     · cases hg'
   · cases hg
 · have hs : (if k < m then M.β k else none) = some (g, c) := hs
   split at hs
   · rename_i hk
     obtain ⟨k1, k2, e, n, i, cells, k3, k4⟩ := h.mr.tok k g c hs
     refine ⟨k1, fun l hl => ?_, e, n, i, cells, (hf k hk).trans k3, k4⟩
     have hl : (if l < t.box.length then M.μ l else none) = some g := hl
     split at hl
     · exact k2 l hl
     · cases hl
   · cases hs
 · have hs : (if k < m then M.β k else none) = some (g, c) := hs
   have hs' : (if k' < m then M.β k' else none) = some (g, c') := hs'
   split at hs
   · split at hs'
     · exact h.mr.tinj k k' g c c' hs hs'
     · cases hs'
   · cases hs
 · show (if l < t.box.length then M.μ l else none) = some g
   have := h.pp.1 l (by rw [hl]; simp)
   rw [if_pos (by omega)]
   exact h.mr.prot.μ l g hl
 · have hk2 := h.pp.2 k (by rw [hk]; simp)
   obtain ⟨f', k1, k2, k3⟩ := h.mr.prot.fr k e f hk
   refine ⟨f', ?_, k2, fun q => ?_⟩
   · show t.fr[k]? = _
     rw [hf k (by omega)]
     exact k1
   · show (if k < m then M.β k else none) = _
     rw [if_pos (by omega)]
     exact k3 q
 · show (if l < t.box.length then M.μ l else none) ≠ none
   rw [if_pos hl]
   obtain ⟨as', e1, _⟩ := wkB_at hB l _ _ (List.getElem?_eq_getElem hl)
   exact h.boxes l (List.getElem?_eq_some_iff.1 e1).1
theorem StR.weak {X : Cx} {s t : St} {a : Act} {w : World} {M : Mem} (h : StR X s a w M) (k : Wk s t) : ∃ M', StR X t a w M' := by
 obtain ⟨hn, hp, m, nt, hfr, hm, hpm, hT, hB⟩ := k
 exact ⟨_, h.weakM ⟨hn, hp, m, nt, hfr, hm, hpm, hT, hB⟩ m nt hfr hm hpm hT hB⟩
inductive AC where
 | skip
 | reg (aos : List AO)
 | seq (a b : AC)
 | cond (x : AX) (a b : AC)
 | block (id : Nat) (c : AC)
 | loop (c : AC)
 | exit (id : Nat)
 | ret
 | label (l : Nat)
 | scope (c : AC)
def cutOf (A : List Nat) : Nat → Nat
 | 0 => 0
 | n + 1 => if A.getD n 0 == 2 ^ n - 1 then cutOf A n else n + 1
def prepReg (P : Program) (ops : Array Oper) (draw : Bool) : Option AC :=
 match ops.toList.mapM (prepO P ops) with
 | some aos =>
   if draw then
     let p := cutOf (masks ops.toList []) ops.size
     if p ≤ ops.size ∧ okDraw ops p = true ∧ (((tailS p aos).take p).all fun o => isQuiet o.op) = true ∧ P.follows .mixedOrders = true then some (.reg (tailS p aos)) else (prepFloat P ops aos).map .reg
   else some (.reg (tailS 0 aos))
 | none => none
def prepCode (P : Program) : Code → Option AC
 | .skip => some .skip
 | .region _ ops draw => prepReg P ops draw
 | .seq a b => do return .seq (← prepCode P a) (← prepCode P b)
 | .cond x a b => do return .cond (← axOf x) (← prepCode P a) (← prepCode P b)
 | .block id c => do return .block id (← prepCode P c)
 | .loop c => do return .loop (← prepCode P c)
 | .exit id => some (.exit id)
 | .ret => some .ret
 | .label l => some (.label l)
 | .scope c => do return .scope (← prepCode P c)
 | _ => none
def AW (P : Program) (ac : AC) (K : Exit → St → Prop) (s : St) : Prop :=
 ∀ (X : Cx) (c : Code), X.P = P → prepCode P c = some ac → ∀ (a : Act) (w : World) (M : Mem), StR X s a w M → c.wp P (Post X K) a w
@[congr] theorem aw_congr {P : Program} {ac : AC} {K : Exit → St → Prop} {s s' : St} (h : s = s') : AW P ac K s = AW P ac K s' := by rw [h]
theorem mapM_spec {α β : Type} {f : α → Option β} : ∀ {l : List α} {m : List β}, l.mapM f = some m → l.length = m.length ∧ ∀ (i : Nat) (x : α), l[i]? = some x → ∃ y, m[i]? = some y ∧ f x = some y
 | [], m, h => by
   simp at h
   subst h
   exact ⟨rfl, by simp⟩
 | x :: l, m, h => by
   rw [List.mapM_cons] at h
   cases hx : f x with
   | none => simp [hx] at h
   | some y =>
     cases hl : l.mapM f with
     | none => simp [hx, hl] at h
     | some m' =>
       simp [hx, hl] at h
       subst h
       obtain ⟨h1, h2⟩ := mapM_spec hl
       refine ⟨by simp [h1], fun i z hz => ?_⟩
       cases i with
       | zero =>
         obtain rfl : x = z := by simpa using hz
         exact ⟨y, rfl, hx⟩
       | succ i => exact h2 i z (by simpa using hz)
section
variable {P : Program} {K : Exit → St → Prop} {s : St}
theorem aw_weak {ac : AC} {t : St} (h : Wk s t) (k : AW P ac K t) : AW P ac K s := fun X c hX hc a w M hs => by
 obtain ⟨M', hs'⟩ := hs.weak h
 exact k X c hX hc a w M' hs'
theorem aw_mono {ac : AC} {K' : Exit → St → Prop} (h : AW P ac K s) (k : ∀ e t, K e t → K' e t) : AW P ac K' s := fun X c hX hc a w M hs =>
 wp_mono (h X c hX hc a w M hs) fun e a w ⟨t, M, h1, h2⟩ => ⟨t, M, k e t h1, h2⟩
theorem prepReg_reg {ops : Array Oper} {draw : Bool} {ac : AC} (h : prepReg P ops draw = some ac) : ∃ aos, ac = .reg aos ∧ ((∃ aos1 p, ops.toList.mapM (prepO P ops) = some aos1 ∧ aos = tailS p aos1 ∧ (draw = true → p ≤ ops.size ∧ okDraw ops p = true ∧ ((aos.take p).all fun o => isQuiet o.op) = true ∧ P.follows .mixedOrders = true)) ∨ (draw = true ∧ ∃ aos0, prepFloat P ops aos0 = some aos)) := by
 unfold prepReg at h
 split at h
 · rename_i aos haos
   split at h
   · rename_i hd
     dsimp only at h
     split at h
     · rename_i hc
       injection h with h
       exact ⟨_, h.symm, .inl ⟨_, _, haos, rfl, fun _ => hc⟩⟩
     · obtain ⟨aos', h1, h2⟩ := Option.map_eq_some_iff.1 h
       exact ⟨aos', h2.symm, .inr ⟨hd, aos, h1⟩⟩
   · rename_i hd
     injection h with h
     exact ⟨_, h.symm, .inl ⟨_, _, haos, rfl, fun e => absurd e hd⟩⟩
 · cases h
theorem aw_skip (h : K .normal s) : AW P .skip K s := fun X c hX hc a w M hs => by
 cases c <;> simp only [prepCode, Option.bind_eq_bind, Option.bind_eq_some_iff, Option.pure_def, Option.some.injEq, reduceCtorEq, and_false, exists_false] at hc
 case skip => exact wp_skip ⟨s, M, h, hs⟩
 case region =>
   obtain ⟨_, e, _⟩ := prepReg_reg hc
   cases e
theorem aw_reg {aos : List AO} (h : RStep P aos s (K .normal)) : AW P (.reg aos) K s := fun X c hX hc a w M hs => by
 subst hX
 cases c <;> simp only [prepCode, Option.bind_eq_bind, Option.bind_eq_some_iff, Option.pure_def, Option.some.injEq, reduceCtorEq, and_false, exists_false] at hc
 case region id ops draw =>
   obtain ⟨aos', e, ⟨aos1, p, h1, ha, h2⟩ | ⟨rfl, aos0, h1⟩⟩ := prepReg_reg hc
   rotate_left
   · injection e with e
     subst e
     exact prepFloat_ok h1 h hs
   injection e with e
   subst e
   obtain ⟨g1, g2⟩ := mapM_spec h1
   have hp := tailS_prep (P := X.P) (p := p) (fun i o ho => g2 i o (by simpa using ho))
   have hl : (tailS p aos1).length = ops.size := by rw [tailS_length, ← g1]; simp
   rw [← ha] at hp hl
   cases draw with
   | false =>
     refine wp_region ?_
     rw [List.range_eq_range']
     exact seq_ok hp hl ops.size 0 s a w M (by omega) h hs
   | true =>
     obtain ⟨p1, p2, p3, p4⟩ := h2 rfl
     exact draw_ok p4 hp hl p1 p2 p3 h hs
theorem aw_seq {x y : AC} (h : AW P x (fun e t => match e with | .normal => AW P y K t | e => K e t) s) : AW P (.seq x y) K s := fun X c hX hc a w M hs => by
 cases c <;> simp only [prepCode, Option.bind_eq_bind, Option.bind_eq_some_iff, Option.pure_def, Option.some.injEq, reduceCtorEq, and_false, exists_false] at hc
 case region =>
   obtain ⟨_, e, _⟩ := prepReg_reg hc
   cases e
 case seq c1 c2 =>
   obtain ⟨x', h1, y', h2, e⟩ := hc
   injection e with e1 e2
   subst e1 e2
   refine wp_seq (wp_mono (h X c1 hX h1 a w M hs) fun e a w hq => ?_)
   obtain ⟨t, M', k1, k2⟩ := hq
   cases e with
   | normal => exact k1 X c2 hX h2 a w M' k2
   | _ => exact ⟨t, M', k1, k2⟩
theorem aw_cond {x : AX} {y z : AC} {t : Bool} (hx : s.ν x = .bool t) (h1 : t = true → AW P y K s) (h2 : t = false → AW P z K s) : AW P (.cond x y z) K s := fun X c hX hc a w M hs => by
 cases c <;> simp only [prepCode, Option.bind_eq_bind, Option.bind_eq_some_iff, Option.pure_def, Option.some.injEq, reduceCtorEq, and_false, exists_false] at hc
 case region =>
   obtain ⟨_, e, _⟩ := prepReg_reg hc
   cases e
 case cond o c1 c2 =>
   obtain ⟨x', k1, y', k2, z', k3, e⟩ := hc
   injection e with e1 e2 e3
   subst e1 e2 e3
   have hr : Rep M (a.eval o) (s.ν x') := by
     cases o with
     | tmp u =>
       simp only [axOf, Option.some.injEq] at k1
       subst k1
       exact hs.tmps u
     | const v =>
       simp only [axOf] at k1
       obtain ⟨b, hb, rfl⟩ := Option.map_eq_some_iff.1 k1
       exact avOf_rep hb
     | func f =>
       simp only [axOf, Option.some.injEq] at k1
       subst k1
       exact .fn f [] [] rfl (fun i h => absurd h (by simp))
     | global g =>
       obtain ⟨b, rfl, hb⟩ := gam_rep hs.mr.kg (show gamAX g = some _ from k1)
       exact hb
   rw [hx] at hr
   refine wp_cond (rep_bool hr) ?_
   cases t with
   | true => exact h1 rfl X c1 hX k2 a w M hs
   | false => exact h2 rfl X c2 hX k3 a w M hs
theorem aw_block {id : Nat} {x : AC} (h : AW P x (fun e t => match e with | .exit i => if i = id then K .normal t else K (.exit i) t | e => K e t) s) : AW P (.block id x) K s := fun X c hX hc a w M hs => by
 cases c <;> simp only [prepCode, Option.bind_eq_bind, Option.bind_eq_some_iff, Option.pure_def, Option.some.injEq, reduceCtorEq, and_false, exists_false] at hc
 case region =>
   obtain ⟨_, e, _⟩ := prepReg_reg hc
   cases e
 case block id' c1 =>
   obtain ⟨x', h1, e⟩ := hc
   injection e with e1 e2
   subst e1 e2
   refine wp_block (wp_mono (h X c1 hX h1 a w M hs) fun e a w hq => ?_)
   obtain ⟨t, M', k1, k2⟩ := hq
   cases e with
   | exit i =>
     simp only [Exit.inBlock]
     split
     · rename_i hi
       simp only [hi, if_true] at k1
       exact ⟨t, M', k1, k2⟩
     · rename_i hi
       simp only [hi, if_false] at k1
       exact ⟨t, M', k1, k2⟩
   | _ => exact ⟨t, M', k1, k2⟩
theorem aw_scope {x : AC} (h : AW P x (fun e t => match e with | .goto _ => False | e => K e t) s) : AW P (.scope x) K s := fun X c hX hc a w M hs => by
 cases c <;> simp only [prepCode, Option.bind_eq_bind, Option.bind_eq_some_iff, Option.pure_def, Option.some.injEq, reduceCtorEq, and_false, exists_false] at hc
 case region =>
   obtain ⟨_, e, _⟩ := prepReg_reg hc
   cases e
 case scope c1 =>
   obtain ⟨x', h1, e⟩ := hc
   injection e with e1
   subst e1
   refine wp_scope_straight (wp_mono (h X c1 hX h1 a w M hs) fun e a w hq => ?_)
   obtain ⟨t, M', k1, k2⟩ := hq
   cases e with
   | goto l => exact k1.elim
   | _ => exact ⟨t, M', k1, k2⟩
theorem aw_exit {id : Nat} (h : K (.exit id) s) : AW P (.exit id) K s := fun X c hX hc a w M hs => by
 cases c <;> simp only [prepCode, Option.bind_eq_bind, Option.bind_eq_some_iff, Option.pure_def, Option.some.injEq, reduceCtorEq, and_false, exists_false] at hc
 case region =>
   obtain ⟨_, e, _⟩ := prepReg_reg hc
   cases e
 case exit id' =>
   injection hc with e
   subst e
   exact wp_exit ⟨s, M, h, hs⟩
theorem aw_ret (h : K .ret s) : AW P .ret K s := fun X c hX hc a w M hs => by
 cases c <;> simp only [prepCode, Option.bind_eq_bind, Option.bind_eq_some_iff, Option.pure_def, Option.some.injEq, reduceCtorEq, and_false, exists_false] at hc
 case region =>
   obtain ⟨_, e, _⟩ := prepReg_reg hc
   cases e
 case ret => exact wp_ret ⟨s, M, h, hs⟩
theorem aw_label {l : Nat} (h : K .normal s) : AW P (.label l) K s := fun X c hX hc a w M hs => by
 cases c <;> simp only [prepCode, Option.bind_eq_bind, Option.bind_eq_some_iff, Option.pure_def, Option.some.injEq, reduceCtorEq, and_false, exists_false] at hc
 case region =>
   obtain ⟨_, e, _⟩ := prepReg_reg hc
   cases e
 case label l' => exact wp_label ⟨s, M, h, hs⟩
theorem aw_loop {x : AC} {ι : Type} (R : ι → Prop) (pat : ι → St) (μ : ι → Nat) (i0 : ι) (h0 : R i0) (hs0 : Wk s (pat i0))
   (round : ∀ i, R i → AW P x (fun e t => match e with | .normal => ∃ j, R j ∧ Wk t (pat j) ∧ μ j < μ i | e => K e t) (pat i)) : AW P (.loop x) K s := fun X c hX hc a w M hs => by
 cases c <;> simp only [prepCode, Option.bind_eq_bind, Option.bind_eq_some_iff, Option.pure_def, Option.some.injEq, reduceCtorEq, and_false, exists_false] at hc
 case region =>
   obtain ⟨_, e, _⟩ := prepReg_reg hc
   cases e
 case loop c1 =>
   obtain ⟨x', h1, e⟩ := hc
   injection e with e1
   subst e1
   obtain ⟨M0', hs'⟩ := hs.weak hs0
   intro b k cs
   have key : ∀ n i, μ i = n → R i → ∀ a w M, StR X (pat i) a w M →
       ∃ e a' w', Post X K e a' w' ∧ Arrives P (lone (b.at a (.code c1 :: .inLoop c1 :: k)) cs w) b k cs e a' w' := by
     intro n
     induction n using Nat.strongRecOn with
     | _ n ih =>
       intro i hn hR a w M hI
       obtain ⟨e, a₁, w₁, ⟨t, M₁, hq, hst⟩, harr⟩ := round i hR X c1 hX h1 a w M hI b (.inLoop c1 :: k) cs
       cases e with
       | normal =>
         obtain ⟨j, hRj, hwk, hlt⟩ := hq
         obtain ⟨M₂, hst'⟩ := hst.weak hwk
         obtain ⟨e₂, a₂, w₂, hq₂, harr₂⟩ := ih (μ j) (hn ▸ hlt) j rfl hRj a₁ w₁ M₂ hst'
         exact ⟨e₂, a₂, w₂, hq₂, .of_steps (Steps.trans harr (.one step_inLoop)) harr₂⟩
       | exit id => exact ⟨_, a₁, w₁, ⟨t, M₁, hq, hst⟩, .pass (x := .inLoop c1) rfl (fun _ _ => .inl (by simp)) harr⟩
       | goto l => exact ⟨_, a₁, w₁, ⟨t, M₁, hq, hst⟩, .pass (x := .inLoop c1) rfl (fun _ _ => .inl (by simp)) harr⟩
       | ret => exact ⟨_, a₁, w₁, ⟨t, M₁, hq, hst⟩, .pass (x := .inLoop c1) rfl (fun _ _ => .inl (by simp)) harr⟩
       | panic ch => exact ⟨_, a₁, w₁, ⟨t, M₁, hq, hst⟩, .pass (x := .inLoop c1) rfl (fun _ _ => .inl (by simp)) harr⟩
       | outgrown => exact ⟨_, a₁, w₁, ⟨t, M₁, hq, hst⟩, .pass (x := .inLoop c1) rfl (fun _ _ => .inl (by simp)) harr⟩
   obtain ⟨e, a', w', hq, harr⟩ := key _ i0 rfl h0 a w M0' hs'
   exact ⟨e, a', w', hq, .of_steps (.one step_loop) harr⟩
end
end Go.Proofs.YtibploaibljcmaaGreatDoor
