import Derived.Test.YtibploaibljcmaaGreatDoorAv12f
namespace Go.Proofs.YtibploaibljcmaaGreatDoor
open Go.RowKit
set_option linter.unusedVariables false
set_option linter.unusedSimpArgs false
set_option maxHeartbeats 2000000
theorem anc_listed2 {ops : Array Oper} (hedge : ∀ (i : Nat) (o : Oper), ops[i]? = some o → ∀ e ∈ o.after, Region.binds .any e = true → e.on < i) {L : Nat → Bool} (hL : ∀ (i : Nat) (o : Oper), ops[i]? = some o → L i = true → ∀ e ∈ o.after, Region.binds .any e = true → L e.on = true) :
   ∀ (n i : Nat), i < n → ∀ o, ops[i]? = some o → (∀ e ∈ o.after, Region.binds .any e = true → L e.on = true) → ∀ j, ((masks ops.toList []).getD i 0).testBit j = true → L j = true
 | 0, i, h, _, _, _, _, _ => by omega
 | n + 1, i, h, o, ho, hd, j, hj => by
   obtain ⟨e, he, hb, hc⟩ := masks_at ops.toList [] i o (by simpa using ho) j (by simpa using hj)
   have he : e ∈ o.after := by simpa using he
   have hlt := hedge i o ho e he hb
   have hLe := hd e he hb
   rcases hc with rfl | hc
   · exact hLe
   · have hi : i < ops.size := (Array.getElem?_eq_some_iff.1 ho).1
     have hoe : ops[e.on]? = some ops[e.on] := Array.getElem?_eq_getElem (by omega)
     exact anc_listed2 hedge hL n e.on (by omega) _ hoe (fun e' he' hb' => hL e.on _ hoe hLe e' he' hb') j hc
theorem rep_undef {M M' : Mem} {x : AV} (h : Rep M undef x) : Rep M' undef x := by
 generalize hv : undef = v at h
 cases h <;> first | (cases hv; done) | exact .und _ | exact .nov | skip
 case tup vs cs hl hr =>
   have : vs = [] := by
     unfold undef at hv
     injection hv with hv
     have := congrArg Array.toList hv
     simpa using this.symm
   subst this
   exact .tup [] cs hl (fun i h => absurd h (by simp))
theorem filterMap_cong {α β : Type} {f g : α → Option β} : ∀ l : List α, (∀ x ∈ l, f x = g x) → l.filterMap f = l.filterMap g
 | [], _ => rfl
 | x :: l, h => by
   rw [List.filterMap_cons, List.filterMap_cons, h x (by simp), filterMap_cong l fun y hy => h y (by simp [hy])]
def undone (ops : Array Oper) (p p' : Nat) (listed : Array Bool) : List Nat := (List.range p').filterMap fun f => if p ≤ f ∧ listed.getD f false = false then dsAt ops f else none
theorem mem_undone {ops : Array Oper} {p p' : Nat} {listed : Array Bool} {t : Nat} : t ∈ undone ops p p' listed ↔ ∃ f, p ≤ f ∧ f < p' ∧ listed.getD f false = false ∧ dsAt ops f = some t := by
 unfold undone
 rw [List.mem_filterMap]
 constructor
 · rintro ⟨f, hf, h⟩
   split at h
   · rename_i hc; exact ⟨f, hc.1, List.mem_range.1 hf, hc.2, h⟩
   · cases h
 · rintro ⟨f, h1, h2, h3, h4⟩
   exact ⟨f, List.mem_range.2 h2, by rw [if_pos ⟨h1, h3⟩]; exact h4⟩
def Jf (X : Cx) (ops : Array Oper) (aos : List AO) (T : Tx) (p p' : Nat) (K : Exit → St → Prop) (listed : Array Bool) (a : Act) (w : World) : Prop :=
 ∃ q s M, p' ≤ q ∧ q ≤ ops.size ∧ (∀ i, i < p → listed.getD i false = true) ∧ (∀ i, p' ≤ i → i < ops.size → (listed.getD i false = true ↔ i < q)) ∧ StR X (s.hide (undone ops p p' listed)) a w M ∧ RStep X.P (aos.drop q) s (K .normal) ∧ s.n = T.s.n ∧
   (∀ f, p ≤ f → f < p' → listed.getD f false = false → ∀ t ∈ nmAt ops aos f, s.get t = (T.at_ f).get t) ∧
   (∀ f u t, p ≤ f → f < p' → T.us[f]? = some u → dsAt ops f = some t → t < T.s.n → s.get t = u.v) ∧ (∀ t, T.s.n ≤ t → s.get t = T.s.get t) ∧
   (∀ f u ao d, p ≤ f → f < p' → listed.getD f false = false → T.us[f]? = some u → aos[f]? = some ao → dsAt ops f = some d → ao.op.free = false → ∃ v, qop s.ν s.σ s.box.length ao.op = some (v, none) ∧ (d < T.s.n → v = u.v))
section
variable {X : Cx} {ops : Array Oper} {aos : List AO} {p : Nat}
theorem float_ok {p' : Nat} (hp : ∀ (i : Nat) (o : Oper), ops[i]? = some o → ∃ ao, aos[i]? = some ao ∧ PrepR X.P ops o ao) (hl : aos.length = ops.size) (hpp : p ≤ p') (hple : p' ≤ ops.size) (hok : okFloat ops aos p p' = true)
   (hquiet : ((aos.take p').all fun o => isQuiet o.op) = true) (hfree : ∀ f ao, p ≤ f → f < p' → aos[f]? = some ao → ao.op.fl = true ∧ ao.guard = none)
   (hchk : ∀ i ao, p' ≤ i → aos[i]? = some ao → ∀ f, p ≤ f → f < p' → ∀ aof, aos[f]? = some aof → aof.op.free = false → bitAt ops i f = true ∨ ∃ n x d, aof.op = .ld n x ∧ dsAt ops f = some d ∧ (n, x, d) ∈ ao.chk) {K : Exit → St → Prop} {s : St} {a : Act} {w : World} {M : Mem} (hr : RStep X.P aos s (K .normal)) (h : StR X s a w M) :
   wpAny X.P .any ops (Post X K) ops.size (Array.replicate ops.size false) a { w with drawn := w.drawn + 1 } := by
 have hO := okFloat_spec hok
 rw [← List.take_append_drop p' aos] at hr
 obtain ⟨us, t1, t2, t3⟩ := rstep_trace (aos.take p') (aos.drop p') s (K .normal) (fun o ho => List.all_eq_true.1 hquiet o ho) hr
 have hpl : (aos.take p').length = p' := by rw [List.length_take]; omega
 obtain ⟨T, rfl, rfl, hTp⟩ : ∃ T : Tx, T.us = us ∧ T.s = s ∧ T.pre = aos.take p' := ⟨⟨aos.take p', us, s⟩, rfl, rfl, rfl⟩
 have hlen : T.us.length = T.pre.length := by rw [hTp]; exact t1
 have hTl : T.pre.length = p' := by rw [hTp]; exact hpl
 have t2' : ∀ (i : Nat) (o : AO) (u : Out), T.pre[i]? = some o → T.us[i]? = some u → GOut X.P (T.at_ i) o u := by
   unfold Tx.at_
   rw [hTp]
   exact t2
 have t3' : RStep X.P (aos.drop p') (T.at_ T.pre.length) (K .normal) := by
   unfold Tx.at_
   rw [List.take_of_length_le (Nat.le_refl _), ← hlen, List.take_of_length_le (Nat.le_refl _), hTp]
   exact t3
 have hpre : ∀ {i : Nat} {o : AO}, T.pre[i]? = some o → i < p' ∧ aos[i]? = some o := fun {i o} ho => by
   rw [hTp] at ho
   have hi : i < p' := by rw [← hpl]; exact (List.getElem?_eq_some_iff.1 ho).1
   rw [List.getElem?_take_of_lt hi] at ho
   exact ⟨hi, ho⟩
 have hone : ∀ (i j : Nat) (o o' : AO), T.pre[i]? = some o → T.pre[j]? = some o' → j ≠ i → ∀ d, o.dst = some d → o'.dst ≠ some d := fun i j o o' ho ho' hne d hd => by
   obtain ⟨hi, h1⟩ := hpre ho
   obtain ⟨hj, h2⟩ := hpre ho'
   obtain ⟨x, k1, k2⟩ := prep_at hp hl h1
   obtain ⟨y, k3, k4⟩ := prep_at hp hl h2
   rw [← (prepR_spec k4).2.2]
   have := hO.dsts i j hi hj hne d (by unfold dsAt; rw [k1]; show x.dst = _; rw [(prepR_spec k2).2.2]; exact hd)
   unfold dsAt at this
   rw [k3] at this
   exact this
 have hflt : ∀ (f : Nat) (u : Out), p ≤ f → f < p' → T.us[f]? = some u → (∃ ao, aos[f]? = some ao ∧ qop (T.at_ f).ν (T.at_ f).σ (T.at_ f).box.length ao.op = some (u.v, u.nb)) ∧ (u.nb = none ∧ u.nt = []) := fun f u hf hf' hu => by
   have ho : T.pre[f]? = some T.pre[f] := List.getElem?_eq_getElem (by omega)
   obtain ⟨hi, ha⟩ := hpre ho
   obtain ⟨h1, h2⟩ := hfree f _ hf hf' ha
   rcases t2' f _ u ho hu with ⟨_, hq⟩ | ⟨⟨d, b, hgo, _⟩, _⟩
   · have hq' : qop (T.at_ f).ν (T.at_ f).σ (T.at_ f).box.length T.pre[f].op = some (u.v, u.nb) ∧ u.nt = [] := by
       generalize T.pre[f].op = x at h1 hq
       unfold QOut at hq
       split at hq
       · cases h1
       · cases h1
       · exact hq
     exact ⟨⟨_, ha, hq'.1⟩, (by
       cases hff : T.pre[f].op.free with
       | true => exact qop_free_nb hff hq'.1
       | false =>
         obtain ⟨n, x, e⟩ := fl_ld h1 hff
         rw [e] at hq'
         exact qop_ld_nb hq'.1), hq'.2⟩
   · rw [h2] at hgo
     cases hgo
 have hund : ∀ t, T.s.n ≤ t → ∀ M' : Mem, Rep M' undef (T.s.get t) := fun t ht M' => by
   have e : a.tmps.getD t undef = undef := by rw [Array.getD_eq_getD_getElem?, Array.getElem?_eq_none (by rw [h.size]; exact ht)]; rfl
   have := h.tmps t
   rw [e] at this
   exact rep_undef this
 have late : ∀ (listed : Array Bool) (a : Act) (w : World) (i : Nat) (o : Oper) (ao : AO), listed.size = ops.size → i < ops.size → listed.getD i false = false → ops[i]? = some o → aos[i]? = some ao → PrepR X.P ops o ao → i < p' → (∀ j, ((masks ops.toList []).getD i 0).testBit j = true → listed.getD j false = true) → Jf X ops aos T p p' K listed a w →
     ∀ {next : Act → World → Prop}, (∀ a' w', Jf X ops aos T p p' K (listed.setIfInBounds i true) a' w' → next a' w') → wpOp X.P ops (Post X K) i next a w := by
   intro listed a w f o ao hsz his hLi ho hao hpo hfp' hanc hJ next hnext
   obtain ⟨q, s, M, h1, h2, h2', h3, h4, h5, h6, h7, h8, h9, h10⟩ := hJ
   have hfp : p ≤ f := by
     rcases Nat.lt_or_ge f p with c | c
     · rw [h2' f c] at hLi; cases hLi
     · exact c
   obtain ⟨c1, c2, c3⟩ := prepR_spec hpo
   obtain ⟨hfr, hgd⟩ := hfree f ao hfp hfp' hao
   obtain ⟨u, hu⟩ : ∃ u, T.us[f]? = some u := ⟨T.us[f], List.getElem?_eq_getElem (by omega)⟩
   obtain ⟨⟨ao', hao', hq⟩, hnb, hnt⟩ := hflt f u hfp hfp' hu
   obtain rfl : ao = ao' := Option.some.inj (hao.symm.trans hao')
   have hdf : dsAt ops f = ao.dst := by unfold dsAt; rw [ho]; exact c3
   obtain ⟨d, hd, hdn⟩ := hO.own f hfp hfp'
   rw [hdf] at hd
   have hset : ∀ j, j ≠ f → ∀ b, (listed.setIfInBounds f true).getD j b = listed.getD j b := fun j hj b => getD_set_ne b (Ne.symm hj)
   have hvis : ∀ t ∈ nmAt ops aos f, t ∉ undone ops p p' listed := fun t ht hm => by
     obtain ⟨g, g1, g2, g3, g4⟩ := mem_undone.1 hm
     by_cases hgf : g = f
     · subst hgf
       rw [hdf, hd] at g4
       injection g4 with g4
       exact hdn (g4 ▸ ht)
     · rcases hO.names f hfp' t ht g g2 g4 hgf with ⟨_, b⟩ | ⟨c, _⟩
       · have := hanc g b
         rw [g3] at this
         cases this
       · exact hO.later f hfp hfp' t ht g g2 c g4
   have hν : ∀ x ∈ ao.op.args, (s.hide (undone ops p p' listed)).ν x = (T.at_ f).ν x := fun x hx => by
     cases x with
     | val v => rfl
     | tmp t =>
       have ht : t ∈ nmAt ops aos f := by
         unfold nmAt
         rw [hao]
         refine List.mem_append_right _ ?_
         unfold argSlots
         exact List.mem_append_left _ (List.mem_filterMap.2 ⟨_, hx, rfl⟩)
       show (s.hide _).get t = (T.at_ f).get t
       rw [hide_get, if_neg (hvis t ht)]
       exact h7 f hfp hfp' hLi t ht
   obtain ⟨v0, hq', hvu⟩ : ∃ v, qop (s.hide (undone ops p p' listed)).ν (s.hide (undone ops p p' listed)).σ (s.hide (undone ops p p' listed)).box.length ao.op = some (v, none) ∧ (d < T.s.n → v = u.v) := by
     cases hff : ao.op.free with
     | true =>
       refine ⟨u.v, ?_, fun _ => rfl⟩
       rw [qop_agree hν, ← hnb, ← hq]
       exact qop_free hff
     | false =>
       obtain ⟨v, k1, k2⟩ := h10 f u ao d hfp hfp' hLi hu hao (by rw [hdf, hd]) hff
       refine ⟨v, ?_, k2⟩
       rw [← k1]
       refine qop_agree fun x hx => hide_nu fun t e => ?_
       subst e
       refine hvis t ?_
       unfold nmAt
       rw [hao]
       refine List.mem_append_right _ ?_
       unfold argSlots
       exact List.mem_append_left _ (List.mem_filterMap.2 ⟨_, hx, rfl⟩)
   have hQ : QOut X.P (s.hide (undone ops p p' listed)) ao.op ⟨v0, none, []⟩ := by
     generalize ao.op = x at hfr hq'
     unfold QOut
     split
     · cases hfr
     · cases hfr
     · exact ⟨hq', rfl⟩
   have hog : o.guard = none := by
     rw [hgd] at c2
     cases hog : o.guard with
     | none => rfl
     | some x =>
       rw [hog] at c2
       obtain ⟨_, _, e⟩ := Option.map_eq_some_iff.1 c2
       cases e
   unfold wpOp
   rw [ho]
   simp only
   rw [if_pos (by simp [Region.wanted, hog])]
   left
   refine q_ok h4.mr (prepOp_quiet c1 (List.all_eq_true.1 hquiet ao (List.mem_of_getElem? (by rw [List.getElem?_take_of_lt hfp']; exact hao)))) hQ (fun l b hb => hb) (fun x hx ax hax => ?_) (fun hn => absurd rfl hn) (fun b hb => by cases hb) (fun k hk => by simp at hk) (fun v w' M' g => hnext _ _ ⟨q, s, M', h1, h2, fun i hi => ?_, fun i hi his' => ?_, ⟨g.mr, ?_, ?_, ?_, ?_, fun t => ?_, h4.pp⟩, h5, h6, fun g' g1 g2 g3 t ht => ?_, h8, h9, fun g' u' ao' d' g1 g2 g3 => ?_⟩)
   · cases x with
     | tmp t =>
       simp only [axOf, Option.some.injEq] at hax
       subst hax
       exact h4.tmps t
     | const v =>
       simp only [axOf] at hax
       obtain ⟨b, hb, rfl⟩ := Option.map_eq_some_iff.1 hax
       exact avOf_rep hb
     | func f =>
       simp only [axOf, Option.some.injEq] at hax
       subst hax
       exact .fn f [] [] rfl (fun i h => absurd h (by simp))
     | global g =>
       obtain ⟨b, rfl, hb⟩ := gam_rep h4.mr.kg (show gamAX g = some ax from hax)
       exact hb
   · rw [hset i (by omega)]
     exact h2' i hi
   · rw [hset i (by omega)]
     exact h3 i hi his'
   · intro l hl
     rw [g.μ0 rfl]
     exact h4.boxes l hl
   · rw [g.fr]
     have := h4.fr
     funext k
     rw [if_neg (fun q => by have q2 := q.2; have q1 := q.1; simp at q2; omega), this]
     rfl
   · rw [put_defers]
     exact h4.defers
   · rw [put_size]
     exact h4.size
   · rw [hide_get]
     by_cases htU : t ∈ undone ops p p' (listed.setIfInBounds f true)
     · rw [if_pos htU]; exact .und _
     rw [if_neg htU]
     rw [c3, hd, put_get]
     by_cases htd : t = d ∧ d < a.tmps.size
     · rw [if_pos htd, htd.1, h8 f u d hfp hfp' hu (by rw [hdf, hd]) (by rw [← h6]; have := h4.size; have e : (s.hide (undone ops p p' listed)).n = s.n := rfl; omega)]
       have hdn2 : d < T.s.n := by rw [← h6]; have := h4.size; have e : (s.hide (undone ops p p' listed)).n = s.n := rfl; omega
       rw [← hvu hdn2]
       exact g.rep
     · rw [if_neg htd]
       by_cases htd2 : t = d
       · subst htd2
         have hge : a.tmps.size ≤ t := by
           rcases Nat.lt_or_ge t a.tmps.size with c | c
           · exact absurd ⟨rfl, c⟩ htd
           · exact c
         have hsz2 : a.tmps.size = T.s.n := by rw [h4.size, ← h6]; rfl
         have e : a.tmps.getD t undef = undef := by rw [Array.getD_eq_getD_getElem?, Array.getElem?_eq_none hge]; rfl
         rw [e, h9 t (by omega)]
         exact hund t (by omega) _
       · have htU2 : t ∉ undone ops p p' listed := fun hm => by
           obtain ⟨g', g1, g2, g3, g4⟩ := mem_undone.1 hm
           refine htU (mem_undone.2 ⟨g', g1, g2, ?_, g4⟩)
           rw [hset g' (fun e => by subst e; rw [hdf, hd] at g4; injection g4 with g4; exact htd2 g4.symm)]
           exact g3
         have := h4.tmps t
         rw [hide_get, if_neg htU2] at this
         exact this.mono g.le
   · by_cases hgf : g' = f
     · subst hgf
       simp [hsz, his] at g3
     · rw [hset g' hgf] at g3
       exact h7 g' g1 g2 g3 t ht
   · by_cases hgf : g' = f
     · subst hgf
       simp [hsz, his] at g3
     · rw [hset g' hgf] at g3
       exact h10 g' u' ao' d' g1 g2 g3
 have bound : ∀ (listed : Array Bool) (a : Act) (w : World) (i : Nat) (o : Oper) (ao : AO), listed.size = ops.size → i < ops.size → listed.getD i false = false → ops[i]? = some o → aos[i]? = some ao → PrepR X.P ops o ao → p' ≤ i → (∀ j, ((masks ops.toList []).getD i 0).testBit j = true → listed.getD j false = true) → (∀ j, j < i → ¬ (p ≤ j ∧ j < p') → listed.getD j false = true) → Jf X ops aos T p p' K listed a w →
     ∀ {next : Act → World → Prop}, (∀ a' w', Jf X ops aos T p p' K (listed.setIfInBounds i true) a' w' → next a' w') → wpOp X.P ops (Post X K) i next a w := by
   intro listed a w q' o ao hsz his hLi ho hao hpo hge hanc hearl hJ next hnext
   obtain ⟨q, s, M, h1, h2, h2', h3, h4, h5, h6, h7, h8, h9, h10⟩ := hJ
   have hqi : q = q' := by
     have n1 : ¬ q' < q := fun c => by
       have := (h3 q' hge his).2 c
       rw [hLi] at this
       cases this
     rcases Nat.lt_or_ge q q' with c | c
     · have := (h3 q h1 (by omega)).1 (hearl q c (by omega))
       omega
     · omega
   subst hqi
   have hqa : q < aos.length := by omega
   rw [List.drop_eq_getElem_cons hqa] at h5
   have : aos[q] = ao := by
     rw [List.getElem?_eq_getElem hqa] at hao
     exact Option.some.inj hao
   rw [this] at h5
   obtain ⟨c1, c2, c3⟩ := prepR_spec hpo
   have hdq : dsAt ops q = ao.dst := by unfold dsAt; rw [ho]; exact c3
   have hset : ∀ f, f ≠ q → ∀ d, (listed.setIfInBounds q true).getD f d = listed.getD f d := fun f hf d => getD_set_ne d (Ne.symm hf)
   have hU : undone ops p p' (listed.setIfInBounds q true) = undone ops p p' listed := by
     unfold undone
     refine filterMap_cong _ fun f hf => ?_
     have := List.mem_range.1 hf
     rw [hset f (by omega)]
   have hvis : ∀ t ∈ nmAt ops aos q, t ∉ undone ops p p' listed := fun t ht hm => by
     obtain ⟨f, f1, f2, f3, f4⟩ := mem_undone.1 hm
     have := hanc f (hO.reads q his hge f f1 f2 t ht f4)
     rw [f3] at this
     cases this
   have hdU : ∀ d, ao.dst = some d → d ∉ undone ops p p' listed := fun d hd hm => by
     obtain ⟨f, f1, f2, f3, f4⟩ := mem_undone.1 hm
     exact hO.apart q his hge f f1 f2 (by rw [hdq, f4, hd])
   have harg : ∀ t ∈ argSlots ao, t ∈ nmAt ops aos q := fun t ht => by
     unfold nmAt
     rw [hao]
     exact List.mem_append_right _ ht
   have hν : ∀ x ∈ ao.op.args, (s.hide (undone ops p p' listed)).ν x = s.ν x := fun x hx => hide_nu fun t e => by
     subst e
     refine hvis t (harg t ?_)
     unfold argSlots
     exact List.mem_append_left _ (List.mem_filterMap.2 ⟨_, hx, rfl⟩)
   have hG : GStep0 X.P (s.hide (undone ops p p' listed)) ao fun s'' => ∃ s', Chk s' ao.chk (RStep X.P (aos.drop (q + 1)) s' (K .normal)) ∧ Kept s s' ao.dst ∧ SEq s'' (s'.hide (undone ops p p' listed)) := by
     have h5 : GStep0 X.P s ao fun s' => Chk s' ao.chk (RStep X.P (aos.drop (q + 1)) s' (K .normal)) := h5
     have skip : ∀ K' : St → Prop, K' (s.next ao.dst skipOut) → ∃ s', K' s' ∧ Kept s s' ao.dst ∧ SEq ((s.hide (undone ops p p' listed)).next ao.dst skipOut) (s'.hide (undone ops p p' listed)) := fun K' hK => ⟨_, hK, ⟨rfl, (kept_put (s := s) (s1 := s) (v := .nov) rfl rfl).get⟩, by
       have := put_hide (s := s) (v := .nov) hdU
       exact ⟨rfl, rfl, rfl, rfl, this.get⟩⟩
     unfold GStep0 at h5 ⊢
     split at h5
     · exact ostep_hide hν hdU h5
     · rename_i d b hg
       have hgd : (s.hide (undone ops p p' listed)).get d = s.get d := by
         rw [hide_get, if_neg (hvis d (harg d (by unfold argSlots; rw [hg]; simp)))]
       rw [hgd]
       unfold Gk at h5 ⊢
       split at h5
       · split at h5
         · rename_i hc
           simp only [hc, if_true]
           exact ostep_hide hν hdU h5
         · rename_i hc
           simp only [hc, if_false]
           exact skip _ h5
       · exact skip _ h5
       · exact h5.elim
   refine g_ok0 ho hpo h4 hG (fun s'' a' w' M' ⟨s', hr, hk, hq⟩ h' => hnext _ _ ⟨q + 1, s', M', by omega, by omega, fun i hi => ?_, fun i hi his' => ?_, by rw [hU]; exact hq.str h', chk_imp hr, by rw [hk.n, h6], fun f f1 f2 f3 t ht => ?_, fun f u t f1 f2 hu hd ht => ?_, fun t ht => by rw [hk.get t (.inr (by omega)), h9 t ht], fun f u aof d f1 f2 f3 hu hao' hd hff => ?_⟩)
   · rw [hset i (by omega)]
     exact h2' i hi
   · by_cases hiq : i = q
     · subst hiq
       simp [hsz, his]
     · rw [hset i hiq, h3 i hi his']
       omega
   · rw [hset f (by omega)] at f3
     rw [hk.get t (.inl fun e => by
       have := hanc f (hO.writes q his hge f f1 f2 t (by rw [hdq, e]) ht)
       rw [f3] at this
       cases this)]
     exact h7 f f1 f2 f3 t ht
   · rw [hk.get t (.inl fun e => hO.apart q his hge f f1 f2 (by rw [hdq, hd, e]))]
     exact h8 f u t f1 f2 hu hd ht
   · rw [hset f (by omega)] at f3
     rcases hchk q ao hge hao f f1 f2 aof hao' hff with hb | ⟨n, x, d', e1, e2, e3⟩
     · have := hanc f hb
       rw [f3] at this
       cases this
     · obtain rfl : d' = d := Option.some.inj (e2.symm.trans hd)
       refine ⟨s'.get d', ?_, fun hlt => ?_⟩
       · rw [e1]
         exact chk_get hr _ e3
       · rw [hk.get d' (.inl fun e => hO.apart q his hge f f1 f2 (by rw [hdq, hd, e]))]
         exact h8 f u d' f1 f2 hu hd hlt
 have main : ∀ (fuel : Nat) (listed : Array Bool) (a : Act) (w : World), ((List.range ops.size).filter fun j => !listed.getD j true).length ≤ fuel → listed.size = ops.size →
     (∀ (i : Nat) (o : Oper), ops[i]? = some o → listed.getD i false = true → ∀ e ∈ o.after, Region.binds .any e = true → listed.getD e.on false = true) →
     ((∃ M, PInv X T (fun i => listed.getD i false) a w M ∧ ∀ i, p' ≤ i → listed.getD i false = false) ∨ Jf X ops aos T p p' K listed a w) →
     wpAny X.P .any ops (Post X K) fuel listed a w := by
   have toTwo : ∀ (listed : Array Bool) (a : Act) (w : World), listed.size = ops.size → (∀ i, i < p → listed.getD i false = true) →
       ((∃ M, PInv X T (fun i => listed.getD i false) a w M ∧ ∀ i, p' ≤ i → listed.getD i false = false) ∨ Jf X ops aos T p p' K listed a w) → Jf X ops aos T p p' K listed a w := fun listed a w hsz hall h => by
     rcases h with ⟨M, h1, h2⟩ | h
     · have hdst : ∀ (i : Nat) (o : AO) (t : Nat), T.pre[i]? = some o → o.dst = some t → dsAt ops i = some t := fun i o t ho hd => by
         obtain ⟨hi, h1⟩ := hpre ho
         obtain ⟨x, k1, k2⟩ := prep_at hp hl h1
         unfold dsAt
         rw [k1]
         show x.dst = _
         rw [(prepR_spec k2).2.2]
         exact hd
       have hkeep : ∀ f, p ≤ f → f < p' → ∀ t ∈ nmAt ops aos f, (T.at_ T.pre.length).get t = (T.at_ f).get t := fun f hf hf' t ht =>
         tx_keep hlen (k := f) (by omega) (Nat.le_refl _) (fun j hj hj' o ho hd => by
           by_cases hjf : j = f
           · subst hjf
             obtain ⟨t', e1, e2⟩ := hO.own j hf hf'
             rw [hdst j o t ho hd] at e1
             injection e1 with e1
             exact e2 (e1 ▸ ht)
           · exact hO.later f hf hf' t ht j (by omega) (by omega) (hdst j o t ho hd))
       refine ⟨p', _, M, Nat.le_refl _, hple, hall, fun i hi his => ⟨fun e => ?_, fun e => ?_⟩, pinv_mid hlen hone (fun i u hi hu => ?_) (fun t ht i o ho hd => ?_) h1, t3', tx_size hlen (Nat.le_refl _), fun f hf hf' hL t ht => ?_, fun f u t hf hf' hu hd ht => ?_, fun t ht => tx_out hlen (Nat.le_refl _) ht, fun f u aof d hf hf' hL hu hao hd hff => ?_⟩
       · have := h2 i hi
         rw [this] at e
         cases e
       · omega
       · rcases Nat.lt_or_ge i p with c | c
         · exact .inl (hall i c)
         · exact .inr (hflt i u c (by omega) hu).2
       · cases hLi : listed.getD i false with
         | true => rfl
         | false =>
           have hi := (hpre ho).1
           have hip : p ≤ i := by
             rcases Nat.lt_or_ge i p with c | c
             · rw [hall i c] at hLi; cases hLi
             · exact c
           exact absurd (mem_undone.2 ⟨i, hip, hi, hLi, hdst i o t ho hd⟩) ht
       · exact hkeep f hf hf' t ht
       · have hfo : T.pre[f]? = some T.pre[f] := List.getElem?_eq_getElem (by omega)
         obtain ⟨hi, h1'⟩ := hpre hfo
         obtain ⟨x, k1, k2⟩ := prep_at hp hl h1'
         have hdo : T.pre[f].dst = some t := by
           unfold dsAt at hd
           rw [k1] at hd
           rw [← (prepR_spec k2).2.2]
           exact hd
         exact tx_wrote hlen (by omega) (Nat.le_refl _) hfo hu hdo ht (fun k hk o' ho' => hone f k _ o' hfo ho' hk t hdo)
       · obtain ⟨⟨ao', hao', hq⟩, hnb, hnt⟩ := hflt f u hf hf' hu
         obtain rfl : aof = ao' := Option.some.inj (hao.symm.trans hao')
         obtain ⟨n, x, e⟩ := fl_ld (hfree f aof hf hf' hao).1 hff
         refine ⟨u.v, ?_, fun _ => rfl⟩
         rw [hnb] at hq
         have hx : x ∈ aof.op.args := by rw [e]; simp [AOp.args]
         rw [e] at hq ⊢
         rw [← qop_ld_more (fun l b hb => tx_sigma hlen (i := f) (by omega) (Nat.le_refl _) hb) (n' := (T.at_ T.pre.length).box.length) hq]
         refine qop_agree (ao := .ld n x) fun y hy => ?_
         obtain rfl : y = x := by simpa [AOp.args] using hy
         cases y with
         | val v => rfl
         | tmp t =>
           refine hkeep f hf hf' t ?_
           unfold nmAt
           rw [hao]
           refine List.mem_append_right _ ?_
           unfold argSlots
           exact List.mem_append_left _ (List.mem_filterMap.2 ⟨_, hx, rfl⟩)
     · exact h
   have hend : ∀ (listed : Array Bool) (a : Act) (w : World), listed.size = ops.size →
       ((∃ M, PInv X T (fun i => listed.getD i false) a w M ∧ ∀ i, p' ≤ i → listed.getD i false = false) ∨ Jf X ops aos T p p' K listed a w) →
       Region.ready .any ops listed = [] → Post X K .normal a w := by
     intro listed a w hsz hI hr
     have hall : ∀ n j, j < n → j < ops.size → listed.getD j false = true := by
       intro n
       induction n with
       | zero => intro j hj; omega
       | succ n ih =>
         intro j hj hjs
         by_cases hjn : j < n
         · exact ih j hjn hjs
         · have hj' : j = n := by omega
           subst hj'
           cases hlj : listed.getD j false with
           | true => rfl
           | false =>
             have hoj : ops[j]? = some ops[j] := Array.getElem?_eq_getElem hjs
             have : j ∈ Region.ready .any ops listed := mem_ready.2 ⟨by rw [getD_bool _ _ (by rw [hsz]; exact hjs)]; exact hlj, ops[j], hoj, fun e he hb => by
               have hlt := hO.edge j _ hoj e he hb
               exact ih e.on hlt (by omega)⟩
             rw [hr] at this
             cases this
     obtain ⟨q, s, M, h1, h2, h2', h3, h4, h5, _⟩ := toTwo listed a w hsz (fun i hi => hall (i + 1) i (by omega) (by omega)) hI
     have hq : q = ops.size := by
       rcases Nat.lt_or_ge q ops.size with q' | q'
       · have := (h3 q h1 q').1 (hall (q + 1) q (by omega) q')
         omega
       · omega
     rw [hq, List.drop_eq_nil_of_le (by omega)] at h5
     have hU : undone ops p p' listed = [] := List.eq_nil_iff_forall_not_mem.2 fun t ht => by
       obtain ⟨f, _, hf', hL, _⟩ := mem_undone.1 ht
       rw [hall (f + 1) f (by omega) (by omega)] at hL
       cases hL
     rw [hU] at h4
     exact ⟨s, M, h5, h4⟩
   intro fuel
   induction fuel with
   | zero =>
     intro listed a w hf hsz hcl hI
     have hr : Region.ready .any ops listed = [] := by
       apply List.eq_nil_iff_forall_not_mem.2
       intro j hj
       obtain ⟨h0, o, ho, _⟩ := mem_ready.1 hj
       have hmem : j ∈ (List.range ops.size).filter fun j => !listed.getD j true := by
         rw [List.mem_filter, List.mem_range]
         exact ⟨(Array.getElem?_eq_some_iff.1 ho).1, by rw [h0]; rfl⟩
       have := List.length_pos_of_mem hmem
       omega
     exact ⟨hr, hend listed a w hsz hI hr⟩
   | succ fuel ih =>
     intro listed a w hf hsz hcl hI
     refine ⟨hend listed a w hsz hI, fun i hi => ?_⟩
     obtain ⟨h0, o, ho, hall⟩ := mem_ready.1 hi
     have his : i < ops.size := (Array.getElem?_eq_some_iff.1 ho).1
     have hLi : listed.getD i false = false := by rw [← getD_bool _ _ (by rw [hsz]; exact his)]; exact h0
     have hfuel : ((List.range ops.size).filter fun j => !(listed.setIfInBounds i true).getD j true).length ≤ fuel := by
       have hlt : ((List.range ops.size).filter fun j => !(listed.setIfInBounds i true).getD j true).length < ((List.range ops.size).filter fun j => !listed.getD j true).length := by
         have hsub : ((List.range ops.size).filter fun j => !(listed.setIfInBounds i true).getD j true) = (((List.range ops.size).filter fun j => !listed.getD j true).filter fun j => j != i) := by
           rw [List.filter_filter]
           apply List.filter_congr
           intro j hj
           rw [List.mem_range] at hj
           by_cases hji : j = i
           · subst hji; simp [hsz, his]
           · rw [getD_set_ne true (Ne.symm hji)]; simp [hji]
         rw [hsub]
         have hmem : i ∈ (List.range ops.size).filter fun j => !listed.getD j true := by
           rw [List.mem_filter, List.mem_range]
           exact ⟨his, by rw [h0]; rfl⟩
         exact List.length_filter_lt_length_iff_exists.2 ⟨i, hmem, by simp⟩
       omega
     have hL' : ∀ j, (listed.setIfInBounds i true).getD j false = if j = i then true else listed.getD j false := fun j => by
       by_cases hji : j = i
       · subst hji; simp [hsz, his]
       · rw [getD_set_ne false (Ne.symm hji), if_neg hji]
     have hcl' : ∀ (j : Nat) (oj : Oper), ops[j]? = some oj → (listed.setIfInBounds i true).getD j false = true → ∀ e ∈ oj.after, Region.binds .any e = true → (listed.setIfInBounds i true).getD e.on false = true := fun j oj hoj hlj e he hb => by
       rw [hL'] at hlj ⊢
       by_cases hji : j = i
       · subst hji
         obtain rfl : o = oj := Option.some.inj (ho.symm.trans hoj)
         rw [hall e he hb]
         split <;> rfl
       · rw [if_neg hji] at hlj
         rw [hcl j oj hoj hlj e he hb]
         split <;> rfl
     have hanc : ∀ j, ((masks ops.toList []).getD i 0).testBit j = true → listed.getD j false = true := fun j hj =>
       anc_listed2 hO.edge (L := fun i => listed.getD i false) hcl (i + 1) i (by omega) o ho hall j hj
     obtain ⟨ao, hao, hpo⟩ := hp i o ho
     by_cases hip : i < p'
     · -- in the open part
       rcases hI with ⟨M, hP, htl⟩ | hJ
       rotate_left
       · exact late listed a w i o ao hsz his hLi ho hao hpo hip hanc hJ fun a' w' hJ' => ih _ _ _ hfuel (by simp [hsz]) hcl' (.inr hJ')
       have hio : T.pre[i]? = some ao := by rw [hTp, List.getElem?_take_of_lt hip]; exact hao
       obtain ⟨u, hu⟩ : ∃ u, T.us[i]? = some u := ⟨T.us[i], List.getElem?_eq_getElem (by omega)⟩
       obtain ⟨q1, q2, q3⟩ := prepR_spec hpo
       have hnext : ∀ (v : Value) (w' : World) (M' : Mem), Mem.le M M' → MR X M' (T.at_ T.pre.length).σ w' → Rep M' v u.v → (M'.fr = fun k => if (T.at_ i).fr.length ≤ k ∧ k < (T.at_ i).fr.length + u.nt.length then u.nt[k - (T.at_ i).fr.length]? else M.fr k) →
           (∀ l, l ≠ (T.at_ i).box.length → M'.μ l = M.μ l) → (u.nb = none → M'.μ = M.μ) → (u.nb ≠ none → M'.μ (T.at_ i).box.length ≠ none) → wpAny X.P .any ops (Post X K) fuel (listed.setIfInBounds i true) (a.put o.dst v) w' := fun v w' M' g1 g2 g3 g4 g5 g6 g7 => by
         refine ih _ _ _ hfuel (by simp [hsz]) hcl' (.inl ⟨M', ?_, fun j hj => ?_⟩)
         · rw [q3]
           exact pinv_step hlen hone hio hu hLi hL' hP g1 g2 g3 g4 g5 g6 g7
         · rw [hL', if_neg (by omega)]
           exact htl j hj
       have hslot : ∀ t ∈ namesOf ops o, Rep M (a.tmps.getD t undef) ((T.at_ i).get t) := fun t ht => by
         refine pinv_slot hlen hone hP (by omega) hLi fun j oj hoj hdj hji => ?_
         obtain ⟨hj, hoj'⟩ := hpre hoj
         obtain ⟨x, k1, k2⟩ := prep_at hp hl hoj'
         rcases hO.names i hip t (by unfold nmAt; rw [ho]; exact List.mem_append_left _ ht) j hj (by unfold dsAt; rw [k1]; show x.dst = _; rw [(prepR_spec k2).2.2]; exact hdj) hji with ⟨c1, c2⟩ | ⟨c1, c2⟩
         · exact .inl ⟨c1, hanc j c2⟩
         · refine .inr ⟨c1, ?_⟩
           cases hlj : listed.getD j false with
           | false => rfl
           | true =>
             have := anc_listed2 hO.edge (L := fun i => listed.getD i false) hcl (j + 1) j (by omega) x k1 (fun e he hb => hcl j x k1 hlj e he hb) i c2
             rw [hLi] at this
             cases this
       have hg := t2' i ao u hio hu
       unfold wpOp
       rw [ho]
       simp only
       have hgd : ∀ d b, ao.guard = some (d, b) → ∃ g, o.guard = some (g, b) ∧ (ops[g]?).bind (·.dst) = some d ∧ d ∈ namesOf ops o := fun d b hgo => by
         rw [hgo] at q2
         cases hog : o.guard with
         | none => rw [hog] at q2; cases q2
         | some x =>
           obtain ⟨g, b'⟩ := x
           rw [hog] at q2
           obtain ⟨d', hd', e⟩ := Option.map_eq_some_iff.1 q2
           injection e with e
           injection e with e1 e2
           subst e1 e2
           refine ⟨g, rfl, hd', ?_⟩
           unfold namesOf
           rw [hog]
           simp only
           rw [hd']
           simp
       rcases hg with ⟨hgy, hq⟩ | ⟨⟨d, b, hgo, hdv⟩, hus⟩
       · have hw : Region.wanted o (yielded ops a.tmps) = true := by
           rcases hgy with hgo | ⟨d, b, hgo, hdv⟩
           · have : o.guard = none := by
               rw [hgo] at q2
               cases hog : o.guard with
               | none => rfl
               | some x =>
                 rw [hog] at q2
                 obtain ⟨_, _, e⟩ := Option.map_eq_some_iff.1 q2
                 cases e
             simp [Region.wanted, this]
           · obtain ⟨g, c1, c2, c3⟩ := hgd d b hgo
             have := (yields_of c2 (hslot d c3)).1 b hdv
             simp [Region.wanted, c1, this]
         rw [if_pos hw]
         left
         have hnl : u.nb ≠ none → M.μ (T.at_ i).box.length = none := fun hn => (hP.bxd i u (by omega) hu hn).2 hLi
         have hnt : ∀ k, k < u.nt.length → M.fr ((T.at_ i).fr.length + k) = none := fun k hk => (hP.frd i u (by omega) hu k hk).2 hLi
         have hnb : ∀ b, u.nb = some b → (T.at_ T.pre.length).σ (T.at_ i).box.length = some b := fun b hb => by
           refine tx_sigma hlen (i := i + 1) (by omega) (Nat.le_refl _) ?_
           show (T.at_ (i + 1)).box[_]? = _
           rw [(tx_box_new hlen (by omega) hu).1, hb]
           simp
         refine q_ok hP.mr (prepOp_quiet q1 (List.all_eq_true.1 hquiet ao (List.mem_of_getElem? (by rw [List.getElem?_take_of_lt hip]; exact hao)))) hq (fun l b hb => tx_sigma hlen (i := i) (by omega) (Nat.le_refl _) hb) (fun x hx ax hax => ?_) hnl hnb hnt (fun v w' M' g => hnext v w' M' g.le g.mr g.rep g.fr g.μ g.μ0 g.μ1)
         cases x with
         | tmp t =>
           simp only [axOf, Option.some.injEq] at hax
           subst hax
           refine hslot t ?_
           unfold namesOf looks
           refine List.mem_append_left _ ?_
           rw [List.mem_filterMap]
           exact ⟨_, hx, rfl⟩
         | const v =>
           simp only [axOf] at hax
           obtain ⟨b, hb, rfl⟩ := Option.map_eq_some_iff.1 hax
           exact avOf_rep hb
         | func f =>
           simp only [axOf, Option.some.injEq] at hax
           subst hax
           exact .fn f [] [] rfl (fun i h => absurd h (by simp))
         | global g =>
           obtain ⟨b, rfl, hb⟩ := gam_rep hP.mr.kg (show gamAX g = some ax from hax)
           exact hb
       · obtain ⟨g, c1, c2, c3⟩ := hgd d b hgo
         have hy := yields_of c2 (hslot d c3)
         have hw : Region.wanted o (yielded ops a.tmps) = false := by
           rcases hdv with hdv | hdv
           · have := hy.1 _ hdv
             simp [Region.wanted, c1, this]
           · have := hy.2 hdv
             simp [Region.wanted, c1, this]
         rw [if_neg (by rw [hw]; exact Bool.false_ne_true)]
         subst hus
         refine hnext undef w M (.refl M) hP.mr .nov ?_ (fun _ _ => rfl) (fun _ => rfl) (fun e => absurd rfl e)
         funext k
         rw [if_neg (fun q => by have q2 := q.2; have q1 := q.1; simp only [skipOut, List.length_nil] at q2; omega)]
     · -- in the part whose order is bound
       have hearl : ∀ j, j < i → ¬ (p ≤ j ∧ j < p') → listed.getD j false = true := fun j hj hn => hanc j (hO.tail i his (by omega) j hj hn)
       exact bound listed a w i o ao hsz his hLi ho hao hpo (by omega) hanc hearl (toTwo listed a w hsz (fun j hj => hearl j (by omega) (by omega)) hI) fun a' w' hJ' => ih _ _ _ hfuel (by simp [hsz]) hcl' (.inr hJ')
 refine main _ _ _ _ ?_ (by simp) (fun i o ho hli => ?_) (.inl ⟨M, ?_, fun i hi => ?_⟩)
 · refine Nat.le_trans (List.length_filter_le _ _) (by simp)
 · simp only [Array.getD_eq_getD_getElem?, Array.getElem?_replicate] at hli
   split at hli <;> simp at hli
 · have hfalse : ∀ i, (Array.replicate ops.size false).getD i false = false := fun i => by
     simp only [Array.getD_eq_getD_getElem?, Array.getElem?_replicate]
     split <;> rfl
   have hmr : MR X M (T.at_ T.pre.length).σ { w with drawn := w.drawn + 1 } := by
     have := (h.mr.ext (σ' := (T.at_ T.pre.length).σ) (fun l b hb => tx_sigma hlen (i := 0) (Nat.zero_le _) (Nat.le_refl _) hb))
     exact ⟨this.kap, this.old, ⟨this.bel.os, this.bel.tape, this.bel.output, this.bel.size, this.bel.block⟩, this.hb, this.box, this.inj, this.tok, this.tinj, this.prot⟩
   refine ⟨hmr, h.boxes, fun i u hi hu hn => ⟨fun e => (by rw [hfalse] at e; cases e), fun _ => ?_⟩, fun k hk => by rw [h.fr]; rfl, fun i u hi hu k hk => ⟨fun e => (by rw [hfalse] at e; cases e), fun _ => ?_⟩, fun k hk => ?_, fun i o u t _ _ _ e => (by rw [hfalse] at e; cases e), fun t _ => h.tmps t, h.defers, h.size, h.pp⟩
   · refine mu_none h ?_
     obtain ⟨bs, fs, e1, _⟩ := tx_more hlen (T := T) (i := 0) (j := i) (by omega) (by omega)
     have e1 : (T.at_ i).box = T.s.box ++ bs := e1
     rw [e1]
     simp
   · rw [h.fr]
     refine List.getElem?_eq_none ?_
     obtain ⟨bs, fs, _, e1⟩ := tx_more hlen (T := T) (i := 0) (j := i) (by omega) (by omega)
     have e1 : (T.at_ i).fr = T.s.fr ++ fs := e1
     rw [e1]
     simp
     omega
   · rw [h.fr] at hk
     have hk : T.s.fr[k]? ≠ none := hk
     have hlt : k < T.s.fr.length := by
       rcases Nat.lt_or_ge k T.s.fr.length with c | c
       · exact c
       · exact absurd (List.getElem?_eq_none c) hk
     obtain ⟨bs, fs, _, e1⟩ := tx_more hlen (T := T) (i := 0) (j := T.pre.length) (by omega) (by omega)
     have e1 : (T.at_ T.pre.length).fr = T.s.fr ++ fs := e1
     rw [e1]
     simp
     omega
 · simp only [Array.getD_eq_getD_getElem?, Array.getElem?_replicate]
   split <;> rfl
end
end Go.Proofs.YtibploaibljcmaaGreatDoor
