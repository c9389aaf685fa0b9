import Derived.Test.YtibploaibljcmaaGreatDoorAv13
namespace Go.Proofs.YtibploaibljcmaaGreatDoor
open Go.RowKit
set_option linter.unusedVariables false
set_option linter.unusedSimpArgs false
set_option maxHeartbeats 1000000
inductive RV where
 | tmp (t : Nat)
 | cell (t : Nat) (n : Option Nat)
structure AF where
 body : AC
 n : Nat
 res : List RV
def rvOf (P : Program) : ResultVar → Option RV
 | .tmp t => some (.tmp t)
 | .cell a t => (aggSize P t).map (.cell a)
def prepFunc (P : Program) (f : FuncId) : Option AF :=
 match P.funcs[f]? with
 | some fn =>
   match fn.body with
   | some c =>
     match prepCode P c, fn.results.toList.mapM (rvOf P) with
     | some ac, some rs => some ⟨ac, fn.ntmps, rs⟩
     | _, _ => none
   | none => none
 | none => none
def argsTm : Nat → List AV → List (Nat × AV)
 | _, [] => []
 | i, a :: as => (i, a) :: argsTm (i + 1) as
def AF.init (af : AF) (as : List AV) : St := { n := af.n, tm := argsTm 0 as, box := [], fr := [] }
def resOf (s : St) : RV → Option AV
 | .tmp t => some (s.get t)
 | .cell t n =>
   match s.get t with
   | .ptr l off =>
     match s.box[l]? with
     | some p => if p.1 < 1099511627776 then ldAt n p.2 off else none
     | none => none
   | _ => none
def resL (s : St) : List RV → Option (List AV)
 | [] => some []
 | r :: rs =>
   match resOf s r, resL s rs with
   | some a, some as => some (a :: as)
   | _, _ => none
def LeA (a b : AV) : Prop := ∀ (M : Mem) (v : Value), Rep M v a → Rep M v b
def LeL : List AV → List AV → Prop
 | [], [] => True
 | a :: as, b :: bs => LeA a b ∧ LeL as bs
 | _, _ => False
theorem le_same (a : AV) : LeA a a := fun _ _ h => h
theorem le_imm {t : Tag} {sz sz' : Nat} {xs : List AV} (h0 : sz = sz' ∨ xs.length = 0) : LeA (.slice t sz xs) (.slice .imm sz' xs) := fun M v h => by
 have h := rep_sz h h0
 cases h with
 | slice _ A n c _ vs _ hl hn hc hm hs hA hr ht => exact .slice .imm A n c sz' vs xs hl hn hc hm hs hA hr trivial
theorem leL_reps : ∀ {as bs : List AV}, LeL as bs → ∀ {M : Mem} {vs : List Value}, Reps M vs as → Reps M vs bs
 | [], [], _, _, _, h => h
 | a :: as, b :: bs, h, M, [], k => absurd k.1 (by simp)
 | a :: as, b :: bs, h, M, v :: vs, k => by
   obtain ⟨k1, k2⟩ := reps_uncons k
   exact reps_cons (h.1 M v k1) (leL_reps h.2 k2)
 | [], _ :: _, h, _, _, _ => h.elim
 | _ :: _, [], h, _, _, _ => h.elim
theorem le_agg {as bs : List AV} (h : LeL as bs) : LeA (.agg as) (.agg bs) := fun M v k => by
 cases k with
 | agg vs _ hl h1 hr =>
   have := leL_reps h ⟨hl, hr⟩
   exact .agg vs bs this.1 h1 this.2
inductive RetA (fr : List (TypeId × Nat)) (ks : List Nat) : AV → AV → Prop
 | same (a : AV) (h : pur a = true) : RetA fr ks a a
 | imm (t : Tag) (sz : Nat) (xs : List AV) (h : purL xs = true) : RetA fr ks (.slice t sz xs) (.slice .imm sz xs)
 | app (k i : Nat) (sz : Nat) (xs : List AV) (h : purL xs = true) (hk : ks[i]? = some k) (hf : k < fr.length) : RetA fr ks (.slice (.app k) sz xs) (.slice (.app i) sz xs)
 | le (a b : AV) (h : LeA a b) (hp : pur b = true) : RetA fr ks a b
def RetL (fr : List (TypeId × Nat)) (ks : List Nat) : List AV → List AV → Prop
 | [], [] => True
 | a :: as, c :: cs => RetA fr ks a c ∧ RetL fr ks as cs
 | _, _ => False
def one? : List AV → AV
 | [a] => a
 | as => .tup as
def RetOk (res : List RV) (r : AV) (rfr : List (TypeId × Nat)) (e : Exit) (s : St) : Prop :=
 (match e with | .normal => True | .ret => True | _ => False) ∧
 ∃ as bs ks, resL s res = some as ∧ RetL s.fr ks as bs ∧ r = one? bs ∧ ks.Nodup ∧ ks.map (fun k => s.fr[k]?) = rfr.map some
theorem getT_args : ∀ (as : List AV) (i t : Nat), getT (argsTm i as) t = if i ≤ t then (as[t - i]?).getD .und else .und
 | [], i, t => by simp [argsTm, getT]
 | a :: as, i, t => by
   simp only [argsTm, getT]
   rw [getT_args as (i + 1) t]
   by_cases h : i = t
   · subst h
     simp
   · rw [if_neg h]
     by_cases h2 : i + 1 ≤ t
     · rw [if_pos h2, if_pos (by omega)]
       have : t - i = (t - (i + 1)) + 1 := by omega
       rw [this, List.getElem?_cons_succ]
     · rw [if_neg h2, if_neg (by omega)]
theorem retA_rep {M : Mem} {fr : List (TypeId × Nat)} (hfr : M.fr = fun k => fr[k]?) {ks : List Nat} {rfr : List (TypeId × Nat)} (hks : ks.map (fun k => fr[k]?) = rfr.map some) {v : Value} {a b : AV} (h : RetA fr ks a b) (k : Rep M v a) :
   RepR1 { κ := M.κ, μ := fun _ => none, β := fun i => (ks[i]?).bind M.β, fr := fun i => rfr[i]? } v b := by
 have hk' : ∀ (i k : Nat), ks[i]? = some k → rfr[i]? = fr[k]? := fun i k hi => by
   have := congrArg (fun l : List (Option (TypeId × Nat)) => l[i]?) hks
   simp only [List.getElem?_map, hi, Option.map_some] at this
   cases hr : rfr[i]? with
   | none => rw [hr] at this; cases this
   | some p => rw [hr] at this; simpa using this.symm
 cases h with
 | same a hp =>
   have := rep_pur k hp
   unfold RepR1
   split
   · simp [pur] at hp
   · exact this
 | imm t sz xs hp =>
   cases k with
   | slice _ A n c _ vs _ hl hn hc hm hs hA hr ht =>
     exact .slice .imm A n c sz vs xs hl hn hc hm hs hA (fun i h1 h2 => rep_pur (M := M) (hr i h1 h2) (purL_get hp i h2)) trivial
 | app k i sz xs hp hk hf =>
   cases k with
   | slice _ A n c _ vs _ hl hn hc hm hs hA hr ht =>
     refine ⟨.slice .imm A n c sz vs xs hl hn hc hm hs hA (fun i h1 h2 => rep_pur (M := M) (hr i h1 h2) (purL_get hp i h2)) trivial, fun A' n' c' e => ?_⟩
     injection e with e1 e2 e3
     subst e1 e2 e3
     obtain ⟨e, f, t1, t2, t3⟩ := ht
     refine ⟨e, f, ?_, t2, fun q => (t3 q).imp id fun ⟨g, g1, g2⟩ => ⟨g, g1, ?_⟩⟩
     · show rfr[i]? = _
       rw [hk' i k hk]
       rw [hfr] at t1
       exact t1
     · show (ks[i]?).bind M.β = _
       rw [hk]
       exact g2
 | le a b hle hp =>
   have := rep_pur (hle M v k) hp
   unfold RepR1
   split
   · simp [pur] at hp
   · exact this
theorem retL_rep {M : Mem} {fr : List (TypeId × Nat)} (hfr : M.fr = fun k => fr[k]?) {ks : List Nat} {rfr : List (TypeId × Nat)} (hks : ks.map (fun k => fr[k]?) = rfr.map some) : ∀ {vs : List Value} {as bs : List AV}, RetL fr ks as bs → Reps M vs as →
   vs.length = bs.length ∧ ∀ (i : Nat) (h1 : i < vs.length) (h2 : i < bs.length), RepR1 { κ := M.κ, μ := fun _ => none, β := fun i => (ks[i]?).bind M.β, fr := fun i => rfr[i]? } vs[i] bs[i]
 | vs, [], [], _, k => ⟨k.1, fun i h1 h2 => absurd h2 (by simp)⟩
 | [], a :: as, b :: bs, _, k => absurd k.1 (by simp)
 | v :: vs, a :: as, b :: bs, h, k => by
   obtain ⟨k1, k2⟩ := reps_uncons k
   obtain ⟨g1, g2⟩ := retL_rep hfr hks h.2 k2
   refine ⟨by simp [g1], fun i h1 h2 => ?_⟩
   cases i with
   | zero => exact retA_rep hfr hks h.1 k1
   | succ i => exact g2 i (by simpa using h1) (by simpa using h2)
 | _, [], _ :: _, h, _ => h.elim
 | _, _ :: _, [], h, _ => h.elim
theorem run_results {X : Cx} {s : St} {a : Act} {w : World} {M : Mem} (h : StR X s a w M) : ∀ {rs : List ResultVar} {qs : List RV} {as : List AV}, rs.mapM (rvOf X.P) = some qs → resL s qs = some as →
   ∃ vs : List Value, (rs.mapM fun r => (match r with | .tmp t => pure (a.tmps.getD t undef) | .cell p t => do loadVar t (← asAddr (a.tmps.getD p undef)) : Sem Value)).run X.P w = .ok vs w ∧ Reps M vs as
 | [], qs, as, h1, h2 => by
   simp at h1
   subst h1
   simp only [resL, Option.some.injEq] at h2
   subst h2
   exact ⟨[], by simp, reps_nil⟩
 | r :: rs, qs, as, h1, h2 => by
   rw [List.mapM_cons] at h1
   cases hr : rvOf X.P r with
   | none => simp [hr] at h1
   | some q =>
     cases hrs : rs.mapM (rvOf X.P) with
     | none => simp [hr, hrs] at h1
     | some qs' =>
       simp [hr, hrs] at h1
       subst h1
       simp only [resL] at h2
       split at h2
       rotate_left
       · cases h2
       rename_i b bs hb hbs
       injection h2 with h2
       subst h2
       obtain ⟨vs, g1, g2⟩ := run_results h hrs hbs
       have key : ∃ v, ((match r with | .tmp t => pure (a.tmps.getD t undef) | .cell p t => do loadVar t (← asAddr (a.tmps.getD p undef)) : Sem Value)).run X.P w = .ok v w ∧ Rep M v b := by
         cases r with
         | tmp t =>
           simp only [rvOf, Option.some.injEq] at hr
           subst hr
           simp only [resOf, Option.some.injEq] at hb
           subst hb
           exact ⟨_, rfl, h.tmps t⟩
         | cell p t =>
           simp only [rvOf] at hr
           obtain ⟨n, hn, rfl⟩ := Option.map_eq_some_iff.1 hr
           simp only [resOf] at hb
           split at hb
           rotate_left
           · cases hb
           rename_i l off hp
           split at hb
           rotate_left
           · cases hb
           rename_i pp hpp
           split at hb
           rotate_left
           · cases hb
           rename_i hT
           have hrep := h.tmps p
           rw [hp] at hrep
           have hq := run_ld h.mr (fun l b h => h) hn hrep (a := b) (by
             show (match s.box[l]? with
               | some (T, cs) => if T < 1099511627776 then (ldAt n cs off).map fun a => (a, (none : Option (TypeId × List AV))) else none
               | none => none) = _
             rw [hpp]
             simp [hb, hT])
           obtain ⟨u, hu, hru⟩ := hq
           refine ⟨u, ?_, hru⟩
           obtain ⟨g, hx⟩ : ∃ g, a.tmps.getD p undef = .pointer (some ⟨g, off, none⟩) := by
             generalize a.tmps.getD p undef = x at hrep
             cases hrep
             exact ⟨_, rfl⟩
           rw [hx] at hu
           simp only [hx, asAddr, Sem.run_bind, Sem.run_pure, Result.andThen_ok]
           simpa [Instr.loadAt, Instr.sureAddr] using hu
       obtain ⟨v, k1, k2⟩ := key
       refine ⟨v :: vs, ?_, reps_cons k2 g2⟩
       rw [List.mapM_cons]
       simp only [Sem.run_bind, k1, Result.andThen_ok, g1, Sem.run_pure]
theorem act_of {P : Program} {f : FuncId} {af : AF} (hf : prepFunc P f = some af ∧ hasBody P f = true) {as : List AV} {r : AV} {rfr : List (TypeId × Nat)} (hn : as.length ≤ af.n) (h : AW P af.body (RetOk af.res r rfr) { n := af.n, tm := argsTm 0 as, box := [], fr := [] }) : ACt P f as r rfr := by
 obtain ⟨hf, hbd⟩ := hf
 refine ⟨hbd, ?_⟩
 intro w κ args hκ hargs hg
 unfold prepFunc at hf
 split at hf
 rotate_left
 · cases hf
 rename_i fn hfn
 split at hf
 rotate_left
 · cases hf
 rename_i c hc
 split at hf
 rotate_left
 · cases hf
 rename_i ac rs hac hrs
 injection hf with hf
 subst hf
 have hsz : args.size = as.length := by rw [← Array.length_toList]; exact hargs.1
 let X : Cx := ⟨P, w.heap.size, κ, w, M0 κ, hg⟩
 have hmr : MR X (M0 κ) (fun l => ([] : List (TypeId × List AV))[l]?) w :=
   ⟨hκ, fun _ _ => rfl, Below.refl _ _, Nat.le_refl _, (fun l g hg => by cases hg), (fun l l' g hg => by cases hg), (fun s g c hs => by cases hs), (fun s s' g c c' hs => by cases hs), .refl _⟩
 have hst : StR X (AF.init ⟨ac, fn.ntmps, rs⟩ as) { tmps := args ++ Array.replicate (fn.ntmps - args.size) undef, defers := [] } w (M0 κ) := by
   refine ⟨hmr, fun l hl => absurd hl (by simp [AF.init]), by funext k; simp [M0, AF.init, St.τ], rfl, by simp [AF.init]; have hn : as.length ≤ fn.ntmps := hn; omega, fun t => ?_, (fun l h => absurd rfl h), (fun k h => absurd rfl h)⟩
   show Rep _ _ (getT (argsTm 0 as) t)
   rw [getT_args]
   simp only [Nat.zero_le, if_true, Nat.sub_zero]
   cases ha : as[t]? with
   | none => exact .und _
   | some x =>
     obtain ⟨v, hv, hr⟩ := reps_get hargs ha
     have hlt : t < args.size := by rw [hsz]; exact (List.getElem?_eq_some_iff.1 ha).1
     have : (args ++ Array.replicate (fn.ntmps - args.size) undef).getD t undef = v := by
       rw [Array.getD_eq_getD_getElem?, Array.getElem?_append_left hlt]
       have : args[t]? = some v := by simpa using hv
       rw [this]
       rfl
     rw [this]
     exact hr
 refine calls_of_wp hfn hc (wp_mono (h X c rfl hac _ w (M0 κ) hst) fun e a w' hq => ?_)
 obtain ⟨s, M, ⟨he, as', bs, ks, h1, h2, rfl, h4, h5⟩, hs⟩ := hq
 obtain ⟨vs, g1, g2⟩ := run_results hs hrs h1
 have hres : (results fn a.tmps).run P w' = .ok (if h : vs.toArray.size = 1 then vs.toArray[0] else .tuple vs.toArray) w' := by
   unfold results
   rw [Sem.run_bind, ← Array.toArray_toList (xs := fn.results), List.mapM_toArray]
   have g1' : Sem.run P (fn.results.toList.mapM fun r => (match r with | .tmp t => pure (a.tmps.getD t undef) | .cell p t => do loadVar t (← asAddr (a.tmps.getD p undef)) : Sem Value)) w' = .ok vs w' := g1
   simp only [Sem.run_map, Sem.run_pure]
   exact congrArg (fun r : Result (List Value) => (r.andThen fun a w' => Result.ok a.toArray w').andThen fun a w' => Result.ok (if h : a.size = 1 then a[0] else Value.tuple a) w') g1'
 obtain ⟨k1, k2⟩ := retL_rep hs.fr h5 h2 g2
 have hfin : MR ⟨P, w.heap.size, κ, w, M0 κ, hg⟩ { κ := M.κ, μ := fun _ => none, β := fun i => (ks[i]?).bind M.β, fr := fun i => rfr[i]? } (fun _ => none) w' := by
   refine ⟨hs.mr.kap, hs.mr.old, hs.mr.bel, hs.mr.hb, (fun l g hg => by cases hg), (fun l l' g hg => by cases hg), fun i g c hi => ?_, fun i j g c c' hi hj => ?_, ⟨hs.mr.prot.κ, (fun l g hl => by cases hl), (fun k e f hk => by cases hk)⟩⟩
   · have hi : (ks[i]?).bind M.β = some (g, c) := hi
     obtain ⟨k, hk, hb⟩ := Option.bind_eq_some_iff.1 hi
     obtain ⟨q1, q2, e, n, ii, cells, q3, q4⟩ := hs.mr.tok k g c hb
     refine ⟨q1, (fun l hl => by cases hl), e, n, ii, cells, ?_, q4⟩
     have := congrArg (fun l : List (Option (TypeId × Nat)) => l[i]?) h5
     simp only [List.getElem?_map, hk, Option.map_some] at this
     show rfr[i]? = _
     rw [hs.fr] at q3
     have q3 : s.fr[k]? = some (e, n) := q3
     rw [q3] at this
     cases hr : rfr[i]? with
     | none => rw [hr] at this; cases this
     | some p => rw [hr] at this; simpa using this.symm
   · have hi : (ks[i]?).bind M.β = some (g, c) := hi
     have hj : (ks[j]?).bind M.β = some (g, c') := hj
     obtain ⟨k, hk, hb⟩ := Option.bind_eq_some_iff.1 hi
     obtain ⟨k', hk', hb'⟩ := Option.bind_eq_some_iff.1 hj
     have := hs.mr.tinj k k' g c c' hb hb'
     subst this
     obtain ⟨hi1, hi2⟩ := List.getElem?_eq_some_iff.1 hk
     obtain ⟨hj1, hj2⟩ := List.getElem?_eq_some_iff.1 hk'
     rcases Nat.lt_trichotomy i j with q | q | q
     · exact absurd (hi2.trans hj2.symm) (List.pairwise_iff_getElem.1 h4 i j hi1 hj1 q)
     · exact q
     · exact absurd (hj2.trans hi2.symm) (List.pairwise_iff_getElem.1 h4 j i hj1 hi1 q)
 have hpost : a.defers = [] ∧ ∃ v, (results fn a.tmps).run P w' = .ok v w' ∧ ∃ v1 M', Ending.returned v = .returned v1 ∧ MR ⟨P, w.heap.size, κ, w, M0 κ, hg⟩ M' (fun _ => none) w' ∧ (M'.fr = fun s => rfr[s]?) ∧ RepR M' v1 (one? bs) := by
   refine ⟨hs.defers, _, hres, _, _, rfl, hfin, rfl, ?_⟩
   rcases bs with _ | ⟨b, _ | ⟨b', bs⟩⟩
   · have hne : ¬ vs.toArray.size = 1 := fun e => by
       have : vs.length = 1 := by simpa using e
       rw [k1] at this
       cases this
     rw [dif_neg hne]
     exact ⟨vs, rfl, k1, k2⟩
   · have hsz1 : vs.toArray.size = 1 := by simpa using k1
     rw [dif_pos hsz1]
     have hv1 : vs.length = 1 := by simpa using k1
     have := k2 0 (by omega) (by simp)
     have hv : vs.toArray[0] = vs[0] := by simp
     rw [hv]
     show RepR _ _ b
     have h0 : RepR1 _ _ b := this
     cases b with
     | tup rs' =>
       unfold RepR1 at h0
       simp only at h0
       generalize vs[0] = x at h0
       cases h0 with
       | tup us _ hl hr => exact ⟨us, rfl, hl, fun i h1 h2 => by
           have := hr i h1 h2
           unfold RepR1
           split
           · rename_i hb
             rw [hb] at this
             generalize us[i] = y at this
             cases this with
             | slice _ A n c _ vs' _ _ _ _ _ _ _ _ ht => obtain ⟨e, f, ht, _⟩ := ht; cases ht
           · exact this⟩
     | _ => exact h0
   · have hne : ¬ vs.toArray.size = 1 := fun e => by
       have : vs.length = 1 := by simpa using e
       rw [k1] at this
       simp at this
     rw [dif_neg hne]
     exact ⟨vs, rfl, k1, k2⟩
 cases e with
 | normal => exact hpost
 | ret => exact hpost
 | exit id => exact he.elim
 | goto l => exact he.elim
 | panic c => exact he.elim
 | outgrown => exact he.elim
def RetS (res : List RV) (Q : AV → List (TypeId × List AV) → List (TypeId × Nat) → Prop) (e : Exit) (s : St) : Prop :=
 (match e with | .normal => True | .ret => True | _ => False) ∧ ∃ as, resL s res = some as ∧ Q (one? as) s.box s.fr
theorem acs_of {P : Program} {f : FuncId} {af : AF} (hf : prepFunc P f = some af ∧ hasBody P f = true) {as : List AV} {B : List (TypeId × List AV)} {F : List (TypeId × Nat)} {Q : AV → List (TypeId × List AV) → List (TypeId × Nat) → Prop}
   (hn : as.length ≤ af.n) (h : AW P af.body (RetS af.res Q) { n := af.n, tm := argsTm 0 as, box := B, fr := F, p := (B.length, F.length) }) : ACs P f as B F Q := by
 obtain ⟨hf, hbd⟩ := hf
 refine ⟨hbd, ?_⟩
 intro X w M args hX hm hbx hfr hargs
 subst hX
 unfold prepFunc at hf
 split at hf
 rotate_left
 · cases hf
 rename_i fn hfn
 split at hf
 rotate_left
 · cases hf
 rename_i c hc
 split at hf
 rotate_left
 · cases hf
 rename_i ac rs hac hrs
 injection hf with hf
 subst hf
 have hsz : args.size = as.length := by rw [← Array.length_toList]; exact hargs.1
 let X' : Cx := { X with M1 := M, gk := hm.kg }
 have hmr : MR X' M (fun l => B[l]?) w := ⟨hm.kap, hm.old, hm.bel, hm.hb, hm.box, hm.inj, hm.tok, hm.tinj, .refl _⟩
 have hst : StR X' { n := fn.ntmps, tm := argsTm 0 as, box := B, fr := F, p := (B.length, F.length) } { tmps := args ++ Array.replicate (fn.ntmps - args.size) undef, defers := [] } w M := by
   refine ⟨hmr, hbx, hfr, rfl, by simp; have hn : as.length ≤ fn.ntmps := hn; omega, fun t => ?_, fun l hl => ?_, fun k hk => ?_⟩
   · show Rep _ _ (getT (argsTm 0 as) t)
     rw [getT_args]
     simp only [Nat.zero_le, if_true, Nat.sub_zero]
     cases ha : as[t]? with
     | none => exact .und _
     | some x =>
       obtain ⟨v, hv, hr⟩ := reps_get hargs ha
       have hlt : t < args.size := by rw [hsz]; exact (List.getElem?_eq_some_iff.1 ha).1
       have : (args ++ Array.replicate (fn.ntmps - args.size) undef).getD t undef = v := by
         rw [Array.getD_eq_getD_getElem?, Array.getElem?_append_left hlt]
         have : args[t]? = some v := by simpa using hv
         rw [this]
         rfl
       rw [this]
       exact hr
   · show l < B.length
     have hl : M.μ l ≠ none := hl
     cases hg : M.μ l with
     | none => exact absurd hg hl
     | some g =>
       obtain ⟨_, _, T, cs, k, _⟩ := hm.box l g hg
       exact (List.getElem?_eq_some_iff.1 (show B[l]? = some (T, cs) from k)).1
   · show k < F.length
     have hk : M.fr k ≠ none := hk
     rw [hfr] at hk
     rcases Nat.lt_or_ge k F.length with q | q
     · exact q
     · exact absurd (List.getElem?_eq_none q) hk
 refine calls_of_wp hfn hc (wp_mono (h X' c rfl hac _ w M hst) fun e a w' hq => ?_)
 obtain ⟨s, M', ⟨he, as', h1, h2⟩, hs⟩ := hq
 obtain ⟨vs, g1, g2⟩ := run_results hs hrs h1
 have hres : (results fn a.tmps).run X.P w' = .ok (if h : vs.toArray.size = 1 then vs.toArray[0] else .tuple vs.toArray) w' := by
   unfold results
   rw [Sem.run_bind, ← Array.toArray_toList (xs := fn.results), List.mapM_toArray]
   have g1' : Sem.run X.P (fn.results.toList.mapM fun r => (match r with | .tmp t => pure (a.tmps.getD t undef) | .cell p t => do loadVar t (← asAddr (a.tmps.getD p undef)) : Sem Value)) w' = .ok vs w' := g1
   simp only [Sem.run_map, Sem.run_pure]
   exact congrArg (fun r : Result (List Value) => (r.andThen fun a w' => Result.ok a.toArray w').andThen fun a w' => Result.ok (if h : a.size = 1 then a[0] else Value.tuple a) w') g1'
 have hfin : MR X M' (fun l => s.box[l]?) w' := ⟨hs.mr.kap, hs.mr.old, hs.mr.bel, hs.mr.hb, hs.mr.box, hs.mr.inj, hs.mr.tok, hs.mr.tinj, hm.prot.trans hs.mr.prot⟩
 have hrep : Rep M' (if h : vs.toArray.size = 1 then vs.toArray[0] else .tuple vs.toArray) (one? as') := by
   rcases as' with _ | ⟨b, _ | ⟨b', bs⟩⟩
   · have hne : ¬ vs.toArray.size = 1 := fun e => by
       have : vs.length = 1 := by simpa using e
       rw [g2.1] at this
       cases this
     rw [dif_neg hne]
     exact .tup vs _ g2.1 g2.2
   · have hsz1 : vs.toArray.size = 1 := by simpa using g2.1
     rw [dif_pos hsz1]
     have hv1 : vs.length = 1 := by simpa using g2.1
     have := g2.2 0 (by omega) (by simp)
     show Rep M' vs.toArray[0] b
     simpa using this
   · have hne : ¬ vs.toArray.size = 1 := fun e => by
       have : vs.length = 1 := by simpa using e
       rw [g2.1] at this
       simp at this
     rw [dif_neg hne]
     exact .tup vs _ g2.1 g2.2
 have hpost : a.defers = [] ∧ ∃ v, (results fn a.tmps).run X.P w' = .ok v w' ∧ ∃ v1 M1 r B' F', Ending.returned v = .returned v1 ∧ Q r B' F' ∧ MR X M1 (fun l => B'[l]?) w' ∧ (∀ l, l < B'.length → M1.μ l ≠ none) ∧ (M1.fr = fun k => F'[k]?) ∧ Mem.le M M1 ∧ Rep M1 v1 r :=
   ⟨hs.defers, _, hres, _, M', _, _, _, rfl, h2, hfin, hs.boxes, hs.fr, hs.mr.prot, hrep⟩
 cases e with
 | normal => exact hpost
 | ret => exact hpost
 | exit id => exact he.elim
 | goto l => exact he.elim
 | panic c => exact he.elim
 | outgrown => exact he.elim
def RetW (res : List RV) (Q : AV → List (TypeId × List AV) → List (TypeId × Nat) → Prop) (e : Exit) (s : St) : Prop :=
 (match e with | .normal => True | .ret => True | _ => False) ∧ ∃ as bs m nt B', resL s res = some as ∧ m ≤ s.fr.length ∧ s.p.2 ≤ m ∧ s.p.1 ≤ B'.length ∧
   WkB m B'.length (s.fr.take m ++ nt) s.box B' ∧ WkC m B'.length (s.fr.take m ++ nt) as bs ∧ Q (one? bs) B' (s.fr.take m ++ nt)
theorem acs_w {P : Program} {f : FuncId} {af : AF} (hf : prepFunc P f = some af ∧ hasBody P f = true) {as : List AV} {B : List (TypeId × List AV)} {F : List (TypeId × Nat)} {Q : AV → List (TypeId × List AV) → List (TypeId × Nat) → Prop}
   (hn : as.length ≤ af.n) (h : AW P af.body (RetW af.res Q) { n := af.n, tm := argsTm 0 as, box := B, fr := F, p := (B.length, F.length) }) : ACs P f as B F Q := by
 obtain ⟨hf, hbd⟩ := hf
 refine ⟨hbd, ?_⟩
 intro X w M args hX hm hbx hfr hargs
 subst hX
 unfold prepFunc at hf
 split at hf
 rotate_left
 · cases hf
 rename_i fn hfn
 split at hf
 rotate_left
 · cases hf
 rename_i c hc
 split at hf
 rotate_left
 · cases hf
 rename_i ac rs hac hrs
 injection hf with hf
 subst hf
 have hsz : args.size = as.length := by rw [← Array.length_toList]; exact hargs.1
 let X' : Cx := { X with M1 := M, gk := hm.kg }
 have hmr : MR X' M (fun l => B[l]?) w := ⟨hm.kap, hm.old, hm.bel, hm.hb, hm.box, hm.inj, hm.tok, hm.tinj, .refl _⟩
 have hst : StR X' { n := fn.ntmps, tm := argsTm 0 as, box := B, fr := F, p := (B.length, F.length) } { tmps := args ++ Array.replicate (fn.ntmps - args.size) undef, defers := [] } w M := by
   refine ⟨hmr, hbx, hfr, rfl, by simp; have hn : as.length ≤ fn.ntmps := hn; omega, fun t => ?_, fun l hl => ?_, fun k hk => ?_⟩
   · show Rep _ _ (getT (argsTm 0 as) t)
     rw [getT_args]
     simp only [Nat.zero_le, if_true, Nat.sub_zero]
     cases ha : as[t]? with
     | none => exact .und _
     | some x =>
       obtain ⟨v, hv, hr⟩ := reps_get hargs ha
       have hlt : t < args.size := by rw [hsz]; exact (List.getElem?_eq_some_iff.1 ha).1
       have : (args ++ Array.replicate (fn.ntmps - args.size) undef).getD t undef = v := by
         rw [Array.getD_eq_getD_getElem?, Array.getElem?_append_left hlt]
         have : args[t]? = some v := by simpa using hv
         rw [this]
         rfl
       rw [this]
       exact hr
   · show l < B.length
     have hl : M.μ l ≠ none := hl
     cases hg : M.μ l with
     | none => exact absurd hg hl
     | some g =>
       obtain ⟨_, _, T, cs, k, _⟩ := hm.box l g hg
       exact (List.getElem?_eq_some_iff.1 (show B[l]? = some (T, cs) from k)).1
   · show k < F.length
     have hk : M.fr k ≠ none := hk
     rw [hfr] at hk
     rcases Nat.lt_or_ge k F.length with q | q
     · exact q
     · exact absurd (List.getElem?_eq_none q) hk
 refine calls_of_wp hfn hc (wp_mono (h X' c rfl hac _ w M hst) fun e a w' hq => ?_)
 obtain ⟨s, M', ⟨he, as0, as', m, nt, B', h1, hm1, hm2, hm3, hwb, hwc, h2⟩, hs⟩ := hq
 obtain ⟨vs, g1, g20⟩ := run_results hs hrs h1
 have hwk : Wk s { n := s.n, tm := [], box := B', fr := s.fr.take m ++ nt, p := s.p } := ⟨rfl, ⟨rfl, hm3⟩, m, nt, rfl, hm1, hm2, trivial, hwb⟩
 have hf : ∀ k, k < m → (s.fr.take m ++ nt)[k]? = M'.fr k := fun k hk => by
   rw [hs.fr, List.getElem?_append_left (by rw [List.length_take]; omega), List.getElem?_take_of_lt hk]
   rfl
 have g2 := wkC_reps hf hwc g20
 have hs := hs.weakM hwk m nt rfl hm1 hm2 trivial hwb
 have hres : (results fn a.tmps).run X.P w' = .ok (if h : vs.toArray.size = 1 then vs.toArray[0] else .tuple vs.toArray) w' := by
   unfold results
   rw [Sem.run_bind, ← Array.toArray_toList (xs := fn.results), List.mapM_toArray]
   have g1' : Sem.run X.P (fn.results.toList.mapM fun r => (match r with | .tmp t => pure (a.tmps.getD t undef) | .cell p t => do loadVar t (← asAddr (a.tmps.getD p undef)) : Sem Value)) w' = .ok vs w' := g1
   simp only [Sem.run_map, Sem.run_pure]
   exact congrArg (fun r : Result (List Value) => (r.andThen fun a w' => Result.ok a.toArray w').andThen fun a w' => Result.ok (if h : a.size = 1 then a[0] else Value.tuple a) w') g1'
 have hfin : MR X _ (fun l => B'[l]?) w' := ⟨hs.mr.kap, hs.mr.old, hs.mr.bel, hs.mr.hb, hs.mr.box, hs.mr.inj, hs.mr.tok, hs.mr.tinj, hm.prot.trans hs.mr.prot⟩
 have hrep : Rep (M'.cut m B'.length fun k => (s.fr.take m ++ nt)[k]?) (if h : vs.toArray.size = 1 then vs.toArray[0] else .tuple vs.toArray) (one? as') := by
   rcases as' with _ | ⟨b, _ | ⟨b', bs⟩⟩
   · have hne : ¬ vs.toArray.size = 1 := fun e => by
       have : vs.length = 1 := by simpa using e
       rw [g2.1] at this
       cases this
     rw [dif_neg hne]
     exact .tup vs _ g2.1 g2.2
   · have hsz1 : vs.toArray.size = 1 := by simpa using g2.1
     rw [dif_pos hsz1]
     have hv1 : vs.length = 1 := by simpa using g2.1
     have := g2.2 0 (by omega) (by simp)
     show Rep _ vs.toArray[0] b
     simpa using this
   · have hne : ¬ vs.toArray.size = 1 := fun e => by
       have : vs.length = 1 := by simpa using e
       rw [g2.1] at this
       simp at this
     rw [dif_neg hne]
     exact .tup vs _ g2.1 g2.2
 have hpost : a.defers = [] ∧ ∃ v, (results fn a.tmps).run X.P w' = .ok v w' ∧ ∃ v1 M1 r B' F', Ending.returned v = .returned v1 ∧ Q r B' F' ∧ MR X M1 (fun l => B'[l]?) w' ∧ (∀ l, l < B'.length → M1.μ l ≠ none) ∧ (M1.fr = fun k => F'[k]?) ∧ Mem.le M M1 ∧ Rep M1 v1 r :=
   ⟨hs.defers, _, hres, _, _, _, _, _, rfl, h2, hfin, hs.boxes, hs.fr, hs.mr.prot, hrep⟩
 cases e with
 | normal => exact hpost
 | ret => exact hpost
 | exit id => exact he.elim
 | goto l => exact he.elim
 | panic c => exact he.elim
 | outgrown => exact he.elim
theorem acs_act {P : Program} {f : FuncId} {as : List AV} {r : AV} {rfr : List (TypeId × Nat)} (h : ACt P f as r rfr) (hp : purL as = true) {B : List (TypeId × List AV)} {F : List (TypeId × Nat)} :
   ACs P f as B F fun r' B' F' => r' = sh F.length r ∧ B' = B ∧ F' = F ++ rfr := by
 refine ⟨h.1, ?_⟩
 intro X w M args hX hm hbx hfr hargs
 subst hX
 have hargs0 : Reps (M0 M.κ) args.toList as := ⟨hargs.1, fun i h1 h2 => rep_pur (hargs.2 i h1 h2) (purL_get hp i h2)⟩
 refine (h.2 w M.κ args hm.kap hargs0 hm.kg).mono ?_
 rintro e w' ⟨v, M', rfl, hm', hf, hrep⟩
 obtain ⟨M'', g1, g2, g3, g4, g5⟩ := hm.called hm' hf (nt := F.length) (fun k hk => by rw [hfr]; exact List.getElem?_eq_none (by omega))
 refine ⟨v, M'', _, B, F ++ rfr, rfl, ⟨rfl, rfl, rfl⟩, g2, fun l hl => by rw [g3]; exact hbx l hl, ?_, g1, g5 v r hrep⟩
 rw [g4, hfr]
 exact tau_more
end Go.Proofs.YtibploaibljcmaaGreatDoor
