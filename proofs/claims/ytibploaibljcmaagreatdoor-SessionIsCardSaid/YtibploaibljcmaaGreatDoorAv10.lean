import Derived.Test.YtibploaibljcmaaGreatDoorAv9e
namespace Go.Proofs.YtibploaibljcmaaGreatDoor
open Go.RowKit
set_option linter.unusedVariables false
set_option linter.unusedSimpArgs false
set_option maxHeartbeats 1000000
structure AO where
 dst : Option Nat
 op : AOp
 guard : Option (Nat × Bool)
 chk : List (Option Nat × AX × Nat) := []
def PrepOp (P : Program) (o : Oper) (ao : AOp) : Prop :=
 (prep P o).getD .bad = ao ∨ (∃ k xs, prepPrim P o = some (k, xs) ∧ ao = .prim k xs) ∨ (∃ f as, prep P o = some (.call f as) ∧ ao = .callS f as) ∨ (∃ x as, prep P o = some (.callv x as) ∧ ao = .callvS x as)
def toS : AOp → AOp
 | .call f as => .callS f as
 | .callv x as => .callvS x as
 | a => a
def AO.toS (o : AO) : AO := { o with op := Go.Proofs.YtibploaibljcmaaGreatDoor.toS o.op }
def guardOf (ops : Array Oper) : Option (Nat × Bool) → Option (Option (Nat × Bool))
 | none => some none
 | some (g, b) => ((ops[g]?).bind (·.dst)).map fun d => some (d, b)
def prepA (P : Program) (o : Oper) : AOp :=
 match prep P o with
 | some a => a
 | none =>
   match prepPrim P o with
   | some p => .prim p.1 p.2
   | none => .bad
theorem prepA_spec {P : Program} {o : Oper} : (prep P o).getD .bad = prepA P o ∨ ∃ k xs, prepPrim P o = some (k, xs) ∧ prepA P o = .prim k xs := by
 unfold prepA
 cases h : prep P o with
 | some a => exact .inl rfl
 | none =>
   cases h2 : prepPrim P o with
   | some p => exact .inr ⟨p.1, p.2, rfl, rfl⟩
   | none => exact .inl rfl
def prepO (P : Program) (ops : Array Oper) (o : Oper) : Option AO :=
 (guardOf ops o.guard).map fun g => ⟨o.dst, prepA P o, g, []⟩
theorem prepO_spec {P : Program} {ops : Array Oper} {o : Oper} {ao : AO} (h : prepO P ops o = some ao) : prepA P o = ao.op ∧ guardOf ops o.guard = some ao.guard ∧ o.dst = ao.dst := by
 obtain ⟨g, hg, rfl⟩ := Option.map_eq_some_iff.1 h
 exact ⟨rfl, hg, rfl⟩
def PrepR (P : Program) (ops : Array Oper) (o : Oper) (ao : AO) : Prop := PrepOp P o ao.op ∧ guardOf ops o.guard = some ao.guard ∧ o.dst = ao.dst
theorem prepR_spec {P : Program} {ops : Array Oper} {o : Oper} {ao : AO} (h : PrepR P ops o ao) : PrepOp P o ao.op ∧ guardOf ops o.guard = some ao.guard ∧ o.dst = ao.dst := h
theorem prepR_of {P : Program} {ops : Array Oper} {o : Oper} {ao : AO} (h : prepO P ops o = some ao) : PrepR P ops o ao := by
 obtain ⟨h1, h2, h3⟩ := prepO_spec h
 refine ⟨?_, h2, h3⟩
 show PrepOp P o ao.op
 rw [← h1]
 rcases prepA_spec (P := P) (o := o) with h | h
 · exact .inl h
 · exact .inr (.inl h)
theorem prepR_toS {P : Program} {ops : Array Oper} {o : Oper} {ao : AO} (h : prepO P ops o = some ao) : PrepR P ops o ao.toS := by
 obtain ⟨h1, h2, h3⟩ := prepO_spec h
 refine ⟨?_, h2, h3⟩
 show PrepOp P o (toS ao.op)
 have hp : ∀ a, (prep P o).getD .bad = a → a ≠ .bad → prep P o = some a := fun a e hn => by
   cases hq : prep P o with
   | none => rw [hq] at e; exact absurd e.symm hn
   | some b => rw [hq] at e; exact congrArg some e
 rw [← h1]
 rcases prepA_spec (P := P) (o := o) with h | ⟨k, xs, h, e⟩
 · generalize prepA P o = a at h
   cases a with
   | call f as => exact .inr (.inr (.inl ⟨f, as, hp _ h (by intro e; cases e), rfl⟩))
   | callv x as => exact .inr (.inr (.inr ⟨x, as, hp _ h (by intro e; cases e), rfl⟩))
   | _ => exact .inl h
 · rw [e]
   exact .inr (.inl ⟨k, xs, h, rfl⟩)
def tailS (p : Nat) (l : List AO) : List AO := l.take p ++ (l.drop p).map AO.toS
theorem tailS_length {p : Nat} {l : List AO} : (tailS p l).length = l.length := by
 simp only [tailS, List.length_append, List.length_map, List.length_take, List.length_drop]
 omega
theorem tailS_get {p : Nat} {l : List AO} {i : Nat} : (tailS p l)[i]? = if i < p then l[i]? else (l[i]?).map AO.toS := by
 unfold tailS
 by_cases h : i < p
 · rw [if_pos h]
   by_cases hl : i < l.length
   · rw [List.getElem?_append_left (by simp; omega), List.getElem?_take_of_lt h]
   · rw [List.getElem?_eq_none (by simp; omega), List.getElem?_eq_none (by omega)]
 · rw [if_neg h]
   by_cases hl : i < l.length
   · rw [List.getElem?_append_right (by simp; omega), List.getElem?_map, List.getElem?_drop]
     have : p + (i - (l.take p).length) = i := by rw [List.length_take]; omega
     rw [this]
   · rw [List.getElem?_eq_none (by simp; omega), List.getElem?_eq_none (by omega)]
     rfl
theorem tailS_prep {P : Program} {ops : Array Oper} {p : Nat} {l : List AO} (h : ∀ (i : Nat) (o : Oper), ops[i]? = some o → ∃ ao, l[i]? = some ao ∧ prepO P ops o = some ao) :
   ∀ (i : Nat) (o : Oper), ops[i]? = some o → ∃ ao, (tailS p l)[i]? = some ao ∧ PrepR P ops o ao := fun i o ho => by
 obtain ⟨ao, h1, h2⟩ := h i o ho
 rw [tailS_get]
 by_cases hi : i < p
 · rw [if_pos hi]
   exact ⟨ao, h1, prepR_of h2⟩
 · rw [if_neg hi, h1]
   exact ⟨ao.toS, rfl, prepR_toS h2⟩
def CallStep (P : Program) (s : St) (f : FuncId) (as : List AV) (K : Out → Prop) : Prop :=
 purL as = true ∧ ∃ r rfr, ACt P f as r rfr ∧ K ⟨sh s.fr.length r, none, rfr⟩
def CallS (P : Program) (s : St) (f : FuncId) (as : List AV) (K : AV → List (TypeId × List AV) → List (TypeId × Nat) → Prop) : Prop :=
 ∃ Q, ACs P f as s.box s.fr Q ∧ ∀ r B F, Q r B F → K r B F
@[congr] theorem callS_congr {P : Program} {s s' : St} {f : FuncId} {as as' : List AV} {K : AV → List (TypeId × List AV) → List (TypeId × Nat) → Prop} (h1 : s = s') (h2 : as = as') : CallS P s f as K = CallS P s' f as' K := by rw [h1, h2]
@[congr] theorem callStep_congr {P : Program} {s s' : St} {f : FuncId} {as as' : List AV} {K : Out → Prop} (h1 : s = s') (h2 : as = as') : CallStep P s f as K = CallStep P s' f as' K := by rw [h1, h2]
def Qk (r : Option (AV × Option (TypeId × List AV))) (K : Out → Prop) : Prop :=
 match r with
 | some p => K ⟨p.1, p.2, []⟩
 | none => False
def Sk (r : Option St) (K : St → Prop) : Prop :=
 match r with
 | some p => K p
 | none => False
def Ak (r : Option (AV × List (TypeId × Nat))) (K : AV × List (TypeId × Nat) → Prop) : Prop :=
 match r with
 | some p => K p
 | none => False
def Nk (r : Option (AV × List AV)) (K : AV × List AV → Prop) : Prop :=
 match r with
 | some p => K p
 | none => False
def Gk (v : AV) (b : Bool) (K1 K2 : Prop) : Prop :=
 match v with
 | .bool t => if t = b then K1 else K2
 | .nov => K2
 | _ => False
@[congr] theorem qk_congr {r r' : Option (AV × Option (TypeId × List AV))} {K : Out → Prop} (h : r = r') : Qk r K = Qk r' K := by rw [h]
@[congr] theorem sk_congr {r r' : Option St} {K : St → Prop} (h : r = r') : Sk r K = Sk r' K := by rw [h]
@[congr] theorem ak_congr {r r' : Option (AV × List (TypeId × Nat))} {K : AV × List (TypeId × Nat) → Prop} (h : r = r') : Ak r K = Ak r' K := by rw [h]
@[congr] theorem gk_congr {v v' : AV} {b : Bool} {K1 K2 : Prop} (h : v = v') : Gk v b K1 K2 = Gk v' b K1 K2 := by rw [h]
def QStep (P : Program) (s : St) (ao : AOp) (K : Out → Prop) : Prop :=
 match ao with
 | .call f args => CallStep P s f (args.map fun x => imm1 (s.ν x)) K
 | .callv x args =>
   match s.ν x with
   | .fn f bs => CallStep P s f (bs ++ args.map fun x => imm1 (s.ν x)) K
   | _ => False
 | ao => Qk (qop s.ν s.σ s.box.length ao) K
@[congr] theorem qstep_congr {P : Program} {s s' : St} {ao : AOp} {K : Out → Prop} (h : s = s') : QStep P s ao K = QStep P s' ao K := by rw [h]
def Chk (s : St) : List (Option Nat × AX × Nat) → Prop → Prop
 | [], k => k
 | c :: l, k => qop s.ν s.σ s.box.length (.ld c.1 c.2.1) = some (s.get c.2.2, none) ∧ Chk s l k
theorem chk_imp {s : St} : ∀ {l : List (Option Nat × AX × Nat)} {k : Prop}, Chk s l k → k
 | [], _, h => h
 | _ :: _, _, h => chk_imp h.2
theorem chk_get {s : St} : ∀ {l : List (Option Nat × AX × Nat)} {k : Prop}, Chk s l k → ∀ c ∈ l, qop s.ν s.σ s.box.length (.ld c.1 c.2.1) = some (s.get c.2.2, none)
 | [], _, _, c, hc => by cases hc
 | d :: l, _, h, c, hc => by
   rcases List.mem_cons.1 hc with rfl | hc
   · exact h.1
   · exact chk_get h.2 c hc
@[congr] theorem chk_congr {s s' : St} {l : List (Option Nat × AX × Nat)} {k : Prop} (h : s = s') : Chk s l k = Chk s' l k := by rw [h]
def OStep (P : Program) (s : St) (ao : AOp) (dst : Option Nat) (K : St → Prop) : Prop :=
 match ao with
 | .st n a x => ∃ b, (∀ (M : Mem) (v : Value), Rep M v (s.ν x) → Rep M v b) ∧ Sk (stOp s n a (.val b)) fun s' => K (s'.put dst .nov)
 | .app e sz by_ x y => (Ak (appOp s e sz by_ x y) fun p => K ({ s with fr := p.2 }.put dst p.1)) ∨ Nk (newOp s e sz by_ x y) fun p => K ({ s with box := s.box ++ [(e, p.2)] }.put dst p.1)
 | .callS f args => CallS P s f (args.map fun x => imm1 (s.ν x)) fun r B F => K ({ s with box := B, fr := F }.put dst r)
 | .callvS x args =>
   match s.ν x with
   | .fn f bs => CallS P s f (bs ++ args.map fun x => imm1 (s.ν x)) fun r B F => K ({ s with box := B, fr := F }.put dst r)
   | .clo f cs => CallS P s f ((args.map fun x => imm1 (s.ν x)) ++ cs) fun r B F => K ({ s with box := B, fr := F }.put dst r)
   | _ => False
 | .chk cs => Chk s cs (K s)
 | .prim k xs => PStep k s.box s.fr (xs.map s.ν) fun B F r => K ({ s with box := B, fr := F }.put dst r)
 | ao => QStep P s ao fun u => K (s.next dst u)
@[congr] theorem ostep_congr {P : Program} {s s' : St} {ao : AOp} {dst : Option Nat} {K : St → Prop} (h : s = s') : OStep P s ao dst K = OStep P s' ao dst K := by rw [h]
def skipOut : Out := ⟨.nov, none, []⟩
def GStep0 (P : Program) (s : St) (o : AO) (K : St → Prop) : Prop :=
 match o.guard with
 | none => OStep P s o.op o.dst K
 | some (d, b) => Gk (s.get d) b (OStep P s o.op o.dst K) (K (s.next o.dst skipOut))
def GStep (P : Program) (s : St) (o : AO) (K : St → Prop) : Prop := GStep0 P s o fun s' => Chk s' o.chk (K s')
@[congr] theorem gstep_congr {P : Program} {s s' : St} {o : AO} {K : St → Prop} (h : s = s') : GStep P s o K = GStep P s' o K := by rw [h]
def RStep (P : Program) : List AO → St → (St → Prop) → Prop
 | [], s, K => K s
 | o :: l, s, K => GStep P s o fun s' => RStep P l s' K
@[congr] theorem rstep_congr {P : Program} {s s' : St} {l : List AO} {K : St → Prop} (h : s = s') : RStep P l s K = RStep P l s' K := by rw [h]
theorem qstep_out {P : Program} {s : St} {ao : AOp} {K : Out → Prop} (h : QStep P s ao K) : ∃ u, QOut P s ao u ∧ K u := by
 unfold QStep at h
 split at h
 · obtain ⟨h2, r, rfr, h3, h4⟩ := h
   exact ⟨_, ⟨h2, r, h3, rfl, rfl⟩, h4⟩
 · split at h
   · rename_i f bs hf
     obtain ⟨h2, r, rfr, h3, h4⟩ := h
     exact ⟨_, ⟨f, bs, hf, h2, r, h3, rfl, rfl⟩, h4⟩
   · exact h.elim
 · rename_i hn1 hn2
   unfold Qk at h
   split at h
   · rename_i p hp
     refine ⟨_, ?_, h⟩
     unfold QOut
     split
     · exact absurd rfl (hn1 _ _)
     · exact absurd rfl (hn2 _ _)
     · exact ⟨hp, rfl⟩
   · exact h.elim
theorem MR.ext {X : Cx} {M : Mem} {σ σ' : Nat → Option (TypeId × List AV)} {w : World} (h : MR X M σ w) (hs : ∀ l b, σ l = some b → σ' l = some b) : MR X M σ' w :=
 ⟨h.kap, h.old, h.bel, h.hb, fun l g hg => by
   obtain ⟨k1, k2, T, cs, k3, k4⟩ := h.box l g hg
   exact ⟨k1, k2, T, cs, hs l _ k3, k4⟩, h.inj, h.tok, h.tinj, h.prot⟩
theorem put_size (a : Act) (dst : Option Nat) (v : Value) : (a.put dst v).tmps.size = a.tmps.size := by cases dst <;> simp [Act.put]
theorem put_defers (a : Act) (dst : Option Nat) (v : Value) : (a.put dst v).defers = a.defers := by cases dst <;> rfl
theorem putT_get (n : Nat) (tm : List (Nat × AV)) (d t : Nat) (v : AV) : getT (putT n tm (some d) v) t = if t = d ∧ d < n then v else getT tm t := by
 simp only [putT]
 split
 · rename_i h
   simp only [getT]
   by_cases e : d = t
   · rw [if_pos e, if_pos ⟨e.symm, h⟩]
   · rw [if_neg e, if_neg (fun q => e q.1.symm)]
 · rename_i h
   rw [if_neg (fun q => h q.2)]
theorem put_get (a : Act) (d t : Nat) (v : Value) : (a.put (some d) v).tmps.getD t undef = if t = d ∧ d < a.tmps.size then v else a.tmps.getD t undef := by
 simp only [Act.put, Array.getD_eq_getD_getElem?, Array.getElem?_setIfInBounds]
 by_cases h : d = t
 · subst h
   by_cases h2 : d < a.tmps.size
   · simp [h2]
   · simp [h2]
 · simp [h, Ne.symm h]
theorem put_rep {M : Mem} {a : Act} {n : Nat} {tm : List (Nat × AV)} (hs : a.tmps.size = n) (h : ∀ t, Rep M (a.tmps.getD t undef) (getT tm t)) {v : Value} {x : AV} (hv : Rep M v x) (dst : Option Nat) (t : Nat) :
   Rep M ((a.put dst v).tmps.getD t undef) (getT (putT n tm dst x) t) := by
 cases dst with
 | none => exact h t
 | some d =>
   rw [put_get, putT_get, hs]
   split
   · exact hv
   · exact h t
theorem tau_more {fr nt : List (TypeId × Nat)} : (fun k => if fr.length ≤ k ∧ k < fr.length + nt.length then nt[k - fr.length]? else fr[k]?) = fun k => (fr ++ nt)[k]? := by
 funext k
 by_cases h : k < fr.length
 · rw [if_neg (by omega), List.getElem?_append_left h]
 · rw [List.getElem?_append_right (by omega)]
   split
   · rfl
   · rw [List.getElem?_eq_none (by omega), List.getElem?_eq_none (by omega)]
section
variable {X : Cx}
theorem str_next {s : St} {a : Act} {w : World} {M : Mem} (h : StR X s a w M) {u : Out} {v : Value} {w' : World} {M' : Mem} {dst : Option Nat} (g : Grew1 X M (s.next dst u).σ w s u v w' M') : StR X (s.next dst u) (a.put dst v) w' M' := by
 refine ⟨g.mr, fun l hl => ?_, ?_, ?_, ?_, fun t => put_rep h.size (fun t => (h.tmps t).mono g.le) g.rep dst t, h.pp⟩
 · simp only [St.next, List.length_append] at hl
   by_cases e : l = s.box.length
   · rw [e]
     refine g.μ1 (fun hn => ?_)
     rw [hn] at hl
     simp at hl
     omega
   · rw [g.μ l e]
     refine h.boxes l ?_
     cases hn : u.nb with
     | none => rw [hn] at hl; simpa using hl
     | some b => rw [hn] at hl; simp at hl; omega
 · rw [g.fr, h.fr]
   exact tau_more
 · rw [put_defers]
   exact h.defers
 · rw [put_size]
   exact h.size
theorem sigma_next {s : St} {dst : Option Nat} {u : Out} (l : Nat) (b : TypeId × List AV) (h : s.σ l = some b) : (s.next dst u).σ l = some b := by
 have hlt : l < s.box.length := (List.getElem?_eq_some_iff.1 h).1
 show (s.box ++ u.nb.toList)[l]? = some b
 rw [List.getElem?_append_left hlt]
 exact h
theorem mu_none {s : St} {a : Act} {w : World} {M : Mem} (h : StR X s a w M) {l : Nat} (hl : s.box.length ≤ l) : M.μ l = none := by
 cases hm : M.μ l with
 | none => rfl
 | some g =>
   obtain ⟨_, _, T, cs, k, _⟩ := h.mr.box l g hm
   have := (List.getElem?_eq_some_iff.1 (show s.box[l]? = some (T, cs) from k)).1
   omega
def isQuiet' : AOp → Bool
 | .st _ _ _ => false
 | .app _ _ _ _ _ => false
 | .callS _ _ => false
 | .callvS _ _ => false
 | .chk _ => false
 | .prim _ _ => false
 | _ => true
theorem wp_callS {s : St} {a : Act} {w : World} {M : Mem} (h : StR X s a w M) {o : Oper} {f : FuncId} {as : List AV} {vs : Array Value} {Q : AV → List (TypeId × List AV) → List (TypeId × Nat) → Prop} (hc : ACs X.P f as s.box s.fr Q)
   (hrun : (execOp a.eval o).run X.P w = .ok (.enter f vs) w) (hvs : Reps M vs.toList as) {next : Act → World → Prop} {Q' : Exit → Act → World → Prop}
   (hnext : ∀ s' a' w' M', (∃ r B F, Q r B F ∧ s' = { s with box := B, fr := F }.put o.dst r) → StR X s' a' w' M' → next a' w') : o.wp X.P a w next Q' := by
 unfold Oper.wp
 rw [hrun]
 show Calls _ _ _ _ _
 refine (hc.2 X w M vs rfl h.mr h.boxes h.fr hvs).mono ?_
 rintro e w' ⟨v, M', r, B, F, rfl, hq, hm, hb, hf, hle, hr⟩
 refine hnext ({ s with box := B, fr := F }.put o.dst r) (a.put o.dst v) w' M' ⟨r, B, F, hq, rfl⟩ (StR.mk (s := { s with box := B, fr := F }.put o.dst r) hm hb hf (by rw [put_defers]; exact h.defers) (by rw [put_size]; exact h.size) (fun t => put_rep h.size (fun t => (h.tmps t).mono hle) hr o.dst t) h.pp)
theorem o_ok {s : St} {a : Act} {w : World} {M : Mem} (h : StR X s a w M) {o : Oper} {ao : AOp} (hpb : PrepOp X.P o ao) {K : St → Prop} (hs : OStep X.P s ao o.dst K) {next : Act → World → Prop} {Q : Exit → Act → World → Prop}
   (hnext : ∀ s' a' w' M', K s' → StR X s' a' w' M' → next a' w') : o.wp X.P a w next Q := by
 have hν : ∀ x ∈ o.op.operands.toList, ∀ ax, axOf x = some ax → Rep M (a.eval x) (s.ν ax) := fun x _ ax hax => by
   cases x with
   | tmp t =>
     simp only [axOf, Option.some.injEq] at hax
     subst hax
     exact h.tmps t
   | const v =>
     simp only [axOf] at hax
     obtain ⟨b, hb, rfl⟩ := Option.map_eq_some_iff.1 hax
     exact avOf_rep hb
   | func f =>
     simp only [axOf, Option.some.injEq] at hax
     subst hax
     exact .fn f [] [] rfl (fun i h => absurd h (by simp))
   | global g =>
     obtain ⟨b, rfl, hb⟩ := gam_rep h.mr.kg (show gamAX g = some ax from hax)
     exact hb
 have quiet : (prep X.P o).getD .bad = ao → QStep X.P s ao (fun u => K (s.next o.dst u)) → o.wp X.P a w next Q := fun hq0 hq => by
   obtain ⟨u, hu, hK⟩ := qstep_out hq
   refine q_ok (h.mr.ext (fun l b hb => sigma_next (dst := o.dst) (u := u) l b hb)) hq0 hu (fun l b hb => sigma_next l b hb) hν (fun _ => mu_none h (Nat.le_refl _)) (fun b hb => ?_) (fun k hk => ?_) (fun v w' M' g => hnext _ _ _ _ hK (str_next h g))
   · show (s.box ++ u.nb.toList)[s.box.length]? = some b
     simp [hb]
   · rw [h.fr]
     exact List.getElem?_eq_none (by omega)
 have plain : (∀ k xs, ao ≠ .prim k xs) → (∀ f as, ao ≠ .callS f as) → (∀ x as, ao ≠ .callvS x as) → (prep X.P o).getD .bad = ao := fun h0 h1 h2 => by
   rcases hpb with hpb | ⟨k, xs, _, e⟩ | ⟨f, as, _, e⟩ | ⟨x, as, _, e⟩
   · exact hpb
   · exact absurd e (h0 k xs)
   · exact absurd e (h1 f as)
   · exact absurd e (h2 x as)
 have noS : ∀ a', prep X.P o = some a' → (∀ f as, a' ≠ .callS f as) ∧ (∀ x as, a' ≠ .callvS x as) := fun a' hp => by
   constructor
   · rintro f as rfl
     obtain ⟨c, _, hpc⟩ := prep_call hp rfl
     exact prepCall_noS hpc
   · rintro x as rfl
     obtain ⟨c, _, hpc⟩ := prep_call hp rfl
     exact prepCall_noVS hpc
 have shared : ∀ c f args as' (Q0 : AV → List (TypeId × List AV) → List (TypeId × Nat) → Prop) (us cs : List Value) (bs ds : List AV), o.op = .call c → c.args.toList.mapM axOf = some args → Reps M us bs → Reps M cs ds → as' = bs ++ (args.map fun x => imm1 (s.ν x)) ++ ds → ACs X.P f as' s.box s.fr Q0 → (∀ vs : Array Value, (Deferred.ofValue (a.eval (match c.callee with | .value x => x | _ => .const undef)) vs).run X.P w = .ok { target := .fn (.func f) cs.toArray, args := us.toArray ++ vs } w) → (∃ x, c.callee = .value x) → (∀ r B F, Q0 r B F → K ({ s with box := B, fr := F }.put o.dst r)) → o.wp X.P a w next Q := fun c f args as' Q0 us cs bs ds hop hargs hus hcs has hco hdef hcl hK => by
   obtain ⟨x, hx⟩ := hcl
   rw [hx] at hdef
   subst has
   refine wp_callS h hco (vs := us.toArray ++ c.args.map a.eval ++ cs.toArray) ?_ ?_ ?_
   · simp only [execOp, hop, resolve, hx, Sem.run_bind, hdef, Result.andThen_ok, invoke]
     exact run_callFunc hco.1 _
   · have := axsOf_rep (M := M) (ρ := a.eval) (ν := s.ν) hargs (fun y hy ax hax => hν y (by
       simp only [hop, Op.operands, Call.operands, Array.toList_append]
       exact List.mem_append_right _ hy) ax hax)
     have h2 : Reps M (c.args.toList.map a.eval) (args.map fun x => imm1 (s.ν x)) := ⟨by simpa using this.1, fun i h1 h2 => by
       have := rep_imm1 (this.2 i h1 (by simpa using h2))
       simpa using this⟩
     simpa using reps_append (reps_append hus h2) hcs
   · rintro s' a' w' M' ⟨r, B, F, hq, rfl⟩ hst
     exact hnext _ _ _ _ (hK r B F hq) hst
 have hprepQ : isQuiet' ao = false → (∀ k xs, ao ≠ .prim k xs) → (∀ f as, ao ≠ .callS f as) → (∀ x as, ao ≠ .callvS x as) → prep X.P o = some ao := fun hb n0 n1 n2 => by
   have hpb := plain n0 n1 n2
   cases hp : prep X.P o with
   | some x => rw [hp] at hpb; exact congrArg some hpb
   | none =>
     rw [hp] at hpb
     subst hpb
     cases hb
 unfold OStep at hs
 split at hs
 · -- a store
   rename_i n p x
   have hprep := hprepQ rfl (fun _ _ e => by cases e) (fun _ _ e => by cases e) (fun _ _ e => by cases e)
   obtain ⟨b, hle, hs⟩ := hs
   unfold Sk at hs
   split at hs
   rotate_left
   · exact hs.elim
   rename_i s' hst
   obtain ⟨t, p0, x0, i, hop, hi, hp, hx, rfl⟩ : ∃ t p0 x0 i, o.op = .store t p0 x0 ∧ X.P.info? t = some i ∧ axOf p0 = some p ∧ axOf x0 = some x ∧ n = i.size := by
     unfold prep at hprep
     split at hprep
     case h_7 t p0 x0 heq =>
       simp only [Option.bind_eq_bind, Option.bind_eq_some_iff, Option.pure_def, Option.some.injEq, AOp.st.injEq] at hprep
       obtain ⟨i, hi, y, hy, x', hx', rfl, rfl, rfl⟩ := hprep
       exact ⟨t, p0, x0, i, heq, hi, hy, hx', rfl⟩
     all_goals exfalso
     all_goals try (cases hprep; done)
     all_goals try (obtain ⟨_, _, e⟩ := Option.map_eq_some_iff.1 hprep; cases e; done)
     case h_19 c heq =>
       unfold prepCall at hprep
       repeat' (first
         | (cases hprep; done)
         | (split at hprep)
         | (obtain ⟨_, _, e⟩ := Option.map_eq_some_iff.1 hprep; cases e; done)
         | (simp only [Option.bind_eq_bind, Option.bind_eq_some_iff, Option.pure_def, Option.some.injEq] at hprep; obtain ⟨_, _, hprep⟩ := hprep)
         | (obtain ⟨_, _, hprep⟩ := hprep))
     all_goals repeat' (first
       | (cases hprep; done)
       | (obtain ⟨_, _, e⟩ := Option.map_eq_some_iff.1 hprep; cases e; done)
       | (split at hprep)
       | (simp only [Option.bind_eq_bind, Option.bind_eq_some_iff, Option.pure_def, Option.some.injEq] at hprep; obtain ⟨_, _, hprep⟩ := hprep)
       | (obtain ⟨_, _, hprep⟩ := hprep))
   obtain ⟨w', g1, g2, g3⟩ := run_st (x' := .val b) h hi hp (hν p0 (by simp [hop, Op.operands]) p hp) (hle _ _ (hν x0 (by simp [hop, Op.operands]) x hx)) hst
   unfold Oper.wp
   have hrun : (execOp a.eval o).run X.P w = .ok .skip w' := by simp [execOp, hop, g1]
   rw [hrun]
   refine hnext _ _ _ M hs ⟨g2.mr, g2.boxes, g2.fr, by rw [put_defers]; exact g2.defers, by rw [put_size]; exact g2.size, fun t => put_rep g2.size g2.tmps .nov o.dst t, g2.pp⟩
 · -- an append
   rename_i e sz by_ x y
   have hprep := hprepQ rfl (fun _ _ e => by cases e) (fun _ _ e => by cases e) (fun _ _ e => by cases e)
   rcases hs with hs | hs
   · unfold Ak at hs
     split at hs
     rotate_left
     · exact hs.elim
     rename_i p hap
     obtain ⟨c, hop, hpc⟩ : ∃ c, o.op = .call c ∧ prepCall X.P c = some (.app e sz by_ x y) := by
       unfold prep at hprep
       split at hprep
       case h_19 c heq => exact ⟨c, heq, hprep⟩
       all_goals exfalso
       all_goals try (cases hprep; done)
       all_goals try (obtain ⟨_, _, e⟩ := Option.map_eq_some_iff.1 hprep; cases e; done)
       all_goals repeat' (first
         | (cases hprep; done)
         | (obtain ⟨_, _, e⟩ := Option.map_eq_some_iff.1 hprep; cases e; done)
         | (split at hprep)
         | (simp only [Option.bind_eq_bind, Option.bind_eq_some_iff, Option.pure_def, Option.some.injEq] at hprep; obtain ⟨_, _, hprep⟩ := hprep)
         | (obtain ⟨_, _, hprep⟩ := hprep))
     unfold prepCall at hpc
     split at hpc
     · rename_i b hb
       split at hpc
       · split at hpc
         · obtain ⟨_, _, e⟩ := Option.map_eq_some_iff.1 hpc
           cases e
         · obtain ⟨_, _, e⟩ := Option.map_eq_some_iff.1 hpc
           cases e
         · cases hpc
       · rename_i x0 y0 t t' hxy htt
         split at hpc
         rotate_left
         · cases hpc
         rename_i e' ht
         simp only [Option.bind_eq_bind, Option.bind_eq_some_iff, Option.pure_def] at hpc
         obtain ⟨i, hi, z, hz, hpc⟩ := hpc
         split at hpc
         rotate_left
         · cases hpc
         rename_i hcnd
         obtain ⟨rfl, c1, c2⟩ := hcnd
         simp only [Option.bind_eq_some_iff, Option.some.injEq, AOp.app.injEq] at hpc
         obtain ⟨x', hx', y', hy', rfl, rfl, rfl, rfl, rfl⟩ := hpc
         have hxa : c.args = #[x0, y0] := by rw [← Array.toArray_toList (xs := c.args), hxy]
         have hta : c.argTypes = #[t, t] := by rw [← Array.toArray_toList (xs := c.argTypes), htt]
         obtain ⟨u, w', M', g1, g2, g3, g4⟩ := run_app (ty := o.type) h ht hi hz c1 c2 (hν x0 (by simp [hop, Op.operands, Call.operands, hb, hxa]) x' hx') (hν y0 (by simp [hop, Op.operands, Call.operands, hb, hxa]) y' hy') hap
         unfold Oper.wp
         have hrun : (execOp a.eval o).run X.P w = .ok (.value u) w' := by
           simp [execOp, hop, resolve, hb, hxa, hta, invoke, builtin, g1]
         rw [hrun]
         refine hnext _ _ _ M' hs ⟨g2.mr, g2.boxes, g2.fr, by rw [put_defers]; exact g2.defers, by rw [put_size]; exact g2.size, fun t => put_rep g2.size g2.tmps g3 o.dst t, g2.pp⟩
       · simp [Option.bind_eq_some_iff] at hpc
       · simp [Option.bind_eq_some_iff] at hpc
       · cases hpc
     · simp only [Option.bind_eq_bind, Option.bind_eq_some_iff, Option.pure_def] at hpc
       obtain ⟨fn, hf, hpc⟩ := hpc
       split at hpc
       · simp [Option.bind_eq_some_iff] at hpc
       · cases hpc
     · simp [Option.bind_eq_some_iff] at hpc
     · cases hpc
   · unfold Nk at hs
     split at hs
     rotate_left
     · exact hs.elim
     rename_i p hap
     obtain ⟨c, hop, hpc⟩ : ∃ c, o.op = .call c ∧ prepCall X.P c = some (.app e sz by_ x y) := by
       unfold prep at hprep
       split at hprep
       case h_19 c heq => exact ⟨c, heq, hprep⟩
       all_goals exfalso
       all_goals try (cases hprep; done)
       all_goals try (obtain ⟨_, _, e⟩ := Option.map_eq_some_iff.1 hprep; cases e; done)
       all_goals repeat' (first
         | (cases hprep; done)
         | (obtain ⟨_, _, e⟩ := Option.map_eq_some_iff.1 hprep; cases e; done)
         | (split at hprep)
         | (simp only [Option.bind_eq_bind, Option.bind_eq_some_iff, Option.pure_def, Option.some.injEq] at hprep; obtain ⟨_, _, hprep⟩ := hprep)
         | (obtain ⟨_, _, hprep⟩ := hprep))
     unfold prepCall at hpc
     split at hpc
     · rename_i b hb
       split at hpc
       · split at hpc
         · obtain ⟨_, _, e⟩ := Option.map_eq_some_iff.1 hpc
           cases e
         · obtain ⟨_, _, e⟩ := Option.map_eq_some_iff.1 hpc
           cases e
         · cases hpc
       · rename_i x0 y0 t t' hxy htt
         split at hpc
         rotate_left
         · cases hpc
         rename_i e' ht
         simp only [Option.bind_eq_bind, Option.bind_eq_some_iff, Option.pure_def] at hpc
         obtain ⟨i, hi, z, hz, hpc⟩ := hpc
         split at hpc
         rotate_left
         · cases hpc
         rename_i hcnd
         obtain ⟨rfl, c1, c2⟩ := hcnd
         simp only [Option.bind_eq_some_iff, Option.some.injEq, AOp.app.injEq] at hpc
         obtain ⟨x', hx', y', hy', rfl, rfl, rfl, rfl, rfl⟩ := hpc
         have hxa : c.args = #[x0, y0] := by rw [← Array.toArray_toList (xs := c.args), hxy]
         have hta : c.argTypes = #[t, t] := by rw [← Array.toArray_toList (xs := c.argTypes), htt]
         obtain ⟨u, w', M', g1, g2, g3, g4⟩ := run_appN (ty := o.type) h ht hi hz c1 c2 (hν x0 (by simp [hop, Op.operands, Call.operands, hb, hxa]) x' hx') (hν y0 (by simp [hop, Op.operands, Call.operands, hb, hxa]) y' hy') (mu_none h (Nat.le_refl _)) hap
         unfold Oper.wp
         have hrun : (execOp a.eval o).run X.P w = .ok (.value u) w' := by
           simp [execOp, hop, resolve, hb, hxa, hta, invoke, builtin, g1]
         rw [hrun]
         refine hnext _ _ _ M' hs ⟨g2.mr, g2.boxes, g2.fr, by rw [put_defers]; exact g2.defers, by rw [put_size]; exact g2.size, fun t => put_rep g2.size g2.tmps g3 o.dst t, g2.pp⟩
       · simp [Option.bind_eq_some_iff] at hpc
       · simp [Option.bind_eq_some_iff] at hpc
       · cases hpc
     · simp only [Option.bind_eq_bind, Option.bind_eq_some_iff, Option.pure_def] at hpc
       obtain ⟨fn, hf, hpc⟩ := hpc
       split at hpc
       · simp [Option.bind_eq_some_iff] at hpc
       · cases hpc
     · simp [Option.bind_eq_some_iff] at hpc
     · cases hpc
 · -- a call that shares
   rename_i f args
   obtain ⟨Q0, hc, hK⟩ := hs
   rcases hpb with hpb | ⟨_, _, _, e⟩ | ⟨f', as, hp, e⟩ | ⟨x, as, hp, e⟩
   · cases hp : prep X.P o with
     | none => rw [hp] at hpb; cases hpb
     | some a' =>
       rw [hp] at hpb
       exact absurd hpb ((noS a' hp).1 f args)
   · cases e
   · injection e with e1 e2
     subst e1 e2
     obtain ⟨c, hop, hpc⟩ := prep_call hp rfl
     obtain ⟨h1, h2⟩ := prepCall_f hpc
     exact shared c f args _ Q0 [] [] [] [] hop h2 reps_nil reps_nil (by simp) hc (fun vs => by simp [h1, Act.eval, Deferred.ofValue]) ⟨_, h1⟩ hK
   · cases e
 · -- a call of a value that shares
   rename_i x args
   rcases hpb with hpb | ⟨_, _, _, e⟩ | ⟨f', as, hp, e⟩ | ⟨x', as, hp, e⟩
   · cases hp : prep X.P o with
     | none => rw [hp] at hpb; cases hpb
     | some a' =>
       rw [hp] at hpb
       exact absurd hpb ((noS a' hp).2 x args)
   · cases e
   · cases e
   · injection e with e1 e2
     subst e1 e2
     obtain ⟨c, hop, hpc⟩ := prep_call hp rfl
     obtain ⟨t, h1, rfl, h2⟩ := prepCall_v hpc
     have hr : Rep M (a.eval (.tmp t)) (s.ν (.tmp t)) := hν (.tmp t) (by simp [hop, Op.operands, Call.operands, h1]) (.tmp t) rfl
     split at hs
     · rename_i f bs hf
       rw [hf] at hr
       obtain ⟨Q0, hc, hK⟩ := hs
       obtain ⟨us, he, hus⟩ : ∃ us : List Value, a.eval (.tmp t) = .func (.func f) us.toArray #[] ∧ Reps M us bs := by
         generalize a.eval (.tmp t) = u at hr
         cases hr with
         | fn _ us _ hl hrr => exact ⟨us, rfl, hl, hrr⟩
       exact shared c f args _ Q0 us [] bs [] hop h2 hus reps_nil (by simp) hc (fun vs => by simp [h1, he, Deferred.ofValue]) ⟨_, h1⟩ hK
     · rename_i f cs hf
       rw [hf] at hr
       obtain ⟨Q0, hc, hK⟩ := hs
       obtain ⟨us, he, hus⟩ : ∃ us : List Value, a.eval (.tmp t) = .func (.func f) #[] us.toArray ∧ Reps M us cs := by
         generalize a.eval (.tmp t) = u at hr
         cases hr with
         | clo _ us _ hl hrr => exact ⟨us, rfl, hl, hrr⟩
       exact shared c f args _ Q0 [] us [] cs hop h2 reps_nil hus (by simp) hc (fun vs => by simp [h1, he, Deferred.ofValue]) ⟨_, h1⟩ hK
     · exact hs.elim
 · -- what was loaded
   rename_i cs
   rcases hpb with hpb | ⟨_, _, _, e⟩ | ⟨f', as, hp, e⟩ | ⟨x', as, hp, e⟩
   · cases hp : prep X.P o with
     | none => rw [hp] at hpb; cases hpb
     | some a' =>
       rw [hp] at hpb
       have hpb : a' = .chk cs := hpb
       subst hpb
       exact (prep_noChk hp).elim
   · cases e
   · cases e
   · cases e
 · -- maps, and lists that are made
   rename_i k xs
   rcases hpb with hpb | ⟨k', xs', hp, e⟩ | ⟨f', as, hp, e⟩ | ⟨x', as, hp, e⟩
   · cases hp : prep X.P o with
     | none => rw [hp] at hpb; cases hpb
     | some a' =>
       rw [hp] at hpb
       have hpb : a' = .prim k xs := hpb
       subst hpb
       exact (prep_noPrim hp).elim
   · injection e with e1 e2
     subst e1 e2
     obtain ⟨nx, w', B, F, r, M', hrun, hK, hr, hst⟩ := prim_ok h hp hν hs
     unfold Oper.wp
     rw [hrun]
     rcases hr with ⟨rfl, rfl⟩ | ⟨v, rfl, hv⟩
     · exact hnext _ _ _ M' hK ⟨hst.mr, hst.boxes, hst.fr, by rw [put_defers]; exact hst.defers, by rw [put_size]; exact hst.size, fun t => put_rep hst.size hst.tmps .nov o.dst t, hst.pp⟩
     · exact hnext _ _ _ M' hK ⟨hst.mr, hst.boxes, hst.fr, by rw [put_defers]; exact hst.defers, by rw [put_size]; exact hst.size, fun t => put_rep hst.size hst.tmps hv o.dst t, hst.pp⟩
   · cases e
   · cases e
 · rename_i n1 n2 n3 n4 n5 n6
   exact quiet (plain n6 n3 n4) hs
theorem yields_of {M : Mem} {ops : Array Oper} {tmps : Array Value} {g d : Nat} (hd : (ops[g]?).bind (·.dst) = some d) {b : AV} (h : Rep M (tmps.getD d undef) b) :
   (∀ t, b = .bool t → yielded ops tmps g = some t) ∧ (b = .nov → yielded ops tmps g = none) := by
 have hy : yielded ops tmps g = match tmps[d]? with | some (.bool b) => some b | _ => none := by
   unfold yielded
   rw [hd]
   rfl
 rw [Array.getD_eq_getD_getElem?] at h
 constructor
 · rintro t rfl
   rw [hy]
   cases hx : tmps[d]? with
   | none => rw [hx] at h; cases h
   | some u =>
     rw [hx] at h
     have h : Rep M u (.bool t) := h
     rw [rep_bool h]
 · rintro rfl
   rw [hy]
   cases hx : tmps[d]? with
   | none => rfl
   | some u =>
     rw [hx] at h
     have h : Rep M u .nov := h
     cases h
     rfl
theorem g_ok0 {ops : Array Oper} {i : Nat} {o : Oper} (ho : ops[i]? = some o) {ao : AO} (hp : PrepR X.P ops o ao) {s : St} {a : Act} {w : World} {M : Mem} (h : StR X s a w M) {K : St → Prop} (hs : GStep0 X.P s ao K) {next : Act → World → Prop} {Q : Exit → Act → World → Prop}
   (hnext : ∀ s' a' w' M', K s' → StR X s' a' w' M' → next a' w') : wpOp X.P ops Q i next a w := by
 obtain ⟨h1, h2, h3⟩ := hp
 have skip : K (s.next ao.dst skipOut) → next (a.put o.dst undef) w := fun hK => by
   refine hnext _ _ _ M hK ⟨h.mr.ext (fun l b hb => sigma_next l b hb), fun l hl => h.boxes l (by simpa [St.next, skipOut] using hl), ?_, by rw [put_defers]; exact h.defers, by rw [put_size]; exact h.size, fun t => by rw [h3]; exact put_rep h.size h.tmps .nov ao.dst t, h.pp⟩
   rw [h.fr]
   funext k
   simp [St.τ, St.next, skipOut]
 unfold wpOp
 rw [ho]
 simp only
 unfold GStep0 at hs
 split at hs
 · rename_i hg
   have hw : Region.wanted o (yielded ops a.tmps) = true := by
     have : o.guard = none := by
       rw [hg] at h2
       cases hgo : o.guard with
       | none => rfl
       | some p =>
         rw [hgo] at h2
         obtain ⟨_, _, e⟩ := Option.map_eq_some_iff.1 h2
         cases e
     simp [Region.wanted, this]
   rw [if_pos hw]
   exact .inl (o_ok h h1 (by rw [h3]; exact hs) hnext)
 · rename_i d b hg
   obtain ⟨g, hgo, hd⟩ : ∃ g, o.guard = some (g, b) ∧ (ops[g]?).bind (·.dst) = some d := by
     rw [hg] at h2
     cases hgo : o.guard with
     | none => rw [hgo] at h2; cases h2
     | some p =>
       obtain ⟨g, b'⟩ := p
       rw [hgo] at h2
       obtain ⟨d', hd', e⟩ := Option.map_eq_some_iff.1 h2
       injection e with e
       injection e with e1 e2
       subst e1 e2
       exact ⟨g, rfl, hd'⟩
   obtain ⟨y1, y2⟩ := yields_of hd (h.tmps d)
   unfold Gk at hs
   split at hs
   · rename_i t ht
     have hy := y1 t ht
     split at hs
     · rename_i htb
       rw [if_pos (by simp [Region.wanted, hgo, hy, htb])]
       exact .inl (o_ok h h1 (by rw [h3]; exact hs) hnext)
     · rename_i htb
       rw [if_neg (by simp [Region.wanted, hgo, hy, htb])]
       exact skip hs
   · rename_i ht
     have hy := y2 ht
     rw [if_neg (by simp [Region.wanted, hgo, hy])]
     exact skip hs
   · exact hs.elim
theorem g_ok {ops : Array Oper} {i : Nat} {o : Oper} (ho : ops[i]? = some o) {ao : AO} (hp : PrepR X.P ops o ao) {s : St} {a : Act} {w : World} {M : Mem} (h : StR X s a w M) {K : St → Prop} (hs : GStep X.P s ao K) {next : Act → World → Prop} {Q : Exit → Act → World → Prop}
   (hnext : ∀ s' a' w' M', K s' → StR X s' a' w' M' → next a' w') : wpOp X.P ops Q i next a w :=
 g_ok0 ho hp h hs (fun s' a' w' M' hK h' => hnext s' a' w' M' (chk_imp hK) h')
def Post (X : Cx) (K : Exit → St → Prop) (e : Exit) (a : Act) (w : World) : Prop := ∃ s M, K e s ∧ StR X s a w M
theorem seq_ok {ops : Array Oper} {aos : List AO} (hp : ∀ (i : Nat) (o : Oper), ops[i]? = some o → ∃ ao, aos[i]? = some ao ∧ PrepR X.P ops o ao) (hl : aos.length = ops.size) {K : Exit → St → Prop} :
   ∀ (n k : Nat) (s : St) (a : Act) (w : World) (M : Mem), n + k = ops.size → RStep X.P (aos.drop k) s (K .normal) → StR X s a w M → wpOps X.P ops (Post X K) (List.range' k n) a w
 | 0, k, s, a, w, M, hn, hr, h => by
   rw [List.drop_eq_nil_of_le (by omega)] at hr
   exact ⟨s, M, hr, h⟩
 | n + 1, k, s, a, w, M, hn, hr, h => by
   have hk : k < ops.size := by omega
   have hok : ops[k]? = some ops[k] := Array.getElem?_eq_getElem hk
   obtain ⟨ao, hao, hpo⟩ := hp k _ hok
   have hka : k < aos.length := by omega
   rw [List.drop_eq_getElem_cons hka] at hr
   have : aos[k] = ao := by
     rw [List.getElem?_eq_getElem hka] at hao
     exact Option.some.inj hao
   rw [this] at hr
   rw [List.range'_succ, wpOps_cons]
   exact g_ok hok hpo h hr (fun s' a' w' M' hK h' => seq_ok hp hl n (k + 1) s' a' w' M' (by omega) hK h')
end
end Go.Proofs.YtibploaibljcmaaGreatDoor
