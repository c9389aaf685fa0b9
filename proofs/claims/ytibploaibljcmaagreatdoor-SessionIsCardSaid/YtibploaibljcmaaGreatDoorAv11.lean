import Derived.Test.YtibploaibljcmaaGreatDoorAv10
namespace Go.Proofs.YtibploaibljcmaaGreatDoor
open Go.RowKit
set_option linter.unusedVariables false
set_option linter.unusedSimpArgs false
set_option maxHeartbeats 1000000
def maskOf (acc : List Nat) (o : Oper) : Nat := o.after.toList.foldl (fun s e => if Region.binds .any e then s ||| 2 ^ e.on ||| acc.getD e.on 0 else s) 0
def masks : List Oper → List Nat → List Nat
 | [], acc => acc
 | o :: l, acc => masks l (acc ++ [maskOf acc o])
theorem fold_mask (acc : List Nat) (j : Nat) : ∀ (l : List Edge) (s : Nat), (l.foldl (fun s e => if Region.binds .any e then s ||| 2 ^ e.on ||| acc.getD e.on 0 else s) s).testBit j = true →
   s.testBit j = true ∨ ∃ e ∈ l, Region.binds .any e = true ∧ (e.on = j ∨ (acc.getD e.on 0).testBit j = true)
 | [], s, h => .inl h
 | e :: l, s, h => by
   rw [List.foldl_cons] at h
   rcases fold_mask acc j l _ h with h | ⟨e', he', h'⟩
   · split at h
     · rename_i hb
       rw [Nat.testBit_or, Nat.testBit_or, Bool.or_eq_true, Bool.or_eq_true] at h
       rcases h with (h | h) | h
       · exact .inl h
       · rw [Nat.testBit_two_pow] at h
         exact .inr ⟨e, by simp, hb, .inl (of_decide_eq_true h)⟩
       · exact .inr ⟨e, by simp, hb, .inr h⟩
     · exact .inl h
   · exact .inr ⟨e', by simp [he'], h'⟩
theorem masks_prefix : ∀ (l : List Oper) (acc : List Nat) (i : Nat), i < acc.length → (masks l acc).getD i 0 = acc.getD i 0
 | [], acc, i, h => rfl
 | o :: l, acc, i, h => by
   rw [masks, masks_prefix l _ i (by simp; omega), List.getD_eq_getElem?_getD, List.getElem?_append_left h, ← List.getD_eq_getElem?_getD]
theorem masks_at : ∀ (l : List Oper) (acc : List Nat) (i : Nat) (o : Oper), l[i]? = some o → ∀ j, ((masks l acc).getD (acc.length + i) 0).testBit j = true →
   ∃ e ∈ o.after.toList, Region.binds .any e = true ∧ (e.on = j ∨ ((masks l acc).getD e.on 0).testBit j = true)
 | [], acc, i, o, h, _, _ => by simp at h
 | o' :: l, acc, 0, o, h, j, hb => by
   obtain rfl : o' = o := by simpa using h
   rw [masks, masks_prefix l _ _ (by simp), Nat.add_zero] at hb
   rw [List.getD_eq_getElem?_getD, List.getElem?_append_right (by omega)] at hb
   simp only [Nat.sub_self, List.getElem?_cons_zero, Option.getD_some] at hb
   rcases fold_mask acc j _ 0 hb with h0 | ⟨e, he, h1, h2⟩
   · simp at h0
   · refine ⟨e, he, h1, h2.imp id fun h2 => ?_⟩
     by_cases hlt : e.on < acc.length
     · rw [masks, masks_prefix l _ _ (by simp; omega), List.getD_eq_getElem?_getD, List.getElem?_append_left hlt, ← List.getD_eq_getElem?_getD]
       exact h2
     · rw [List.getD_eq_getElem?_getD, List.getElem?_eq_none (by omega)] at h2
       simp at h2
 | o' :: l, acc, i + 1, o, h, j, hb => by
   have := masks_at l (acc ++ [maskOf acc o']) i o (by simpa using h) j (by
     rw [masks] at hb
     rw [show (acc ++ [maskOf acc o']).length + i = acc.length + (i + 1) by simp; omega]
     exact hb)
   exact this
def namesOf (ops : Array Oper) (o : Oper) : List Nat :=
 looks o ++ (match o.guard with | some (g, _) => ((ops[g]?).bind (·.dst)).toList | none => [])
def okDraw (ops : Array Oper) (p : Nat) : Bool :=
 let l := ops.toList
 let A := masks l []
 (l.zipIdx.all fun q => q.1.after.all fun e => !Region.binds .any e || e.on < q.2) &&
 (l.zipIdx.all fun q => q.2 < p || A.getD q.2 0 == 2 ^ q.2 - 1) &&
 ((l.take p).zipIdx.all fun q => (namesOf ops q.1).all fun t => (l.take p).zipIdx.all fun r => r.1.dst != some t || r.2 == q.2 || (if r.2 < q.2 then (A.getD q.2 0).testBit r.2 else (A.getD r.2 0).testBit q.2)) &&
 ((l.take p).zipIdx.all fun q => (l.take p).zipIdx.all fun r => r.2 == q.2 || q.1.dst.isNone || r.1.dst != q.1.dst)
structure OkDraw (ops : Array Oper) (p : Nat) : Prop where
 edge : ∀ (i : Nat) (o : Oper), ops[i]? = some o → ∀ e ∈ o.after, Region.binds .any e = true → e.on < i
 tail : ∀ (i : Nat), i < ops.size → p ≤ i → ∀ j, j < i → ((masks ops.toList []).getD i 0).testBit j = true
 names : ∀ (i : Nat) (o : Oper), i < p → ops[i]? = some o → ∀ t ∈ namesOf ops o, ∀ (j : Nat) (oj : Oper), j < p → ops[j]? = some oj → oj.dst = some t → j ≠ i →
   (j < i ∧ ((masks ops.toList []).getD i 0).testBit j = true) ∨ (i < j ∧ ((masks ops.toList []).getD j 0).testBit i = true)
 dsts : ∀ (i j : Nat) (o oj : Oper), i < p → j < p → ops[i]? = some o → ops[j]? = some oj → j ≠ i → ∀ d, o.dst = some d → oj.dst ≠ some d
theorem mem_zipIdx_of {ops : Array Oper} {i : Nat} {o : Oper} (h : ops[i]? = some o) : (o, i) ∈ ops.toList.zipIdx := by
 rw [List.mk_mem_zipIdx_iff_getElem?]
 simpa using h
theorem mem_take_zipIdx {ops : Array Oper} {p i : Nat} {o : Oper} (h : ops[i]? = some o) (hi : i < p) : (o, i) ∈ (ops.toList.take p).zipIdx := by
 rw [List.mk_mem_zipIdx_iff_getElem?, List.getElem?_take_of_lt hi]
 simpa using h
theorem okDraw_spec {ops : Array Oper} {p : Nat} (h : okDraw ops p = true) : OkDraw ops p := by
 simp only [okDraw, Bool.and_eq_true] at h
 obtain ⟨⟨⟨h1, h2⟩, h3⟩, h4⟩ := h
 refine ⟨fun i o ho e he hb => ?_, fun i hi hp j hj => ?_, fun i o hi ho t ht j oj hj hoj hd hne => ?_, fun i j o oj hi hj ho hoj hne d hd hd' => ?_⟩
 · have := (List.all_eq_true.1 h1) (o, i) (mem_zipIdx_of ho)
   have := (Array.all_eq_true_iff_forall_mem.1 this) e he
   simp [hb] at this
   exact this
 · have := (List.all_eq_true.1 h2) (ops[i], i) (mem_zipIdx_of (Array.getElem?_eq_getElem hi))
   simp only [Bool.or_eq_true, decide_eq_true_eq, beq_iff_eq] at this
   rw [this.resolve_left (by omega), Nat.testBit_two_pow_sub_one]
   simpa using hj
 · have := (List.all_eq_true.1 h3) (o, i) (mem_take_zipIdx ho hi)
   have := (List.all_eq_true.1 this) t ht
   have := (List.all_eq_true.1 this) (oj, j) (mem_take_zipIdx hoj hj)
   simp only [Bool.or_eq_true, bne_iff_ne, ne_eq, beq_iff_eq] at this
   rcases this with (this | this) | this
   · exact absurd hd this
   · exact absurd this hne
   · split at this
     · exact .inl ⟨by assumption, this⟩
     · exact .inr ⟨by omega, this⟩
 · have := (List.all_eq_true.1 h4) (o, i) (mem_take_zipIdx ho hi)
   have := (List.all_eq_true.1 this) (oj, j) (mem_take_zipIdx hoj hj)
   simp only [Bool.or_eq_true, bne_iff_ne, ne_eq, beq_iff_eq] at this
   rcases this with (this | this) | this
   · exact hne this
   · rw [hd] at this
     cases this
   · exact this (by rw [hd, hd'])
theorem anc_listed {ops : Array Oper} {p : Nat} (hok : OkDraw ops p) {L : Nat → Bool} (hL : ∀ (i : Nat) (o : Oper), ops[i]? = some o → L i = true → ∀ e ∈ o.after, Region.binds .any e = true → L e.on = true) :
   ∀ (n i : Nat), i < n → ∀ o, ops[i]? = some o → (∀ e ∈ o.after, Region.binds .any e = true → L e.on = true) → ∀ j, ((masks ops.toList []).getD i 0).testBit j = true → L j = true
 | 0, i, h, _, _, _, _, _ => by omega
 | n + 1, i, h, o, ho, hd, j, hj => by
   obtain ⟨e, he, hb, hc⟩ := masks_at ops.toList [] i o (by simpa using ho) j (by simpa using hj)
   have he : e ∈ o.after := by simpa using he
   have hlt := hok.edge i o ho e he hb
   have hLe := hd e he hb
   rcases hc with rfl | hc
   · exact hLe
   · have hi : i < ops.size := (Array.getElem?_eq_some_iff.1 ho).1
     have hoe : ops[e.on]? = some ops[e.on] := Array.getElem?_eq_getElem (by omega)
     exact anc_listed hok hL n e.on (by omega) _ hoe (fun e' he' hb' => hL e.on _ hoe hLe e' he' hb') j hc
def isQuiet : AOp → Bool
 | .st _ _ _ => false
 | .app _ _ _ _ _ => false
 | .callS _ _ => false
 | .callvS _ _ => false
 | .chk _ => false
 | .prim _ _ => false
 | _ => true
theorem prepOp_quiet {P : Program} {o : Oper} {ao : AOp} (h : PrepOp P o ao) (hq : isQuiet ao = true) : (prep P o).getD .bad = ao := by
 rcases h with h | ⟨k, xs, _, e⟩ | ⟨f, as, _, rfl⟩ | ⟨x, as, _, rfl⟩
 · exact h
 · subst e; cases hq
 · cases hq
 · cases hq
def GOut (P : Program) (s : St) (o : AO) (u : Out) : Prop :=
 ((o.guard = none ∨ ∃ d b, o.guard = some (d, b) ∧ s.get d = .bool b) ∧ QOut P s o.op u) ∨
 ((∃ d b, o.guard = some (d, b) ∧ (s.get d = .bool (!b) ∨ s.get d = .nov)) ∧ u = skipOut)
theorem ostep_quiet {P : Program} {s : St} {ao : AOp} {dst : Option Nat} {K : St → Prop} (hq : isQuiet ao = true) (h : OStep P s ao dst K) : QStep P s ao fun u => K (s.next dst u) := by
 unfold OStep at h
 split at h
 · cases hq
 · cases hq
 · cases hq
 · cases hq
 · cases hq
 · cases hq
 · exact h
theorem gstep_quiet0 {P : Program} {s : St} {o : AO} {K : St → Prop} (hq : isQuiet o.op = true) (h : GStep0 P s o K) : ∃ u, GOut P s o u ∧ K (s.next o.dst u) := by
 unfold GStep0 at h
 split at h
 · rename_i hg
   obtain ⟨u, h1, h2⟩ := qstep_out (ostep_quiet hq h)
   exact ⟨u, .inl ⟨.inl hg, h1⟩, h2⟩
 · rename_i d b hg
   unfold Gk at h
   split at h
   · rename_i t ht
     split at h
     · rename_i htb
       obtain ⟨u, h1, h2⟩ := qstep_out (ostep_quiet hq h)
       exact ⟨u, .inl ⟨.inr ⟨d, b, hg, by rw [ht, htb]⟩, h1⟩, h2⟩
     · rename_i htb
       exact ⟨skipOut, .inr ⟨⟨d, b, hg, .inl (by rw [ht]; cases t <;> cases b <;> simp_all)⟩, rfl⟩, h⟩
   · rename_i ht
     exact ⟨skipOut, .inr ⟨⟨d, b, hg, .inr ht⟩, rfl⟩, h⟩
   · exact h.elim
theorem gstep_quiet {P : Program} {s : St} {o : AO} {K : St → Prop} (hq : isQuiet o.op = true) (h : GStep P s o K) : ∃ u, GOut P s o u ∧ K (s.next o.dst u) := by
 obtain ⟨u, h1, h2⟩ := gstep_quiet0 hq h
 exact ⟨u, h1, chk_imp h2⟩
def runS : List AO → List Out → St → St
 | o :: l, u :: us, s => runS l us (s.next o.dst u)
 | _, _, s => s
theorem rstep_trace {P : Program} : ∀ (pre tail : List AO) (s : St) (K : St → Prop), (∀ o ∈ pre, isQuiet o.op = true) → RStep P (pre ++ tail) s K →
   ∃ us : List Out, us.length = pre.length ∧ (∀ (i : Nat) (o : AO) (u : Out), pre[i]? = some o → us[i]? = some u → GOut P (runS (pre.take i) (us.take i) s) o u) ∧ RStep P tail (runS pre us s) K
 | [], tail, s, K, _, h => ⟨[], rfl, by simp, h⟩
 | o :: pre, tail, s, K, hq, h => by
   obtain ⟨u, h1, h2⟩ := gstep_quiet (hq o (by simp)) h
   obtain ⟨us, g1, g2, g3⟩ := rstep_trace pre tail _ K (fun o' ho' => hq o' (by simp [ho'])) h2
   refine ⟨u :: us, by simp [g1], fun i o' u' ho' hu' => ?_, g3⟩
   cases i with
   | zero =>
     obtain rfl : o = o' := by simpa using ho'
     obtain rfl : u = u' := by simpa using hu'
     exact h1
   | succ i => exact g2 i o' u' (by simpa using ho') (by simpa using hu')
theorem runS_snoc : ∀ (pre : List AO) (us : List Out) (s : St) (i : Nat) (o : AO) (u : Out), pre[i]? = some o → us[i]? = some u → runS (pre.take (i + 1)) (us.take (i + 1)) s = (runS (pre.take i) (us.take i) s).next o.dst u
 | [], us, s, i, o, u, h, _ => by simp at h
 | o' :: pre, [], s, i, o, u, _, h => by simp at h
 | o' :: pre, u' :: us, s, 0, o, u, h, k => by
   obtain rfl : o' = o := by simpa using h
   obtain rfl : u' = u := by simpa using k
   simp [runS]
 | o' :: pre, u' :: us, s, i + 1, o, u, h, k => by
   have := runS_snoc pre us (s.next o'.dst u') i o u (by simpa using h) (by simpa using k)
   simpa [runS] using this
structure Tx where
 pre : List AO
 us : List Out
 s : St
def Tx.at_ (T : Tx) (i : Nat) : St := runS (T.pre.take i) (T.us.take i) T.s
section
variable {T : Tx} (hlen : T.us.length = T.pre.length)
include hlen
theorem tx_succ {i : Nat} (hi : i < T.pre.length) : ∃ o u, T.pre[i]? = some o ∧ T.us[i]? = some u ∧ T.at_ (i + 1) = (T.at_ i).next o.dst u :=
 ⟨T.pre[i], T.us[i], List.getElem?_eq_getElem hi, List.getElem?_eq_getElem (by omega), runS_snoc T.pre T.us T.s i _ _ (List.getElem?_eq_getElem hi) (List.getElem?_eq_getElem (by omega))⟩
theorem tx_more {i : Nat} : ∀ {j : Nat}, i ≤ j → j ≤ T.pre.length → ∃ bs fs, (T.at_ j).box = (T.at_ i).box ++ bs ∧ (T.at_ j).fr = (T.at_ i).fr ++ fs
 | 0, h, _ => by
   obtain rfl : i = 0 := by omega
   exact ⟨[], [], by simp, by simp⟩
 | j + 1, h, hj => by
   by_cases e : i = j + 1
   · subst e
     exact ⟨[], [], by simp, by simp⟩
   · obtain ⟨bs, fs, h1, h2⟩ := tx_more (i := i) (j := j) (by omega) (by omega)
     obtain ⟨o, u, _, _, h3⟩ := tx_succ hlen (i := j) (by omega)
     refine ⟨bs ++ u.nb.toList, fs ++ u.nt, ?_, ?_⟩
     · rw [h3]
       simp [St.next, h1]
     · rw [h3]
       simp [St.next, h2]
theorem tx_sigma {i j : Nat} (hij : i ≤ j) (hj : j ≤ T.pre.length) {l : Nat} {b : TypeId × List AV} (h : (T.at_ i).σ l = some b) : (T.at_ j).σ l = some b := by
 obtain ⟨bs, fs, h1, _⟩ := tx_more hlen hij hj
 have hlt : l < (T.at_ i).box.length := (List.getElem?_eq_some_iff.1 h).1
 show (T.at_ j).box[l]? = _
 rw [h1, List.getElem?_append_left hlt]
 exact h
theorem tx_box_new {i : Nat} {u : Out} (hi : i < T.pre.length) (hu : T.us[i]? = some u) : (T.at_ (i + 1)).box = (T.at_ i).box ++ u.nb.toList ∧ (T.at_ (i + 1)).fr = (T.at_ i).fr ++ u.nt := by
 obtain ⟨o, u', _, h2, h3⟩ := tx_succ hlen hi
 obtain rfl : u' = u := Option.some.inj (h2.symm.trans hu)
 rw [h3]
 exact ⟨rfl, rfl⟩
theorem tx_size {i : Nat} : i ≤ T.pre.length → (T.at_ i).n = T.s.n := by
 induction i with
 | zero => intro _; rfl
 | succ i ih =>
   intro hi
   obtain ⟨o, u, _, _, h3⟩ := tx_succ hlen (i := i) (by omega)
   rw [h3]
   exact ih (by omega)
theorem tx_p {i : Nat} : i ≤ T.pre.length → (T.at_ i).p = T.s.p := by
 induction i with
 | zero => intro _; rfl
 | succ i ih =>
   intro hi
   obtain ⟨o, u, _, _, h3⟩ := tx_succ hlen (i := i) (by omega)
   rw [h3]
   exact ih (by omega)
theorem tx_keep {t : Nat} {k : Nat} : ∀ {i : Nat}, k ≤ i → i ≤ T.pre.length → (∀ j, k ≤ j → j < i → ∀ o, T.pre[j]? = some o → o.dst ≠ some t) → (T.at_ i).get t = (T.at_ k).get t
 | 0, h, _, _ => by
   obtain rfl : k = 0 := by omega
   rfl
 | i + 1, h, hi, hd => by
   by_cases e : k = i + 1
   · rw [e]
   · obtain ⟨o, u, h1, _, h3⟩ := tx_succ hlen (i := i) (by omega)
     rw [h3, ← tx_keep (i := i) (by omega) (by omega) (fun j h1 h2 => hd j h1 (by omega))]
     have hne := hd i (by omega) (by omega) o h1
     simp only [St.next]
     cases hdst : o.dst with
     | none => rfl
     | some d =>
       rw [hdst] at hne
       simp only [St.get]
       rw [putT_get, if_neg (fun q => hne (by rw [q.1]))]
theorem tx_out {t : Nat} : ∀ {i : Nat}, i ≤ T.pre.length → T.s.n ≤ t → (T.at_ i).get t = T.s.get t
 | 0, _, _ => rfl
 | i + 1, hi, ht => by
   obtain ⟨o, u, h1, _, h3⟩ := tx_succ hlen (i := i) (by omega)
   rw [h3, ← tx_out (i := i) (by omega) ht]
   simp only [St.next, St.get]
   cases hdst : o.dst with
   | none => rfl
   | some d => rw [putT_get, if_neg (fun q => by have := tx_size hlen (i := i) (by omega); omega)]
theorem tx_wrote {t j i : Nat} {o : AO} {u : Out} (hji : j < i) (hi : i ≤ T.pre.length) (ho : T.pre[j]? = some o) (hu : T.us[j]? = some u) (hd : o.dst = some t) (ht : t < T.s.n)
   (hone : ∀ k, k ≠ j → ∀ o', T.pre[k]? = some o' → o'.dst ≠ some t) : (T.at_ i).get t = u.v := by
 rw [tx_keep hlen (k := j + 1) (i := i) (by omega) hi (fun k h1 h2 o' ho' => hone k (by omega) o' ho')]
 obtain ⟨o1, u1, h1, h2, h3⟩ := tx_succ hlen (i := j) (by omega)
 obtain rfl : o1 = o := Option.some.inj (h1.symm.trans ho)
 obtain rfl : u1 = u := Option.some.inj (h2.symm.trans hu)
 rw [h3]
 simp only [St.next, St.get, hd]
 rw [putT_get, if_pos ⟨rfl, by rw [tx_size hlen (by omega)]; exact ht⟩]
end
end Go.Proofs.YtibploaibljcmaaGreatDoor
