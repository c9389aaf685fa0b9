import Derived.Test.YtibploaibljcmaaGreatDoorAv11
namespace Go.Proofs.YtibploaibljcmaaGreatDoor
open Go.RowKit
set_option linter.unusedVariables false
set_option linter.unusedSimpArgs false
set_option maxHeartbeats 1000000
structure PInv (X : Cx) (T : Tx) (L : Nat → Bool) (a : Act) (w : World) (M : Mem) : Prop where
 mr : MR X M (T.at_ T.pre.length).σ w
 bx0 : ∀ l, l < T.s.box.length → M.μ l ≠ none
 bxd : ∀ (i : Nat) (u : Out), i < T.pre.length → T.us[i]? = some u → u.nb ≠ none → (L i = true → M.μ (T.at_ i).box.length ≠ none) ∧ (L i = false → M.μ (T.at_ i).box.length = none)
 fr0 : ∀ k, k < T.s.fr.length → M.fr k = T.s.fr[k]?
 frd : ∀ (i : Nat) (u : Out), i < T.pre.length → T.us[i]? = some u → ∀ k, k < u.nt.length → (L i = true → M.fr ((T.at_ i).fr.length + k) = u.nt[k]?) ∧ (L i = false → M.fr ((T.at_ i).fr.length + k) = none)
 fro : ∀ k, M.fr k ≠ none → k < (T.at_ T.pre.length).fr.length
 tm : ∀ (i : Nat) (o : AO) (u : Out) (t : Nat), T.pre[i]? = some o → T.us[i]? = some u → o.dst = some t → L i = true → t < T.s.n → Rep M (a.tmps.getD t undef) u.v
 ts : ∀ t, (T.s.n ≤ t ∨ ∀ (i : Nat) (o : AO), T.pre[i]? = some o → o.dst = some t → L i = false) → Rep M (a.tmps.getD t undef) (T.s.get t)
 defers : a.defers = []
 size : a.tmps.size = T.s.n
 pp : (∀ l, X.M1.μ l ≠ none → l < T.s.p.1) ∧ ∀ k, X.M1.fr k ≠ none → k < T.s.p.2
theorem tau_ext {f : Nat → Option (TypeId × Nat)} {l : List (TypeId × Nat)} (h1 : ∀ k, k < l.length → f k = l[k]?) (h2 : ∀ k, f k ≠ none → k < l.length) : f = fun k => l[k]? := by
 funext k
 by_cases h : k < l.length
 · exact h1 k h
 · rw [List.getElem?_eq_none (by omega)]
   cases hf : f k with
   | none => rfl
   | some x => exact absurd (h2 k (by rw [hf]; simp)) h
theorem pinv_end {X : Cx} {T : Tx} (hlen : T.us.length = T.pre.length) (hone : ∀ (i j : Nat) (o o' : AO), T.pre[i]? = some o → T.pre[j]? = some o' → j ≠ i → ∀ d, o.dst = some d → o'.dst ≠ some d) {L : Nat → Bool} (hL : ∀ i, i < T.pre.length → L i = true)
   {a : Act} {w : World} {M : Mem} (h : PInv X T L a w M) : StR X (T.at_ T.pre.length) a w M := by
 have boxes : ∀ i, i ≤ T.pre.length → ∀ l, l < (T.at_ i).box.length → M.μ l ≠ none := by
   intro i
   induction i with
   | zero => exact fun _ l hl => h.bx0 l hl
   | succ i ih =>
     intro hi l hl
     obtain ⟨o, u, h1, h2, h3⟩ := tx_succ hlen (i := i) (by omega)
     obtain ⟨e1, e2⟩ := tx_box_new hlen (i := i) (by omega) h2
     by_cases hlt : l < (T.at_ i).box.length
     · exact ih (by omega) l hlt
     · have hnb : u.nb ≠ none := fun hn => by
         rw [e1, hn] at hl
         simp at hl
         omega
       have : l = (T.at_ i).box.length := by
         rw [e1, List.length_append] at hl
         cases hn : u.nb with
         | none => exact absurd hn hnb
         | some b => rw [hn] at hl; simp at hl; omega
       rw [this]
       exact (h.bxd i u (by omega) h2 hnb).1 (hL i (by omega))
 have marks : ∀ i, i ≤ T.pre.length → ∀ k, k < (T.at_ i).fr.length → M.fr k = (T.at_ i).fr[k]? := by
   intro i
   induction i with
   | zero => exact fun _ k hk => h.fr0 k hk
   | succ i ih =>
     intro hi k hk
     obtain ⟨o, u, h1, h2, h3⟩ := tx_succ hlen (i := i) (by omega)
     obtain ⟨e1, e2⟩ := tx_box_new hlen (i := i) (by omega) h2
     rw [e2] at hk ⊢
     by_cases hlt : k < (T.at_ i).fr.length
     · rw [List.getElem?_append_left hlt]
       exact ih (by omega) k hlt
     · rw [List.length_append] at hk
       rw [List.getElem?_append_right (by omega)]
       have := (h.frd i u (by omega) h2 (k - (T.at_ i).fr.length) (by omega)).1 (hL i (by omega))
       rw [show (T.at_ i).fr.length + (k - (T.at_ i).fr.length) = k by omega] at this
       exact this
 refine ⟨h.mr, boxes _ (Nat.le_refl _), tau_ext (marks _ (Nat.le_refl _)) h.fro, h.defers, by rw [h.size, tx_size hlen (Nat.le_refl _)], fun t => ?_, by rw [tx_p hlen (Nat.le_refl _)]; exact h.pp⟩
 by_cases hw : ∃ (i : Nat) (o : AO), T.pre[i]? = some o ∧ o.dst = some t
 · obtain ⟨i, o, ho, hd⟩ := hw
   have hi : i < T.pre.length := (List.getElem?_eq_some_iff.1 ho).1
   obtain ⟨u, hu⟩ : ∃ u, T.us[i]? = some u := ⟨T.us[i], List.getElem?_eq_getElem (by omega)⟩
   by_cases ht : t < T.s.n
   · rw [tx_wrote hlen hi (Nat.le_refl _) ho hu hd ht (fun k hk o' ho' => hone i k o o' ho ho' hk t hd)]
     exact h.tm i o u t ho hu hd (hL i hi) ht
   · rw [tx_out hlen (Nat.le_refl _) (by omega)]
     exact h.ts t (.inl (by omega))
 · have hno : ∀ (i : Nat) (o : AO), T.pre[i]? = some o → o.dst ≠ some t := fun i o ho hd => hw ⟨i, o, ho, hd⟩
   rw [tx_keep hlen (k := 0) (Nat.zero_le _) (Nat.le_refl _) (fun j _ _ o ho => hno j o ho)]
   exact h.ts t (.inr fun i o ho hd => absurd hd (hno i o ho))
theorem pinv_step {X : Cx} {T : Tx} (hlen : T.us.length = T.pre.length) (hone : ∀ (i j : Nat) (o o' : AO), T.pre[i]? = some o → T.pre[j]? = some o' → j ≠ i → ∀ d, o.dst = some d → o'.dst ≠ some d) {L L' : Nat → Bool} {i : Nat} {o : AO} {u : Out}
   (ho : T.pre[i]? = some o) (hu : T.us[i]? = some u) (hLi : L i = false) (hL' : ∀ j, L' j = if j = i then true else L j) {a : Act} {w w' : World} {M M' : Mem} {v : Value} (h : PInv X T L a w M)
   (le : Mem.le M M') (mr : MR X M' (T.at_ T.pre.length).σ w') (rep : Rep M' v u.v)
   (fr : M'.fr = fun k => if (T.at_ i).fr.length ≤ k ∧ k < (T.at_ i).fr.length + u.nt.length then u.nt[k - (T.at_ i).fr.length]? else M.fr k)
   (μ : ∀ l, l ≠ (T.at_ i).box.length → M'.μ l = M.μ l) (μ0 : u.nb = none → M'.μ = M.μ) (μ1 : u.nb ≠ none → M'.μ (T.at_ i).box.length ≠ none) : PInv X T L' (a.put o.dst v) w' M' := by
 have hi : i < T.pre.length := (List.getElem?_eq_some_iff.1 ho).1
 have hL1 : L' i = true := by rw [hL', if_pos rfl]
 have hL2 : ∀ j, j ≠ i → L' j = L j := fun j hj => by rw [hL', if_neg hj]
 have apartB : ∀ (j : Nat) (uj : Out), j < T.pre.length → T.us[j]? = some uj → uj.nb ≠ none → u.nb ≠ none → j ≠ i → (T.at_ j).box.length ≠ (T.at_ i).box.length := by
   intro j uj hj huj hn hni hne
   rcases Nat.lt_or_gt_of_ne hne with hlt | hlt
   · obtain ⟨bs, fs, e1, _⟩ := tx_more hlen (T := T) (i := j + 1) (j := i) (by omega) (by omega)
     rw [e1, (tx_box_new hlen hj huj).1]
     cases hb : uj.nb with
     | none => exact absurd hb hn
     | some b => simp
   · obtain ⟨bs, fs, e1, _⟩ := tx_more hlen (T := T) (i := i + 1) (j := j) (by omega) (by omega)
     rw [e1, (tx_box_new hlen hi hu).1]
     cases hb : u.nb with
     | none => exact absurd hb hni
     | some b => simp
 have low : ∀ l, l < T.s.box.length → l ≠ (T.at_ i).box.length := by
   intro l hl e
   obtain ⟨bs, fs, e1, _⟩ := tx_more hlen (T := T) (i := 0) (j := i) (by omega) (by omega)
   have e1 : (T.at_ i).box = T.s.box ++ bs := e1
   rw [e1] at e
   simp at e
   omega
 have lowf : ∀ k, k < T.s.fr.length → k < (T.at_ i).fr.length := by
   intro k hk
   obtain ⟨bs, fs, _, e1⟩ := tx_more hlen (T := T) (i := 0) (j := i) (by omega) (by omega)
   have e1 : (T.at_ i).fr = T.s.fr ++ fs := e1
   rw [e1]
   simp
   omega
 have topf : (T.at_ i).fr.length + u.nt.length ≤ (T.at_ T.pre.length).fr.length := by
   obtain ⟨bs, fs, _, e1⟩ := tx_more hlen (T := T) (i := i + 1) (j := T.pre.length) (by omega) (by omega)
   rw [e1, (tx_box_new hlen hi hu).2]
   simp
 refine ⟨mr, fun l hl => ?_, fun j uj hj huj hn => ?_, fun k hk => ?_, fun j uj hj huj k hk => ?_, fun k hk => ?_, fun j oj uj t hoj huj hd hLj ht => ?_, fun t ht => ?_, by rw [put_defers]; exact h.defers, by rw [put_size]; exact h.size, h.pp⟩
 · rw [μ l (low l hl)]
   exact h.bx0 l hl
 · by_cases hji : j = i
   · subst hji
     obtain rfl : u = uj := Option.some.inj (hu.symm.trans huj)
     exact ⟨fun _ => μ1 hn, fun e => by rw [hL1] at e; cases e⟩
   · rw [hL2 j hji]
     have e : M'.μ (T.at_ j).box.length = M.μ (T.at_ j).box.length := by
       by_cases hni : u.nb = none
       · rw [μ0 hni]
       · exact μ _ (apartB j uj hj huj hn hni hji)
     rw [e]
     exact h.bxd j uj hj huj hn
 · rw [fr]
   show (if _ then _ else _) = _
   rw [if_neg (fun q => by have := lowf k hk; omega)]
   exact h.fr0 k hk
 · rw [fr]
   by_cases hji : j = i
   · subst hji
     obtain rfl : u = uj := Option.some.inj (hu.symm.trans huj)
     refine ⟨fun _ => ?_, fun e => by rw [hL1] at e; cases e⟩
     show (if _ then _ else _) = _
     rw [if_pos (by omega), Nat.add_sub_cancel_left]
   · rw [hL2 j hji]
     have e : (if (T.at_ i).fr.length ≤ (T.at_ j).fr.length + k ∧ (T.at_ j).fr.length + k < (T.at_ i).fr.length + u.nt.length then u.nt[(T.at_ j).fr.length + k - (T.at_ i).fr.length]? else M.fr ((T.at_ j).fr.length + k)) = M.fr ((T.at_ j).fr.length + k) := by
       rw [if_neg]
       rintro ⟨q1, q2⟩
       rcases Nat.lt_or_gt_of_ne hji with hlt | hlt
       · obtain ⟨bs, fs, _, e1⟩ := tx_more hlen (T := T) (i := j + 1) (j := i) (by omega) (by omega)
         rw [e1, (tx_box_new hlen hj huj).2] at q1
         simp at q1
         omega
       · obtain ⟨bs, fs, _, e1⟩ := tx_more hlen (T := T) (i := i + 1) (j := j) (by omega) (by omega)
         rw [e1, (tx_box_new hlen hi hu).2] at q2
         simp at q2
         omega
     show (L j = true → (if _ then _ else _) = _) ∧ (L j = false → (if _ then _ else _) = _)
     rw [e]
     exact h.frd j uj hj huj k hk
 · rw [fr] at hk
   by_cases q : (T.at_ i).fr.length ≤ k ∧ k < (T.at_ i).fr.length + u.nt.length
   · omega
   · have hk : (if _ then _ else _) ≠ none := hk
     rw [if_neg q] at hk
     exact h.fro k hk
 · by_cases hji : j = i
   · subst hji
     obtain rfl : o = oj := Option.some.inj (ho.symm.trans hoj)
     obtain rfl : u = uj := Option.some.inj (hu.symm.trans huj)
     rw [hd, put_get, if_pos ⟨rfl, by rw [h.size]; exact ht⟩]
     exact rep
   · rw [hL2 j hji] at hLj
     have hne := hone j i oj o hoj ho (Ne.symm hji) t hd
     have : (a.put o.dst v).tmps.getD t undef = a.tmps.getD t undef := by
       cases hdo : o.dst with
       | none => rfl
       | some d =>
         rw [hdo] at hne
         rw [put_get, if_neg (fun q => hne (by rw [q.1]))]
     rw [this]
     exact (h.tm j oj uj t hoj huj hd hLj ht).mono le
 · rcases ht with ht | ht
   · have : (a.put o.dst v).tmps.getD t undef = a.tmps.getD t undef := by
       cases hdo : o.dst with
       | none => rfl
       | some d => rw [put_get, if_neg (fun q => by have := h.size; omega)]
     rw [this]
     exact (h.ts t (.inl ht)).mono le
   have hne : o.dst ≠ some t := fun e => by
     have := ht i o ho e
     rw [hL1] at this
     cases this
   have : (a.put o.dst v).tmps.getD t undef = a.tmps.getD t undef := by
     cases hdo : o.dst with
     | none => rfl
     | some d =>
       rw [hdo] at hne
       rw [put_get, if_neg (fun q => hne (by rw [q.1]))]
   rw [this]
   refine (h.ts t (.inr fun j oj hoj hdj => ?_)).mono le
   have hji : j ≠ i := fun e => by
     subst e
     obtain rfl : o = oj := Option.some.inj (ho.symm.trans hoj)
     exact hne hdj
   rw [← hL2 j hji]
   exact ht j oj hoj hdj
section
variable {X : Cx} {ops : Array Oper} {aos : List AO} {p : Nat}
theorem prep_at (hp : ∀ (i : Nat) (o : Oper), ops[i]? = some o → ∃ ao, aos[i]? = some ao ∧ PrepR X.P ops o ao) (hl : aos.length = ops.size) {i : Nat} {ao : AO} (h : aos[i]? = some ao) : ∃ o, ops[i]? = some o ∧ PrepR X.P ops o ao := by
 have hi : i < ops.size := by rw [← hl]; exact (List.getElem?_eq_some_iff.1 h).1
 have ho : ops[i]? = some ops[i] := Array.getElem?_eq_getElem hi
 obtain ⟨ao', h1, h2⟩ := hp i _ ho
 obtain rfl : ao = ao' := Option.some.inj (h.symm.trans h1)
 exact ⟨_, ho, h2⟩
theorem pinv_slot {T : Tx} (hlen : T.us.length = T.pre.length) (hone : ∀ (i j : Nat) (o o' : AO), T.pre[i]? = some o → T.pre[j]? = some o' → j ≠ i → ∀ d, o.dst = some d → o'.dst ≠ some d) {L : Nat → Bool} {a : Act} {w : World} {M : Mem} (h : PInv X T L a w M) {i : Nat} (hi : i < T.pre.length) (hLi : L i = false) {t : Nat}
   (hb : ∀ (j : Nat) (o : AO), T.pre[j]? = some o → o.dst = some t → j ≠ i → (j < i ∧ L j = true) ∨ (i < j ∧ L j = false)) : Rep M (a.tmps.getD t undef) ((T.at_ i).get t) := by
 by_cases hw : ∃ (j : Nat) (o : AO), T.pre[j]? = some o ∧ o.dst = some t ∧ j < i
 · obtain ⟨j, o, ho, hd, hji⟩ := hw
   have hLj : L j = true := by
     rcases hb j o ho hd (by omega) with q | q
     · exact q.2
     · omega
   obtain ⟨u, hu⟩ : ∃ u, T.us[j]? = some u := ⟨T.us[j], List.getElem?_eq_getElem (by omega)⟩
   by_cases ht : t < T.s.n
   · rw [tx_wrote hlen hji (by omega) ho hu hd ht (fun k hk o' ho' => hone j k o o' ho ho' hk t hd)]
     exact h.tm j o u t ho hu hd hLj ht
   · rw [tx_out hlen (by omega) (by omega)]
     exact h.ts t (.inl (by omega))
 · rw [tx_keep hlen (k := 0) (Nat.zero_le _) (by omega) (fun j _ hji o ho hd => hw ⟨j, o, ho, hd, hji⟩)]
   refine h.ts t (.inr fun j o ho hd => ?_)
   by_cases hji : j = i
   · rw [hji]; exact hLi
   · rcases hb j o ho hd hji with q | q
     · exact absurd ⟨j, o, ho, hd, q.1⟩ hw
     · exact q.2
theorem draw_ok (hm : X.P.follows .mixedOrders = true) (hp : ∀ (i : Nat) (o : Oper), ops[i]? = some o → ∃ ao, aos[i]? = some ao ∧ PrepR X.P ops o ao) (hl : aos.length = ops.size) (hple : p ≤ ops.size) (hok : okDraw ops p = true)
   (hquiet : ((aos.take p).all fun o => isQuiet o.op) = true) {K : Exit → St → Prop} {s : St} {a : Act} {w : World} {M : Mem} (hr : RStep X.P aos s (K .normal)) (h : StR X s a w M) {id : Nat} :
   (Code.region id ops true).wp X.P (Post X K) a w := by
 have hO := okDraw_spec hok
 rw [← List.take_append_drop p aos] at hr
 obtain ⟨us, t1, t2, t3⟩ := rstep_trace (aos.take p) (aos.drop p) s (K .normal) (fun o ho => List.all_eq_true.1 hquiet o ho) hr
 have hpl : (aos.take p).length = p := by rw [List.length_take]; omega
 obtain ⟨T, rfl, rfl, hTp⟩ : ∃ T : Tx, T.us = us ∧ T.s = s ∧ T.pre = aos.take p := ⟨⟨aos.take p, us, s⟩, rfl, rfl, rfl⟩
 have hlen : T.us.length = T.pre.length := by rw [hTp]; exact t1
 have hTl : T.pre.length = p := by rw [hTp]; exact hpl
 have t2' : ∀ (i : Nat) (o : AO) (u : Out), T.pre[i]? = some o → T.us[i]? = some u → GOut X.P (T.at_ i) o u := by
   unfold Tx.at_
   rw [hTp]
   exact t2
 have t3' : RStep X.P (aos.drop p) (T.at_ T.pre.length) (K .normal) := by
   unfold Tx.at_
   rw [List.take_of_length_le (Nat.le_refl _), ← hlen, List.take_of_length_le (Nat.le_refl _), hTp]
   exact t3
 have hpre : ∀ {i : Nat} {o : AO}, T.pre[i]? = some o → i < p ∧ aos[i]? = some o := fun {i o} ho => by
   rw [hTp] at ho
   have hi : i < p := by rw [← hpl]; exact (List.getElem?_eq_some_iff.1 ho).1
   rw [List.getElem?_take_of_lt hi] at ho
   exact ⟨hi, ho⟩
 have hone : ∀ (i j : Nat) (o o' : AO), T.pre[i]? = some o → T.pre[j]? = some o' → j ≠ i → ∀ d, o.dst = some d → o'.dst ≠ some d := fun i j o o' ho ho' hne d hd => by
   obtain ⟨hi, h1⟩ := hpre ho
   obtain ⟨hj, h2⟩ := hpre ho'
   obtain ⟨x, k1, k2⟩ := prep_at hp hl h1
   obtain ⟨y, k3, k4⟩ := prep_at hp hl h2
   rw [← (prepR_spec k4).2.2]
   exact hO.dsts i j x y hi hj k1 k3 hne d (by rw [(prepR_spec k2).2.2]; exact hd)
 have main : ∀ (fuel : Nat) (listed : Array Bool) (a : Act) (w : World), ((List.range ops.size).filter fun j => !listed.getD j true).length ≤ fuel → listed.size = ops.size →
     (∀ (i : Nat) (o : Oper), ops[i]? = some o → listed.getD i false = true → ∀ e ∈ o.after, Region.binds .any e = true → listed.getD e.on false = true) →
     ((∃ M, PInv X T (fun i => listed.getD i false) a w M ∧ ∀ i, p ≤ i → listed.getD i false = false) ∨ ∃ q s M, p ≤ q ∧ q ≤ ops.size ∧ (∀ i, i < ops.size → (listed.getD i false = true ↔ i < q)) ∧ StR X s a w M ∧ RStep X.P (aos.drop q) s (K .normal)) →
     wpAny X.P .any ops (Post X K) fuel listed a w := by
   have toTwo : ∀ (listed : Array Bool) (a : Act) (w : World), listed.size = ops.size → (∀ i, i < p → listed.getD i false = true) →
       ((∃ M, PInv X T (fun i => listed.getD i false) a w M ∧ ∀ i, p ≤ i → listed.getD i false = false) ∨ ∃ q s M, p ≤ q ∧ q ≤ ops.size ∧ (∀ i, i < ops.size → (listed.getD i false = true ↔ i < q)) ∧ StR X s a w M ∧ RStep X.P (aos.drop q) s (K .normal)) →
       ∃ q s M, p ≤ q ∧ q ≤ ops.size ∧ (∀ i, i < ops.size → (listed.getD i false = true ↔ i < q)) ∧ StR X s a w M ∧ RStep X.P (aos.drop q) s (K .normal) := fun listed a w hsz hall h => by
     rcases h with ⟨M, h1, h2⟩ | h
     · refine ⟨p, _, M, Nat.le_refl _, hple, fun i hi => ⟨fun e => ?_, fun e => hall i e⟩, pinv_end hlen hone (fun i hi => hall i (by omega)) h1, t3'⟩
       rcases Nat.lt_or_ge i p with q | q
       · exact q
       · have := h2 i q
         rw [this] at e
         cases e
     · exact h
   have hend : ∀ (listed : Array Bool) (a : Act) (w : World), listed.size = ops.size →
       ((∃ M, PInv X T (fun i => listed.getD i false) a w M ∧ ∀ i, p ≤ i → listed.getD i false = false) ∨ ∃ q s M, p ≤ q ∧ q ≤ ops.size ∧ (∀ i, i < ops.size → (listed.getD i false = true ↔ i < q)) ∧ StR X s a w M ∧ RStep X.P (aos.drop q) s (K .normal)) →
       Region.ready .any ops listed = [] → Post X K .normal a w := by
     intro listed a w hsz hI hr
     have hall : ∀ n j, j < n → j < ops.size → listed.getD j false = true := by
       intro n
       induction n with
       | zero => intro j hj; omega
       | succ n ih =>
         intro j hj hjs
         by_cases hjn : j < n
         · exact ih j hjn hjs
         · have hj' : j = n := by omega
           subst hj'
           cases hlj : listed.getD j false with
           | true => rfl
           | false =>
             have hoj : ops[j]? = some ops[j] := Array.getElem?_eq_getElem hjs
             have : j ∈ Region.ready .any ops listed := mem_ready.2 ⟨by rw [getD_bool _ _ (by rw [hsz]; exact hjs)]; exact hlj, ops[j], hoj, fun e he hb => by
               have hlt := hO.edge j _ hoj e he hb
               exact ih e.on hlt (by omega)⟩
             rw [hr] at this
             cases this
     obtain ⟨q, s, M, h1, h2, h3, h4, h5⟩ := toTwo listed a w hsz (fun i hi => hall (i + 1) i (by omega) (by omega)) hI
     have hq : q = ops.size := by
       rcases Nat.lt_or_ge q ops.size with q' | q'
       · have := (h3 q q').1 (hall (q + 1) q (by omega) q')
         omega
       · omega
     rw [hq, List.drop_eq_nil_of_le (by omega)] at h5
     exact ⟨s, M, h5, h4⟩
   intro fuel
   induction fuel with
   | zero =>
     intro listed a w hf hsz hcl hI
     have hr : Region.ready .any ops listed = [] := by
       apply List.eq_nil_iff_forall_not_mem.2
       intro j hj
       obtain ⟨h0, o, ho, _⟩ := mem_ready.1 hj
       have hmem : j ∈ (List.range ops.size).filter fun j => !listed.getD j true := by
         rw [List.mem_filter, List.mem_range]
         exact ⟨(Array.getElem?_eq_some_iff.1 ho).1, by rw [h0]; rfl⟩
       have := List.length_pos_of_mem hmem
       omega
     exact ⟨hr, hend listed a w hsz hI hr⟩
   | succ fuel ih =>
     intro listed a w hf hsz hcl hI
     refine ⟨hend listed a w hsz hI, fun i hi => ?_⟩
     obtain ⟨h0, o, ho, hall⟩ := mem_ready.1 hi
     have his : i < ops.size := (Array.getElem?_eq_some_iff.1 ho).1
     have hLi : listed.getD i false = false := by rw [← getD_bool _ _ (by rw [hsz]; exact his)]; exact h0
     have hfuel : ((List.range ops.size).filter fun j => !(listed.setIfInBounds i true).getD j true).length ≤ fuel := by
       have hlt : ((List.range ops.size).filter fun j => !(listed.setIfInBounds i true).getD j true).length < ((List.range ops.size).filter fun j => !listed.getD j true).length := by
         have hsub : ((List.range ops.size).filter fun j => !(listed.setIfInBounds i true).getD j true) = (((List.range ops.size).filter fun j => !listed.getD j true).filter fun j => j != i) := by
           rw [List.filter_filter]
           apply List.filter_congr
           intro j hj
           rw [List.mem_range] at hj
           by_cases hji : j = i
           · subst hji; simp [hsz, his]
           · rw [getD_set_ne true (Ne.symm hji)]; simp [hji]
         rw [hsub]
         have hmem : i ∈ (List.range ops.size).filter fun j => !listed.getD j true := by
           rw [List.mem_filter, List.mem_range]
           exact ⟨his, by rw [h0]; rfl⟩
         exact List.length_filter_lt_length_iff_exists.2 ⟨i, hmem, by simp⟩
       omega
     have hL' : ∀ j, (listed.setIfInBounds i true).getD j false = if j = i then true else listed.getD j false := fun j => by
       by_cases hji : j = i
       · subst hji; simp [hsz, his]
       · rw [getD_set_ne false (Ne.symm hji), if_neg hji]
     have hcl' : ∀ (j : Nat) (oj : Oper), ops[j]? = some oj → (listed.setIfInBounds i true).getD j false = true → ∀ e ∈ oj.after, Region.binds .any e = true → (listed.setIfInBounds i true).getD e.on false = true := fun j oj hoj hlj e he hb => by
       rw [hL'] at hlj ⊢
       by_cases hji : j = i
       · subst hji
         obtain rfl : o = oj := Option.some.inj (ho.symm.trans hoj)
         rw [hall e he hb]
         split <;> rfl
       · rw [if_neg hji] at hlj
         rw [hcl j oj hoj hlj e he hb]
         split <;> rfl
     have hanc : ∀ j, ((masks ops.toList []).getD i 0).testBit j = true → listed.getD j false = true := fun j hj =>
       anc_listed hO (L := fun i => listed.getD i false) hcl (i + 1) i (by omega) o ho hall j hj
     obtain ⟨ao, hao, hpo⟩ := hp i o ho
     by_cases hip : i < p
     · -- in the open part
       rcases hI with ⟨M, hP, htl⟩ | ⟨q, s, M, h1, h2, h3, _⟩
       rotate_left
       · have := (h3 i his).2 (by omega)
         rw [hLi] at this
         cases this
       have hio : T.pre[i]? = some ao := by rw [hTp, List.getElem?_take_of_lt hip]; exact hao
       obtain ⟨u, hu⟩ : ∃ u, T.us[i]? = some u := ⟨T.us[i], List.getElem?_eq_getElem (by omega)⟩
       obtain ⟨q1, q2, q3⟩ := prepR_spec hpo
       have hnext : ∀ (v : Value) (w' : World) (M' : Mem), Mem.le M M' → MR X M' (T.at_ T.pre.length).σ w' → Rep M' v u.v → (M'.fr = fun k => if (T.at_ i).fr.length ≤ k ∧ k < (T.at_ i).fr.length + u.nt.length then u.nt[k - (T.at_ i).fr.length]? else M.fr k) →
           (∀ l, l ≠ (T.at_ i).box.length → M'.μ l = M.μ l) → (u.nb = none → M'.μ = M.μ) → (u.nb ≠ none → M'.μ (T.at_ i).box.length ≠ none) → wpAny X.P .any ops (Post X K) fuel (listed.setIfInBounds i true) (a.put o.dst v) w' := fun v w' M' g1 g2 g3 g4 g5 g6 g7 => by
         refine ih _ _ _ hfuel (by simp [hsz]) hcl' (.inl ⟨M', ?_, fun j hj => ?_⟩)
         · rw [q3]
           exact pinv_step hlen hone hio hu hLi hL' hP g1 g2 g3 g4 g5 g6 g7
         · rw [hL', if_neg (by omega)]
           exact htl j hj
       have hslot : ∀ t ∈ namesOf ops o, Rep M (a.tmps.getD t undef) ((T.at_ i).get t) := fun t ht => by
         refine pinv_slot hlen hone hP (by omega) hLi fun j oj hoj hdj hji => ?_
         obtain ⟨hj, hoj'⟩ := hpre hoj
         obtain ⟨x, k1, k2⟩ := prep_at hp hl hoj'
         rcases hO.names i o hip ho t ht j x hj k1 (by rw [(prepR_spec k2).2.2]; exact hdj) hji with ⟨c1, c2⟩ | ⟨c1, c2⟩
         · exact .inl ⟨c1, hanc j c2⟩
         · refine .inr ⟨c1, ?_⟩
           cases hlj : listed.getD j false with
           | false => rfl
           | true =>
             have := anc_listed hO (L := fun i => listed.getD i false) hcl (j + 1) j (by omega) x k1 (fun e he hb => hcl j x k1 hlj e he hb) i c2
             rw [hLi] at this
             cases this
       have hg := t2' i ao u hio hu
       unfold wpOp
       rw [ho]
       simp only
       have hgd : ∀ d b, ao.guard = some (d, b) → ∃ g, o.guard = some (g, b) ∧ (ops[g]?).bind (·.dst) = some d ∧ d ∈ namesOf ops o := fun d b hgo => by
         rw [hgo] at q2
         cases hog : o.guard with
         | none => rw [hog] at q2; cases q2
         | some x =>
           obtain ⟨g, b'⟩ := x
           rw [hog] at q2
           obtain ⟨d', hd', e⟩ := Option.map_eq_some_iff.1 q2
           injection e with e
           injection e with e1 e2
           subst e1 e2
           refine ⟨g, rfl, hd', ?_⟩
           unfold namesOf
           rw [hog]
           simp only
           rw [hd']
           simp
       rcases hg with ⟨hgy, hq⟩ | ⟨⟨d, b, hgo, hdv⟩, hus⟩
       · have hw : Region.wanted o (yielded ops a.tmps) = true := by
           rcases hgy with hgo | ⟨d, b, hgo, hdv⟩
           · have : o.guard = none := by
               rw [hgo] at q2
               cases hog : o.guard with
               | none => rfl
               | some x =>
                 rw [hog] at q2
                 obtain ⟨_, _, e⟩ := Option.map_eq_some_iff.1 q2
                 cases e
             simp [Region.wanted, this]
           · obtain ⟨g, c1, c2, c3⟩ := hgd d b hgo
             have := (yields_of c2 (hslot d c3)).1 b hdv
             simp [Region.wanted, c1, this]
         rw [if_pos hw]
         left
         have hnl : u.nb ≠ none → M.μ (T.at_ i).box.length = none := fun hn => (hP.bxd i u (by omega) hu hn).2 hLi
         have hnt : ∀ k, k < u.nt.length → M.fr ((T.at_ i).fr.length + k) = none := fun k hk => (hP.frd i u (by omega) hu k hk).2 hLi
         have hnb : ∀ b, u.nb = some b → (T.at_ T.pre.length).σ (T.at_ i).box.length = some b := fun b hb => by
           refine tx_sigma hlen (i := i + 1) (by omega) (Nat.le_refl _) ?_
           show (T.at_ (i + 1)).box[_]? = _
           rw [(tx_box_new hlen (by omega) hu).1, hb]
           simp
         refine q_ok hP.mr (prepOp_quiet q1 (List.all_eq_true.1 hquiet ao (List.mem_of_getElem? (by rw [List.getElem?_take_of_lt hip]; exact hao)))) hq (fun l b hb => tx_sigma hlen (i := i) (by omega) (Nat.le_refl _) hb) (fun x hx ax hax => ?_) hnl hnb hnt (fun v w' M' g => hnext v w' M' g.le g.mr g.rep g.fr g.μ g.μ0 g.μ1)
         cases x with
         | tmp t =>
           simp only [axOf, Option.some.injEq] at hax
           subst hax
           refine hslot t ?_
           unfold namesOf looks
           refine List.mem_append_left _ ?_
           rw [List.mem_filterMap]
           exact ⟨_, hx, rfl⟩
         | const v =>
           simp only [axOf] at hax
           obtain ⟨b, hb, rfl⟩ := Option.map_eq_some_iff.1 hax
           exact avOf_rep hb
         | func f =>
           simp only [axOf, Option.some.injEq] at hax
           subst hax
           exact .fn f [] [] rfl (fun i h => absurd h (by simp))
         | global g =>
           obtain ⟨b, rfl, hb⟩ := gam_rep hP.mr.kg (show gamAX g = some ax from hax)
           exact hb
       · obtain ⟨g, c1, c2, c3⟩ := hgd d b hgo
         have hy := yields_of c2 (hslot d c3)
         have hw : Region.wanted o (yielded ops a.tmps) = false := by
           rcases hdv with hdv | hdv
           · have := hy.1 _ hdv
             simp [Region.wanted, c1, this]
           · have := hy.2 hdv
             simp [Region.wanted, c1, this]
         rw [if_neg (by rw [hw]; exact Bool.false_ne_true)]
         subst hus
         refine hnext undef w M (.refl M) hP.mr .nov ?_ (fun _ _ => rfl) (fun _ => rfl) (fun e => absurd rfl e)
         funext k
         rw [if_neg (fun q => by have q2 := q.2; have q1 := q.1; simp only [skipOut, List.length_nil] at q2; omega)]
     · -- in the part whose order is bound
       have hearl : ∀ j, j < i → listed.getD j false = true := fun j hj => hanc j (hO.tail i his (by omega) j hj)
       obtain ⟨q, s, M, h1, h2, h3, h4, h5⟩ := toTwo listed a w hsz (fun j hj => hearl j (by omega)) hI
       have hqi : q = i := by
         have n1 : ¬ i < q := fun c => by
           have := (h3 i his).2 c
           rw [hLi] at this
           cases this
         rcases Nat.lt_or_ge q i with c | c
         · have := (h3 q (by omega)).1 (hearl q c)
           omega
         · omega
       subst hqi
       have hqa : q < aos.length := by omega
       rw [List.drop_eq_getElem_cons hqa] at h5
       have : aos[q] = ao := by
         rw [List.getElem?_eq_getElem hqa] at hao
         exact Option.some.inj hao
       rw [this] at h5
       refine g_ok ho hpo h4 h5 (fun s' a' w' M' hK h' => ih _ _ _ hfuel (by simp [hsz]) hcl' (.inr ⟨q + 1, s', M', by omega, by omega, fun j hj => ?_, h', hK⟩))
       rw [hL']
       by_cases hjq : j = q
       · rw [if_pos hjq]
         exact ⟨fun _ => by omega, fun _ => rfl⟩
       · rw [if_neg hjq, h3 j hj]
         omega
 refine wp_region_any hm (main _ _ _ _ ?_ (by simp) (fun i o ho hli => ?_) (.inl ⟨M, ?_, fun i hi => ?_⟩))
 · refine Nat.le_trans (List.length_filter_le _ _) (by simp)
 · simp only [Array.getD_eq_getD_getElem?, Array.getElem?_replicate] at hli
   split at hli <;> simp at hli
 · have hfalse : ∀ i, (Array.replicate ops.size false).getD i false = false := fun i => by
     simp only [Array.getD_eq_getD_getElem?, Array.getElem?_replicate]
     split <;> rfl
   have hmr : MR X M (T.at_ T.pre.length).σ { w with drawn := w.drawn + 1 } := by
     have := (h.mr.ext (σ' := (T.at_ T.pre.length).σ) (fun l b hb => tx_sigma hlen (i := 0) (Nat.zero_le _) (Nat.le_refl _) hb))
     exact ⟨this.kap, this.old, ⟨this.bel.os, this.bel.tape, this.bel.output, this.bel.size, this.bel.block⟩, this.hb, this.box, this.inj, this.tok, this.tinj, this.prot⟩
   refine ⟨hmr, h.boxes, fun i u hi hu hn => ⟨fun e => (by rw [hfalse] at e; cases e), fun _ => ?_⟩, fun k hk => by rw [h.fr]; rfl, fun i u hi hu k hk => ⟨fun e => (by rw [hfalse] at e; cases e), fun _ => ?_⟩, fun k hk => ?_, fun i o u t _ _ _ e => (by rw [hfalse] at e; cases e), fun t _ => h.tmps t, h.defers, h.size, h.pp⟩
   · refine mu_none h ?_
     obtain ⟨bs, fs, e1, _⟩ := tx_more hlen (T := T) (i := 0) (j := i) (by omega) (by omega)
     have e1 : (T.at_ i).box = T.s.box ++ bs := e1
     rw [e1]
     simp
   · rw [h.fr]
     refine List.getElem?_eq_none ?_
     obtain ⟨bs, fs, _, e1⟩ := tx_more hlen (T := T) (i := 0) (j := i) (by omega) (by omega)
     have e1 : (T.at_ i).fr = T.s.fr ++ fs := e1
     rw [e1]
     simp
     omega
   · rw [h.fr] at hk
     have hk : T.s.fr[k]? ≠ none := hk
     have hlt : k < T.s.fr.length := by
       rcases Nat.lt_or_ge k T.s.fr.length with c | c
       · exact c
       · exact absurd (List.getElem?_eq_none c) hk
     obtain ⟨bs, fs, _, e1⟩ := tx_more hlen (T := T) (i := 0) (j := T.pre.length) (by omega) (by omega)
     have e1 : (T.at_ T.pre.length).fr = T.s.fr ++ fs := e1
     rw [e1]
     simp
     omega
 · simp only [Array.getD_eq_getD_getElem?, Array.getElem?_replicate]
   split <;> rfl
end
end Go.Proofs.YtibploaibljcmaaGreatDoor
