import Derived.Test.YtibploaibljcmaaGreatDoorAv12b
namespace Go.Proofs.YtibploaibljcmaaGreatDoor
open Go.RowKit
set_option linter.unusedVariables false
set_option linter.unusedSimpArgs false
set_option maxHeartbeats 1000000
structure SEq (s t : St) : Prop where
 n : s.n = t.n
 box : s.box = t.box
 fr : s.fr = t.fr
 p : s.p = t.p
 get : ∀ k, s.get k = t.get k
theorem SEq.str {X : Cx} {s t : St} (h : SEq s t) {a : Act} {w : World} {M : Mem} (k : StR X s a w M) : StR X t a w M := by
 obtain ⟨sn, stm, sb, sf, sp⟩ := s
 obtain ⟨tn, ttm, tb, tf, tp⟩ := t
 obtain ⟨h1, h2, h3, h5, h4⟩ := h
 simp only at h1 h2 h3 h5
 subst h1 h2 h3 h5
 exact ⟨k.mr, k.boxes, k.fr, k.defers, k.size, fun t => by rw [← h4 t]; exact k.tmps t, k.pp⟩
def St.hide (s : St) (U : List Nat) : St := { s with tm := U.map (fun t => (t, AV.und)) ++ s.tm }
theorem hide_get (s : St) : ∀ (U : List Nat) (t : Nat), (s.hide U).get t = if t ∈ U then .und else s.get t
 | [], t => by simp [St.hide, St.get]
 | u :: U, t => by
   have ih := hide_get s U t
   simp only [St.hide, St.get, List.map_cons, List.cons_append, getT] at ih ⊢
   by_cases h : u = t
   · subst h; simp
   · rw [if_neg h, ih]
     have : t ≠ u := fun e => h e.symm
     simp [this]
theorem hide_nu {s : St} {U : List Nat} {x : AX} (h : ∀ t, x = .tmp t → t ∉ U) : (s.hide U).ν x = s.ν x := by
 cases x with
 | tmp t =>
   show (s.hide U).get t = s.get t
   rw [hide_get, if_neg (h t rfl)]
 | val a => rfl
theorem put_hide {s : St} {U : List Nat} {dst : Option Nat} {v : AV} (h : ∀ d, dst = some d → d ∉ U) : SEq ((s.hide U).put dst v) ((s.put dst v).hide U) := by
 refine ⟨rfl, rfl, rfl, rfl, fun k => ?_⟩
 rw [hide_get]
 cases dst with
 | none =>
   show (s.hide U).get k = _
   rw [hide_get]
   rfl
 | some d =>
   have e1 : ((s.hide U).put (some d) v).get k = if k = d ∧ d < s.n then v else (s.hide U).get k := putT_get s.n (s.hide U).tm d k v
   have e2 : (s.put (some d) v).get k = if k = d ∧ d < s.n then v else s.get k := putT_get s.n s.tm d k v
   rw [e1, e2, hide_get]
   by_cases hk : k = d ∧ d < s.n
   · have := h d rfl
     rw [if_pos hk, if_pos hk, if_neg (by rw [hk.1]; exact this)]
   · rw [if_neg hk, if_neg hk]
theorem stOp_hide {s s' : St} {U : List Nat} {n : Nat} {a x : AX} (ha : (s.hide U).ν a = s.ν a) (hx : (s.hide U).ν x = s.ν x) (h : stOp s n a x = some s') : stOp (s.hide U) n a x = some (s'.hide U) := by
 unfold stOp at h ⊢
 rw [ha, hx]
 split at h
 · split at h
   · rename_i l off ds hl hds q T cs hb
     have hb' : (s.hide U).box[l]? = some (T, cs) := hb
     rw [hb']
     simp only
     split at h
     · rename_i hc
       rw [if_pos hc]
       injection h with h
       subst h
       rfl
     · cases h
   · cases h
 · cases h
theorem stOp_tm {s s' : St} {n : Nat} {a x : AX} (h : stOp s n a x = some s') : s'.n = s.n ∧ s'.tm = s.tm := by
 unfold stOp at h
 split at h
 · split at h
   · split at h
     · injection h with h
       subst h
       exact ⟨rfl, rfl⟩
     · cases h
   · cases h
 · cases h
theorem appOp_hide {s : St} {U : List Nat} {e : TypeId} {n b : Nat} {x y : AX} (hx : (s.hide U).ν x = s.ν x) (hy : (s.hide U).ν y = s.ν y) : appOp (s.hide U) e n b x y = appOp s e n b x y := by
 unfold appOp
 rw [hx, hy]
 rfl
theorem newOp_hide {s : St} {U : List Nat} {e : TypeId} {n b : Nat} {x y : AX} (hx : (s.hide U).ν x = s.ν x) (hy : (s.hide U).ν y = s.ν y) : newOp (s.hide U) e n b x y = newOp s e n b x y := by
 unfold newOp
 rw [hx, hy]
 rfl
structure Kept (s s' : St) (dst : Option Nat) : Prop where
 n : s'.n = s.n
 get : ∀ t, (dst ≠ some t ∨ s.n ≤ t) → s'.get t = s.get t
theorem kept_put {s s1 : St} {dst : Option Nat} {v : AV} (h1 : s1.n = s.n) (h2 : s1.tm = s.tm) : Kept s (s1.put dst v) dst := by
 refine ⟨h1, fun t ht => ?_⟩
 cases dst with
 | none => show getT s1.tm t = getT s.tm t; rw [h2]
 | some d =>
   show getT (putT s1.n s1.tm (some d) v) t = getT s.tm t
   rw [putT_get, h2, if_neg]
   rintro ⟨e1, e2⟩
   rw [h1] at e2
   rcases ht with ht | ht
   · exact ht (by rw [e1])
   · omega
theorem ostep_hide {P : Program} {s : St} {U : List Nat} {ao : AOp} {dst : Option Nat} {K : St → Prop} (ha : ∀ x ∈ ao.args, (s.hide U).ν x = s.ν x) (hd : ∀ d, dst = some d → d ∉ U) (h : OStep P s ao dst K) : OStep P (s.hide U) ao dst fun s'' => ∃ s', K s' ∧ Kept s s' dst ∧ SEq s'' (s'.hide U) := by
 have quiet : QStep P s ao (fun u => K (s.next dst u)) → QStep P (s.hide U) ao (fun u => ∃ s', K s' ∧ Kept s s' dst ∧ SEq ((s.hide U).next dst u) (s'.hide U)) := fun hq => by
   have fin : ∀ u, K (s.next dst u) → ∃ s', K s' ∧ Kept s s' dst ∧ SEq ((s.hide U).next dst u) (s'.hide U) := fun u hK => ⟨_, hK, ⟨rfl, (kept_put (s := s) (s1 := s) (v := u.v) rfl rfl).get⟩, by
     have := put_hide (s := s) (v := u.v) hd
     exact ⟨rfl, rfl, rfl, rfl, this.get⟩⟩
   unfold QStep at hq ⊢
   split at hq
   · rename_i f q
     have e : (q.map fun x => imm1 ((s.hide U).ν x)) = q.map fun x => imm1 (s.ν x) := map_agree ha
     simp only [e]
     obtain ⟨h2, r, rfr, h3, h4⟩ := hq
     exact ⟨h2, r, rfr, h3, fin _ h4⟩
   · rename_i x q
     have e : (q.map fun x => imm1 ((s.hide U).ν x)) = q.map fun x => imm1 (s.ν x) := map_agree fun z hz => ha z (by simp [AOp.args, hz])
     have ex : (s.hide U).ν x = s.ν x := ha x (by simp [AOp.args])
     simp only [e, ex]
     split at hq
     · obtain ⟨h2, r, rfr, h3, h4⟩ := hq
       exact ⟨h2, r, rfr, h3, fin _ h4⟩
     · exact hq.elim
   · have e : qop (s.hide U).ν (s.hide U).σ (s.hide U).box.length ao = qop s.ν s.σ s.box.length ao := qop_agree ha
     simp only [e]
     unfold Qk at hq ⊢
     split at hq
     · exact fin _ hq
     · exact hq.elim
 unfold OStep at h ⊢
 split at h
 · rename_i n a x
   obtain ⟨b, hle, h⟩ := h
   refine ⟨b, fun M v k => hle M v (by rw [← ha x (by simp [AOp.args])]; exact k), ?_⟩
   unfold Sk at h ⊢
   split at h
   · rename_i s' hs
     simp only [stOp_hide (x := .val b) (ha a (by simp [AOp.args])) rfl hs]
     refine ⟨_, h, kept_put ?_ ?_, put_hide hd⟩
     · exact (stOp_tm hs).1
     · exact (stOp_tm hs).2
   · exact h.elim
 · rename_i e n b x y
   unfold Ak Nk at h ⊢
   simp only [appOp_hide (ha x (by simp [AOp.args])) (ha y (by simp [AOp.args])), newOp_hide (ha x (by simp [AOp.args])) (ha y (by simp [AOp.args]))]
   rcases h with h | h
   · refine .inl ?_
     split at h
     · rename_i p hp
       refine ⟨_, h, kept_put (s1 := { s with fr := p.2 }) rfl rfl, ?_⟩
       exact put_hide (s := { s with fr := p.2 }) hd
     · exact h.elim
   · refine .inr ?_
     split at h
     · rename_i p hp
       refine ⟨_, h, kept_put (s1 := { s with box := s.box ++ [(e, p.2)] }) rfl rfl, ?_⟩
       exact put_hide (s := { s with box := s.box ++ [(e, p.2)] }) hd
     · exact h.elim
 · rename_i f q
   have e : (q.map fun x => imm1 ((s.hide U).ν x)) = q.map fun x => imm1 (s.ν x) := map_agree ha
   obtain ⟨Q, hc, hK⟩ := h
   simp only [e]
   exact ⟨Q, hc, fun r B F hq => ⟨_, hK r B F hq, kept_put (s1 := { s with box := B, fr := F }) rfl rfl, put_hide (s := { s with box := B, fr := F }) hd⟩⟩
 · rename_i x q
   have e : (q.map fun x => imm1 ((s.hide U).ν x)) = q.map fun x => imm1 (s.ν x) := map_agree fun z hz => ha z (by simp [AOp.args, hz])
   have ex : (s.hide U).ν x = s.ν x := ha x (by simp [AOp.args])
   simp only [e, ex]
   split at h
   · obtain ⟨Q, hc, hK⟩ := h
     exact ⟨Q, hc, fun r B F hq => ⟨_, hK r B F hq, kept_put (s1 := { s with box := B, fr := F }) rfl rfl, put_hide (s := { s with box := B, fr := F }) hd⟩⟩
   · obtain ⟨Q, hc, hK⟩ := h
     exact ⟨Q, hc, fun r B F hq => ⟨_, hK r B F hq, kept_put (s1 := { s with box := B, fr := F }) rfl rfl, put_hide (s := { s with box := B, fr := F }) hd⟩⟩
   · exact h.elim
 · rename_i cs
   have key : ∀ l : List (Option Nat × AX × Nat), (∀ c ∈ l, (s.hide U).ν c.2.1 = s.ν c.2.1 ∧ (s.hide U).get c.2.2 = s.get c.2.2) → ∀ k k' : Prop, (k → k') → Chk s l k → Chk (s.hide U) l k' := by
     intro l
     induction l with
     | nil => intro _ k k' hk h; exact hk h
     | cons c l ih =>
       intro hl k k' hk h
       refine ⟨?_, ih (fun d hd => hl d (by simp [hd])) k k' hk h.2⟩
       obtain ⟨e1, e2⟩ := hl c (by simp)
       rw [e2, ← h.1]
       refine qop_agree (ao := .ld c.1 c.2.1) fun x hx => ?_
       obtain rfl : x = c.2.1 := by simpa [AOp.args] using hx
       exact e1
   refine key cs (fun c hc => ⟨ha _ ?_, ha (.tmp c.2.2) ?_⟩) _ _ (fun hK => ⟨s, hK, ⟨rfl, fun t ht => rfl⟩, ⟨rfl, rfl, rfl, rfl, fun k => rfl⟩⟩) h
   · simp only [AOp.args, List.mem_flatMap]
     exact ⟨c, hc, by simp⟩
   · simp only [AOp.args, List.mem_flatMap]
     exact ⟨c, hc, by simp⟩
 · rename_i k xs
   have e : xs.map (s.hide U).ν = xs.map s.ν := by
     exact List.map_congr_left ha
   show PStep k s.box s.fr (xs.map (s.hide U).ν) _
   rw [e]
   exact h.mono fun B F v hK => ⟨_, hK, kept_put (s1 := { s with box := B, fr := F }) rfl rfl, put_hide (s := { s with box := B, fr := F }) hd⟩
 · exact quiet h
end Go.Proofs.YtibploaibljcmaaGreatDoor
