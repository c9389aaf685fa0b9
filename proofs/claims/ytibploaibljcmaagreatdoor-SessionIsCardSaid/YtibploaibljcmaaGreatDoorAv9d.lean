import Derived.Test.YtibploaibljcmaaGreatDoorAv9c
namespace Go.Proofs.YtibploaibljcmaaGreatDoor
open Go.RowKit
set_option linter.unusedVariables false
set_option linter.unusedSimpArgs false
set_option maxHeartbeats 2000000
section
variable {X : Cx}
theorem mu_none' {s : St} {a : Act} {w : World} {M : Mem} (h : StR X s a w M) {l : Nat} (hl : s.box.length ≤ l) : M.μ l = none := by
 cases hm : M.μ l with
 | none => rfl
 | some g =>
   obtain ⟨_, _, T, cs, k, _⟩ := h.mr.box l g hm
   have := (List.getElem?_eq_some_iff.1 (show s.box[l]? = some (T, cs) from k)).1
   omega
theorem StR.addObj {s : St} {a : Act} {w : World} {M : Mem} (h : StR X s a w M) {T : TypeId} {cs : List AV} {vs us : List Value} {ob : Obj} (hr : Reps M vs cs) (hob : ∀ w' : World, w'.heap[w.heap.size]? = some ob → BoxIs w' w.heap.size T vs us) :
   ∃ M', Mem.le M M' ∧ StR X { s with box := s.box ++ [(T, cs)] } a (w.alloc ob) M' ∧ M'.μ s.box.length = some w.heap.size := by
 have hσ : ∀ l b, s.σ l = some b → ({ s with box := s.box ++ [(T, cs)] } : St).σ l = some b := fun l b hb => by
   have hb : s.box[l]? = some b := hb
   show (s.box ++ [(T, cs)])[l]? = some b
   rw [List.getElem?_append_left (List.getElem?_eq_some_iff.1 hb).1]
   exact hb
 have hm2 : MR X M ({ s with box := s.box ++ [(T, cs)] } : St).σ w := ⟨h.mr.kap, h.mr.old, h.mr.bel, h.mr.hb, fun l g hg => by
   obtain ⟨k1, k2, T, cs, k3, k4⟩ := h.mr.box l g hg
   exact ⟨k1, k2, T, cs, hσ _ _ k3, k4⟩, h.mr.inj, h.mr.tok, h.mr.tinj, h.mr.prot⟩
 obtain ⟨M', g1, g2, g3, g4, g5, g6⟩ := hm2.addObj (nl := s.box.length) (mu_none' h (Nat.le_refl _)) (T := T) (cs := cs) (by simp [St.σ]) us hr hob
 refine ⟨M', g1, ⟨g2, fun l hl => ?_, by rw [g3]; exact h.fr, h.defers, h.size, fun t => (h.tmps t).mono g1, h.pp⟩, g6⟩
 by_cases hll : l = s.box.length
 · rw [hll, g6]; simp
 · rw [g5 l hll]
   refine h.boxes l ?_
   have : l < (s.box ++ [(T, cs)]).length := hl
   rw [List.length_append] at this
   simp at this
   omega
theorem StR.setObj {s : St} {a : Act} {w : World} {M : Mem} (h : StR X s a w M) {l g : Nat} (hl : M.μ l = some g) {w' : World} (hsz : w'.heap.size = w.heap.size) (ho : w'.os = w.os ∧ w'.tape = w.tape ∧ w'.output = w.output)
   (hoth : ∀ k, k ≠ g → w'.heap[k]? = w.heap[k]?) {T : TypeId} {vs us : List Value} {cs : List AV} (hb : BoxIs w' g T vs us) (hr : Reps M vs cs) (hlt : l < s.box.length) :
   StR X { s with box := s.box.set l (T, cs) } a w' M := by
 refine ⟨h.mr.setObj hl hsz ho hoth hb hr (σ' := ({ s with box := s.box.set l (T, cs) } : St).σ) (by simp [St.σ, hlt]) (fun l' hl' => by simp [St.σ, List.getElem?_set_ne (Ne.symm hl')]), fun l' hl' => h.boxes l' (by simpa using hl'), h.fr, h.defers, h.size, h.tmps, h.pp⟩
theorem StR.at_ {s : St} {a : Act} {w : World} {M : Mem} (h : StR X s a w M) {l g : Nat} (hl : M.μ l = some g) {T : TypeId} {cs : List AV} (hb : s.box[l]? = some (T, cs)) : l < s.box.length ∧ ∃ vs us, BoxIs w g T vs us ∧ Reps M vs cs := by
 obtain ⟨_, _, T', cs', k3, vs, us, k4, k5⟩ := h.mr.box l g hl
 have k3 : s.box[l]? = some (T', cs') := k3
 rw [hb] at k3
 injection k3 with k3
 injection k3 with e1 e2
 subst e1 e2
 exact ⟨(List.getElem?_eq_some_iff.1 hb).1, vs, us, k4, k5⟩
theorem BoxIs.map {w : World} {g : Nat} {T : TypeId} {vs us : List Value} (h : BoxIs w g T vs us) (hT : 1099511627776 ≤ T) : ∃ (es : List MapEntry) (clock : Nat), w.heap[g]? = some (.map es.toArray clock) ∧ vs = flatKV es ∧ (es.map (·.born)).Nodup ∧ ∀ e ∈ es, e.born < clock := by
 rcases h with ⟨h, _⟩ | ⟨_, h⟩
 · exact absurd hT (Nat.not_le.mpr h)
 · exact h
theorem rep_mp {M : Mem} {v : Value} {l : Nat} (h : Rep M v (.mp l)) : ∃ g, M.μ l = some g ∧ v = .map (some g) := by
 cases h with
 | mp _ g hg => exact ⟨g, hg, rfl⟩
def Behind (X : Cx) (s : St) (a : Act) (Q : List (TypeId × List AV) → List (TypeId × Nat) → AV → Prop) (m : Sem Next) (w : World) : Prop :=
 ∃ nx w' B F r M', m.run X.P w = .ok nx w' ∧ Q B F r ∧ ((nx = .skip ∧ r = .nov) ∨ ∃ v, nx = .value v ∧ Rep M' v r) ∧ StR X { s with box := B, fr := F } a w' M'
theorem heap_putAt {w : World} {g : Nat} {o o' : Obj} (hb : w.heap[g]? = some o) : ({ w with heap := w.heap.setIfInBounds g o' } : World).heap[g]? = some o' := by
 have hlt : g < w.heap.size := (Array.getElem?_eq_some_iff.1 hb).1
 show (w.heap.setIfInBounds g o')[g]? = _
 simp [hlt]
theorem get_behind {s : St} {a : Act} {w : World} {M : Mem} (h : StR X s a w M) {t kt et : TypeId} {K : KeyK} {ti : TypeInfo} {z : Value} {az : AV} {ok : Bool} (ht : X.P.underlying t = some (.map kt et)) (hK : keyK2 X.P kt = some K) (hi : X.P.info? et = some ti) (hz : ti.zero = some z) (haz : avOf z = some az)
   {m k : Value} {as : List AV} (hr : Reps M [m, k] as) {Q : List (TypeId × List AV) → List (TypeId × Nat) → AV → Prop} (hq : match pout (.mapGet K az ok) s.box as with | some p => Q p.1 s.fr p.2 | none => False) :
   Behind X s a Q (do pure (.value (← Instr.lookup t m k ok))) w := by
 obtain ⟨hK1, hK2⟩ := keyK2_of hK
 match as, hr with
 | [], hr => exact absurd hr.1 (by simp)
 | [_], hr => exact absurd hr.1 (by simp)
 | _ :: _ :: _ :: _, hr => exact absurd hr.1 (by simp)
 | [am, ak], hr =>
 obtain ⟨r1, r2⟩ := reps_uncons hr
 obtain ⟨r2, _⟩ := reps_uncons r2
 cases am
 case mp l =>
   obtain ⟨g, hg, rfl⟩ := rep_mp r1
   simp only [pout] at hq
   cases hb : s.box[l]? with
   | none => rw [hb] at hq; exact hq.elim
   | some p =>
     obtain ⟨T, cs⟩ := p
     rw [hb] at hq
     simp only at hq
     by_cases hc : 1099511627776 ≤ T ∧ keyOkA K ak = true
     rotate_left
     · rw [if_neg hc] at hq; exact hq.elim
     rw [if_pos hc] at hq
     obtain ⟨hlt, vs, us, kb, kr⟩ := h.at_ hg hb
     obtain ⟨es, clock, e1, rfl, e3, e4⟩ := kb.map hc.1
     cases hf : kvFind K ak cs 0 with
     | none => rw [hf] at hq; exact hq.elim
     | some r =>
       rw [hf] at hq
       obtain ⟨x, hx, hfd⟩ := key_find (w := w) hK1 r2 kr hf
       have hck := key_check (w := w) hK1 r2 (keyOkA_fits hc.2).2
       have hgo := Go.MapKept.run_getObj_map (P := X.P) e1
       have hzv : (zeroValue et).run X.P w = .ok z w := by simp [zeroValue, typeInfo, hi, hz]
       cases r with
       | none =>
         have hfd : x = none := hfd
         subst hfd
         refine ⟨.value (if ok then .tuple #[z, .bool false] else z), w, s.box, s.fr, _, M, ?_, hq, .inr ⟨_, rfl, ?_⟩, h⟩
         · simp [Instr.lookup, run_underlying ht, hgo, hck, hx, hzv]
         · have rz := avOf_rep (M := M) haz
           cases ok
           · exact rz
           · exact .tup [z, .bool false] [az, .bool false] rfl (reps_cons rz (reps_cons (.bool false) reps_nil)).2
       | some i =>
         obtain ⟨e, he, rfl⟩ := hfd
         obtain ⟨_, hv⟩ := flatKV_val he
         simp only at hq
         cases hcv : cs[2 * i + 1]? with
         | none => rw [hcv] at hq; exact hq.elim
         | some av =>
           rw [hcv] at hq
           obtain ⟨v', hv', rv⟩ := reps_get kr hcv
           rw [hv] at hv'
           injection hv' with hv'
           subst hv'
           refine ⟨.value (if ok then .tuple #[e.val, .bool true] else e.val), w, s.box, s.fr, _, M, ?_, hq, .inr ⟨_, rfl, ?_⟩, h⟩
           · simp [Instr.lookup, run_underlying ht, hgo, hck, hx]
           · cases ok
             · exact rv
             · exact .tup [e.val, .bool true] [av, .bool true] rfl (reps_cons rv (reps_cons (.bool true) reps_nil)).2
 all_goals exact hq.elim
theorem born_push {es : List MapEntry} {clock : Nat} (h1 : (es.map (·.born)).Nodup) (h2 : ∀ e ∈ es, e.born < clock) (k v : Value) : ((es ++ [(MapEntry.mk k v clock)]).map (·.born)).Nodup ∧ ∀ e ∈ es ++ [(MapEntry.mk k v clock)], e.born < clock + 1 := by
 refine ⟨?_, fun e he => ?_⟩
 · rw [List.map_append]
   refine List.nodup_append.2 ⟨h1, by simp, fun a ha b hb => ?_⟩
   obtain ⟨e, he, rfl⟩ := List.mem_map.1 ha
   simp at hb
   subst hb
   exact Nat.ne_of_lt (h2 e he)
 · rcases List.mem_append.1 he with he | he
   · exact Nat.lt_succ_of_lt (h2 e he)
   · simp at he; subst he; exact Nat.lt_succ_self _
theorem flatKV_set {es : List MapEntry} {i : Nat} {e e' : MapEntry} (h : es[i]? = some e) : flatKV (es.set i e') = (flatKV es).take (2 * i) ++ [e'.key, e'.val] ++ (flatKV es).drop (2 * i + 2) := by
 obtain ⟨hlt, _⟩ := List.getElem?_eq_some_iff.1 h
 rw [List.set_eq_take_append_cons_drop, if_pos hlt, flatKV_append, flatKV_take]
 show _ ++ (e'.key :: e'.val :: flatKV (es.drop (i + 1))) = _
 rw [flatKV_drop, show 2 * (i + 1) = 2 * i + 2 by omega]
 simp
theorem set_behind {s : St} {a : Act} {w : World} {M : Mem} (h : StR X s a w M) {t kt et : TypeId} {K : KeyK} (ht : X.P.underlying t = some (.map kt et)) (hK : keyK2 X.P kt = some K)
   {m k x : Value} {as : List AV} (hr : Reps M [m, k, x] as) {Q : List (TypeId × List AV) → List (TypeId × Nat) → AV → Prop} (hq : match pout (.mapSet K) s.box as with | some p => Q p.1 s.fr p.2 | none => False) :
   Behind X s a Q (do Instr.mapUpdate t m k x; pure .skip) w := by
 obtain ⟨hK1, hK2⟩ := keyK2_of hK
 match as, hr with
 | [], hr => exact absurd hr.1 (by simp)
 | [_], hr => exact absurd hr.1 (by simp)
 | [_, _], hr => exact absurd hr.1 (by simp)
 | _ :: _ :: _ :: _ :: _, hr => exact absurd hr.1 (by simp)
 | [am, ak, ax], hr =>
 obtain ⟨r1, r2⟩ := reps_uncons hr
 obtain ⟨r2, r3⟩ := reps_uncons r2
 obtain ⟨r3, _⟩ := reps_uncons r3
 cases am
 case mp l =>
   obtain ⟨g, hg, rfl⟩ := rep_mp r1
   simp only [pout] at hq
   cases hb : s.box[l]? with
   | none => rw [hb] at hq; exact hq.elim
   | some p =>
     obtain ⟨T, cs⟩ := p
     rw [hb] at hq
     simp only at hq
     by_cases hc : 1099511627776 ≤ T ∧ keyOkA K ak = true
     rotate_left
     · rw [if_neg hc] at hq; exact hq.elim
     rw [if_pos hc] at hq
     obtain ⟨hlt, vs, us, kb, kr⟩ := h.at_ hg hb
     obtain ⟨es, clock, e1, rfl, e3, e4⟩ := kb.map hc.1
     cases hf : kvFind K ak cs 0 with
     | none => rw [hf] at hq; exact hq.elim
     | some r =>
       rw [hf] at hq
       obtain ⟨y, hx, hfd⟩ := key_find (w := w) hK1 r2 kr hf
       have hck := key_check (w := w) hK1 r2 (keyOkA_fits hc.2).2
       have hgo := Go.MapKept.run_getObj_map (P := X.P) e1
       have hso := fun o => Go.MapKept.run_setObj_map (P := X.P) o e1
       cases r with
       | none =>
         have hfd : y = none := hfd
         subst hfd
         obtain ⟨b1, b2⟩ := born_push e3 e4 k x
         refine ⟨.skip, { w with heap := w.heap.setIfInBounds g (.map (es ++ [MapEntry.mk k x clock]).toArray (clock + 1)) }, _, s.fr, _, M, ?_, hq, .inl ⟨rfl, rfl⟩, ?_⟩
         · simp [Instr.mapUpdate, run_underlying ht, hgo, hck, hx, hso]
         · refine h.setObj (w' := { w with heap := w.heap.setIfInBounds g (.map (es ++ [MapEntry.mk k x clock]).toArray (clock + 1)) }) hg (vs := flatKV (es ++ [MapEntry.mk k x clock])) (us := us) (by simp) ⟨rfl, rfl, rfl⟩ (fun k hk => by simp [Ne.symm hk]) (.inr ⟨hc.1, _, _, heap_putAt e1, rfl, b1, b2⟩) ?_ hlt
           rw [flatKV_append]
           exact reps_append kr (reps_cons r2 (reps_cons r3 reps_nil))
       | some i =>
         obtain ⟨e, he, rfl⟩ := hfd
         obtain ⟨hkk, hv⟩ := flatKV_val he
         obtain ⟨_, hck2⟩ := kvFind_at hK2 hf
         rw [Nat.sub_zero] at hck2
         obtain ⟨v', hv', rv⟩ := reps_get kr hck2
         rw [hkk] at hv'
         injection hv' with hv'
         subst hv'
         have hsb := scalK_val (keyOkA_fits hc.2).1 rv r2
         have hkt : (Instr.keyThatStays e.key k).run X.P w = .ok k w := by simp [Instr.keyThatStays, hsb.2]
         obtain ⟨hei, hee⟩ := List.getElem?_eq_some_iff.1 he
         have hmod : es.modify i (fun e => { key := k, val := x, born := e.born }) = es.set i { e with key := k, val := x } := by
           apply List.ext_getElem?
           intro j
           rw [List.getElem?_modify, List.getElem?_set]
           by_cases hj : i = j
           · subst hj
             simp only [if_true, he, if_pos hei]
             rfl
           · simp [hj]
         refine ⟨.skip, { w with heap := w.heap.setIfInBounds g (.map (es.set i { e with key := k, val := x }).toArray clock) }, _, s.fr, _, M, ?_, hq, .inl ⟨rfl, rfl⟩, ?_⟩
         · simp [Instr.mapUpdate, run_underlying ht, hgo, hck, hx, he, hkt, hso, hmod]
         · have hbs : (es.set i { e with key := k, val := x }).map (·.born) = es.map (·.born) := by
             rw [List.map_set]
             apply List.ext_getElem?
             intro j
             rw [List.getElem?_set]
             split
             · rename_i hj
               subst hj
               rw [if_pos (by simpa using hei), List.getElem?_map, he]
               rfl
             · rfl
           refine h.setObj (w' := { w with heap := w.heap.setIfInBounds g (.map (es.set i { e with key := k, val := x }).toArray clock) }) hg (vs := flatKV (es.set i { e with key := k, val := x })) (us := us) (by simp) ⟨rfl, rfl, rfl⟩ (fun k hk => by simp [Ne.symm hk]) (.inr ⟨hc.1, _, _, heap_putAt e1, rfl, by rw [hbs]; exact e3, fun e' he' => ?_⟩) ?_ hlt
           · have : e'.born ∈ (es.set i { e with key := k, val := x }).map (·.born) := List.mem_map.2 ⟨e', he', rfl⟩
             rw [hbs] at this
             obtain ⟨e2, h2, h3⟩ := List.mem_map.1 this
             rw [← h3]
             exact e4 e2 h2
           · rw [flatKV_set he]
             exact reps_append (reps_append (reps_take kr _) (reps_cons r2 (reps_cons r3 reps_nil))) (reps_drop kr _)
 all_goals exact hq.elim
theorem flatKV_erase {es : List MapEntry} {i : Nat} : flatKV (es.eraseIdx i) = (flatKV es).take (2 * i) ++ (flatKV es).drop (2 * i + 2) := by
 rw [List.eraseIdx_eq_take_drop_succ, flatKV_append, flatKV_take, flatKV_drop, show 2 * (i + 1) = 2 * i + 2 by omega]
theorem del_behind {s : St} {a : Act} {w : World} {M : Mem} (h : StR X s a w M) {t ty kt et : TypeId} {ts : List TypeId} {K : KeyK} (ht : X.P.underlying t = some (.map kt et)) (hK : keyK2 X.P kt = some K)
   {m k : Value} {as : List AV} (hr : Reps M [m, k] as) {Q : List (TypeId × List AV) → List (TypeId × Nat) → AV → Prop} (hq : match pout (.mapDel K) s.box as with | some p => Q p.1 s.fr p.2 | none => False) :
   Behind X s a Q (do pure (.value (← Builtin.delete_ (t :: ts).toArray ty #[m, k]))) w := by
 obtain ⟨hK1, hK2⟩ := keyK2_of hK
 match as, hr with
 | [], hr => exact absurd hr.1 (by simp)
 | [_], hr => exact absurd hr.1 (by simp)
 | _ :: _ :: _ :: _, hr => exact absurd hr.1 (by simp)
 | [am, ak], hr =>
 obtain ⟨r1, r2⟩ := reps_uncons hr
 obtain ⟨r2, _⟩ := reps_uncons r2
 cases am
 case mp l =>
   obtain ⟨g, hg, rfl⟩ := rep_mp r1
   simp only [pout] at hq
   cases hb : s.box[l]? with
   | none => rw [hb] at hq; exact hq.elim
   | some p =>
     obtain ⟨T, cs⟩ := p
     rw [hb] at hq
     simp only at hq
     by_cases hc : 1099511627776 ≤ T ∧ keyOkA K ak = true
     rotate_left
     · rw [if_neg hc] at hq; exact hq.elim
     rw [if_pos hc] at hq
     obtain ⟨hlt, vs, us, kb, kr⟩ := h.at_ hg hb
     obtain ⟨es, clock, e1, rfl, e3, e4⟩ := kb.map hc.1
     cases hf : kvFind K ak cs 0 with
     | none => rw [hf] at hq; exact hq.elim
     | some r =>
       rw [hf] at hq
       obtain ⟨y, hx, hfd⟩ := key_find (w := w) hK1 r2 kr hf
       have hck := key_check (w := w) hK1 r2 (keyOkA_fits hc.2).2
       have hgo := Go.MapKept.run_getObj_map (P := X.P) e1
       have hso := fun o => Go.MapKept.run_setObj_map (P := X.P) o e1
       cases r with
       | none =>
         have hfd : y = none := hfd
         subst hfd
         have hself : w.heap.setIfInBounds g (.map es.toArray clock) = w.heap := by
           apply Array.ext_getElem?
           intro j
           by_cases hj : g = j
           · subst hj
             rw [Array.getElem?_setIfInBounds_self_of_lt (Array.getElem?_eq_some_iff.1 e1).1, e1]
           · simp [hj]
         refine ⟨.value (.tuple #[]), w, s.box, s.fr, .tup [], M, ?_, hq, .inr ⟨_, rfl, .tup [] [] rfl reps_nil.2⟩, h⟩
         simp [Builtin.delete_, run_underlying ht, hgo, hck, hx, hso, hself]
       | some i =>
         obtain ⟨e, he, rfl⟩ := hfd
         have her : es.toArray.eraseIdxIfInBounds i = (es.eraseIdx i).toArray := by simp
         refine ⟨.value (.tuple #[]), { w with heap := w.heap.setIfInBounds g (.map (es.eraseIdx i).toArray clock) }, _, s.fr, .tup [], M, ?_, hq, .inr ⟨_, rfl, .tup [] [] rfl reps_nil.2⟩, ?_⟩
         · simp [Builtin.delete_, run_underlying ht, hgo, hck, hx, hso]
         · have hsub : List.Sublist (es.eraseIdx i) es := List.eraseIdx_sublist es i
           refine h.setObj (w' := { w with heap := w.heap.setIfInBounds g (.map (es.eraseIdx i).toArray clock) }) hg (vs := flatKV (es.eraseIdx i)) (us := us) (by simp) ⟨rfl, rfl, rfl⟩ (fun k hk => by simp [Ne.symm hk]) (.inr ⟨hc.1, _, _, heap_putAt e1, rfl, e3.sublist (hsub.map _), fun e' he' => e4 e' (hsub.subset he')⟩) ?_ hlt
           rw [flatKV_erase]
           exact reps_append (reps_take kr _) (reps_drop kr _)
 all_goals exact hq.elim
theorem len_behind {s : St} {a : Act} {w : World} {M : Mem} (h : StR X s a w M) {t ty kt et : TypeId} (ht : X.P.underlying t = some (.map kt et))
   {m : Value} {as : List AV} (hr : Reps M [m] as) {Q : List (TypeId × List AV) → List (TypeId × Nat) → AV → Prop} (hq : match pout .mapLen s.box as with | some p => Q p.1 s.fr p.2 | none => False) :
   Behind X s a Q (do pure (.value (← Builtin.len_ #[t] ty #[m]))) w := by
 match as, hr with
 | [], hr => exact absurd hr.1 (by simp)
 | _ :: _ :: _, hr => exact absurd hr.1 (by simp)
 | [am], hr =>
 obtain ⟨r1, r2⟩ := reps_uncons hr
 cases am
 case mp l =>
   obtain ⟨g, hg, rfl⟩ := rep_mp r1
   simp only [pout] at hq
   cases hb : s.box[l]? with
   | none => rw [hb] at hq; exact hq.elim
   | some p =>
     obtain ⟨T, cs⟩ := p
     rw [hb] at hq
     simp only at hq
     by_cases hc : 1099511627776 ≤ T
     rotate_left
     · rw [if_neg hc] at hq; exact hq.elim
     rw [if_pos hc] at hq
     obtain ⟨hlt, vs, us, kb, kr⟩ := h.at_ hg hb
     obtain ⟨es, clock, e1, rfl, e3, e4⟩ := kb.map hc
     have hl : cs.length / 2 = es.length := by rw [← kr.1, flatKV_length]; omega
     refine ⟨.value (goInt es.length), w, s.box, s.fr, _, M, ?_, hq, .inr ⟨_, rfl, ?_⟩, h⟩
     · simp [Builtin.len_, run_underlying ht, Go.MapKept.run_getObj_map (P := X.P) e1]
     · rw [hl]; exact .int .i64 _
 all_goals exact hq.elim
theorem made_flat (z : List Value) : ∀ n : Nat, (madeCells z.toArray (n * z.length)).toList = (List.replicate n z).flatten
 | 0 => by simp [madeCells]
 | n + 1 => by
   have ih := made_flat z n
   rw [List.replicate_succ, List.flatten_cons, ← ih]
   unfold madeCells
   apply List.ext_getElem
   · simp [Nat.succ_mul, Nat.add_comm]
   intro i h1 h2
   have h1' : i < (n + 1) * z.length := by simpa using h1
   have hz : 0 < z.length := Nat.pos_of_ne_zero fun e => by rw [e, Nat.mul_zero] at h1'; cases h1'
   simp only [Array.getElem_toList, Array.getElem_map, Array.getElem_range]
   by_cases hi : i < z.length
   · rw [List.getElem_append_left hi]
     simp [Nat.mod_eq_of_lt hi, hi]
   · rw [List.getElem_append_right (by omega)]
     simp only [Array.getElem_toList, Array.getElem_map, Array.getElem_range]
     have : i % z.length = (i - z.length) % z.length := by rw [Nat.mod_eq_sub_mod (by omega)]
     simp [this]
theorem reps_flatten {M : Mem} {z : List Value} {az : List AV} (h : Reps M z az) : ∀ n : Nat, Reps M (List.replicate n z).flatten (List.replicate n az).flatten
 | 0 => reps_nil
 | n + 1 => by
   rw [List.replicate_succ, List.replicate_succ, List.flatten_cons, List.flatten_cons]
   exact reps_append h (reps_flatten h n)
theorem make_behind {s : St} {a : Act} {w : World} {M : Mem} (h : StR X s a w M) {t e : TypeId} {i : TypeInfo} {z : Value} {za : List AV} (ht : X.P.underlying t = some (.slice e)) (hi : X.P.info? e = some i) (hz : i.zero = some z) (hza : z.cells.toList.mapM scalarOf = some za) (hzs : z.cells.size = i.size)
   {u v : Value} {as : List AV} (hr : Reps M [u, v] as) {Q : List (TypeId × List AV) → List (TypeId × Nat) → AV → Prop} (hq : match pout (.mkSl e i.size i.bytes za) s.box as with | some p => Q p.1 s.fr p.2 | none => False) :
   Behind X s a Q (do pure (.value (← Instr.makeSlice t u v))) w := by
 match as, hr with
 | [], hr => exact absurd hr.1 (by simp)
 | [_], hr => exact absurd hr.1 (by simp)
 | _ :: _ :: _ :: _, hr => exact absurd hr.1 (by simp)
 | [au, av], hr =>
 obtain ⟨r1, r2⟩ := reps_uncons hr
 obtain ⟨r2, _⟩ := reps_uncons r2
 unfold pout at hq
 split at hq
 rotate_left
 · exact hq.elim
 rename_i p hp
 split at hp
 all_goals try (cases hp; done)
 all_goals try (rename_i e1 e2; cases e1; done)
 rename_i e' sz' by' zero' k1 n k2 c e1 e2
 injection e1 with q1 q2 q3 q4
 subst q1 q2 q3 q4
 injection e2 with q1 q2
 injection q2 with q2 _
 subst q1 q2
 split at hp
 rotate_left
 · cases hp
 rename_i hc
 obtain ⟨rfl, c1, c2, c3, c4⟩ := hc
 injection hp with hp
 subst hp
 obtain rfl := rep_int r1
 obtain rfl := rep_int r2
 have hb : (i.bytes : Int) * n ≤ 281474976710656 := by
   have : ((n.toNat * i.bytes : Nat) : Int) ≤ 140737488355328 := by omega
   rw [Int.natCast_mul, Int.toNat_of_nonneg c1, Int.mul_comm] at this
   omega
 have hrun := run_make (P := X.P) w t e i z ht hi hz k1 k2 n n c1 (Int.le_refl _) hb c3
 obtain ⟨s1, s2⟩ := scalars_rep (M := M) hza
 have hcells : madeCells z.cells (n.toNat * i.size) = ((List.replicate n.toNat z.cells.toList).flatten ++ ([] : List Value)).toArray := by
   apply Array.ext'
   have := made_flat z.cells.toList n.toNat
   rw [Array.length_toList, hzs, Array.toArray_toList] at this
   rw [this]
   simp
 rw [hcells] at hrun
 obtain ⟨M', g1, g2, g3⟩ := h.addObj (T := e) (us := []) (ob := .cells ((List.replicate n.toNat z.cells.toList).flatten ++ ([] : List Value)).toArray e) (reps_flatten s1 n.toNat) (fun w' hw' => .inl ⟨c4, hw', fun x hx => by
   obtain ⟨l, hl, hx⟩ := List.mem_flatten.1 hx
   obtain ⟨_, rfl⟩ := List.mem_replicate.1 hl
   exact s2 x hx⟩)
 refine ⟨.value (.slice (some ⟨w.heap.size, 0, none⟩) n.toNat n.toNat), _, _, s.fr, _, M', ?_, hq, .inr ⟨_, rfl, ?_⟩, g2⟩
 · simp [hrun]
 · have := Rep.bsl (M := M') s.box.length 0 n.toNat i.size (n.toNat + 1) w.heap.size n.toNat g3 (Nat.le_refl _) (by unfold maxLen; omega) (.inr rfl)
   rw [Nat.zero_mul] at this
   exact this
theorem copy_run {P : Program} {w : World} {dT sT ty elem : TypeId} {i : TypeInfo} {g o dLen dCap m : Nat} {src : Value} {cur : Array Value} {t : TypeId} {cs : List Value} (hu : P.underlying dT = some (.slice elem)) (hi : P.info? elem = some i)
   (hg : w.heap[g]? = some (.cells cur t (0, 0))) {sLen : Nat} (hlen : (Builtin.lenOf src).run P w = .ok sLen w) (hm : m = Nat.min sLen dLen) (hsrc : (Builtin.firstCells i.size m src).run P w = .ok cs.toArray w) (hfit : o + cs.length ≤ cur.size) (h1 : ∀ v ∈ cs, v.oneCell' = true) :
   (Builtin.copy_ #[dT, sT] ty #[.slice (some ⟨g, o, none⟩) dLen dCap, src]).run P w = .ok (goInt m) (w.setRow g (cur.toList.take o ++ cs ++ cur.toList.drop (o + cs.length)).toArray) := by
 have hst := run_storeCells_at P g o t cs 0 cur w hg (by simpa using hfit) h1
 subst hm
 simp [Builtin.copy_, run_underlying hu, hlen, sizeOf, typeInfo, hi, hsrc, hst]
theorem copy_behind {s : St} {a : Act} {w : World} {M : Mem} (h : StR X s a w M) {t t' ty e : TypeId} {i : TypeInfo} (ht : X.P.underlying t = some (.slice e)) (hi : X.P.info? e = some i)
   {u v : Value} {as : List AV} (hr : Reps M [u, v] as) {Q : List (TypeId × List AV) → List (TypeId × Nat) → AV → Prop} (hq : match pout (.copy i.size) s.box as with | some p => Q p.1 s.fr p.2 | none => False) :
   Behind X s a Q (do pure (.value (← Builtin.copy_ #[t, t'] ty #[u, v]))) w := by
 match as, hr with
 | [], hr => exact absurd hr.1 (by simp)
 | [_], hr => exact absurd hr.1 (by simp)
 | _ :: _ :: _ :: _, hr => exact absurd hr.1 (by simp)
 | [au, av], hr =>
 obtain ⟨r1, r2⟩ := reps_uncons hr
 obtain ⟨r2, _⟩ := reps_uncons r2
 have fin : ∀ {l off n q g c m src : Nat} {T : TypeId} {cs ds : List AV} {ws : List Value} {sLen : Nat}, M.μ l = some g → u = .slice (some ⟨g, off * i.size, none⟩) n c → s.box[l]? = some (T, cs) → T < 1099511627776 → off * i.size + m * i.size ≤ cs.length →
     (Builtin.lenOf v).run X.P w = .ok sLen w → m = Nat.min sLen n → (Builtin.firstCells i.size m v).run X.P w = .ok ws.toArray w → ws.length = m * i.size → (∀ x ∈ ws, x.oneCell' = true) → Reps M ws ds → Q (s.box.set l (T, putCells cs (off * i.size) ds)) s.fr (.int .i64 (m : Int)) →
     Behind X s a Q (do pure (.value (← Builtin.copy_ #[t, t'] ty #[u, v]))) w := fun {l off n q g c m src T cs ds ws sLen} hg hu hb hT hfit hlen hm hsrc hwl hone hds hQ => by
   subst hu
   obtain ⟨hlt, vs, us, kb, kr⟩ := h.at_ hg hb
   obtain ⟨k4, k5⟩ := kb.cells hT
   have hle : off * i.size + ws.length ≤ vs.length := by rw [hwl, kr.1]; exact hfit
   have hrun := copy_run (P := X.P) (w := w) (dT := t) (sT := t') (ty := ty) (o := off * i.size) (dLen := n) (dCap := c) (m := m) (src := v) (cs := ws) ht hi k4 hlen hm hsrc (by simp; omega) hone
   have hsplit : (vs ++ us).toArray.toList.take (off * i.size) ++ ws ++ (vs ++ us).toArray.toList.drop (off * i.size + ws.length) = (vs.take (off * i.size) ++ ws ++ vs.drop (off * i.size + ws.length)) ++ us := by
     rw [List.take_append_of_le_length (by omega), List.drop_append_of_le_length hle]
     simp [List.append_assoc]
   rw [hsplit] at hrun
   refine ⟨.value (goInt m), w.setRow g ((vs.take (off * i.size) ++ ws ++ vs.drop (off * i.size + ws.length)) ++ us).toArray, _, s.fr, _, M, ?_, hQ, .inr ⟨_, rfl, .int .i64 _⟩, ?_⟩
   · simp [hrun]
   · have hlt2 : g < w.heap.size := (Array.getElem?_eq_some_iff.1 k4).1
     have bl := below_setR (Below.refl 0 w) (Nat.zero_le g) ((vs.take (off * i.size) ++ ws ++ vs.drop (off * i.size + ws.length)) ++ us).toArray
     refine h.setObj hg (vs := vs.take (off * i.size) ++ ws ++ vs.drop (off * i.size + ws.length)) (us := us) (by simp) ⟨bl.os, bl.tape, bl.output⟩ (fun k hk => setRow_other w g k _ hk) (.inl ⟨hT, setRow_heap w g _ _ T _ k4, fun x hx => ?_⟩) (putCells_reps kr hds _) hlt
     rcases List.mem_append.1 hx with hx | hx
     · rcases List.mem_append.1 hx with hx | hx
       · exact k5 x (List.mem_of_mem_take hx)
       · exact hone x hx
     · exact k5 x (List.mem_of_mem_drop hx)
 unfold pout at hq
 split at hq
 rotate_left
 · exact hq.elim
 rename_i p hp
 split at hp
 all_goals try (cases hp; done)
 all_goals try (rename_i e1 e2; cases e1; done)
 · rename_i sz l off n sz' q tg sz'' xs e1 e2
   injection e1 with q1
   subst q1
   injection e2 with q1 q2
   injection q2 with q2 _
   subst q1 q2
   split at hp
   rotate_left
   · cases hp
   rename_i T cs hb
   split at hp
   rotate_left
   · cases hp
   rename_i hc
   obtain ⟨rfl, c1, c2, c3, c4⟩ := hc
   injection hp with hp
   subst hp
   cases r1 with
   | bsl _ _ _ _ _ g c hg hn hm _ =>
     cases rep_sz r2 c1 with
     | slice _ A m d _ us _ kl kn knc km ks kA kr ktg =>
       have kfl := flat_length us ks
       have hsub : ∀ v ∈ us.take (min xs.length n), ElemOk i.size v := fun v hv => ks v (List.mem_of_mem_take hv)
       obtain ⟨f1, f2⟩ := reps_flat (M := M) (reps_take (M := M) ⟨kl, kr⟩ (min xs.length n)) (fun x hx => List.all_eq_true.1 c4 x (List.mem_of_mem_take hx))
       have hfl := flat_length _ hsub
       have hl2 : (us.take (min xs.length n)).length = min xs.length n := by rw [List.length_take, kl]; omega
       rw [hl2] at hfl
       refine fin (q := 0) (src := 0) hg rfl hb c2 c3 (sLen := m) rfl (by rw [kn]) ?_ hfl f2 f1 hq
       have hpre : flat (us.take (min xs.length n)) = (flat us).take (min xs.length n * i.size) := flat_take _ us ks
       rcases kA with k0 | ⟨b, o, rfl, hcell⟩
       · have : flat (us.take (min xs.length n)) = [] := by rw [hpre, k0]; simp
         have hm0 : min xs.length n * i.size = 0 := by rw [← hfl, this]; rfl
         rw [this]
         cases A with
         | none => rfl
         | some A => 
           simp only [Builtin.firstCells]
           rw [hm0]
           exact run_loadCells_list (P := X.P) w A [] (fun j u hj => by simp at hj)
       · simp only [Builtin.firstCells]
         have := run_loadCells_list (P := X.P) w ⟨b, o, none⟩ (flat (us.take (min xs.length n))) (fun j u hj => by
           rw [hpre, List.getElem?_take] at hj
           split at hj
           rotate_left
           · cases hj
           obtain ⟨hlt, he⟩ := List.getElem?_eq_some_iff.1 hj
           rw [Addr.add_lit]
           rw [← he]
           exact h.mr.kap _ _ (hcell j hlt))
         rwa [hfl] at this
 · rename_i sz l off n sz' q l' off' n' sz'' q' e1 e2
   injection e1 with q1
   subst q1
   injection e2 with q1 q2
   injection q2 with q2 _
   subst q1 q2
   split at hp
   rotate_left
   · cases hp
   rename_i T cs T' cs' hb hb'
   split at hp
   rotate_left
   · cases hp
   rename_i hc
   obtain ⟨rfl, c0, c1, c2, c3, c4⟩ := hc
   subst c0
   injection hp with hp
   subst hp
   cases r1 with
   | bsl _ _ _ _ _ g c hg hn hm _ =>
     cases r2 with
     | bsl _ _ _ _ _ g' c' hg' hn' hm' _ =>
       obtain ⟨hlt', vs', us', kb', kr'⟩ := h.at_ hg' hb'
       obtain ⟨k4, k5⟩ := kb'.cells c2
       have hlen : ((vs'.drop (off' * i.size)).take (min n' n * i.size)).length = min n' n * i.size := by
         rw [List.length_take, List.length_drop, kr'.1]; omega
       refine fin (q := 0) (src := 0) hg rfl hb c1 c3 (sLen := n') rfl rfl ?_ hlen (fun x hx => k5 x (List.mem_of_mem_drop (List.mem_of_mem_take hx))) (reps_take (reps_drop kr' _) _) hq
       simp only [Builtin.firstCells]
       have := run_loadCells_list (P := X.P) w ⟨g', off' * i.size, none⟩ ((vs'.drop (off' * i.size)).take (min n' n * i.size)) (fun j u hj => by
         rw [List.getElem?_take] at hj
         split at hj
         rotate_left
         · cases hj
         rw [List.getElem?_drop] at hj
         rw [Addr.add_lit]
         have hj2 := (List.getElem?_eq_some_iff.1 hj).1
         simp only [World.cell?, k4]
         rw [if_neg (by simp)]
         rw [List.getElem?_toArray, List.getElem?_append_left hj2]
         exact hj)
       rwa [hlen] at this
end
end Go.Proofs.YtibploaibljcmaaGreatDoor
