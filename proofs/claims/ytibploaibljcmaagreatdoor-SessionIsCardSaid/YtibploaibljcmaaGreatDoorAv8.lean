import Derived.Test.YtibploaibljcmaaGreatDoorAv7
namespace Go.Proofs.YtibploaibljcmaaGreatDoor
open Go.RowKit
set_option linter.unusedVariables false
set_option linter.unusedSimpArgs false
set_option maxHeartbeats 1000000
theorem lies_of {κ : Addr → Option Value} {w : World} (hk : ∀ a v, κ a = some v → w.cell? a = some v) {A : Option Addr} {xs : List Value} (h : LiesK κ A xs) : Lies w A xs := by
 rcases h with h | ⟨b, o, hA, hc⟩
 · exact .inl h
 · exact .inr ⟨b, o, hA, fun j hj => hk _ _ (hc j hj)⟩
theorem tau_set {fr : List (TypeId × Nat)} {k : Nat} {p q : TypeId × Nat} (h : fr[k]? = some p) : (fun s => if s = k then some q else fr[s]?) = fun s => (fr.set k q)[s]? := by
 funext s
 have hlt : k < fr.length := (List.getElem?_eq_some_iff.1 h).1
 by_cases e : s = k
 · subst e
   simp [hlt]
 · rw [if_neg e, List.getElem?_set_ne (Ne.symm e)]
theorem tau_app {fr : List (TypeId × Nat)} {q : TypeId × Nat} : (fun s => if s = fr.length then some q else fr[s]?) = fun s => (fr ++ [q])[s]? := by
 funext s
 by_cases e : s = fr.length
 · subst e
   simp
 · rw [if_neg e]
   rcases Nat.lt_or_gt_of_ne e with h | h
   · rw [List.getElem?_append_left h]
   · rw [List.getElem?_eq_none (by omega), List.getElem?_eq_none (by simp; omega)]
section
variable {X : Cx}
theorem MR.addMark {M : Mem} {σ : Nat → Option (TypeId × List AV)} {w : World} (h : MR X M σ w) {k : Nat} (hk : M.fr k = none) (p : TypeId × Nat) :
   Mem.le M { M with fr := fun s => if s = k then some p else M.fr s } ∧ MR X { M with fr := fun s => if s = k then some p else M.fr s } σ w := by
 have hle : Mem.le M { M with fr := fun s => if s = k then some p else M.fr s } := by
   refine ⟨fun _ _ h => h, fun _ _ h => h, fun s e f hs => ⟨f, ?_, Nat.le_refl _, fun _ => rfl⟩⟩
   show (if s = k then some p else M.fr s) = _
   rw [if_neg (fun e => by rw [e, hk] at hs; cases hs)]
   exact hs
 refine ⟨hle, h.kap, h.old, h.bel, h.hb, fun l g hg => ?_, h.inj, fun s g c hs => ?_, h.tinj, h.prot.trans hle⟩
 · obtain ⟨k1, k2, T, cs, k3, k4⟩ := h.box l g hg
   exact ⟨k1, k2, T, cs, k3, k4.mono hle rfl⟩
 · obtain ⟨k1, k2, e, n, i, cells, k3, k4⟩ := h.tok s g c hs
   refine ⟨k1, k2, e, n, i, cells, ?_, k4⟩
   show (if s = k then some p else M.fr s) = _
   rw [if_neg (fun e => by rw [e, hk] at k3; cases k3)]
   exact k3
theorem run_appN {s : St} {a : Act} {w : World} {M : Mem} (h : StR X s a w M) {t e ty : TypeId} {i : TypeInfo} {z : Value} (ht : X.P.underlying t = some (.slice e)) (hi : X.P.info? e = some i) (hz : i.zero = some z) (hzs : z.cells.size = i.size) (h0 : i.size ≠ 0)
   {x y : Value} {x' y' : AX} (hx : Rep M x (s.ν x')) (hy : Rep M y (s.ν y')) (hn : M.μ s.box.length = none) {v' : AV} {cs' : List AV} (hq : newOp s e i.size i.bytes x' y' = some (v', cs')) :
   ∃ u w' M', (Builtin.append_ #[t, t] ty #[x, y]).run X.P w = .ok u w' ∧ StR X { s with box := s.box ++ [(e, cs')] } a w' M' ∧ Rep M' u v' ∧ Below X.base w w' := by
 unfold newOp at hq
 split at hq
 rotate_left
 · cases hq
 rename_i sz' tg' sz'' ys e1 e2
 rw [e1] at hx
 rw [e2] at hy
 split at hq
 rotate_left
 · cases hq
 rename_i hc
 obtain ⟨c2, hm0, c3, c4, c5, hT⟩ := hc
 injection hq with hq
 injection hq with e3 e4
 subst e3 e4
 cases hx with
 | slice _ A n c _ vs _ hl hn' hnc hm hs hA hr htg =>
 cases hy with
 | slice _ B m d _ us _ kl kn knc km ks kA kr ktg =>
 have hn0 : n = 0 := by simpa using hn'
 have hc0 : c = 0 := by have : c = n := htg; omega
 subst hn0 hc0
 have ks : ∀ v ∈ us, ElemOk i.size v := by rw [← c2]; exact ks
 have kfl := flat_length us ks
 have hsrc := (lies_of h.mr.kap kA).src (P := X.P) (size := i.size) (by omega) ht m d (by rw [kfl, kl, kn]) (flat_one us ks)
 have hold : (Builtin.firstCells i.size 0 (.slice A 0 0)).run X.P w.drew = .ok ([] : List Value).toArray w.drew := by
   cases A with
   | none => exact run_firstCells_none w.drew i.size 0 0 0
   | some a0 => exact run_firstCells_some w.drew i.size 0 a0 0 0 [] (by simp) (fun j u hu => by simp at hu)
 have hrun := run_append_grow_src (P := X.P) w t t ty e i z ht hi hz A 0 0 [] hold _ m (flat us) hsrc (by omega) (by simp only [maxLen] at c4; omega) (growslice_fits (by omega) (by rw [Nat.zero_add, kn]; exact c3))
 have hge := grownCap_ge w (0 + m) 0 e
 have hcm' : grownCap w (0 + m) 0 e ≤ maxLen := grownCap_le_maxLen w (0 + m) 0 e (by omega)
 obtain ⟨r1, r2⟩ := reps_flat (M := M) ⟨kl, kr⟩ (fun x hx => List.all_eq_true.1 c5 x hx)
 have hmd : MR X M s.σ w.drew := ⟨h.mr.kap, h.mr.old, ⟨h.mr.bel.os, h.mr.bel.tape, h.mr.bel.output, h.mr.bel.size, h.mr.bel.block⟩, h.mr.hb, h.mr.box, h.mr.inj, h.mr.tok, h.mr.tinj, h.mr.prot⟩
 have hσ : ∀ l b, s.σ l = some b → ({ s with box := s.box ++ [(e, flatAV ys)] } : St).σ l = some b := fun l b hb => by
   have hb : s.box[l]? = some b := hb
   show (s.box ++ [(e, flatAV ys)])[l]? = some b
   rw [List.getElem?_append_left (List.getElem?_eq_some_iff.1 hb).1]
   exact hb
 have hmd2 : MR X M ({ s with box := s.box ++ [(e, flatAV ys)] } : St).σ w.drew := ⟨hmd.kap, hmd.old, hmd.bel, hmd.hb, fun l g hg => by
   obtain ⟨k1, k2, T, cs, k3, k4⟩ := hmd.box l g hg
   exact ⟨k1, k2, T, cs, hσ _ _ k3, k4⟩, hmd.inj, hmd.tok, hmd.tinj, hmd.prot⟩
 obtain ⟨M', g1, g2, g3, g4, g5, g6⟩ := hmd2.addBox (nl := s.box.length) hn (T := e) (cs := flatAV ys) (by simp [St.σ]) (vs := flat us) (Builtin.zeroCells z.cells (grownCap w (0 + m) 0 e - (0 + m))).toList r1 hT r2
 have hworld : w.drew.alloc (.cells ((([] : List Value) ++ flat us).toArray ++ Builtin.zeroCells z.cells (grownCap w (0 + m) 0 e - (0 + m))) e) = w.drew.alloc (.cells (flat us ++ (Builtin.zeroCells z.cells (grownCap w (0 + m) 0 e - (0 + m))).toList).toArray e) := by
   congr 2
   apply Array.ext'
   simp
 rw [hworld] at hrun
 refine ⟨_, _, M', hrun, ⟨g2, fun l hl => ?_, by rw [g3]; exact h.fr, h.defers, h.size, fun t => (h.tmps t).mono g1, h.pp⟩, ?_, (below_drw (B := X.base) (w := w)).alloc h.mr.hb _⟩
 · by_cases hll : l = s.box.length
   · rw [hll, g6]; simp
   · rw [g5 l hll]
     refine h.boxes l ?_
     have : l < (s.box ++ [(e, flatAV ys)]).length := hl
     rw [List.length_append] at this
     simp at this
     omega
 · have := Rep.bsl (M := M') s.box.length 0 ys.length i.size 0 w.drew.heap.size (grownCap w (0 + m) 0 e) g6 (by omega) hcm' (.inl rfl)
   rw [Nat.zero_mul] at this
   have e5 : 0 + m = ys.length := by omega
   rw [e5]
   rw [e5] at this
   exact this
theorem run_app {s : St} {a : Act} {w : World} {M : Mem} (h : StR X s a w M) {t e ty : TypeId} {i : TypeInfo} {z : Value} (ht : X.P.underlying t = some (.slice e)) (hi : X.P.info? e = some i) (hz : i.zero = some z) (hzs : z.cells.size = i.size) (h0 : i.size ≠ 0)
   {x y : Value} {x' y' : AX} (hx : Rep M x (s.ν x')) (hy : Rep M y (s.ν y')) {v' : AV} {fr' : List (TypeId × Nat)} (hq : appOp s e i.size i.bytes x' y' = some (v', fr')) :
   ∃ u w' M', (Builtin.append_ #[t, t] ty #[x, y]).run X.P w = .ok u w' ∧ StR X { s with fr := fr' } a w' M' ∧ Rep M' u v' ∧ Below X.base w w' := by
 unfold appOp at hq
 split at hq
 rotate_left
 · cases hq
 rename_i tg sz' xs tg' sz'' ys e1 e2
 rw [e1] at hx
 rw [e2] at hy
 split at hq
 rotate_left
 · cases hq
 rename_i hc
 obtain ⟨c1, c2, c3, c4⟩ := hc
 obtain ⟨q, hq1, hq2⟩ := Option.map_eq_some_iff.1 hq
 injection hq2 with e3 e4
 subst e3 e4
 cases hx with
 | slice _ A n c _ vs _ hl hn hnc hm hs hA hr htg =>
 cases hy with
 | slice _ B m d _ us _ kl kn knc km ks kA kr ktg =>
 have hs : ∀ v ∈ vs, ElemOk i.size v := by
   rcases c1 with c1 | c1
   · rw [← c1]; exact hs
   · intro v hv
     have : vs = [] := List.eq_nil_of_length_eq_zero (by omega)
     rw [this] at hv
     cases hv
 have ks : ∀ v ∈ us, ElemOk i.size v := by
   rcases c2 with c2 | c2
   · rw [← c2]; exact ks
   · intro v hv
     have : us = [] := List.eq_nil_of_length_eq_zero (by omega)
     rw [this] at hv
     cases hv
 have hfl := flat_length vs hs
 have kfl := flat_length us ks
 have hsrc := (lies_of h.mr.kap kA).src (P := X.P) (size := i.size) (by omega) ht m d (by rw [kfl, kl, kn]) (flat_one us ks)
 have hreps : Reps M (vs ++ us) (xs ++ ys) := reps_append ⟨hl, hr⟩ ⟨kl, kr⟩
 have hss : ∀ v ∈ vs ++ us, ElemOk i.size v := fun v hv => (List.mem_append.1 hv).elim (hs v) (ks v)
 have fin : ∀ (M' : Mem) (A' : Option Addr) (c' k : Nat), Mem.le M M' → LiesK M'.κ A' (flat (vs ++ us)) → n + m ≤ c' → c' ≤ maxLen → TagOk M' (.app k) A' (n + m) c' → Rep M' (.slice A' (n + m) c') (.slice (.app k) i.size (xs ++ ys)) := fun M' A' c' k g1 g2 g3 g4 g5 =>
   .slice _ A' _ c' i.size (vs ++ us) _ hreps.1 (by simp; omega) g3 g4 hss g2 (hreps.mono g1).2 g5
 have move : ∀ k, (M.fr k = none ∨ ∃ n0, n0 < n + m ∧ M.fr k = some (e, n0)) → 0 < m → c < n + m → (∀ M' : Mem, (M'.fr = fun s => if s = k then some (e, n + m) else M.fr s) → M'.fr = fun s => q.2[s]?) → q.1 = .app k →
     ∃ u w' M', (Builtin.append_ #[t, t] ty #[.slice A n c, .slice B m d]).run X.P w = .ok u w' ∧ StR X { s with fr := q.2 } a w' M' ∧ Rep M' u (.slice q.1 i.size (xs ++ ys)) ∧ Below X.base w w' := fun k hk hm0 hcm hfr hqk => by
   have hold : (Builtin.firstCells i.size n (.slice A n c)).run X.P w.drew = .ok (flat vs).toArray w.drew := by
     rcases Nat.eq_zero_or_pos n with e0 | e0
     · have hnil : flat vs = [] := List.eq_nil_of_length_eq_zero (by rw [hfl, hl, ← hn, e0, Nat.zero_mul])
       rw [hnil, e0]
       cases A with
       | none => exact run_firstCells_none w.drew i.size 0 0 c
       | some a0 => exact run_firstCells_some w.drew i.size 0 a0 0 c [] (by simp) (fun j u hu => by simp at hu)
     · obtain ⟨a0, rfl, hc0⟩ := (lies_of h.mr.kap hA).at_add (by rw [hfl]; exact Nat.mul_pos (by omega) (by omega))
       exact run_firstCells_some w.drew i.size n a0 n c (flat vs) (by rw [hfl, hl, hn]) (by simpa using hc0)
   have hrun := run_append_grow_src (P := X.P) w t t ty e i z ht hi hz A n c (flat vs) hold _ m (flat us) hsrc hcm (by simp only [maxLen] at c4; omega) (growslice_fits hcm (by rw [hn, kn]; exact c3))
   have hge := grownCap_ge w (n + m) c e
   have hcm' : grownCap w (n + m) c e ≤ maxLen := grownCap_le_maxLen w (n + m) c e (by omega)
   have hcsz : ((flat vs ++ flat us).toArray ++ Builtin.zeroCells z.cells (grownCap w (n + m) c e - (n + m))).size = grownCap w (n + m) c e * i.size := by
     simp only [Array.size_append, List.size_toArray, List.length_append, size_zeroCells, hzs, hfl, kfl, ← Nat.add_mul]
     congr 1
     omega
   obtain ⟨M', g1, g2, g3, g4, g5, g6⟩ := h.mr.newRow (k := k) (N := n + m) hi hk hcsz hge hcm' _ rfl
   refine ⟨_, _, M', hrun, ⟨g2, fun l hl => by rw [g3]; exact h.boxes l hl, hfr M' g5, h.defers, h.size, fun t => (h.tmps t).mono g1, h.pp⟩, ?_, ?_⟩
   · rw [hqk]
     refine fin M' _ _ k g1 (.inr ⟨_, _, rfl, fun j hj => ?_⟩) hge hcm' ⟨e, n + m, by rw [g5]; exact if_pos rfl, Nat.le_refl _, fun _ => .inr ⟨_, rfl, by rw [g4]; exact if_pos rfl⟩⟩
     have hjl : j < (n + m) * i.size := by
       rw [flat_append, List.length_append, hfl, kfl, ← Nat.add_mul] at hj
       rwa [hn, kn, ← hl, ← kl]
     rw [Nat.zero_add, g6 j hjl]
     rw [Array.getElem?_append_left (by simp only [List.size_toArray, List.length_append, hfl, kfl, ← Nat.add_mul]; rw [hl, kl, ← hn, ← kn]; exact hjl)]
     simp only [List.getElem?_toArray]
     rw [← flat_append, List.getElem?_eq_getElem hj]
   · exact ((below_drw (B := X.base) (w := w)).alloc h.mr.hb _)
 unfold appTag at hq1
 split at hq1
 · -- full
   injection hq1 with hq1
   subst hq1
   have hcn : c = n := htg
   have hfr0 : M.fr s.fr.length = none := by rw [h.fr]; simp [St.τ]
   rcases Nat.eq_zero_or_pos m with hm0 | hm0
   · subst hm0
     have hnil : flat us = [] := List.eq_nil_of_length_eq_zero (by rw [kfl, kl, ← kn, Nat.zero_mul])
     rw [hnil] at hsrc
     have hrun := run_append_nothing (P := X.P) w t t ty e i ht hi A n c hnc _ hsrc
     obtain ⟨g1, g2⟩ := h.mr.addMark hfr0 (e, n + 0)
     have hys : ys = [] := List.eq_nil_of_length_eq_zero (by omega)
     refine ⟨_, _, _, hrun, ⟨g2, h.boxes, ?_, h.defers, h.size, fun t => (h.tmps t).mono g1, h.pp⟩, fin _ A c s.fr.length g1 (by rw [flat_append, hnil, List.append_nil]; exact hA) (by omega) hm ⟨e, n + 0, if_pos rfl, Nat.le_refl _, fun _ => .inl hcn⟩, Below.refl _ _⟩
     show (fun s_1 => if s_1 = s.fr.length then some (e, n + 0) else M.fr s_1) = _
     rw [h.fr, hn]
     simp only [hys, List.length_nil]
     exact tau_app
   · exact move s.fr.length (.inl hfr0) hm0 (by omega) (fun M' hM' => by rw [hM', h.fr, hn, kn]; exact tau_app) rfl
 · -- an own row
   rename_i k
   split at hq1
   rotate_left
   · cases hq1
   rename_i hk
   injection hq1 with hq1
   subst hq1
   obtain ⟨e', f, t1, t2, t3⟩ := htg
   have hkM : M.fr k = some (e, xs.length) := by rw [h.fr]; exact hk
   rw [hkM] at t1
   injection t1 with t1
   injection t1 with t1 t1'
   subst t1 t1'
   have t3 := t3 hn
   rcases Nat.eq_zero_or_pos m with hm0 | hm0
   · subst hm0
     have hnil : flat us = [] := List.eq_nil_of_length_eq_zero (by rw [kfl, kl, ← kn, Nat.zero_mul])
     rw [hnil] at hsrc
     have hrun := run_append_nothing (P := X.P) w t t ty e i ht hi A n c hnc _ hsrc
     have hset : s.fr.set k (e, xs.length + ys.length) = s.fr := by
       rw [← kn, Nat.add_zero]
       obtain ⟨hlt, hk'⟩ := List.getElem?_eq_some_iff.1 hk
       rw [← hk']
       exact List.set_getElem_self hlt
     refine ⟨_, _, M, hrun, ?_, fin M A c k (Mem.le.refl M) (by rw [flat_append, hnil, List.append_nil]; exact hA) (by omega) hm ⟨e, n + 0, by rw [hkM]; simp [hn], Nat.le_refl _, fun _ => t3⟩, Below.refl _ _⟩
     simp only [hset]
     exact h
   · by_cases hroom : n + m ≤ c
     · rcases t3 with t3 | ⟨g, rfl, hβ⟩
       · omega
       · obtain ⟨hbg, hμ, e', n', i', cur, f1, f2, f3, f4, f5, f6, f7⟩ := h.mr.tok k g c hβ
         rw [hkM] at f1
         injection f1 with f1
         injection f1 with q1 q2
         subst q1 q2
         obtain rfl : i = i' := Option.some.inj (hi.symm.trans f2)
         have hrun := run_inplace (P := X.P) (ty := ty) ht hi hsrc hroom f5 f6
         obtain ⟨M', g1, g2, g3, g4, g5, g6⟩ := h.mr.growRow (m := m) hβ hkM hi f5 f6 (news := flat us) (by rw [kfl, kl, kn]) (by rw [← hn]; exact hroom)
         rw [← hn] at g2 g6
         refine ⟨_, _, M', hrun, ⟨g2, fun l hl => by rw [g3]; exact h.boxes l hl, ?_, h.defers, h.size, fun t => (h.tmps t).mono g1, h.pp⟩, ?_, below_setR (Below.refl _ _) hbg _⟩
         · rw [g5, h.fr, kn]
           exact tau_set hk
         · refine fin M' _ c k g1 (.inr ⟨_, _, rfl, fun j hj => ?_⟩) hroom hm ⟨e, n + m, by rw [g5, hn]; exact if_pos rfl, Nat.le_refl _, fun _ => .inr ⟨g, rfl, by rw [g4]; exact hβ⟩⟩
           rw [Nat.zero_add]
           have hfl' : (flat vs).length = n * i.size := by rw [hfl, hl, hn]
           by_cases hj1 : j < (flat vs).length
           · have := hA.resolve_left (fun e => by rw [e] at hj1; simp at hj1)
             obtain ⟨b, o, hbo, hcell⟩ := this
             injection hbo with hbo
             injection hbo with b1 b2
             subst b1 b2
             have := g1.κ _ _ (hcell j hj1)
             rw [Nat.zero_add] at this
             rw [this]
             simp only [flat_append]
             rw [List.getElem_append_left hj1]
           · have hj2 : j - n * i.size < (flat us).length := by rw [flat_append, List.length_append] at hj; omega
             have := g6 (j - n * i.size) hj2
             rw [show n * i.size + (j - n * i.size) = j by omega] at this
             rw [this]
             simp only [flat_append]
             rw [List.getElem_append_right (by omega)]
             simp only [hfl']
     · refine move k (.inr ⟨n, by omega, by rw [hkM, hn]⟩) hm0 (by omega) (fun M' hM' => ?_) rfl
       rw [hM', h.fr, hn, kn]
       exact tau_set hk
 · cases hq1
end
end Go.Proofs.YtibploaibljcmaaGreatDoor
