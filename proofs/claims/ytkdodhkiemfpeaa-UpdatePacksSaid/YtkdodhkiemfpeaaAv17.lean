/- A list that was written to, written to no more. -/
import Derived.Test.YtkdodhkiemfpeaaAv16
namespace Go.Proofs.Ytkdodhkiemfpeaa
open Go.RowKit
set_option linter.unusedVariables false
set_option linter.unusedSimpArgs false

/-- What becomes of a cell when the list over box l, whose elements are xs, is written to no more. -/
def frz1 (m l sz : Nat) (xs : List AV) : AV → AV
  | .bsl l' off n sz' q => if l' = l ∧ sz' = sz ∧ off + n ≤ xs.length then .slice (if q = n + 1 then .full else .imm) sz ((xs.drop off).take n) else if l' < l then .bsl l' off n sz' q else .und
  | a => if okB m l a = true then a else .und
def frzA (m l sz : Nat) (xs : List AV) : AV → AV
  | .agg cs => .agg (cs.map (frz1 m l sz xs))
  | .tup cs => .tup (cs.map (frz1 m l sz xs))
  | a => frz1 m l sz xs a
def frzS (s : St) (l sz : Nat) (xs : List AV) : St :=
  { s with tm := s.tm.map (fun p => (p.1, frzA s.fr.length l sz xs p.2)), box := (s.box.take l).map fun q => (q.1, q.2.map (frz1 s.fr.length l sz xs)) }

theorem one_cells {v : Value} (h : v.oneCell' = true) : v.cells.toList = [v] := by
  cases v <;> first | rfl | simp [Value.oneCell'] at h
/-- Values out of cells. -/
theorem unflat {M : Mem} {sz : Nat} : ∀ {xs : List AV} {vs : List Value}, Reps M vs (flatAV xs) → (∀ v ∈ vs, v.oneCell' = true) → (∀ x ∈ xs, (cellsOf x).map List.length = some sz) →
    ∃ us : List Value, flat us = vs ∧ Reps M us xs ∧ ∀ v ∈ us, ElemOk sz v
  | [], vs, h, _, _ => ⟨[], by have := h.1; simp [flatAV] at this; simp [flat, this], reps_nil, by simp⟩
  | x :: xs, vs, h, h1, hc => by
    have hx := hc x (by simp)
    cases hcx : cellsOf x with
    | none => rw [hcx] at hx; cases hx
    | some cs =>
      rw [hcx] at hx
      have hl : cs.length = sz := by simpa using hx
      have e : flatAV (x :: xs) = cs ++ flatAV xs := by simp [flatAV, hcx]
      rw [e] at h
      have hlen : cs.length ≤ vs.length := by rw [h.1]; simp
      have ht : Reps M (vs.take cs.length) cs := by
        have := reps_take h cs.length
        rwa [List.take_left] at this
      have hd : Reps M (vs.drop cs.length) (flatAV xs) := by
        have := reps_drop h cs.length
        rwa [List.drop_left] at this
      obtain ⟨us, k1, k2, k3⟩ := unflat hd (fun v hv => h1 v (List.mem_of_mem_drop hv)) (fun y hy => hc y (List.mem_cons_of_mem _ hy))
      have key : ∃ v : Value, v.cells.toList = vs.take cs.length ∧ Rep M v x := by
        cases x with
        | agg ds =>
          have : ds = cs := by simpa [cellsOf] using hcx
          subst this
          exact ⟨.agg (vs.take ds.length).toArray, by simp [Value.cells], .agg _ ds ht.1 (fun v hv => h1 v (List.mem_of_mem_take hv)) ht.2⟩
        | und => simp [cellsOf] at hcx
        | nov => simp [cellsOf] at hcx
        | tup => simp [cellsOf] at hcx
        | _ =>
          simp only [cellsOf, Option.some.injEq] at hcx
          subst hcx
          obtain ⟨v, hv⟩ : ∃ v, vs.take 1 = [v] := by
            cases vs with
            | nil => simp at hlen
            | cons v vs => exact ⟨v, rfl⟩
          rw [show ([_] : List AV).length = 1 from rfl, hv] at ht
          have hr := (reps_uncons ht).1
          have ho : v.oneCell' = true := h1 v (List.mem_of_mem_take (by rw [hv]; simp))
          refine ⟨v, ?_, hr⟩
          rw [show ([_] : List AV).length = 1 from rfl, hv]
          exact one_cells ho
      obtain ⟨v, q1, q2⟩ := key
      refine ⟨v :: us, ?_, reps_cons q2 k2, fun u hu => ?_⟩
      · rw [flat_cons, q1, k1, List.take_append_drop]
      · rcases List.mem_cons.1 hu with rfl | hu
        · refine ⟨by rw [← Array.length_toList, q1, List.length_take, Nat.min_eq_left hlen]; exact hl, fun c hcm => ?_⟩
          rw [q1] at hcm
          exact h1 c (List.mem_of_mem_take hcm)
        · exact k3 u hu

theorem frz_flat {M' : Mem} {w : World} {g sz : Nat} {T : TypeId} {us zs : List Value} (hs : ∀ v ∈ us, ElemOk sz v) (hg : w.heap[g]? = some (.cells (flat us ++ zs).toArray T (0, 0)))
    (hκ : ∀ j, j < (flat us).length → M'.κ ⟨g, j, none⟩ = (flat us)[j]?) {off n : Nat} (ho : off + n ≤ us.length) : LiesK M'.κ (some ⟨g, off * sz, none⟩) (flat ((us.drop off).take n)) := by
  refine .inr ⟨g, off * sz, rfl, fun j hj => ?_⟩
  have e : flat ((us.drop off).take n) = ((flat us).drop (off * sz)).take (n * sz) := by
    rw [flat_take n (us.drop off) (fun v hv => hs v (List.mem_of_mem_drop hv)), flat_drop off us hs]
  have hl := flat_length us hs
  have hj' : j < n * sz := by
    rw [e, List.length_take] at hj
    omega
  have hle : off * sz + n * sz ≤ us.length * sz := by rw [← Nat.add_mul]; exact Nat.mul_le_mul_right _ ho
  have hjl : off * sz + j < (flat us).length := by rw [hl]; omega
  rw [hκ _ hjl, List.getElem?_eq_getElem hjl]
  congr 1
  simp only [e, List.getElem_take, List.getElem_drop]
theorem frz_rep {M M' : Mem} {w : World} {g m l sz : Nat} {T : TypeId} {us zs : List Value} {xs : List AV} {fr : Nat → Option (TypeId × Nat)} (hle : Mem.le (M.cut m l fr) M') (hf : ∀ k, k < m → fr k = M.fr k) (hμ : M.μ l = some g) (hr : Reps M' us xs)
    (hs : ∀ v ∈ us, ElemOk sz v) (hg : w.heap[g]? = some (.cells (flat us ++ zs).toArray T (0, 0))) (hκ : ∀ j, j < (flat us).length → M'.κ ⟨g, j, none⟩ = (flat us)[j]?) {v : Value} {a : AV} (h : Rep M v a) : Rep M' v (frz1 m l sz xs a) := by
  have other : ∀ {v a}, Rep M v a → Rep M' v (if okB m l a = true then a else .und) := fun {v a} h => by
    by_cases hk : okB m l a = true
    · rw [if_pos hk]
      exact (rep_cut' hf h hk).mono hle
    · rw [if_neg hk]
      exact .und v
  cases h with
  | mp l' g' hg' => exact other (.mp l' g' hg')
  | bsl l' off n sz' q g' c hg' hn hm hq =>
    show Rep M' _ (if l' = l ∧ sz' = sz ∧ off + n ≤ xs.length then _ else if l' < l then _ else _)
    by_cases hc : l' = l ∧ sz' = sz ∧ off + n ≤ xs.length
    · rw [if_pos hc]
      obtain ⟨rfl, rfl, ho⟩ := hc
      obtain rfl : g = g' := Option.some.inj (hμ.symm.trans hg')
      have ho' : off + n ≤ us.length := by rw [hr.1]; exact ho
      have hr' := reps_take (reps_drop hr off) n
      refine .slice _ _ n c sz' ((us.drop off).take n) ((xs.drop off).take n) hr'.1 ?_ hn hm (fun v hv => hs v (List.mem_of_mem_drop (List.mem_of_mem_take hv))) (frz_flat hs hg hκ ho') hr'.2 ?_
      · rw [List.length_take, List.length_drop]
        omega
      · split
        · show c = n
          omega
        · trivial
    · rw [if_neg hc]
      by_cases hl : l' < l
      · rw [if_pos hl]
        have : okB m l (.bsl l' off n sz' q) = true := by simp [okB, hl]
        exact (rep_cut' hf (.bsl l' off n sz' q g' c hg' hn hm hq) this).mono hle
      · rw [if_neg hl]
        exact .und _
  | und v => exact other (.und v)
  | nov => exact other .nov
  | bool b => exact other (.bool b)
  | int k n => exact other (.int k n)
  | str s => exact other (.str s)
  | slice t A n c sz vs xs hl hn hc hm hs hA hr ht => exact other (.slice t A n c sz vs xs hl hn hc hm hs hA hr ht)
  | agg vs cs hl h1 hr => exact other (.agg vs cs hl h1 hr)
  | tup vs cs hl hr => exact other (.tup vs cs hl hr)
  | fn f vs bs hl hr => exact other (.fn f vs bs hl hr)
  | clo f vs cs hl hr => exact other (.clo f vs cs hl hr)
  | nilFn => exact other .nilFn
  | ptr l off g hg => exact other (.ptr l off g hg)
  | cptr b o i off sz vs xs hl hs hK hr => exact other (.cptr b o i off sz vs xs hl hs hK hr)
  | iface t v a hr => exact other (.iface t v a hr)
  | nilIface => exact other .nilIface
theorem frz_repA {M M' : Mem} {m l sz : Nat} {xs : List AV} (h1 : ∀ {v a}, Rep M v a → Rep M' v (frz1 m l sz xs a)) {v : Value} {a : AV} (h : Rep M v a) : Rep M' v (frzA m l sz xs a) := by
  cases h with
  | agg vs cs hl h1' hr => exact .agg vs _ (by simpa using hl) h1' (fun i q1 q2 => by rw [List.getElem_map]; exact h1 (hr i q1 (by simpa using q2)))
  | tup vs cs hl hr => exact .tup vs _ (by simpa using hl) (fun i q1 q2 => by rw [List.getElem_map]; exact h1 (hr i q1 (by simpa using q2)))
  | bsl l' off n sz' q g' c hg' hn hm hq => exact h1 (.bsl l' off n sz' q g' c hg' hn hm hq)
  | mp l' g' hg' => exact h1 (.mp l' g' hg')
  | und v => exact h1 (.und v)
  | nov => exact h1 .nov
  | bool b => exact h1 (.bool b)
  | int k n => exact h1 (.int k n)
  | str s => exact h1 (.str s)
  | slice t A n c sz vs xs hl hn hc hm hs hA hr ht => exact h1 (.slice t A n c sz vs xs hl hn hc hm hs hA hr ht)
  | fn f vs bs hl hr => exact h1 (.fn f vs bs hl hr)
  | clo f vs cs hl hr => exact h1 (.clo f vs cs hl hr)
  | nilFn => exact h1 .nilFn
  | ptr l off g hg => exact h1 (.ptr l off g hg)
  | cptr b o i off sz vs xs hl hs hK hr => exact h1 (.cptr b o i off sz vs xs hl hs hK hr)
  | iface t v a hr => exact h1 (.iface t v a hr)
  | nilIface => exact h1 .nilIface
theorem getT_map (f : AV → AV) (hf : f .und = .und) : ∀ (tm : List (Nat × AV)) (t : Nat), getT (tm.map fun p => (p.1, f p.2)) t = f (getT tm t)
  | [], t => hf.symm
  | (k, v) :: tm, t => by
    simp only [List.map_cons, getT]
    split
    · rfl
    · exact getT_map f hf tm t
theorem StR.frz {X : Cx} {s : St} {a : Act} {w : World} {M : Mem} (h : StR X s a w M) {l sz : Nat} {T : TypeId} {xs : List AV} (hlast : s.box.length = l + 1) (hb : s.box[l]? = some (T, flatAV xs)) (hT : T < 1099511627776) (hc : ∀ x ∈ xs, (cellsOf x).map List.length = some sz) (hp : s.p.1 ≤ l) (hx : okBL s.fr.length l xs = true) :
    ∃ M', StR X (frzS s l sz xs) a w M' := by
  have hμ0 := h.boxes l (by omega)
  obtain ⟨g, hμ⟩ : ∃ g, M.μ l = some g := by
    cases hm : M.μ l with
    | none => exact absurd hm hμ0
    | some g => exact ⟨g, rfl⟩
  obtain ⟨k1, k2, T', cs, k3, vs, zs, kb, k6⟩ := h.mr.box l g hμ
  have k3 : s.box[l]? = some (T', cs) := k3
  rw [hb] at k3
  injection k3 with k3
  injection k3 with e1 e2
  subst e1 e2
  obtain ⟨k4, k5⟩ := kb.cells hT
  obtain ⟨us, q1, q2, q3⟩ := unflat k6 k5 hc
  subst q1
  have hf : ∀ k, k < s.fr.length → s.τ k = M.fr k := fun k _ => by rw [h.fr]
  let κ' : Addr → Option Value := fun a => if a.block = g ∧ a.spot = none ∧ a.off < (flat us).length then (flat us)[a.off]? else M.κ a
  let M' : Mem := { κ := κ', μ := fun k => if k < l then M.μ k else none, β := fun k => if k < s.fr.length then M.β k else none, fr := s.τ }
  have hκg : ∀ j, j < (flat us).length → M'.κ ⟨g, j, none⟩ = (flat us)[j]? := fun j hj => if_pos ⟨rfl, rfl, hj⟩
  have hκo : ∀ a, a.block ≠ g → κ' a = M.κ a := fun a ha => if_neg (fun q => ha q.1)
  have hκm : ∀ a v, M.κ a = some v → κ' a = some v := fun a v hv => by
    by_cases hc : a.block = g ∧ a.spot = none ∧ a.off < (flat us).length
    · have : a = ⟨g, a.off, none⟩ := by cases a; simp_all
      rw [this, k2] at hv
      cases hv
    · show (if _ then _ else _) = _
      rw [if_neg hc]
      exact hv
  have hle : Mem.le (M.cut s.fr.length l s.τ) M' := ⟨hκm, fun _ _ h => h, fun k e f hk => ⟨f, hk, Nat.le_refl _, fun _ => rfl⟩⟩
  have hq2 : Reps M' us xs := ⟨q2.1, fun i h1 h2 => (rep_cut' hf (q2.2 i h1 h2) (okBL_get hx i h2)).mono hle⟩
  have hrep : ∀ {v a}, Rep M v a → Rep M' v (frz1 s.fr.length l sz xs a) := fun hh => frz_rep hle hf hμ hq2 q3 k4 hκg hh
  have hlt : ∀ k g', M.μ k = some g' → k < l + 1 := fun k g' hk => by
    obtain ⟨_, _, T, cs, h3, _⟩ := h.mr.box k g' hk
    have h3 : s.box[k]? = some (T, cs) := h3
    have := (List.getElem?_eq_some_iff.1 h3).1
    omega
  refine ⟨M', ⟨⟨fun a v hv => ?_, fun a ha => ?_, h.mr.bel, h.mr.hb, fun k g' hk => ?_, fun k k' g' hk hk' => ?_, fun k g' c hs => ?_, fun k k' g' c c' hs hs' => ?_, ⟨fun a v hv => ?_, fun k g' hk => ?_, fun k e f hk => ?_⟩⟩, fun k hk => ?_, rfl, h.defers, h.size, fun t => ?_, h.pp⟩⟩
  · have hv : κ' a = some v := hv
    by_cases hc : a.block = g ∧ a.spot = none ∧ a.off < (flat us).length
    · have ha : a = ⟨g, a.off, none⟩ := by cases a; simp_all
      have hv : (if a.block = g ∧ a.spot = none ∧ a.off < (flat us).length then (flat us)[a.off]? else M.κ a) = some v := hv
      rw [if_pos hc] at hv
      rw [ha]
      simp [World.cell?, k4]
      rw [List.getElem?_append_left hc.2.2]
      exact hv
    · have hv : (if a.block = g ∧ a.spot = none ∧ a.off < (flat us).length then (flat us)[a.off]? else M.κ a) = some v := hv
      rw [if_neg hc] at hv
      exact h.mr.kap a v hv
  · rw [show M'.κ a = κ' a from rfl, hκo a (by omega)]
    exact h.mr.old a ha
  · have hk : (if k < l then M.μ k else none) = some g' := hk
    split at hk
    · rename_i hkl
      obtain ⟨p1, p2, T', cs, p3, vs', zs', p4, p6⟩ := h.mr.box k g' hk
      have hne : g' ≠ g := fun e => by
        have := h.mr.inj k l g (e ▸ hk) hμ
        omega
      refine ⟨p1, fun o => by rw [show M'.κ _ = κ' _ from rfl, hκo _ hne]; exact p2 o, T', cs.map (frz1 s.fr.length l sz xs), ?_, vs', zs', p4, by simpa using p6.1, fun i i1 i2 => ?_⟩
      · have p3 : s.box[k]? = some (T', cs) := p3
        show ((s.box.take l).map _)[k]? = _
        rw [List.getElem?_map, List.getElem?_take_of_lt hkl, p3]
        rfl
      · rw [List.getElem_map]
        exact hrep (p6.2 i i1 (by simpa using i2))
    · cases hk
  · have hk : (if k < l then M.μ k else none) = some g' := hk
    have hk' : (if k' < l then M.μ k' else none) = some g' := hk'
    split at hk
    · split at hk'
      · exact h.mr.inj k k' g' hk hk'
      · cases hk'
    · cases hk
  · have hs : (if k < s.fr.length then M.β k else none) = some (g', c) := hs
    split at hs
    · rename_i hkl
      obtain ⟨p1, p2, e, n, i, cells, p3, p4, p5, p6, p7, p8, p9⟩ := h.mr.tok k g' c hs
      have hne : g' ≠ g := fun q => p2 l (q ▸ hμ)
      refine ⟨p1, fun k' hk' => ?_, e, n, i, cells, (hf k hkl).trans p3, p4, p5, p6, p7, p8, fun o ho => by rw [show M'.κ _ = κ' _ from rfl, hκo _ hne]; exact p9 o ho⟩
      have hk' : (if k' < l then M.μ k' else none) = some g' := hk'
      split at hk'
      · exact p2 k' hk'
      · cases hk'
    · cases hs
  · have hs : (if k < s.fr.length then M.β k else none) = some (g', c) := hs
    have hs' : (if k' < s.fr.length then M.β k' else none) = some (g', c') := hs'
    split at hs
    · split at hs'
      · exact h.mr.tinj k k' g' c c' hs hs'
      · cases hs'
    · cases hs
  · exact hκm a v (h.mr.prot.κ a v hv)
  · have := h.pp.1 k (by rw [hk]; simp)
    show (if k < l then M.μ k else none) = some g'
    rw [if_pos (by omega)]
    exact h.mr.prot.μ k g' hk
  · obtain ⟨f', r1, r2, r3⟩ := h.mr.prot.fr k e f hk
    have hkl : k < s.fr.length := by
      rw [h.fr] at r1
      exact (List.getElem?_eq_some_iff.1 r1).1
    refine ⟨f', (hf k hkl).trans r1, r2, fun q => ?_⟩
    show (if k < s.fr.length then M.β k else none) = _
    rw [if_pos hkl]
    exact r3 q
  · have hk : k < ((s.box.take l).map _).length := hk
    rw [List.length_map, List.length_take] at hk
    show (if k < l then M.μ k else none) ≠ none
    rw [if_pos (by omega)]
    exact h.boxes k (by omega)
  · show Rep M' _ (getT (s.tm.map fun p => (p.1, frzA s.fr.length l sz xs p.2)) t)
    rw [getT_map _ (by simp [frzA, frz1, okB])]
    exact frz_repA hrep (h.tmps t)
theorem aw_frz {P : Program} {K : Exit → St → Prop} {s : St} {ac : AC} (l sz : Nat) {T : TypeId} (xs : List AV) (hlast : s.box.length = l + 1) (hb : s.box[l]? = some (T, flatAV xs)) (hT : T < 1099511627776) (hc : ∀ x ∈ xs, (cellsOf x).map List.length = some sz) (hp : s.p.1 ≤ l) (hx : okBL s.fr.length l xs = true)
    (k : AW P ac K (frzS s l sz xs)) : AW P ac K s := fun X c hX hc' a w M hs => by
  obtain ⟨M', hs'⟩ := hs.frz hlast hb hT hc hp hx
  exact k X c hX hc' a w M' hs'
end Go.Proofs.Ytkdodhkiemfpeaa
