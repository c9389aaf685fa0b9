import Derived.Test.YtibploaibljcmaaGreatDoorAv2
namespace Go.Proofs.YtibploaibljcmaaGreatDoor
open Go.RowKit
set_option linter.unusedVariables false
set_option linter.unusedSimpArgs false
theorem reps_nil {M : Mem} : Reps M [] [] := ⟨rfl, fun i h => absurd h (by simp)⟩
theorem reps_cons {M : Mem} {v : Value} {a : AV} {vs : List Value} {as : List AV} (h : Rep M v a) (k : Reps M vs as) : Reps M (v :: vs) (a :: as) :=
 ⟨by simp [k.1], fun i h1 h2 => by
   cases i with
   | zero => exact h
   | succ i => exact k.2 i (by simpa using h1) (by simpa using h2)⟩
theorem reps_uncons {M : Mem} {v : Value} {a : AV} {vs : List Value} {as : List AV} (h : Reps M (v :: vs) (a :: as)) : Rep M v a ∧ Reps M vs as :=
 ⟨h.2 0 (by simp) (by simp), by simpa using h.1, fun i h1 h2 => h.2 (i + 1) (by simpa using h1) (by simpa using h2)⟩
theorem reps_drop {M : Mem} {vs : List Value} {as : List AV} (h : Reps M vs as) (k : Nat) : Reps M (vs.drop k) (as.drop k) :=
 ⟨by simp [h.1], fun i h1 h2 => by
   rw [List.getElem_drop, List.getElem_drop]
   exact h.2 _ _ _⟩
theorem reps_take {M : Mem} {vs : List Value} {as : List AV} (h : Reps M vs as) (k : Nat) : Reps M (vs.take k) (as.take k) :=
 ⟨by simp [h.1], fun i h1 h2 => by
   rw [List.getElem_take, List.getElem_take]
   exact h.2 _ _ _⟩
theorem reps_append {M : Mem} {vs us : List Value} {as bs : List AV} (h : Reps M vs as) (k : Reps M us bs) : Reps M (vs ++ us) (as ++ bs) := by
 refine ⟨by simp [h.1, k.1], fun i h1 h2 => ?_⟩
 by_cases hi : i < vs.length
 · rw [List.getElem_append_left hi, List.getElem_append_left (by rw [← h.1]; exact hi)]
   exact h.2 i hi _
 · rw [List.getElem_append_right (by omega), List.getElem_append_right (by rw [← h.1]; omega)]
   have e : i - vs.length = i - as.length := by rw [h.1]
   have h3 : i - vs.length < us.length := by simp at h1; omega
   have := k.2 (i - vs.length) h3 (by rw [← k.1]; exact h3)
   simpa [e] using this
theorem reps_get {M : Mem} {vs : List Value} {as : List AV} (h : Reps M vs as) {i : Nat} {a : AV} (k : as[i]? = some a) : ∃ v, vs[i]? = some v ∧ Rep M v a := by
 obtain ⟨hi, rfl⟩ := List.getElem?_eq_some_iff.1 k
 have hv : i < vs.length := by rw [h.1]; exact hi
 exact ⟨vs[i], List.getElem?_eq_getElem hv, h.2 i hv hi⟩
theorem rep_cells {M : Mem} {v : Value} {a : AV} {cs : List AV} (h : Rep M v a) (k : cellsOf a = some cs) : Reps M v.cells.toList cs ∧ ∀ u ∈ v.cells.toList, u.oneCell' = true := by
 cases h with
 | und v => simp [cellsOf] at k
 | nov => simp [cellsOf] at k
 | tup => simp [cellsOf] at k
 | agg vs cs' hl h1 hr =>
   simp only [cellsOf, Option.some.injEq] at k
   subst k
   exact ⟨⟨hl, fun i h2 h3 => hr i h2 h3⟩, fun u hu => h1 u hu⟩
 | slice t A n c sz vs xs hl hn hc hm hs hA hr ht =>
   simp only [cellsOf, Option.some.injEq] at k
   subst k
   exact ⟨reps_cons (.slice t A n c sz vs xs hl hn hc hm hs hA hr ht) reps_nil, fun u hu => by
     have : u = .slice A n c := by simpa [Value.cells] using hu
     subst this
     rfl⟩
 | bool b =>
   simp only [cellsOf, Option.some.injEq] at k
   subst k
   exact ⟨reps_cons (.bool b) reps_nil, fun u hu => by
     have : u = .bool b := by simpa [Value.cells] using hu
     subst this
     rfl⟩
 | int kk n =>
   simp only [cellsOf, Option.some.injEq] at k
   subst k
   exact ⟨reps_cons (.int kk n) reps_nil, fun u hu => by
     have : u = .int kk n := by simpa [Value.cells] using hu
     subst this
     rfl⟩
 | str s =>
   simp only [cellsOf, Option.some.injEq] at k
   subst k
   exact ⟨reps_cons (.str s) reps_nil, fun u hu => by
     have : u = .string s := by simpa [Value.cells] using hu
     subst this
     rfl⟩
 | fn f vs bs hl hr =>
   simp only [cellsOf, Option.some.injEq] at k
   subst k
   exact ⟨reps_cons (.fn f vs bs hl hr) reps_nil, fun u hu => by
     have : u = .func (.func f) vs.toArray #[] := by simpa [Value.cells] using hu
     subst this
     rfl⟩
 | clo f vs bs hl hr =>
   simp only [cellsOf, Option.some.injEq] at k
   subst k
   exact ⟨reps_cons (.clo f vs bs hl hr) reps_nil, fun u hu => by
     have : u = .func (.func f) #[] vs.toArray := by simpa [Value.cells] using hu
     subst this
     rfl⟩
 | nilFn =>
   simp only [cellsOf, Option.some.injEq] at k
   subst k
   exact ⟨reps_cons .nilFn reps_nil, fun u hu => by
     have : u = .nilFunc := by simpa [Value.cells] using hu
     subst this
     rfl⟩
 | ptr l off g hg =>
   simp only [cellsOf, Option.some.injEq] at k
   subst k
   exact ⟨reps_cons (.ptr l off g hg) reps_nil, fun u hu => by
     have : u = .pointer (some ⟨g, off, none⟩) := by simpa [Value.cells] using hu
     subst this
     rfl⟩
 | cptr b o i off sz vs xs hl hs hK hr =>
   simp only [cellsOf, Option.some.injEq] at k
   subst k
   exact ⟨reps_cons (.cptr b o i off sz vs xs hl hs hK hr) reps_nil, fun u hu => by
     have : u = .pointer (some ⟨b, o + i * sz + off, none⟩) := by simpa [Value.cells] using hu
     subst this
     rfl⟩
 | mp l g hg =>
   simp only [cellsOf, Option.some.injEq] at k
   subst k
   exact ⟨reps_cons (.mp l g hg) reps_nil, fun u hu => by
     have : u = .map (some g) := by simpa [Value.cells] using hu
     subst this
     rfl⟩
 | bsl l off n sz q g c hg hn hm hq =>
   simp only [cellsOf, Option.some.injEq] at k
   subst k
   exact ⟨reps_cons (.bsl l off n sz q g c hg hn hm hq) reps_nil, fun u hu => by
     have : u = .slice (some ⟨g, off * sz, none⟩) n c := by simpa [Value.cells] using hu
     subst this
     rfl⟩
 | iface t v a h =>
   simp only [cellsOf, Option.some.injEq] at k
   subst k
   exact ⟨reps_cons (.iface t v a h) reps_nil, fun u hu => by
     have : u = .iface t v := by simpa [Value.cells] using hu
     subst this
     rfl⟩
 | nilIface =>
   simp only [cellsOf, Option.some.injEq] at k
   subst k
   exact ⟨reps_cons .nilIface reps_nil, fun u hu => by
     have : u = .nilIface := by simpa [Value.cells] using hu
     subst this
     rfl⟩
theorem flat_cons (v : Value) (vs : List Value) : flat (v :: vs) = v.cells.toList ++ flat vs := rfl
theorem flat_append (vs us : List Value) : flat (vs ++ us) = flat vs ++ flat us := by simp [flat]
theorem flat_length {sz : Nat} : ∀ (vs : List Value), (∀ v ∈ vs, ElemOk sz v) → (flat vs).length = vs.length * sz
 | [], _ => by simp [flat]
 | v :: vs, h => by
   rw [flat_cons, List.length_append, flat_length vs (fun u hu => h u (by simp [hu])), Array.length_toList, (h v (by simp)).1, List.length_cons, Nat.succ_mul]
   omega
theorem flat_one {sz : Nat} (vs : List Value) (h : ∀ v ∈ vs, ElemOk sz v) : ∀ u ∈ flat vs, u.oneCell' = true := by
 intro u hu
 obtain ⟨v, hv, hu⟩ := List.mem_flatMap.1 hu
 exact (h v hv).2 u hu
theorem flat_drop {sz : Nat} : ∀ (k : Nat) (vs : List Value), (∀ v ∈ vs, ElemOk sz v) → flat (vs.drop k) = (flat vs).drop (k * sz)
 | 0, vs, _ => by simp
 | k + 1, [], _ => by simp [flat]
 | k + 1, v :: vs, h => by
   have hc : v.cells.toList.length = sz := by rw [Array.length_toList]; exact (h v (by simp)).1
   have hd : v.cells.toList.drop ((k + 1) * sz) = [] := List.drop_eq_nil_of_le (by rw [hc, Nat.succ_mul]; omega)
   rw [List.drop_succ_cons, flat_drop k vs (fun u hu => h u (by simp [hu])), flat_cons, List.drop_append, hd, List.nil_append, hc, Nat.succ_mul, Nat.add_sub_cancel]
theorem flat_take {sz : Nat} : ∀ (k : Nat) (vs : List Value), (∀ v ∈ vs, ElemOk sz v) → flat (vs.take k) = (flat vs).take (k * sz)
 | 0, vs, _ => by simp [flat]
 | k + 1, [], _ => by simp [flat]
 | k + 1, v :: vs, h => by
   have hc : v.cells.toList.length = sz := by rw [Array.length_toList]; exact (h v (by simp)).1
   have ht : v.cells.toList.take ((k + 1) * sz) = v.cells.toList := List.take_of_length_le (by rw [hc, Nat.succ_mul]; omega)
   rw [List.take_succ_cons, flat_cons, flat_take k vs (fun u hu => h u (by simp [hu])), flat_cons, List.take_append, ht, hc, Nat.succ_mul, Nat.add_sub_cancel]
theorem flat_at {sz : Nat} (vs : List Value) (h : ∀ v ∈ vs, ElemOk sz v) {i : Nat} {v : Value} (hi : vs[i]? = some v) {j : Nat} (hj : j < sz) : (flat vs)[i * sz + j]? = v.cells.toList[j]? := by
 obtain ⟨hlt, rfl⟩ := List.getElem?_eq_some_iff.1 hi
 have e : (flat vs)[i * sz + j]? = (flat (vs.drop i))[j]? := by rw [flat_drop i vs h, List.getElem?_drop]
 rw [e, List.drop_eq_getElem_cons hlt, flat_cons, List.getElem?_append_left (by rw [Array.length_toList, (h _ (List.getElem_mem hlt)).1]; exact hj)]
theorem ld_rep {M : Mem} {vs : List Value} {cs : List AV} (h : Reps M vs cs) (h1 : ∀ u ∈ vs, u.oneCell' = true) {n : Option Nat} {off : Nat} {a : AV} (k : ldAt n cs off = some a) :
   ∃ v, (match n with | none => vs[off]? = some v | some s => off + s ≤ vs.length ∧ v = .agg ((vs.drop off).take s).toArray) ∧ Rep M v a := by
 cases n with
 | none => exact reps_get h k
 | some s =>
   simp only [ldAt] at k
   split at k
   · rename_i hle
     injection k with k
     subst k
     have hr := reps_take (reps_drop h off) s
     exact ⟨_, ⟨by rw [h.1]; exact hle, rfl⟩, .agg _ _ hr.1 (fun v hv => h1 v (List.mem_of_mem_drop (List.mem_of_mem_take hv))) hr.2⟩
   · cases k
theorem run_load_at {P : Program} {w : World} {t : TypeId} {n : Option Nat} (ht : aggSize P t = some n) {b o off : Nat} {vs : List Value} (hc : ∀ j u, vs[j]? = some u → w.cell? ⟨b, o + j, none⟩ = some u) {v : Value}
   (hv : match n with | none => vs[off]? = some v | some s => off + s ≤ vs.length ∧ v = .agg ((vs.drop off).take s).toArray) :
   (loadVar t ⟨b, o + off, none⟩).run P w = .ok v w := by
 unfold aggSize isAggT at ht
 cases hu : P.underlying t with
 | none => simp [hu] at ht
 | some d =>
   cases hi : P.info? t with
   | none => rw [hu, hi] at ht; split at ht <;> simp_all
   | some i =>
     rw [hu, hi] at ht
     have hs : (sizeOf t).run P w = .ok i.size w := by simp [sizeOf, typeInfo, hi]
     have hg : (isAgg t).run P w = .ok (aggD d) w := by
       unfold isAgg
       rw [Sem.run_bind, run_underlying hu w]
       cases d <;> rfl
     simp only [Option.map_some] at ht
     cases n with
     | none =>
       have hf : aggD d = false := by
         cases h : aggD d
         · rfl
         · rw [h] at ht; simp at ht
       rw [hf] at hg
       have hcell := hc off v hv
       simp [loadVar, Sem.run_bind, hg, hcell]
     | some s =>
       have hf : aggD d = true ∧ i.size = s := by
         cases h : aggD d
         · rw [h] at ht; simp at ht
         · rw [h] at ht; simp at ht; exact ⟨rfl, ht⟩
       rw [hf.1] at hg
       obtain ⟨hle, rfl⟩ := hv
       have hl : (loadCells ⟨b, o + off, none⟩ s).run P w = .ok ((vs.drop off).take s).toArray w := by
         have := run_loadCells_list (P := P) w ⟨b, o + off, none⟩ ((vs.drop off).take s) (fun j u hj => by
           have hj2 : vs[off + j]? = some u := by
             rw [List.getElem?_take] at hj
             split at hj
             · rwa [List.getElem?_drop] at hj
             · cases hj
           rw [Addr.add_lit, Nat.add_assoc]
           exact hc _ _ hj2)
         rwa [List.length_take, List.length_drop, Nat.min_eq_left (by omega)] at this
       simp [loadVar, Sem.run_bind, hg, hs, hf.2, hl]
end Go.Proofs.YtibploaibljcmaaGreatDoor
