import Derived.Test.YtibploaibljcmaaGreatDoorAv4
import Derived.Laws.Tables
namespace Go.Proofs.YtibploaibljcmaaGreatDoor
open Go.RowKit
set_option linter.unusedVariables false
set_option linter.unusedSimpArgs false
def ORep (M : Mem) : Option Value → Option AV → Prop
 | none, none => True
 | some v, some a => Rep M v a
 | _, _ => False
section
variable {X : Cx} {M : Mem} {σ σt : Nat → Option (TypeId × List AV)} {w : World}
theorem asNat_rep {v : Value} {a : AV} {n : Nat} (h : Rep M v a) (k : asNat a = some n) : ∃ kd i, v = .int kd i ∧ 0 ≤ i ∧ i.toNat = n := by
 unfold asNat at k
 split at k
 · obtain rfl := rep_int h
   split at k
   · injection k with k
     exact ⟨_, _, rfl, by assumption, k⟩
   · cases k
 · cases k
theorem run_bound {P : Program} {v : Value} {a : AV} {n y : Nat} {code : BoundsCode} (h : Rep M v a) (k : asNat a = some n) (hy : n ≤ y) : (Instr.sliceBound v y code).run P w = .ok n w := by
 obtain ⟨kd, i, rfl, h0, rfl⟩ := asNat_rep h k
 exact run_sliceBound w kd i y code h0 (by omega)
theorem run_bounds {P : Program} {b : Bool} {lo hi mx : Option Value} {lo' hi' mx' : Option AV} (h1 : ORep M lo lo') (h2 : ORep M hi hi') (h3 : ORep M mx mx') (hm : mx.isSome = true → hi.isSome = true) {len cap l h m : Nat}
   (k1 : asNatO 0 lo' = some l) (k2 : asNatO len hi' = some h) (k3 : asNatO cap mx' = some m) (e1 : l ≤ h) (e2 : h ≤ m) (e3 : m ≤ cap) :
   (Instr.sliceBounds b len cap lo hi mx).run P w = .ok (l, h, m) w := by
 cases mx with
 | none =>
   cases mx' with
   | some _ => exact h3.elim
   | none =>
     have k3 : cap = m := Option.some.inj k3
     subst k3
     cases hi with
     | none =>
       cases hi' with
       | some _ => exact h2.elim
       | none =>
         have k2 : len = h := Option.some.inj k2
         subst k2
         cases lo with
         | none =>
           cases lo' with
           | some _ => exact h1.elim
           | none =>
             have k1 : 0 = l := Option.some.inj k1
             subst k1
             simp [Instr.sliceBounds]
         | some v =>
           cases lo' with
           | none => exact h1.elim
           | some a =>
             have := run_bound (P := P) (w := w) (code := .sliceB) h1 k1 e1
             simp [Instr.sliceBounds, this]
     | some u =>
       cases hi' with
       | none => exact h2.elim
       | some b' =>
         have r2 := run_bound (P := P) (w := w) (code := if b then .sliceAcap else .sliceAlen) h2 k2 e2
         cases lo with
         | none =>
           cases lo' with
           | some _ => exact h1.elim
           | none =>
             have k1 : 0 = l := Option.some.inj k1
             subst k1
             simp [Instr.sliceBounds, r2]
         | some v =>
           cases lo' with
           | none => exact h1.elim
           | some a =>
             have := run_bound (P := P) (w := w) (code := .sliceB) h1 k1 e1
             simp [Instr.sliceBounds, this, r2]
 | some x =>
   cases mx' with
   | none => exact h3.elim
   | some c' =>
     have r3 := run_bound (P := P) (w := w) (code := if b then .slice3Acap else .slice3Alen) h3 k3 e3
     cases hi with
     | none => exact absurd (hm rfl) (by simp)
     | some u =>
       cases hi' with
       | none => exact h2.elim
       | some b' =>
         have r2 := run_bound (P := P) (w := w) (code := .slice3B) h2 k2 e2
         cases lo with
         | none =>
           cases lo' with
           | some _ => exact h1.elim
           | none =>
             have k1 : 0 = l := Option.some.inj k1
             subst k1
             simp [Instr.sliceBounds, r2, r3]
         | some v =>
           cases lo' with
           | none => exact h1.elim
           | some a =>
             have := run_bound (P := P) (w := w) (code := .slice3C) h1 k1 e1
             simp [Instr.sliceBounds, this, r2, r3]
theorem LiesK.take {κ : Addr → Option Value} {A : Option Addr} {xs : List Value} (h : LiesK κ A xs) (k : Nat) : LiesK κ A (xs.take k) := by
 rcases h with h | ⟨b, o, hA, hc⟩
 · subst h; exact .inl (by simp)
 · exact .inr ⟨b, o, hA, fun j hj => by rw [List.getElem_take]; exact hc j (by rw [List.length_take] at hj; omega)⟩
theorem LiesK.cut {κ : Addr → Option Value} {A : Option Addr} {xs : List Value} (h : LiesK κ A xs) {k : Nat} {p : Prop} [Decidable p] (hk : p → xs.length ≤ k) : LiesK κ (if p then A else A.map (·.add k)) (xs.drop k) := by
 by_cases hx : xs.length ≤ k
 · exact .inl (List.drop_eq_nil_of_le hx)
 rcases h with h | ⟨b, o, hA, hc⟩
 · subst h; simp at hx
 · rw [if_neg (fun e => hx (hk e)), hA]
   refine .inr ⟨b, o + k, ?_, fun j hj => ?_⟩
   · simp [Addr.add_lit]
   · have hlt : k + j < xs.length := by rw [List.length_drop] at hj; omega
     rw [Nat.add_assoc, List.getElem_drop]
     exact hc (k + j) hlt
theorem rep_cut {tg tg' : Tag} {A : Option Addr} {n c sz : Nat} {xs : List AV} (hv : Rep M (.slice A n c) (.slice tg sz xs)) {l h m : Nat} (e1 : l ≤ h) (e2 : h ≤ m) (e3 : m ≤ c) (e4 : h ≤ xs.length)
   (ht : TagOk M tg' (if m = l then A else A.map (·.add (l * sz))) (h - l) (m - l)) : Rep M (sliced A l h m sz) (.slice tg' sz ((xs.take h).drop l)) := by
 cases hv with
 | slice _ _ _ _ _ vs _ hl hn hc hm hs hA hr htg =>
   have hs' : ∀ v ∈ (vs.take h).drop l, ElemOk sz v := fun v hv => hs v (List.mem_of_mem_take (List.mem_of_mem_drop hv))
   have hr' := reps_drop (reps_take (M := M) (vs := vs) (as := xs) ⟨hl, hr⟩ h) l
   refine .slice tg' _ _ _ sz ((vs.take h).drop l) _ hr'.1 (by simp; omega) (by omega) (by omega) hs' ?_ hr'.2 ht
   rw [flat_drop l _ (fun v hv => hs v (List.mem_of_mem_take hv)), flat_take h vs hs]
   refine (hA.take (h * sz)).cut (fun e => ?_)
   have hlen := flat_length vs hs
   rw [List.length_take, hlen]
   have : h * sz = l * sz := by rw [show h = l by omega]
   omega
theorem rep_sz {M : Mem} {v : Value} {t : Tag} {sz sz' : Nat} {xs : List AV} (h : Rep M v (.slice t sz xs)) (h0 : sz = sz' ∨ xs.length = 0) : Rep M v (.slice t sz' xs) := by
 rcases h0 with rfl | h0
 · exact h
 · cases h with
   | slice _ A n c _ vs _ hl hn hc hm hs hA hr ht =>
     refine .slice t A n c sz' vs xs hl hn hc hm (fun v hv => ?_) hA hr ht
     have : vs = [] := List.eq_nil_of_length_eq_zero (by omega)
     rw [this] at hv
     cases hv
theorem run_cut {t e : TypeId} {i : TypeInfo} (ht : X.P.underlying t = some (.slice e)) (hi : X.P.info? e = some i) {v : Value} {a b : AV} (hv : Rep M v a) {lo hi' mx : Option Value} {lo' hi'' mx' : Option AV}
   (h1 : ORep M lo lo') (h2 : ORep M hi' hi'') (h3 : ORep M mx mx') (hm : mx.isSome = true → hi'.isSome = true) (hq : cutAV i.size a lo' hi'' mx' = some b) :
   ∃ u, (Instr.sliceAt t v lo hi' mx).run X.P w = .ok u w ∧ Rep M u b := by
 unfold cutAV at hq
 split at hq
 rotate_left
 · rename_i l off n sz' q
   split at hq
   rotate_left
   · cases hq
   rename_i a b k1 k2
   split at hq
   rotate_left
   · cases hq
   rename_i hc
   obtain ⟨rfl, e1, e2, hmx⟩ := hc
   injection hq with hq
   subst hq
   obtain rfl : mx' = none := by cases mx' <;> simp_all
   obtain rfl : mx = none := by
     cases mx with
     | none => rfl
     | some _ => exact h3.elim
   have hte : X.P.underlying t = some (.slice (X.P.elem t)) := by rw [elem_of ht]; exact ht
   have hs' : (sizeOf (X.P.elem t)).run X.P w = .ok i.size w := by simp [sizeOf, typeInfo, elem_of ht, hi]
   cases hv with
   | bsl _ _ _ _ _ g c hg hn hm hq =>
     refine ⟨sliced (some ⟨g, off * i.size, none⟩) a b c i.size, ?_, ?_⟩
     · rw [run_sliceAt_slice w t _ _ _ _ hte, run_slice_any w t _ n c hte lo hi' none, run_bounds (P := X.P) (w := w) (b := true) h1 h2 h3 (fun e => by cases e) k1 k2 rfl (by omega) (by omega) (Nat.le_refl _), Result.andThen_ok, hs', Result.andThen_ok]
     · unfold sliced
       rw [if_neg (by omega)]
       simp only [Option.map_some, Addr.add_lit]
       rw [← Nat.add_mul]
       exact .bsl l (off + a) (b - a) i.size (q - a) g (c - a) hg (by omega) (by omega) (by omega)
 · cases hq
 rename_i tg sz' xs
 split at hq
 rotate_left
 · cases hq
 rename_i l h k1 k2
 split at hq
 rotate_left
 · cases hq
 rename_i hc
 obtain ⟨h0, e1, e4⟩ := hc
 have hv := rep_sz hv h0
 have hte : X.P.underlying t = some (.slice (X.P.elem t)) := by rw [elem_of ht]; exact ht
 have hs' : (sizeOf (X.P.elem t)).run X.P w = .ok i.size w := by simp [sizeOf, typeInfo, elem_of ht, hi]
 obtain ⟨A, n, c, rfl, hn, hnc⟩ : ∃ A n c, v = .slice A n c ∧ n = xs.length ∧ n ≤ c := by
   cases hv with
   | slice _ A n c _ vs _ hl hn hc _ _ _ _ _ => exact ⟨A, n, c, rfl, hn, hc⟩
 have hrun : ∀ m, asNatO c mx' = some m → h ≤ m → m ≤ c → (Instr.sliceAt t (.slice A n c) lo hi' mx).run X.P w = .ok (sliced A l h m i.size) w := fun m k3 e2 e3 => by
   rw [run_sliceAt_slice w t _ _ _ _ hte, run_slice_any w t A n c hte lo hi' mx, run_bounds (P := X.P) (w := w) (b := true) h1 h2 h3 hm k1 (by rw [hn]; exact k2) k3 e1 e2 e3, Result.andThen_ok, hs', Result.andThen_ok]
 split at hq
 · -- no greatest one
   injection hq with hq
   subst hq
   refine ⟨_, hrun c rfl (by omega) (Nat.le_refl _), rep_cut hv e1 (by omega) (Nat.le_refl _) e4 ?_⟩
   have htg : TagOk M tg A n c := by cases hv; assumption
   split
   · rename_i hnone
     have hh : h = xs.length := by
       have : asNatO xs.length none = some h := k2
       simpa [asNatO] using this.symm
     have : c = n := htg
     show c - l = h - l
     omega
   · trivial
 · rename_i m'
   split at hq
   rotate_left
   · cases hq
   rename_i m k3
   split at hq
   rotate_left
   · cases hq
   rename_i hc
   obtain ⟨e2, e3⟩ := hc
   injection hq with hq
   subst hq
   refine ⟨_, hrun m k3 e2 (by omega), rep_cut hv e1 e2 (by omega) e4 ?_⟩
   split
   · rename_i hmh
     show m - l = h - l
     omega
   · trivial
theorem run_cutStr {t : TypeId} (ht : X.P.underlying t = some .string) {v : Value} {a b : AV} (hv : Rep M v a) {lo hi : Option Value} {lo' hi' : Option AV}
   (h1 : ORep M lo lo') (h2 : ORep M hi hi') (hq : cutStr a lo' hi' = some b) : ∃ u, (Instr.sliceAt t v lo hi none).run X.P w = .ok u w ∧ Rep M u b := by
 unfold cutStr at hq
 split at hq
 rotate_left
 · cases hq
 rename_i s
 split at hq
 rotate_left
 · cases hq
 rename_i l h k1 k2
 split at hq
 rotate_left
 · cases hq
 rename_i hc
 injection hq with hq
 subst hq
 obtain rfl := rep_str hv
 have hb := run_bounds (P := X.P) (w := w) (b := false) (mx := none) (mx' := none) (cap := s.size) h1 h2 trivial (fun e => by cases e) k1 k2 rfl hc.1 hc.2 (Nat.le_refl _)
 refine ⟨_, ?_, .str _⟩
 rw [run_sliceAt_string w t _ _ _ _ ht]
 simp [Instr.slice, run_underlying ht w, hb]
theorem fold_set (off : Nat) : ∀ (l : List Value) (k : Nat) (cells : Array Value), off + k + l.length ≤ cells.size →
   ((l.zipIdx k).foldl (fun cs (p : Value × Nat) => cs.setIfInBounds (off + p.2) p.1) cells).toList = cells.toList.take (off + k) ++ l ++ cells.toList.drop (off + k + l.length)
 | [], k, cells, h => by simp
 | x :: l, k, cells, h => by
   rw [List.zipIdx_cons, List.foldl_cons]
   simp only [List.length_cons] at h
   rw [fold_set off l (k + 1) _ (by simp; omega)]
   rw [Array.toList_setIfInBounds]
   have hlt : off + k < cells.toList.length := by simp; omega
   rw [show off + (k + 1) = off + k + 1 by omega, List.take_succ_eq_append_getElem (by simp; omega), List.getElem_set_self, List.take_set_of_le (Nat.le_refl _), List.drop_set_of_lt (by omega)]
   simp only [List.append_assoc, List.singleton_append, List.length_cons]
   rw [show off + k + 1 + l.length = off + k + (l.length + 1) by omega]
theorem fold_put (off : Nat) (vs : Array Value) (cells : Array Value) (h : off + vs.size ≤ cells.size) :
   (vs.zipIdx.foldl (fun cs (p : Value × Nat) => cs.setIfInBounds (off + p.2) p.1) cells).toList = cells.toList.take off ++ vs.toList ++ cells.toList.drop (off + vs.size) := by
 have := fold_set off vs.toList 0 cells (by simpa using h)
 rw [← Array.foldl_toList, Array.toList_zipIdx]
 simpa using this
theorem lit_fill (sz : Nat) : ∀ (vs : List Value) (k : Nat) (pre mid : List Value) (cells : Array Value), cells.toList = pre ++ mid → pre.length = k * sz → mid.length = vs.length * sz → (∀ v ∈ vs, v.cells.size = sz) →
   Instr.fill (fun i => some (i * sz, sz)) cells ((List.range' k vs.length).zip vs) = some (pre ++ flat vs).toArray
 | [], k, pre, mid, cells, h1, h2, h3, h4 => by
   obtain rfl : mid = [] := List.eq_nil_of_length_eq_zero (by simpa using h3)
   simp only [List.length_nil, List.range'_zero, List.zip_nil_left, Instr.fill, flat, List.flatMap_nil]
   rw [← h1, Array.toArray_toList]
 | v :: vs, k, pre, mid, cells, h1, h2, h3, h4 => by
   have hv := h4 v (by simp)
   have hsz : cells.size = k * sz + (vs.length + 1) * sz := by
     rw [← Array.length_toList, h1, List.length_append, h2, h3, List.length_cons]
   rw [List.length_cons, List.range'_succ, List.zip_cons_cons]
   unfold Instr.fill
   have hle : k * sz + v.cells.size ≤ cells.size := by rw [hv, hsz, Nat.succ_mul]; omega
   simp only
   rw [if_neg (by rw [hv]; simp; omega)]
   have hf := fold_put (k * sz) v.cells cells hle
   have ih := lit_fill sz vs (k + 1) (pre ++ v.cells.toList) (mid.drop sz) (v.cells.zipIdx.foldl (fun cs (p : Value × Nat) => cs.setIfInBounds (k * sz + p.2) p.1) cells) (by
     rw [hf, h1, List.take_append, List.take_of_length_le (by omega), show k * sz - pre.length = 0 by omega, List.take_zero, List.append_nil, List.drop_append, List.drop_eq_nil_of_le (by omega), List.nil_append, hv, h2, Nat.add_sub_cancel_left])
     (by rw [List.length_append, h2, Array.length_toList, hv, Nat.succ_mul]) (by rw [List.length_drop, h3, List.length_cons, Nat.succ_mul]; omega) (fun u hu => h4 u (by simp [hu]))
   rw [flat_cons, ← List.append_assoc]
   exact ih
theorem putCells_reps {vs us : List Value} {cs ds : List AV} (h : Reps M vs cs) (k : Reps M us ds) (off : Nat) : Reps M (vs.take off ++ us ++ vs.drop (off + us.length)) (putCells cs off ds) := by
 unfold putCells
 rw [k.1]
 exact reps_append (reps_append (reps_take h off) k) (reps_drop h _)
theorem bld_fill {ρ : Operand → Value} {ν : AX → AV} {places : List (Nat × Nat)} : ∀ (ps : List (Nat × Operand)) (qs : List (Nat × Nat × AX)) (cells : Array Value) (cs ds : List AV),
   ps.mapM (partOf places) = some qs → (∀ p ∈ ps, ∀ ax, axOf p.2 = some ax → Rep M (ρ p.2) (ν ax)) → Reps M cells.toList cs → (∀ u ∈ cells.toList, u.oneCell' = true) → bldAV ν cs qs = some ds →
   ∃ out, Instr.fill (places.toArray[·]?) cells (ps.map fun p => (p.1, ρ p.2)) = some out ∧ Reps M out.toList ds ∧ ∀ u ∈ out.toList, u.oneCell' = true
 | [], qs, cells, cs, ds, h1, h2, h3, h4, h5 => by
   simp at h1
   subst h1
   simp only [bldAV, Option.some.injEq] at h5
   subst h5
   exact ⟨cells, rfl, h3, h4⟩
 | p :: ps, qs, cells, cs, ds, h1, h2, h3, h4, h5 => by
   obtain ⟨j, x⟩ := p
   rw [List.mapM_cons] at h1
   cases hp : places[j]? with
   | none => simp [partOf, hp] at h1
   | some q =>
     obtain ⟨o, s⟩ := q
     cases hx : axOf x with
     | none => simp [partOf, hp, hx] at h1
     | some ax =>
       cases hr : ps.mapM (partOf places) with
       | none => simp [hr] at h1
       | some qs' =>
         have hpo : partOf places (j, x) = some (o, s, ax) := by simp [partOf, hp, hx]
         simp [hpo, hr] at h1
         subst h1
         unfold bldAV at h5
         split at h5
         rotate_left
         · cases h5
         rename_i es hes
         split at h5
         rotate_left
         · cases h5
         rename_i hc
         obtain ⟨k1, k2⟩ := rep_cells (h2 (j, x) (by simp) ax hx) hes
         have hlen : (ρ x).cells.size = s := by rw [← Array.length_toList, k1.1]; exact hc.1
         have hle : o + (ρ x).cells.size ≤ cells.size := by rw [hlen, ← Array.length_toList, h3.1]; exact hc.2
         have hf := fold_put o (ρ x).cells cells hle
         have hreps := putCells_reps h3 k1 o
         rw [Array.length_toList, ← hf] at hreps
         obtain ⟨out, g1, g2, g3⟩ := bld_fill ps qs' _ _ ds hr (fun p hp => h2 p (by simp [hp])) hreps (fun u hu => by
           rw [hf] at hu
           rcases List.mem_append.1 hu with hu | hu
           · rcases List.mem_append.1 hu with hu | hu
             · exact h4 u (List.mem_of_mem_take hu)
             · exact k2 u hu
           · exact h4 u (List.mem_of_mem_drop hu)) h5
         refine ⟨out, ?_, g2, g3⟩
         rw [List.map_cons]
         unfold Instr.fill
         have hpa : places.toArray[j]? = some (o, s) := by simpa using hp
         simp only [hpa]
         rw [if_neg (by simp [hlen]; omega)]
         exact g1
theorem fill_imp {f g : Nat → Option (Nat × Nat)} (h : ∀ i q, f i = some q → g i = some q) : ∀ {l : List (Nat × Value)} {cells out : Array Value}, Instr.fill f cells l = some out → Instr.fill g cells l = some out
 | [], _, _, k => k
 | (i, v) :: l, cells, out, k => by
   unfold Instr.fill at k ⊢
   cases hf : f i with
   | none => simp [hf] at k
   | some q =>
     simp only [hf] at k
     simp only [h i q hf]
     split at k
     · cases k
     · rename_i hc
       rw [if_neg hc]
       exact fill_imp h k
end
end Go.Proofs.YtibploaibljcmaaGreatDoor
