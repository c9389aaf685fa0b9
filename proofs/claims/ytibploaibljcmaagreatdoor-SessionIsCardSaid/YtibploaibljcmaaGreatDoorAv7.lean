import Derived.Test.YtibploaibljcmaaGreatDoorAv6
namespace Go.Proofs.YtibploaibljcmaaGreatDoor
open Go.RowKit
set_option linter.unusedVariables false
set_option linter.unusedSimpArgs false
set_option maxHeartbeats 1000000
theorem below_setR {B g : Nat} {w w1 : World} (h : Below B w w1) (hg : B ≤ g) (cs : Array Value) : Below B w (w1.setRow g cs) :=
 ⟨h.os, h.tape, h.output, by simpa using h.size, fun k hk => (setRow_other w1 g k cs (by omega)).trans (h.block k hk)⟩
theorem below_drw {B : Nat} {w : World} : Below B w w.drew := ⟨rfl, rfl, rfl, Nat.le_refl _, fun _ _ => rfl⟩
structure St where
 n : Nat
 tm : List (Nat × AV)
 box : List (TypeId × List AV)
 fr : List (TypeId × Nat)
 p : Nat × Nat := (0, 0)
def getT : List (Nat × AV) → Nat → AV
 | [], _ => .und
 | (k, v) :: l, t => if k = t then v else getT l t
def putT (n : Nat) (tm : List (Nat × AV)) (dst : Option Nat) (v : AV) : List (Nat × AV) :=
 match dst with
 | some d => if d < n then (d, v) :: tm else tm
 | none => tm
def St.get (s : St) (t : Nat) : AV := getT s.tm t
def St.put (s : St) (dst : Option Nat) (v : AV) : St := { s with tm := putT s.n s.tm dst v }
def St.ν (s : St) : AX → AV
 | .tmp t => getT s.tm t
 | .val a => a
def St.σ (s : St) : Nat → Option (TypeId × List AV) := fun l => s.box[l]?
def St.τ (s : St) : Nat → Option (TypeId × Nat) := fun k => s.fr[k]?
structure StR (X : Cx) (s : St) (a : Act) (w : World) (M : Mem) : Prop where
 mr : MR X M s.σ w
 boxes : ∀ l, l < s.box.length → M.μ l ≠ none
 fr : M.fr = s.τ
 defers : a.defers = []
 size : a.tmps.size = s.n
 tmps : ∀ t, Rep M (a.tmps.getD t undef) (s.get t)
 pp : (∀ l, X.M1.μ l ≠ none → l < s.p.1) ∧ ∀ k, X.M1.fr k ≠ none → k < s.p.2
theorem MR.setBox {X : Cx} {M : Mem} {σ : Nat → Option (TypeId × List AV)} {w : World} (h : MR X M σ w) {l g : Nat} (hl : M.μ l = some g) {T : TypeId} {old : List Value} (hg : w.heap[g]? = some (.cells old.toArray T (0, 0)))
   {vs us : List Value} {cs : List AV} (hr : Reps M vs cs) (hT : T < 1099511627776) (h1 : ∀ v ∈ vs, v.oneCell' = true) {σ' : Nat → Option (TypeId × List AV)} (hσ : σ' l = some (T, cs)) (hσ' : ∀ l', l' ≠ l → σ' l' = σ l') :
   MR X M σ' (w.setRow g (vs ++ us).toArray) := by
 obtain ⟨hbg, hκ, _⟩ := h.box l g hl
 refine ⟨fun a v hv => ?_, h.old, below_setR h.bel hbg _, by simpa using h.hb, fun l' g' hg' => ?_, h.inj, fun s g' c hs => ?_, h.tinj, h.prot⟩
 · have hne : a.block ≠ g := by
     intro e
     have hc := h.kap a v hv
     have hsp : a.spot = none := by
       unfold World.cell? at hc
       rw [e, hg] at hc
       cases hs : a.spot with
       | none => rfl
       | some _ => simp [hs] at hc
     have ha : a = ⟨g, a.off, none⟩ := by
       cases a
       simp_all
     rw [ha, hκ] at hv
     cases hv
   rw [cell_setRow_other w g _ a hne]
   exact h.kap a v hv
 · by_cases e : l' = l
   · subst e
     obtain rfl : g = g' := Option.some.inj (hl.symm.trans hg')
     exact ⟨hbg, hκ, T, cs, hσ, vs, us, .inl ⟨hT, setRow_heap w g _ _ T _ hg, h1⟩, hr⟩
   · have hne : g' ≠ g := fun eg => e (h.inj l' l g (eg ▸ hg') hl)
     obtain ⟨k1, k2, T', cs', k3, k4⟩ := h.box l' g' hg'
     exact ⟨k1, k2, T', cs', (hσ' l' e).trans k3, k4.mono (.refl M) (setRow_other w g g' _ hne)⟩
 · obtain ⟨k1, k2, e, n, i, cells, k3, k4, k5, k6, k7, k8, k9⟩ := h.tok s g' c hs
   have hne : g' ≠ g := fun eg => k2 l (eg ▸ hl)
   exact ⟨k1, k2, e, n, i, cells, k3, k4, k5, k6, (setRow_other w g g' _ hne).trans k7, k8, k9⟩
def stOp (s : St) (n : Nat) (a x : AX) : Option St :=
 match s.ν a, cellsOf (s.ν x) with
 | .ptr l off, some ds =>
   match s.box[l]? with
   | some (T, cs) => if ds.length = n ∧ off + n ≤ cs.length ∧ T < 1099511627776 then some { s with box := s.box.set l (T, putCells cs off ds) } else none
   | none => none
 | _, _ => none
def appTag (fr : List (TypeId × Nat)) (t : Tag) (e : TypeId) (n m : Nat) : Option (Tag × List (TypeId × Nat)) :=
 match t with
 | .full => some (.app fr.length, fr ++ [(e, n + m)])
 | .app k => if fr[k]? = some (e, n) then some (.app k, fr.set k (e, n + m)) else none
 | .imm => none
def appOp (s : St) (e : TypeId) (sz bytes : Nat) (x y : AX) : Option (AV × List (TypeId × Nat)) :=
 match s.ν x, s.ν y with
 | .slice t sz' xs, .slice _ sz'' ys =>
   if (sz' = sz ∨ xs.length = 0) ∧ (sz'' = sz ∨ ys.length = 0) ∧ (xs.length + ys.length) * bytes ≤ 140737488355328 ∧ xs.length + ys.length ≤ maxLen then
     (appTag s.fr t e xs.length ys.length).map fun q => (.slice q.1 sz (xs ++ ys), q.2)
   else none
 | _, _ => none
def flatAV (xs : List AV) : List AV := xs.flatMap fun x => (cellsOf x).getD []
def newOp (s : St) (e : TypeId) (sz bytes : Nat) (x y : AX) : Option (AV × List AV) :=
 match s.ν x, s.ν y with
 | .slice .full _ [], .slice _ sz'' ys =>
   if sz'' = sz ∧ 0 < ys.length ∧ ys.length * bytes ≤ 140737488355328 ∧ ys.length ≤ maxLen ∧ (ys.all fun x => (cellsOf x).isSome) = true ∧ e < 1099511627776 then some (.bsl s.box.length 0 ys.length sz 0, flatAV ys) else none
 | _, _ => none
theorem reps_flat {M : Mem} : ∀ {vs : List Value} {xs : List AV}, Reps M vs xs → (∀ x ∈ xs, (cellsOf x).isSome = true) → Reps M (flat vs) (flatAV xs) ∧ ∀ v ∈ flat vs, v.oneCell' = true
 | [], [], _, _ => ⟨reps_nil, by simp [flat]⟩
 | [], _ :: _, h, _ => absurd h.1 (by simp)
 | _ :: _, [], h, _ => absurd h.1 (by simp)
 | v :: vs, x :: xs, h, hc => by
   obtain ⟨h1, h2⟩ := reps_uncons h
   obtain ⟨k1, k2⟩ := reps_flat h2 fun y hy => hc y (List.mem_cons_of_mem _ hy)
   cases hx : cellsOf x with
   | none => have := hc x (by simp); rw [hx] at this; cases this
   | some cs =>
     obtain ⟨q1, q2⟩ := rep_cells h1 hx
     have e : flatAV (x :: xs) = cs ++ flatAV xs := by simp [flatAV, hx]
     rw [flat_cons, e]
     exact ⟨reps_append q1 k1, fun u hu => (List.mem_append.1 hu).elim (q2 u) (k2 u)⟩
section
variable {X : Cx}
theorem run_st {s : St} {a : Act} {w : World} {M : Mem} (h : StR X s a w M) {t : TypeId} {i : TypeInfo} (hi : X.P.info? t = some i) {p x : Operand} {p' x' : AX} (hp : axOf p = some p')
   (hpr : Rep M (a.eval p) (s.ν p')) (hxr : Rep M (a.eval x) (s.ν x')) {s' : St} (hq : stOp s i.size p' x' = some s') :
   ∃ w', (Instr.storeAt t (a.eval p) (a.eval x)).run X.P w = .ok () w' ∧ StR X s' a w' M ∧ Below X.base w w' := by
 unfold stOp at hq
 split at hq
 rotate_left
 · cases hq
 rename_i l off ds e1 e2
 rw [e1] at hpr
 split at hq
 rotate_left
 · cases hq
 rename_i T cs hbx
 split at hq
 rotate_left
 · cases hq
 rename_i hc
 injection hq with hq
 subst hq
 obtain ⟨g, hg, hpe⟩ : ∃ g, M.μ l = some g ∧ a.eval p = .pointer (some ⟨g, off, none⟩) := by
   generalize a.eval p = u at hpr
   cases hpr with
   | ptr _ _ g hg => exact ⟨g, hg, rfl⟩
 obtain ⟨hbg, hκ, T', cs', k3, vs, us, kb, k6⟩ := h.mr.box l g hg
 have k3 : s.box[l]? = some (T', cs') := k3
 rw [hbx] at k3
 injection k3 with k3
 injection k3 with e3 e4
 subst e3 e4
 obtain ⟨k4, k5⟩ := kb.cells hc.2.2
 obtain ⟨hds, h1⟩ := rep_cells hxr e2
 have hsz : (a.eval x).cells.size = i.size := by rw [← Array.length_toList, hds.1]; exact hc.1
 have hle : off + (a.eval x).cells.toList.length ≤ vs.length := by rw [Array.length_toList, hsz, k6.1]; exact hc.2.1
 have hrun := run_storeCells_at (P := X.P) g off T (a.eval x).cells.toList 0 (vs ++ us).toArray w k4 (by simp; have := hle; simp at this; omega) h1
 simp only [Nat.add_zero] at hrun
 have hsplit : (vs ++ us).take off ++ (a.eval x).cells.toList ++ (vs ++ us).drop (off + (a.eval x).cells.toList.length) = (vs.take off ++ (a.eval x).cells.toList ++ vs.drop (off + (a.eval x).cells.toList.length)) ++ us := by
   rw [List.take_append_of_le_length (by omega), List.drop_append_of_le_length hle]
   simp [List.append_assoc]
 simp only [hsplit] at hrun
 have hreps := putCells_reps k6 hds off
 have hmr := h.mr.setBox (us := us) (σ' := ({ s with box := s.box.set l (T, putCells cs off ds) } : St).σ) hg k4 hreps hc.2.2 (fun v hv => by
     rcases List.mem_append.1 hv with hv | hv
     · rcases List.mem_append.1 hv with hv | hv
       · exact k5 v (List.mem_of_mem_take hv)
       · exact h1 v hv
     · exact k5 v (List.mem_of_mem_drop hv)) (by
   have hlt : l < s.box.length := (List.getElem?_eq_some_iff.1 hbx).1
   simp [St.σ, hlt]) (fun l' hl' => by
   simp [St.σ, List.getElem?_set_ne (Ne.symm hl')])
 refine ⟨_, ?_, ⟨hmr, fun l' hl' => h.boxes l' (by simpa using hl'), h.fr, h.defers, h.size, h.tmps, h.pp⟩, below_setR (Below.refl _ _) hbg _⟩
 have hso : (sizeOf t).run X.P w = .ok i.size w := by simp [sizeOf, typeInfo, hi]
 have hrun' : (storeCells ⟨g, off, none⟩ (a.eval x).cells.toList).run X.P w = _ := hrun
 simp [Instr.storeAt, hpe, Instr.sureAddr, storeVar, hso, hsz, hrun']
theorem run_inplace {P : Program} {w : World} {t ty e : TypeId} {i : TypeInfo} (ht : P.underlying t = some (.slice e)) (hi : P.info? e = some i) {g n c m : Nat} {cur : Array Value} {x : Value} {news : List Value} (hs : _root_.Go.Src P i.size t x m news w) (hroom : n + m ≤ c)
   (hg : w.heap[g]? = some (.cells cur e (0, 0))) (hsz : cur.size = c * i.size) :
   (Builtin.append_ #[t, t] ty #[.slice (some ⟨g, 0, none⟩) n c, x]).run P w = .ok (.slice (some ⟨g, 0, none⟩) (n + m) c) (w.setRow g (cur.toList.take (n * i.size) ++ news ++ cur.toList.drop (n * i.size + news.length)).toArray) := by
 have hle : n * i.size + news.length ≤ cur.size := by
   rw [hs.newsLen, ← Nat.add_mul, hsz]
   exact Nat.mul_le_mul_right _ hroom
 have hst := run_storeCells_at (P := P) g (n * i.size) e news 0 cur w hg (by simpa using hle) hs.one
 simp only [Nat.add_zero] at hst
 have hst' : (storeCells ⟨g, n * i.size, none⟩ news).run P w = _ := hst
 have hadd : (⟨g, 0, none⟩ : Addr).add (n * i.size) = ⟨g, n * i.size, none⟩ := by rw [Addr.add_lit, Nat.zero_add]
 simp [Builtin.append_, run_underlying ht w, sizeOf, typeInfo, hi, hs.len, hroom, hs.cells, hadd, hst']
theorem MR.growRow {M : Mem} {σ : Nat → Option (TypeId × List AV)} {w : World} (h : MR X M σ w) {k g c : Nat} (hk : M.β k = some (g, c)) {e : TypeId} {n m : Nat} (hf : M.fr k = some (e, n)) {i : TypeInfo} (hi : X.P.info? e = some i) {cur : Array Value}
   (hg : w.heap[g]? = some (.cells cur e (0, 0))) (hsz : cur.size = c * i.size) {news : List Value} (hl : news.length = m * i.size) (hroom : n + m ≤ c) :
   ∃ M', Mem.le M M' ∧ MR X M' σ (w.setRow g (cur.toList.take (n * i.size) ++ news ++ cur.toList.drop (n * i.size + news.length)).toArray) ∧ M'.μ = M.μ ∧ M'.β = M.β ∧ (M'.fr = fun s => if s = k then some (e, n + m) else M.fr s) ∧
     ∀ j, ∀ hj : j < news.length, M'.κ ⟨g, n * i.size + j, none⟩ = some news[j] := by
 obtain ⟨hbg, hμ, e', n', i', cells', f1, f2, f3, f4, f5, f6, f7⟩ := h.tok k g c hk
 rw [hf] at f1
 injection f1 with f1
 injection f1 with q1 q2
 subst q1 q2
 obtain rfl : i = i' := Option.some.inj (hi.symm.trans f2)
 have hle : n * i.size + news.length ≤ cur.size := by
   rw [hl, ← Nat.add_mul, hsz]
   exact Nat.mul_le_mul_right _ hroom
 have hold : ∀ a : Addr, a.block = g → ∀ v, M.κ a = some v → a.spot = none ∧ a.off < n * i.size ∧ cur[a.off]? = some v := fun a ha v hv => by
   have hc := h.kap a v hv
   unfold World.cell? at hc
   rw [ha, hg] at hc
   have hsp : a.spot = none := by
     cases hs : a.spot with
     | none => rfl
     | some _ => simp [hs] at hc
   simp [hsp] at hc
   refine ⟨hsp, ?_, by simpa using hc⟩
   rcases Nat.lt_or_ge a.off (n * i.size) with h1 | h1
   · exact h1
   · have ha' : a = ⟨g, a.off, none⟩ := by
       cases a
       simp_all
     rw [ha', f7 _ h1] at hv
     cases hv
 let κ' : Addr → Option Value := fun a => if a.block = g ∧ a.spot = none ∧ n * i.size ≤ a.off then news[a.off - n * i.size]? else M.κ a
 have hκo : ∀ a v, M.κ a = some v → κ' a = some v := fun a v hv => by
   show (if _ then _ else _) = _
   rw [if_neg]
   · exact hv
   · rintro ⟨q1, q2, q3⟩
     have := (hold a q1 v hv).2.1
     omega
 have hle' : Mem.le M { M with κ := κ', fr := fun s => if s = k then some (e, n + m) else M.fr s } := by
   refine ⟨hκo, fun _ _ h => h, fun s e' f hs => ?_⟩
   by_cases hsk : s = k
   · subst hsk
     rw [hf] at hs
     injection hs with hs
     injection hs with q1 q2
     subst q1 q2
     exact ⟨n + m, if_pos rfl, by omega, fun _ => rfl⟩
   · exact ⟨f, by show (if s = k then _ else _) = _; rw [if_neg hsk]; exact hs, Nat.le_refl _, fun _ => rfl⟩
 refine ⟨_, hle', ⟨?_, ?_, below_setR h.bel hbg _, by simpa using h.hb, ?_, h.inj, ?_, h.tinj, h.prot.trans hle'⟩, rfl, rfl, rfl, ?_⟩
 · intro a v hv
   have hv : (if a.block = g ∧ a.spot = none ∧ n * i.size ≤ a.off then news[a.off - n * i.size]? else M.κ a) = some v := hv
   by_cases ha : a.block = g
   · have hcell : ∀ sp : a.spot = none, (w.setRow g (cur.toList.take (n * i.size) ++ news ++ cur.toList.drop (n * i.size + news.length)).toArray).cell? a = (cur.toList.take (n * i.size) ++ news ++ cur.toList.drop (n * i.size + news.length))[a.off]? := fun sp => by
       have ha' : a = ⟨g, a.off, none⟩ := by
         cases a
         simp_all
       rw [ha', cell_setRow_same w g a.off _ _ e _ hg]
       simp
     have htl : (cur.toList.take (n * i.size)).length = n * i.size := by rw [List.length_take, Array.length_toList]; omega
     split at hv
     · rename_i q
       rw [hcell q.2.1]
       have hlt : a.off - n * i.size < news.length := (List.getElem?_eq_some_iff.1 hv).1
       rw [List.append_assoc, List.getElem?_append_right (by rw [htl]; exact q.2.2), htl, List.getElem?_append_left hlt]
       exact hv
     · obtain ⟨q1, q2, q3⟩ := hold a ha v hv
       rw [hcell q1, List.append_assoc, List.getElem?_append_left (by rw [htl]; exact q2), List.getElem?_take_of_lt q2]
       simpa using q3
   · rw [if_neg (fun q => ha q.1)] at hv
     rw [cell_setRow_other w g _ a ha]
     exact h.kap a v hv
 · intro a ha
   show (if _ then _ else _) = _
   rw [if_neg (fun q => by omega)]
   exact h.old a ha
 · intro l g' hg'
   have hne : g' ≠ g := fun eg => hμ l (eg ▸ hg')
   obtain ⟨k1, k2, T', cs', k3, k4⟩ := h.box l g' hg'
   refine ⟨k1, fun o => ?_, T', cs', k3, k4.mono hle' (setRow_other w g g' _ hne)⟩
   show (if _ then _ else _) = _
   rw [if_neg (fun q => hne q.1)]
   exact k2 o
 · intro s g' c' hs
   by_cases hsk : s = k
   · subst hsk
     have hs : M.β s = some (g', c') := hs
     rw [hk] at hs
     injection hs with hs
     injection hs with q1 q2
     subst q1 q2
     refine ⟨hbg, hμ, e, n + m, i, _, if_pos rfl, hi, hroom, f4, setRow_heap w g _ _ e _ hg, ?_, fun o ho => ?_⟩
     · simp only [List.size_toArray, List.length_append, List.length_take, List.length_drop, Array.length_toList]
       omega
     · show (if _ then _ else _) = _
       rw [Nat.add_mul] at ho
       rw [if_pos ⟨rfl, rfl, by show n * i.size ≤ o; omega⟩]
       exact List.getElem?_eq_none (by show news.length ≤ o - n * i.size; omega)
   · obtain ⟨k1, k2, e', n', i', cells, k3, k4, k5, k6, k7, k8, k9⟩ := h.tok s g' c' hs
     have hne : g' ≠ g := fun eg => hsk (h.tinj s k g c' c (eg ▸ hs) hk)
     refine ⟨k1, k2, e', n', i', cells, ?_, k4, k5, k6, (setRow_other w g g' _ hne).trans k7, k8, fun o ho => ?_⟩
     · show (if s = k then _ else _) = _
       rw [if_neg hsk]
       exact k3
     · show (if _ then _ else _) = _
       rw [if_neg (fun q => hne q.1)]
       exact k9 o ho
 · intro j hj
   show (if _ then _ else _) = _
   rw [if_pos ⟨rfl, rfl, by show n * i.size ≤ n * i.size + j; omega⟩]
   show news[n * i.size + j - n * i.size]? = _
   rw [Nat.add_sub_cancel_left, List.getElem?_eq_getElem hj]
theorem MR.newRow {M : Mem} {σ : Nat → Option (TypeId × List AV)} {w : World} (h : MR X M σ w) {k : Nat} {e : TypeId} {N c : Nat} {i : TypeInfo} (hi : X.P.info? e = some i) (hf : M.fr k = none ∨ ∃ n0, n0 < N ∧ M.fr k = some (e, n0))
   {cells : Array Value} (hsz : cells.size = c * i.size) (hN : N ≤ c) (hc : c ≤ maxLen) (w' : World) (hw : w' = w.drew.alloc (.cells cells e)) :
   ∃ M', Mem.le M M' ∧ MR X M' σ w' ∧ M'.μ = M.μ ∧ (M'.β = fun s => if s = k then some (w.heap.size, c) else M.β s) ∧ (M'.fr = fun s => if s = k then some (e, N) else M.fr s) ∧
     (∀ j, j < N * i.size → M'.κ ⟨w.heap.size, j, none⟩ = cells[j]?) := by
 subst hw
 have hb : Below w.heap.size w (w.drew.alloc (.cells cells e)) := ((below_drw (B := w.heap.size) (w := w)).alloc (Nat.le_refl _) _)
 have hheap : (w.drew.alloc (.cells cells e)).heap[w.heap.size]? = some (.cells cells e (0, 0)) := heap_alloc_new w.drew _
 have hcell : ∀ a : Addr, a.block = w.heap.size → a.spot = none → (w.drew.alloc (.cells cells e)).cell? a = cells[a.off]? := fun a ha hs => by
   unfold World.cell?
   rw [ha, hheap]
   simp [hs]
 obtain ⟨g1, g2⟩ := h.grow (w' := w.drew.alloc (.cells cells e)) hb (fun a => if a.block < w.heap.size then M.κ a else if a.block = w.heap.size ∧ a.spot = none ∧ a.off < N * i.size then cells[a.off]? else none)
   (fun a ha => if_pos ha) (fun a v ha hv => by
     rw [if_neg (by omega)] at hv
     split at hv
     · rename_i hc
       rw [hcell a hc.1 hc.2.1]
       exact hv
     · cases hv)
 have hle : Mem.le M { M with κ := (fun a => if a.block < w.heap.size then M.κ a else if a.block = w.heap.size ∧ a.spot = none ∧ a.off < N * i.size then cells[a.off]? else none), β := (fun s => if s = k then some (w.heap.size, c) else M.β s), fr := (fun s => if s = k then some (e, N) else M.fr s) } := by
   refine ⟨g2.κ, fun _ _ h => h, fun s e' f hs => ?_⟩
   by_cases hsk : s = k
   · subst hsk
     rcases hf with hf | ⟨n0, hn0, hf⟩
     · rw [hf] at hs; cases hs
     · rw [hf] at hs
       injection hs with hs
       injection hs with q1 q2
       subst q1 q2
       exact ⟨N, if_pos rfl, by omega, fun q => by omega⟩
   · exact ⟨f, by show (if s = k then _ else _) = _; rw [if_neg hsk]; exact hs, Nat.le_refl _, fun _ => by show (if s = k then _ else _) = _; rw [if_neg hsk]⟩
 refine ⟨_, hle, ⟨g1.kap, g1.old, g1.bel, g1.hb, fun l g hg => ?_, h.inj, fun s g c' hs => ?_, fun s s' g c' c'' hs hs' => ?_, h.prot.trans hle⟩, rfl, rfl, rfl, fun j hj => ?_⟩
 · obtain ⟨k1, k2, T, cs, k3, k4⟩ := g1.box l g hg
   refine ⟨k1, k2, T, cs, k3, ?_⟩
   obtain ⟨_, _, T', cs', k3', k4'⟩ := h.box l g hg
   rw [k3] at k3'
   injection k3' with k3'
   injection k3' with q1 q2
   subst q1 q2
   exact k4'.mono hle (hb.block g (box_lt h hg))
 · have hs : (if s = k then some (w.heap.size, c) else M.β s) = some (g, c') := hs
   by_cases hsk : s = k
   · rw [if_pos hsk] at hs
     injection hs with hs
     injection hs with q1 q2
     subst q1 q2
     refine ⟨h.hb, fun l hl => ?_, e, N, i, cells, if_pos hsk, hi, hN, hc, hheap, hsz, fun o ho => ?_⟩
     · have := box_lt h hl
       omega
     · show (if _ then _ else _) = _
       rw [if_neg (by show ¬ w.heap.size < w.heap.size; omega), if_neg (fun q => by have q3 : o < N * i.size := q.2.2; omega)]
   · rw [if_neg hsk] at hs
     obtain ⟨k1, k2, e', n', i', cells', k3, k4, k5, k6, k7, k8, k9⟩ := h.tok s g c' hs
     have hlt := tok_lt h hs
     refine ⟨k1, k2, e', n', i', cells', ?_, k4, k5, k6, (hb.block g hlt).trans k7, k8, fun o ho => ?_⟩
     · show (if s = k then _ else _) = _
       rw [if_neg hsk]
       exact k3
     · show (if _ then _ else _) = _
       rw [if_pos hlt]
       exact k9 o ho
 · have hs : (if s = k then some (w.heap.size, c) else M.β s) = some (g, c') := hs
   have hs' : (if s' = k then some (w.heap.size, c) else M.β s') = some (g, c'') := hs'
   by_cases e1 : s = k <;> by_cases e2 : s' = k
   · rw [e1, e2]
   · rw [if_pos e1] at hs
     rw [if_neg e2] at hs'
     injection hs with hs
     injection hs with q1 q2
     have := tok_lt h hs'
     omega
   · rw [if_neg e1] at hs
     rw [if_pos e2] at hs'
     injection hs' with hs'
     injection hs' with q1 q2
     have := tok_lt h hs
     omega
   · rw [if_neg e1] at hs
     rw [if_neg e2] at hs'
     exact h.tinj s s' g c' c'' hs hs'
 · show (if _ then _ else _) = _
   rw [if_neg (by show ¬ w.heap.size < w.heap.size; omega), if_pos ⟨rfl, rfl, hj⟩]
end
end Go.Proofs.YtibploaibljcmaaGreatDoor
