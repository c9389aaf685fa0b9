import Derived.Test.YtibploaibljcmaaGreatDoorAv12g
namespace Go.Proofs.YtibploaibljcmaaGreatDoor
open Go.RowKit
set_option linter.unusedVariables false
set_option linter.unusedSimpArgs false
set_option maxHeartbeats 1000000
def freeAt (aos : List AO) (i : Nat) : Bool := match aos[i]? with | some ao => ao.op.fl && ao.guard.isNone && ao.dst.isSome | none => false
def floatOrder (ops : Array Oper) (aos : List AO) : List Nat × List Nat × List Nat :=
 let A := masks ops.toList []
 let bit (i j : Nat) : Bool := (A.getD i 0).testBit j
 let c := (aos.findIdx? fun o => !isQuiet o.op).getD ops.size
 let late := (List.range ops.size).foldl (fun F i => if c < i && freeAt aos i && ((List.range i).all fun j => j < c || F.contains j || !bit i j) then F ++ [i] else F) []
 let rest := (List.range ops.size).filter fun i => c ≤ i && !late.contains i
 let early := (List.range c).foldr (fun i F => if freeAt aos i && (rest.any fun k => !bit k i) && ((List.range c).all fun j => j ≤ i || F.contains j || !bit j i) then i :: F else F) []
 ((List.range c).filter fun i => !early.contains i, early ++ late, rest)
def piOf (l : List Nat) (k : Nat) : Nat := l.getD k k
def rhoOf (l : List Nat) (i : Nat) : Nat := ((List.range l.length).find? fun k => l.getD k l.length == i).getD i
def permOps (l : List Nat) (rl : List Nat) (ops : Array Oper) : Array Oper := (l.filterMap fun i => (ops[i]?).map (renO (piOf rl))).toArray
def chkOf (ops : Array Oper) (aos : List AO) (p p' i : Nat) : List (Option Nat × AX × Nat) :=
 (List.range p').filterMap fun f => if p ≤ f ∧ bitAt ops i f = false then (match aos[f]? with | some ao => (match ao.op, ao.dst with | .ld n x, some d => some (n, x, d) | _, _ => none) | none => none) else none
def addChk (ops : Array Oper) (aos : List AO) (p p' : Nat) : List AO := aos.mapIdx fun i o => if p' ≤ i then { o with chk := chkOf ops aos p p' i } else o
theorem addChk_get {ops : Array Oper} {aos : List AO} {p p' i : Nat} : (addChk ops aos p p')[i]? = (aos[i]?).map fun o => if p' ≤ i then { o with chk := chkOf ops aos p p' i } else o := by
 unfold addChk
 rw [List.getElem?_mapIdx]
theorem addChk_prep {P : Program} {ops : Array Oper} {aos : List AO} {p p' : Nat} (h : ∀ (i : Nat) (o : Oper), ops[i]? = some o → ∃ ao, aos[i]? = some ao ∧ PrepR P ops o ao) :
   ∀ (i : Nat) (o : Oper), ops[i]? = some o → ∃ ao, (addChk ops aos p p')[i]? = some ao ∧ PrepR P ops o ao := fun i o ho => by
 obtain ⟨ao, h1, h2⟩ := h i o ho
 rw [addChk_get, h1]
 refine ⟨_, rfl, ?_⟩
 split
 · exact h2
 · exact h2
theorem addChk_ok {P : Program} {ops : Array Oper} {aos : List AO} {p p' : Nat} (h : ∀ (i : Nat) (o : Oper), ops[i]? = some o → ∃ ao, aos[i]? = some ao ∧ PrepR P ops o ao) (hl : aos.length = ops.size)
   (hfree : ∀ f ao, p ≤ f → f < p' → (addChk ops aos p p')[f]? = some ao → ao.op.fl = true ∧ ao.dst.isSome = true) :
   ∀ i ao, p' ≤ i → (addChk ops aos p p')[i]? = some ao → ∀ f, p ≤ f → f < p' → ∀ aof, (addChk ops aos p p')[f]? = some aof → aof.op.free = false → bitAt ops i f = true ∨ ∃ n x d, aof.op = .ld n x ∧ dsAt ops f = some d ∧ (n, x, d) ∈ ao.chk := fun i ao hi hao f hf hf' aof haof hff => by
 cases hb : bitAt ops i f with
 | true => exact .inl rfl
 | false =>
   refine .inr ?_
   obtain ⟨h1, h2⟩ := hfree f aof hf hf' haof
   obtain ⟨n, x, e⟩ := fl_ld h1 hff
   obtain ⟨d, hd⟩ := Option.isSome_iff_exists.1 h2
   rw [addChk_get] at hao haof
   obtain ⟨o, ho, rfl⟩ := Option.map_eq_some_iff.1 hao
   obtain ⟨of, hof, hof2⟩ := Option.map_eq_some_iff.1 haof
   rw [if_neg (by omega)] at hof2
   subst hof2
   rw [if_pos hi]
   have hfl : f < ops.size := by rw [← hl]; exact (List.getElem?_eq_some_iff.1 hof).1
   obtain ⟨ao', k1, k2⟩ := h f _ (Array.getElem?_eq_getElem hfl)
   obtain rfl : of = ao' := Option.some.inj (hof.symm.trans k1)
   refine ⟨n, x, d, e, ?_, ?_⟩
   · unfold dsAt
     rw [Array.getElem?_eq_getElem hfl]
     show ops[f].dst = _
     rw [(prepR_spec k2).2.2, hd]
   · refine List.mem_filterMap.2 ⟨f, List.mem_range.2 hf', ?_⟩
     rw [if_pos ⟨hf, hb⟩, hof]
     simp only [e, hd]
def prepFloat (P : Program) (ops : Array Oper) (aos : List AO) : Option (List AO) :=
 let (a, b, c) := floatOrder ops aos
 let l := a ++ b ++ c
 let rl := (List.range ops.size).map (rhoOf l)
 let ops' := permOps l rl ops
 let p := a.length
 let p' := p + b.length
 match (ops'.toList.mapM (prepO P ops')).map (fun l => addChk ops' (tailS p' l) p p') with
 | some aos' =>
   if l.length = ops.size ∧ ((List.range ops.size).all fun i => l.getD (rl.getD i 0) 0 == i && rl.getD (l.getD i 0) 0 == i && l.getD i ops.size < ops.size && rl.getD i ops.size < ops.size) = true ∧ ops'.size = ops.size ∧ p' ≤ ops.size ∧ okFloat ops' aos' p p' = true ∧ ((aos'.take p').all fun o => isQuiet o.op) = true ∧
     ((List.range p').all fun f => f < p || freeAt aos' f) = true ∧ P.follows .mixedOrders = true then some aos' else none
 | none => none
theorem mapM_spec' {α β : Type} {f : α → Option β} : ∀ {l : List α} {m : List β}, l.mapM f = some m → l.length = m.length ∧ ∀ (i : Nat) (x : α), l[i]? = some x → ∃ y, m[i]? = some y ∧ f x = some y
 | [], m, h => by
   simp at h
   subst h
   exact ⟨rfl, by simp⟩
 | x :: l, m, h => by
   rw [List.mapM_cons] at h
   cases hx : f x with
   | none => simp [hx] at h
   | some y =>
     cases hl : l.mapM f with
     | none => simp [hx, hl] at h
     | some m' =>
       simp [hx, hl] at h
       subst h
       obtain ⟨h1, h2⟩ := mapM_spec' hl
       refine ⟨by simp [h1], fun i z hz => ?_⟩
       cases i with
       | zero =>
         obtain rfl : x = z := by simpa using hz
         exact ⟨y, rfl, hx⟩
       | succ i => exact h2 i z (by simpa using hz)
theorem getD_same {l : List Nat} {k d d' : Nat} (h : k < l.length) : l.getD k d = l.getD k d' := by
 rw [List.getD_eq_getElem?_getD, List.getD_eq_getElem?_getD, List.getElem?_eq_getElem h]
 rfl
theorem prepFloat_ok {X : Cx} {ops : Array Oper} {aos0 aos : List AO} (hf : prepFloat X.P ops aos0 = some aos) {K : Exit → St → Prop} {s : St} {a : Act} {w : World} {M : Mem} (hr : RStep X.P aos s (K .normal)) (h : StR X s a w M) {id : Nat} : (Code.region id ops true).wp X.P (Post X K) a w := by
 unfold prepFloat at hf
 simp only at hf
 generalize (floatOrder ops aos0).1 = A at hf
 generalize (floatOrder ops aos0).2.1 = B at hf
 generalize (floatOrder ops aos0).2.2 = C at hf
 generalize hl : A ++ B ++ C = l at hf
 generalize hrl : (List.range ops.size).map (rhoOf l) = rl at hf
 have hrlen : rl.length = ops.size := by rw [← hrl]; simp
 split at hf
 rotate_left
 · cases hf
 rename_i aosT haosT
 obtain ⟨aos', haos, haosE⟩ := Option.map_eq_some_iff.1 haosT
 split at hf
 rotate_left
 · cases hf
 rename_i hc
 obtain ⟨c1, c2, c3, c4, c5, c6, c7, c8⟩ := hc
 injection hf with hf
 subst hf
 subst haosE
 have inr : ∀ i, i < ops.size → l.getD (rl.getD i 0) 0 = i ∧ rl.getD (l.getD i 0) 0 = i ∧ l.getD i ops.size < ops.size ∧ rl.getD i ops.size < ops.size := fun i hi => by
   have := List.all_eq_true.1 c2 i (List.mem_range.2 hi)
   simp only [Bool.and_eq_true, beq_iff_eq, decide_eq_true_eq] at this
   exact ⟨this.1.1.1, this.1.1.2, this.1.2, this.2⟩
 have pin : ∀ i, i < ops.size → piOf l i = l.getD i 0 ∧ piOf l i < ops.size := fun i hi => ⟨getD_same (by omega), by have := (inr i hi).2.2.1; unfold piOf; rw [getD_same (d' := ops.size) (by omega)]; exact this⟩
 have rin : ∀ i, i < ops.size → piOf rl i = rl.getD i 0 ∧ piOf rl i < ops.size := fun i hi => ⟨getD_same (by omega), by have := (inr i hi).2.2.2; unfold piOf; rw [getD_same (d' := ops.size) (by omega)]; exact this⟩
 have out : ∀ i, ops.size ≤ i → piOf l i = i ∧ piOf rl i = i := fun i hi => by
   unfold piOf
   rw [List.getD_eq_getElem?_getD, List.getD_eq_getElem?_getD, List.getElem?_eq_none (by omega), List.getElem?_eq_none (by omega)]
   exact ⟨rfl, rfl⟩
 have hperm : Perm ops.size (piOf l) (piOf rl) := by
   refine ⟨fun i => ?_, fun i => ?_, fun i => ?_⟩
   · rcases Nat.lt_or_ge i ops.size with c | c
     · rw [(pin _ (rin i c).2).1, (rin i c).1]; exact (inr i c).1
     · rw [(out i c).2, (out i c).1]
   · rcases Nat.lt_or_ge i ops.size with c | c
     · rw [(rin _ (pin i c).2).1, (pin i c).1]; exact (inr i c).2.1
     · rw [(out i c).1, (out i c).2]
   · rcases Nat.lt_or_ge i ops.size with c | c
     · exact ⟨fun _ => c, fun _ => (rin i c).2⟩
     · rw [(out i c).2]
 have hperm' : permOps l rl ops = (l.map fun i => (ops[i]?).getD default |> renO (piOf rl)).toArray := by
   unfold permOps
   congr 1
   have : ∀ l' : List Nat, (∀ i ∈ l', i < ops.size) → (l'.filterMap fun i => (ops[i]?).map (renO (piOf rl))) = l'.map fun i => (ops[i]?).getD default |> renO (piOf rl) := by
     intro l'
     induction l' with
     | nil => intro _; rfl
     | cons i l' ih =>
       intro hi
       rw [List.filterMap_cons, Array.getElem?_eq_getElem (hi i (by simp))]
       simp only [Option.map_some, List.map_cons, Option.getD_some]
       rw [ih fun j hj => hi j (by simp [hj]), Array.getElem?_eq_getElem (hi i (by simp))]
       rfl
   refine this l fun i hi => ?_
   obtain ⟨k, hk, rfl⟩ := List.getElem_of_mem hi
   have := (inr k (by omega)).2.2.1
   rw [List.getD_eq_getElem?_getD, List.getElem?_eq_getElem hk] at this
   exact this
 have ho : ∀ i, (permOps l rl ops)[piOf rl i]? = (ops[i]?).map (renO (piOf rl)) := fun i => by
   rcases Nat.lt_or_ge i ops.size with c | c
   · rw [hperm']
     have hk : piOf rl i < l.length := by rw [c1]; exact (rin i c).2
     have e : l[piOf rl i] = i := by
       have := hperm.pr i
       unfold piOf at this ⊢
       rw [List.getD_eq_getElem?_getD, List.getElem?_eq_getElem (by exact hk)] at this
       exact this
     simp only [List.getElem?_toArray, List.getElem?_map, List.getElem?_eq_getElem hk, Option.map_some, e, Array.getElem?_eq_getElem c, Option.getD_some]
   · rw [(out i c).2, Array.getElem?_eq_none c, Array.getElem?_eq_none (by rw [c3]; exact c)]
     rfl
 obtain ⟨g1, g2⟩ := mapM_spec' haos
 have hp0 := tailS_prep (P := X.P) (p := A.length + B.length) (fun i o ho => g2 i o (by simpa using ho))
 have hp := addChk_prep (p := A.length) (p' := A.length + B.length) hp0
 have hlen0 : (tailS (A.length + B.length) aos').length = (permOps l rl ops).size := by rw [tailS_length, ← g1]; simp
 have hlen : (addChk (permOps l rl ops) (tailS (A.length + B.length) aos') A.length (A.length + B.length)).length = (permOps l rl ops).size := by rw [← hlen0]; simp [addChk]
 have main := float_ok (X := X) (p := A.length) (p' := A.length + B.length) hp hlen (by omega) (by rw [c3]; exact c4) c5 c6 (fun f ao hf1 hf2 hao => by
   have := List.all_eq_true.1 c7 f (List.mem_range.2 hf2)
   simp only [Bool.or_eq_true, decide_eq_true_eq] at this
   have := this.resolve_left (by omega)
   unfold freeAt at this
   rw [hao] at this
   simp only [Bool.and_eq_true, Option.isNone_iff_eq_none] at this
   exact ⟨this.1.1, this.1.2⟩) (addChk_ok hp0 hlen0 fun f ao hf1 hf2 hao => by
   have := List.all_eq_true.1 c7 f (List.mem_range.2 hf2)
   simp only [Bool.or_eq_true, decide_eq_true_eq] at this
   have := this.resolve_left (by omega)
   unfold freeAt at this
   rw [hao] at this
   simp only [Bool.and_eq_true, Option.isNone_iff_eq_none] at this
   exact ⟨this.1.1, this.2⟩) hr h
 refine wp_region_any c8 ?_
 rw [c3] at main
 refine ren_wpAny hperm ho ops.size _ _ a _ (by simp) (by simp) (fun j => ?_) (fun j => ?_) main
 · simp only [Array.getD_eq_getD_getElem?, Array.getElem?_replicate, hperm.lt j]
 · simp only [Array.getD_eq_getD_getElem?, Array.getElem?_replicate, hperm.lt j]
end Go.Proofs.YtibploaibljcmaaGreatDoor
