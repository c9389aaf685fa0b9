import Derived.Test.YtibploaibljcmaaGreatDoorMo
namespace Go.Proofs.YtibploaibljcmaaGreatDoor
open Go.RowKit
set_option linter.unusedVariables false
set_option linter.unusedSimpArgs false
section
variable {P : Program} {s : St} {o : AO} {l : List AO} {K : St → Prop} {dst : Option Nat}
def IxC (sz : Nat) (x i : AV) (P : Program) (s : St) (dst : Option Nat) (l : List AO) (K : St → Prop) : Prop :=
 QC (match x, i with
   | .slice _ sz' xs, .int _ n => if sz' = sz ∧ 0 ≤ n then (xs[n.toNat]?).map fun a => (.cptr [a] 0 0, none) else none
   | .bsl l off m sz' _, .int _ n => if sz' = sz ∧ 0 ≤ n ∧ n < m then some (.ptr l ((off + n.toNat) * sz), none) else none
   | _, _ => none) P s dst l K
theorem oc_ix (n : Nat) (x y : AX) : OC P s (.idxA n x y) dst l K = IxC n (s.ν x) (s.ν y) P s dst l K := by
 unfold IxC
 rw [oc_idxA]
 rfl
theorem ixc_raw {sz sz' : Nat} {t : Tag} {k : IntKind} {n : Int} {xs : List AV} : IxC sz (.slice t sz' xs) (.int k n) P s dst l K = QC (if sz' = sz ∧ 0 ≤ n then (xs[n.toNat]?).map fun a => (.cptr [a] 0 0, none) else none) P s dst l K := rfl
theorem ixc {α : Type} [Enc α] {xs : List α} {n : Int} {k : IntKind} {sz : Nat} {t : Tag} {y : α} (h : ix xs n = some y)
   (hK : RStep P l (s.next dst ⟨.cptr [Enc.enc y] 0 0, none, []⟩) K) : IxC sz (.slice t sz (xs.map Enc.enc)) (.int k n) P s dst l K := by
 obtain ⟨h1, h2⟩ := ix_get h
 have e : ((if sz = sz ∧ 0 ≤ n then ((xs.map Enc.enc)[n.toNat]?).map fun a => (AV.cptr [a] 0 0, none) else none) : Option (AV × Option (TypeId × List AV))) = some (.cptr [Enc.enc y] 0 0, none) := by
   rw [if_pos ⟨rfl, h1⟩, List.getElem?_map, h2]
   rfl
 rw [ixc_raw, e, qc_some]
 exact hK
def apTag (fr : List (TypeId × Nat)) (t : Tag) (e : TypeId) (n m : Nat) : Option (Tag × List (TypeId × Nat)) :=
 match t with
 | .full => some (.app fr.length, fr ++ [(e, m)])
 | .app k => if fr[k]? = some (e, n) then some (.app k, fr.set k (e, m)) else none
 | .imm => none
def ApC (e sz b : Nat) (x y : AV) (P : Program) (s : St) (dst : Option Nat) (l : List AO) (K : St → Prop) : Prop :=
 AkC (match x, y with
   | .slice t sz' xs, .slice _ sz'' ys =>
     if (sz' = sz ∨ xs.length = 0) ∧ (sz'' = sz ∨ ys.length = 0) ∧ (xs.length + ys.length) * b ≤ 140737488355328 ∧ xs.length + ys.length ≤ maxLen then
       (appTag s.fr t e xs.length ys.length).map fun q => (.slice q.1 sz (xs ++ ys), q.2)
     else none
   | _, _ => none) P s dst l K ∨
 NkC (match x, y with
   | .slice .full _ [], .slice _ sz'' ys =>
     if sz'' = sz ∧ 0 < ys.length ∧ ys.length * b ≤ 140737488355328 ∧ ys.length ≤ maxLen ∧ (ys.all fun x => (cellsOf x).isSome) = true ∧ e < 1099511627776 then some (.bsl s.box.length 0 ys.length sz 0, flatAV ys) else none
   | _, _ => none) e P s dst l K
theorem oc_ap {e n b : Nat} {x y : AX} : OC P s (.app e n b x y) dst l K = ApC e n b (s.ν x) (s.ν y) P s dst l K := by
 unfold ApC
 rw [oc_app]
 rfl
def FL {α : Type} [Enc α] (xs : List α) : List AV := flatAV (xs.map Enc.enc)
theorem apc {α : Type} [Enc α] {e sz b sz' sz'' : Nat} {t t2 t' : Tag} {fr' : List (TypeId × Nat)} {xs ys zs : List α} {X Y : List AV} (h : ap b xs ys = some zs) (hx : X = xs.map Enc.enc) (hy : Y = ys.map Enc.enc)
   (h0 : sz' = sz ∨ X.length = 0) (h1 : sz'' = sz ∨ Y.length = 0) (ht : apTag s.fr t e xs.length zs.length = some (t', fr'))
   (hK : RStep P l ({ s with fr := fr' }.put dst (.slice t' sz (zs.map Enc.enc))) K) : ApC e sz b (.slice t sz' X) (.slice t2 sz'' Y) P s dst l K := by
 obtain ⟨h2, rfl⟩ := ap_get h
 have hX : X.length = xs.length := by rw [hx, List.length_map]
 have hY : Y.length = ys.length := by rw [hy, List.length_map]
 have e1 : appTag s.fr t e X.length Y.length = some (t', fr') := by
   rw [hX, hY]
   unfold apTag at ht
   unfold appTag
   rw [List.length_append] at ht
   exact ht
 unfold ApC
 refine .inl ?_
 simp only
 rw [if_pos ⟨h0, h1, by rw [hX, hY]; exact h2.1, by rw [hX, hY]; exact h2.2⟩, e1, Option.map_some, akc_some, hx, hy, ← List.map_append]
 exact hK
def SlC (sz : Nat) (x : AV) (lo hi mx : Option AV) (P : Program) (s : St) (dst : Option Nat) (l : List AO) (K : St → Prop) : Prop :=
 QC ((cutAV sz x lo hi mx).map fun a => (a, none)) P s dst l K
theorem oc_sl (n : Nat) (x : AX) (a b c : Option AX) : OC P s (.slc n x a b c) dst l K = SlC n (s.ν x) (a.map s.ν) (b.map s.ν) (c.map s.ν) P s dst l K := by
 unfold SlC
 rw [oc_slc]
 rfl
def tagCut (t : Tag) (b : Option AV) : Tag :=
 match t, b with
 | .full, none => .full
 | _, _ => .imm
def tagO : Tag → Tag
 | .full => .full
 | _ => .imm
section
variable {α : Type} [Enc α] {xs ys : List α} {X : List AV} {sz sz' : Nat} {t : Tag}
theorem cut_some {lo hi : Int} {a b : Option AV} (h : sl xs lo hi = some ys) (hx : X = xs.map Enc.enc) (h0 : sz' = sz ∨ X.length = 0) (ha : asNatO 0 a = some lo.toNat) (hb : asNatO X.length b = some hi.toNat) :
   cutAV sz (.slice t sz' X) a b none = some (.slice (tagCut t b) sz (ys.map Enc.enc)) := by
 obtain ⟨h1, rfl⟩ := sl_get h
 subst hx
 unfold cutAV
 simp only [ha, hb]
 rw [if_pos ⟨h0, by omega, by rw [List.length_map]; omega⟩, List.map_drop, List.map_take]
 cases t <;> cases b <;> rfl
theorem slc11 {k k' : IntKind} {lo hi : Int} (h : sl xs lo hi = some ys) (hx : X = xs.map Enc.enc) (h0 : sz' = sz ∨ X.length = 0)
   (hK : RStep P l (s.next dst ⟨.slice .imm sz (ys.map Enc.enc), none, []⟩) K) : SlC sz (.slice t sz' X) (some (.int k lo)) (some (.int k' hi)) none P s dst l K := by
 obtain ⟨h1, _⟩ := sl_get h
 unfold SlC
 rw [cut_some h hx h0 (by simp [asNatO, asNat]; omega) (by simp [asNatO, asNat]; omega), Option.map_some, qc_some]
 cases t <;> exact hK
theorem slc01 {k' : IntKind} {hi : Int} (h : sl xs 0 hi = some ys) (hx : X = xs.map Enc.enc) (h0 : sz' = sz ∨ X.length = 0)
   (hK : RStep P l (s.next dst ⟨.slice .imm sz (ys.map Enc.enc), none, []⟩) K) : SlC sz (.slice t sz' X) none (some (.int k' hi)) none P s dst l K := by
 obtain ⟨h1, _⟩ := sl_get h
 unfold SlC
 rw [cut_some h hx h0 (by simp [asNatO]) (by simp [asNatO, asNat]; omega), Option.map_some, qc_some]
 cases t <;> exact hK
theorem slc10 {k : IntKind} {lo : Int} (h : sl xs lo xs.length = some ys) (hx : X = xs.map Enc.enc) (h0 : sz' = sz ∨ X.length = 0)
   (hK : RStep P l (s.next dst ⟨.slice (tagO t) sz (ys.map Enc.enc), none, []⟩) K) : SlC sz (.slice t sz' X) (some (.int k lo)) none none P s dst l K := by
 obtain ⟨h1, _⟩ := sl_get h
 unfold SlC
 rw [cut_some h hx h0 (by simp [asNatO, asNat]; omega) (by simp [asNatO, hx]), Option.map_some, qc_some]
 cases t <;> exact hK
theorem slc00 (h : sl xs 0 xs.length = some ys) (hx : X = xs.map Enc.enc) (h0 : sz' = sz ∨ X.length = 0)
   (hK : RStep P l (s.next dst ⟨.slice (tagO t) sz (ys.map Enc.enc), none, []⟩) K) : SlC sz (.slice t sz' X) none none none P s dst l K := by
 obtain ⟨h1, _⟩ := sl_get h
 unfold SlC
 rw [cut_some h hx h0 (by simp [asNatO]) (by simp [asNatO, hx]), Option.map_some, qc_some]
 cases t <;> exact hK
end
def PkC (v a b : AV) (P : Program) (s : St) (dst : Option Nat) (l : List AO) (K : St → Prop) : Prop :=
 QC (match v with | .bool t => some (if t then a else b, none) | _ => none) P s dst l K
theorem oc_pk (c a b : AX) : OC P s (.pick c a b) dst l K = PkC (s.ν c) (s.ν a) (s.ν b) P s dst l K := by
 unfold PkC
 rw [oc_pick]
 rfl
theorem pkc_true {a b : AV} : PkC (.bool true) a b P s dst l K = RStep P l (s.next dst ⟨a, none, []⟩) K := by
 unfold PkC
 rw [← qc_some (p := (a, none))]
 rfl
theorem pkc_false {a b : AV} : PkC (.bool false) a b P s dst l K = RStep P l (s.next dst ⟨b, none, []⟩) K := by
 unfold PkC
 rw [← qc_some (p := (b, none))]
 rfl
theorem pkc_fork {p : Prop} {_ : Decidable p} {a b : AV} (h1 : p → PkC (.bool true) a b P s dst l K) (h2 : ¬ p → PkC (.bool false) a b P s dst l K) : PkC (.bool (decide p)) a b P s dst l K := by
 by_cases h : p
 · rw [decide_eq_true h]; exact h1 h
 · rw [decide_eq_false h]; exact h2 h
theorem pkc_split {t : Bool} {a b : AV} (h1 : t = true → PkC (.bool true) a b P s dst l K) (h2 : t = false → PkC (.bool false) a b P s dst l K) : PkC (.bool t) a b P s dst l K := by
 cases t
 · exact h2 rfl
 · exact h1 rfl
end
def KCut {ι : Type} (R : ι → Prop) (pat : ι → St) (K : Exit → St → Prop) (e : Exit) (t : St) : Prop :=
 match e with
 | .normal => ∃ j, R j ∧ Wk t (pat j)
 | e => K e t
theorem kn5 {ι : Type} {R : ι → Prop} {pat : ι → St} {K : Exit → St → Prop} {t : St} (h : ∃ j, R j ∧ Wk t (pat j)) : KCut R pat K .normal t := h
theorem kr5 {ι : Type} {R : ι → Prop} {pat : ι → St} {K : Exit → St → Prop} {t : St} (h : K .ret t) : KCut R pat K .ret t := h
theorem ke5 {ι : Type} {R : ι → Prop} {pat : ι → St} {K : Exit → St → Prop} {t : St} {j : Nat} (h : K (.exit j) t) : KCut R pat K (.exit j) t := h
section
variable {P : Program} {s : St} {l : List AO} {K : St → Prop} {dst : Option Nat}
def StC (n : Nat) (p x : AV) (P : Program) (s : St) (dst : Option Nat) (l : List AO) (K : St → Prop) : Prop :=
 ∃ b, LeA x b ∧ SkC (match p, cellsOf b with
   | .ptr l off, some ds =>
     match s.box[l]? with
     | some (T, cs) => if ds.length = n ∧ off + n ≤ cs.length ∧ T < 1099511627776 then some { s with box := s.box.set l (T, putCells cs off ds) } else none
     | none => none
   | _, _ => none) P dst l K
theorem oc_st' (n : Nat) (x y : AX) : OC P s (.st n x y) dst l K = StC n (s.ν x) (s.ν y) P s dst l K := by
 unfold StC
 rw [oc_st]
 rfl
theorem stc_of {n : Nat} {p x b : AV} (hle : LeA x b) (h : SkC (match p, cellsOf b with
   | .ptr l off, some ds =>
     match s.box[l]? with
     | some (T, cs) => if ds.length = n ∧ off + n ≤ cs.length ∧ T < 1099511627776 then some { s with box := s.box.set l (T, putCells cs off ds) } else none
     | none => none
   | _, _ => none) P dst l K) : StC n p x P s dst l K := ⟨b, hle, h⟩
theorem stc_plain {n bl o : Nat} {x c : AV} {cs : List AV} {T : TypeId} (hb : s.box[bl]? = some (T, c :: cs)) (hK : SkC (match cellsOf x with
   | some ds => if ds.length = n ∧ o + n ≤ (c :: cs).length ∧ T < 1099511627776 then some { s with box := s.box.set bl (T, putCells (c :: cs) o ds) } else none
   | none => none) P dst l K) : StC n (.ptr bl o) x P s dst l K := by
 refine stc_of (le_same x) ?_
 cases hx : cellsOf x with
 | none => rw [hx] at hK; simpa using hK
 | some ds =>
   rw [hx] at hK
   simp only [hb]
   exact hK
end
theorem take_len {α : Type} [Enc α] (xs : List α) : List.take xs.length (List.drop 0 (List.map Enc.enc xs)) = List.map Enc.enc xs := by
 rw [List.drop_zero, List.take_of_length_le (by rw [List.length_map]; exact Nat.le_refl _)]
theorem take_len' {α : Type} [Enc α] (xs : List α) : List.take xs.length (List.map Enc.enc xs) = List.map Enc.enc xs := by
 rw [List.take_of_length_le (by rw [List.length_map]; exact Nat.le_refl _)]
theorem pur_cells {a : AV} {cs : List AV} (h : pur a = true) (hc : cellsOf a = some cs) : purL cs = true := by
 cases a with
 | agg ds => simp only [cellsOf, Option.some.injEq] at hc; subst hc; exact h
 | und => cases hc
 | nov => cases hc
 | tup ds => cases hc
 | _ =>
   simp only [cellsOf, Option.some.injEq] at hc
   subst hc
   simp only [purL, Bool.and_true]
   exact h
theorem frz1_pur {m l sz : Nat} {xs : List AV} {a : AV} (h : pur a = true) : frz1 m l sz xs a = a := by
 cases a with
 | bsl => simp [pur] at h
 | mp => simp [pur] at h
 | _ => simp only [frz1]; rw [if_pos (okB_pur h)]
theorem frz_FL {α : Type} [Enc α] {m l sz : Nat} {ys : List AV} (xs : List α) : (FL xs).map (frz1 m l sz ys) = FL xs := by
 rw [List.map_congr_left (g := id) (fun a ha => ?_), List.map_id]
 unfold FL flatAV at ha
 obtain ⟨b, hb, ha⟩ := List.mem_flatMap.1 ha
 obtain ⟨x, _, rfl⟩ := List.mem_map.1 hb
 obtain ⟨cs, h1, _⟩ := Enc.cel x
 rw [h1] at ha
 obtain ⟨i, hi, rfl⟩ := List.getElem_of_mem ha
 exact frz1_pur (purL_get (pur_cells (Enc.pure_enc x) h1) i hi)
attribute [irreducible] IxC ApC SlC PkC KCut FL StC
theorem bytes_back (l : List UInt8) : (⟨l.toArray⟩ : ByteArray).toList = l := by
 rw [ByteArray.toList_eq]
theorem str_eql (a b : List UInt8) : strBin .eql ⟨a.toArray⟩ ⟨b.toArray⟩ = some (.bool (a == b)) := by
 show some (AV.bool (_ == _)) = _
 rw [bytes_back, bytes_back]
theorem str_neq (a b : List UInt8) : strBin .neq ⟨a.toArray⟩ ⟨b.toArray⟩ = some (.bool (!(a == b))) := by
 show some (AV.bool (!(_ == _))) = _
 rw [bytes_back, bytes_back]
theorem str_size (l : List UInt8) : (⟨l.toArray⟩ : ByteArray).size = l.length := rfl
section
variable {P : Program} {s : St} {l : List AO} {K : St → Prop} {dst : Option Nat}
def IsC (x i : AV) (P : Program) (s : St) (dst : Option Nat) (l : List AO) (K : St → Prop) : Prop :=
 QC (match x, i with
   | .str s, .int _ n => if h : 0 ≤ n ∧ n < s.size then some (.int .u8 (s[n.toNat]'(by omega)).toNat, none) else none
   | _, _ => none) P s dst l K
theorem oc_is (x y : AX) : OC P s (.idxS x y) dst l K = IsC (s.ν x) (s.ν y) P s dst l K := by
 unfold IsC
 rw [oc_idxS]
 rfl
def SsC (x : AV) (lo hi : Option AV) (P : Program) (s : St) (dst : Option Nat) (l : List AO) (K : St → Prop) : Prop := QC ((cutStr x lo hi).map fun a => (a, none)) P s dst l K
theorem oc_ss (x : AX) (a b : Option AX) : OC P s (.slcS x a b) dst l K = SsC (s.ν x) (a.map s.ν) (b.map s.ν) P s dst l K := by
 unfold SsC
 rw [oc_slcS]
 rfl
def SaC (x y : AV) (P : Program) (s : St) (dst : Option Nat) (l : List AO) (K : St → Prop) : Prop := QC ((binAV .add x y).map fun a => (a, none)) P s dst l K
end
section
variable {P : Program} {s : St} {l : List AO} {K : St → Prop} {dst : Option Nat}
end
theorem str_lss (a b : List UInt8) : strBin .lss ⟨a.toArray⟩ ⟨b.toArray⟩ = some (.bool (Op.bytesLess a b)) := by
 show some (AV.bool (Op.bytesLess _ _)) = _
 rw [bytes_back, bytes_back]
attribute [irreducible] IsC SsC
theorem canC_nil (as : List AV) : canC [] as = as := rfl
theorem canC_nil2 (ks : List Nat) : canC ks [] = [] := by cases ks <;> rfl
theorem okBL_enc {α : Type} [Enc α] {m b : Nat} (xs : List α) : okBL m b (xs.map Enc.enc) = true := okBL_pur (purL_enc xs)
def tupC (cs : List AV) : AV → List AV
 | .tup ds => ds
 | _ => cs
def setO (cs : List AV) (o : Nat) (v : AV) : List AV := if o = 1099511627776 then tupC cs v else cs.set o v
def setB : List (TypeId × List AV) → List (Nat × Nat × AV) → List (TypeId × List AV)
 | B, [] => B
 | B, (l, o, v) :: r => setB (B.modify l fun q => (q.1, setO q.2 o v)) r
def setF : List (TypeId × Nat) → List (Nat × Nat) → List (TypeId × Nat)
 | F, [] => F
 | F, (k, n) :: r => setF (F.modify k fun q => (q.1, n)) r
def patOf (s : St) (ks : List Nat) (vs : List (Nat × AV)) (bs : List (Nat × Nat × AV)) (fs : List (Nat × Nat)) (ns : List (TypeId × Nat)) : St :=
 { n := s.n, tm := ks.map (fun k => (k, getT s.tm k)) ++ vs, box := setB s.box bs, fr := setF s.fr fs ++ ns, p := s.p }
def KLm {σ ε Q : Type} (step : σ → (σ → Option Q) → (ε → Option Q) → Option Q) (bk : ε → Option Q) (r : Q) (n : Nat) (pat : σ → St) (K : Exit → St → Prop) (e : Exit) (t : St) : Prop :=
 match e with
 | .normal => ∃ s', loopC step bk n s' = some r ∧ Wk t (pat s')
 | e => K e t
theorem kn6 {σ ε Q : Type} {step : σ → (σ → Option Q) → (ε → Option Q) → Option Q} {bk : ε → Option Q} {r : Q} {n : Nat} {pat : σ → St} {K : Exit → St → Prop} {t : St} (h : ∃ s', loopC step bk n s' = some r ∧ Wk t (pat s')) : KLm step bk r n pat K .normal t := h
theorem kr6 {σ ε Q : Type} {step : σ → (σ → Option Q) → (ε → Option Q) → Option Q} {bk : ε → Option Q} {r : Q} {n : Nat} {pat : σ → St} {K : Exit → St → Prop} {t : St} (h : K .ret t) : KLm step bk r n pat K .ret t := h
theorem ke6 {σ ε Q : Type} {step : σ → (σ → Option Q) → (ε → Option Q) → Option Q} {bk : ε → Option Q} {r : Q} {n : Nat} {pat : σ → St} {K : Exit → St → Prop} {t : St} {j : Nat} (h : K (.exit j) t) : KLm step bk r n pat K (.exit j) t := h
theorem w_loopm {P : Program} {K : Exit → St → Prop} {s : St} {x : AC} {σ ε Q : Type} {step : σ → (σ → Option Q) → (ε → Option Q) → Option Q} {bk : ε → Option Q} {r : Q} {init : σ}
   (ks : List Nat) (vs : σ → List (Nat × AV)) (bs : σ → List (Nat × Nat × AV)) (fs : σ → List (Nat × Nat)) (ns : σ → List (TypeId × Nat)) (h : loopC step bk BIG init = some r)
   (hw : Wk s (patOf s ks (vs init) (bs init) (fs init) (ns init)))
   (round : ∀ n st, step st (fun s' => loopC step bk n s') bk = some r → AW P x (KLm step bk r n (fun s' => patOf s ks (vs s') (bs s') (fs s') (ns s')) K) (patOf s ks (vs st) (bs st) (fs st) (ns st))) : AW P (.loop x) K s :=
 aw_loop (fun j : Nat × σ => loopC step bk j.1 j.2 = some r) (fun j => patOf s ks (vs j.2) (bs j.2) (fs j.2) (ns j.2)) (fun j => j.1) (BIG, init) h hw (fun ⟨n, st⟩ hr => by
   cases n with
   | zero => rw [loopC_zero] at hr; cases hr
   | succ n =>
     rw [loopC_succ] at hr
     refine aw_mono (round n st hr) fun e t ht => ?_
     cases e with
     | normal =>
       obtain ⟨s', h1, h2⟩ := ht
       exact ⟨(n, s'), h1, h2, Nat.lt_succ_self n⟩
     | _ => exact ht)
theorem w_cutm {P : Program} {K : Exit → St → Prop} {s : St} {x y : AC} {τ Q : Type} {f : (τ → Option Q) → Option Q} {k : τ → Option Q} {r : Q} {i : Nat}
   (ks : List Nat) (vs : τ → List (Nat × AV)) (bs : τ → List (Nat × Nat × AV)) (fs : τ → List (Nat × Nat)) (ns : τ → List (TypeId × Nat)) (h : jn i f k = some r)
   (h1 : ∀ k', f k' = some r → AW P x (KCut (fun j => k' j = some r) (fun j => patOf s ks (vs j) (bs j) (fs j) (ns j)) K) s) (h2 : ∀ j, k j = some r → AW P y K (patOf s ks (vs j) (bs j) (fs j) (ns j))) : AW P (.seq x y) K s := by
 unfold jn at h
 refine aw_seq (aw_mono (h1 k h) fun e t ht => ?_)
 cases e with
 | normal =>
   unfold KCut at ht
   obtain ⟨j, h3, h4⟩ := ht
   exact aw_weak h4 (h2 j h3)
 | _ => unfold KCut at ht; exact ht
theorem wk_m {s t : St} (m : Nat) (nt : List (TypeId × Nat)) (hfr : t.fr = s.fr.take m ++ nt) (hm : m ≤ s.fr.length) (hn : s.n = t.n) (hp : s.p = t.p) (hp1 : s.p.1 ≤ t.box.length) (hp2 : s.p.2 ≤ m) (hT : WkT m t.box.length t.fr s.tm t.tm) (hB : WkB m t.box.length t.fr s.box t.box) : Wk s t :=
 wk_of m nt hfr hm hn hp ⟨hp1, hp2⟩ hT hB
theorem wka_tag {α : Type} [Enc α] {m b : Nat} {fr : List (TypeId × Nat)} {sz k : Nat} {e : TypeId} {xs : List α} (h1 : m ≤ k) (h2 : fr[k]? = some (e, xs.length)) : WkA m b fr (.slice .full sz (xs.map Enc.enc)) (.slice (.app k) sz (xs.map Enc.enc)) :=
 .tag sz sz _ k e (.inl rfl) h1 (by rw [h2, List.length_map]) (okBL_enc xs)
theorem wka_tag0 {α : Type} [Enc α] {m b : Nat} {fr : List (TypeId × Nat)} {sz sz' k : Nat} {e : TypeId} (h1 : m ≤ k) (h2 : fr[k]? = some (e, 0)) : WkA m b fr (.slice .full sz []) (.slice (.app k) sz' (([] : List α).map Enc.enc)) :=
 .tag sz sz' _ k e (.inr rfl) h1 h2 rfl
theorem wka_tagn {m b : Nat} {fr : List (TypeId × Nat)} {sz sz' k : Nat} {e : TypeId} (h1 : m ≤ k) (h2 : fr[k]? = some (e, 0)) : WkA m b fr (.slice .full sz []) (.slice (.app k) sz' []) := .tag sz sz' [] k e (.inr rfl) h1 h2 rfl
theorem wka_tagr {m b : Nat} {fr : List (TypeId × Nat)} {sz k : Nat} {e : TypeId} {X : List AV} (h1 : m ≤ k) (h2 : fr[k]? = some (e, X.length)) (hp : purL X = true) : WkA m b fr (.slice .full sz X) (.slice (.app k) sz X) :=
 .tag sz sz X k e (.inl rfl) h1 h2 (okBL_pur hp)
theorem wka_immn {m b : Nat} {fr : List (TypeId × Nat)} {t : Tag} {sz sz' : Nat} : WkA m b fr (.slice t sz []) (.slice .imm sz' []) := .imm t sz sz' [] (.inr rfl) rfl
theorem wka_imm {α : Type} [Enc α] {m b : Nat} {fr : List (TypeId × Nat)} {t : Tag} {sz : Nat} {xs : List α} : WkA m b fr (.slice t sz (xs.map Enc.enc)) (.slice .imm sz (xs.map Enc.enc)) := .imm t sz sz _ (.inl rfl) (okBL_enc xs)
theorem wka_imm0 {α : Type} [Enc α] {m b : Nat} {fr : List (TypeId × Nat)} {t : Tag} {sz sz' : Nat} : WkA m b fr (.slice t sz []) (.slice .imm sz' (([] : List α).map Enc.enc)) := .imm t sz sz' [] (.inr rfl) rfl
theorem wka_app {α : Type} [Enc α] {m b : Nat} {fr : List (TypeId × Nat)} {k sz : Nat} {xs : List α} (h : k < m) : WkA m b fr (.slice (.app k) sz (xs.map Enc.enc)) (.slice (.app k) sz (xs.map Enc.enc)) := .same _ (ok_app h (purL_enc xs))
theorem wka_pur {m b : Nat} {fr : List (TypeId × Nat)} {a : AV} (h : pur a = true) : WkA m b fr a a := .same _ (okB_pur h)
theorem pur_enc_sl {α : Type} [Enc α] {sz : Nat} {xs : List α} : pur (.slice .imm sz (xs.map Enc.enc)) = true := purL_enc xs
theorem pur_enc_fl {α : Type} [Enc α] {sz : Nat} {xs : List α} : pur (.slice .full sz (xs.map Enc.enc)) = true := purL_enc xs
theorem reta_imm {α : Type} [Enc α] {fr : List (TypeId × Nat)} {ks : List Nat} {t : Tag} {sz : Nat} {xs : List α} : RetA fr ks (.slice t sz (xs.map Enc.enc)) (.slice .imm sz (xs.map Enc.enc)) := .imm t sz _ (purL_enc xs)
theorem reta_nil {fr : List (TypeId × Nat)} {ks : List Nat} {t : Tag} {sz sz' : Nat} : RetA fr ks (.slice t sz []) (.slice .imm sz' []) := .le _ _ (le_imm (.inr rfl)) rfl
theorem le_enc {α : Type} [Enc α] {t : Tag} {sz : Nat} {xs : List α} : LeA (.slice t sz (xs.map Enc.enc)) (.slice .imm sz (xs.map Enc.enc)) := le_imm (.inl rfl)
theorem le_nil {t : Tag} {sz sz' : Nat} : LeA (.slice t sz []) (.slice .imm sz' []) := le_imm (.inr rfl)
attribute [irreducible] KLm
def RetQ (P : Program) (l : List AO) (s : St) (dst : Option Nat) (K : St → Prop) (r : AV) (B : List (TypeId × List AV)) (F : List (TypeId × Nat)) : Prop := RStep P l ({ s with box := B, fr := F }.put dst r) K
section
variable {P : Program} {s t : St} {l : List AO} {K : St → Prop} {dst : Option Nat}
theorem call_in {f : FuncId} {as : List AV} {af : AF} (hf : prepFunc P f = some af ∧ hasBody P f = true) (hn : as.length ≤ af.n)
   (h : AW P af.body (RetS af.res (RetQ P l s dst K)) { n := af.n, tm := argsTm 0 as, box := s.box, fr := s.fr, p := (s.box.length, s.fr.length) }) : CallSC P s f as dst l K :=
 callss (acs_of hf hn h) fun r B F h => by unfold RetQ at h; exact h
theorem rets_in {res : List RV} {as : List AV} {e : Exit} (he : e = .normal ∨ e = .ret) (h : resL t res = some as) (hK : RStep P l ({ s with box := t.box, fr := t.fr }.put dst (one? as)) K) : RetS res (RetQ P l s dst K) e t := by
 refine ⟨by rcases he with rfl | rfl <;> trivial, as, h, ?_⟩
 unfold RetQ
 exact hK
def QJ {τ Q : Type} (k : τ → Option Q) (out : Q) (val : τ → AV) (bx : τ → List (TypeId × List AV)) (fr : τ → List (TypeId × Nat)) (r : AV) (B : List (TypeId × List AV)) (F : List (TypeId × Nat)) : Prop :=
 ∃ j, k j = some out ∧ r = val j ∧ B = bx j ∧ F = fr j
theorem call_cut {τ Q : Type} {fm : (τ → Option Q) → Option Q} {k : τ → Option Q} {out : Q} {i : Nat} {f : FuncId} {as : List AV} {af : AF} (hf : prepFunc P f = some af ∧ hasBody P f = true) (hn : as.length ≤ af.n)
   (val : τ → AV) (bs : τ → List (Nat × Nat × AV)) (fs : τ → List (Nat × Nat)) (h : jn i fm k = some out)
   (h1 : ∀ k', fm k' = some out → AW P af.body (RetW af.res (QJ k' out val (fun j => setB s.box (bs j)) (fun j => setF s.fr (fs j)))) { n := af.n, tm := argsTm 0 as, box := s.box, fr := s.fr, p := (s.box.length, s.fr.length) })
   (h2 : ∀ j, k j = some out → RStep P l ({ s with box := setB s.box (bs j), fr := setF s.fr (fs j) }.put dst (val j)) K) : CallSC P s f as dst l K := by
 rw [jn_eq] at h
 refine callss (acs_w hf hn (h1 k h)) fun r B F hq => ?_
 obtain ⟨j, h3, rfl, rfl, rfl⟩ := hq
 exact h2 j h3
theorem retj_in {τ Q : Type} {k : τ → Option Q} {out : Q} {val : τ → AV} {bx : τ → List (TypeId × List AV)} {fr : τ → List (TypeId × Nat)} {res : List RV} {as bs : List AV} {e : Exit} {j : τ} (m : Nat) (he : e = .normal ∨ e = .ret)
   (h : k j = some out) (hr : resL t res = some as) (hm : m ≤ t.fr.length) (hp2 : t.p.2 ≤ m) (hp1 : t.p.1 ≤ (bx j).length) (hF : t.fr.take m ++ [] = fr j) (hB : WkB m (bx j).length (fr j) t.box (bx j)) (hC : WkC m (bx j).length (fr j) as bs) (hv : one? bs = val j) : RetW res (QJ k out val bx fr) e t := by
 refine ⟨by rcases he with rfl | rfl <;> trivial, as, bs, m, [], bx j, hr, hm, hp2, hp1, ?_, ?_, j, h, hv, rfl, hF⟩
 · rw [hF]; exact hB
 · rw [hF]; exact hC
end
section
variable {P : Program} {s t : St} {τ Q : Type} {k : τ → Option Q} {out : Q} {val : τ → AV} {bx : τ → List (TypeId × List AV)} {fr : τ → List (TypeId × Nat)} {res : List RV} {e : Exit} {j : τ}
theorem retj_one {a b : AV} (m : Nat) (he : e = .normal ∨ e = .ret) (h : k j = some out) (hr : resL t res = some [a]) (hm : m ≤ t.fr.length) (hp2 : t.p.2 ≤ m) (hp1 : t.p.1 ≤ (bx j).length) (hF : t.fr.take m ++ [] = fr j) (hv : val j = b)
   (hB : WkB m (bx j).length (fr j) t.box (bx j)) (hC : WkA m (bx j).length (fr j) a b) : RetW res (QJ k out val bx fr) e t :=
 retj_in m he h hr hm hp2 hp1 hF hB (bs := [b]) ⟨hC, trivial⟩ hv.symm
theorem retj_tup {as : List AV} {a b : AV} {bs : List AV} (m : Nat) (he : e = .normal ∨ e = .ret) (h : k j = some out) (hr : resL t res = some as) (hm : m ≤ t.fr.length) (hp2 : t.p.2 ≤ m) (hp1 : t.p.1 ≤ (bx j).length) (hF : t.fr.take m ++ [] = fr j) (hv : val j = .tup (a :: b :: bs))
   (hB : WkB m (bx j).length (fr j) t.box (bx j)) (hC : WkC m (bx j).length (fr j) as (a :: b :: bs)) : RetW res (QJ k out val bx fr) e t :=
 retj_in m he h hr hm hp2 hp1 hF hB hC hv.symm
theorem retj_nil (m : Nat) (he : e = .normal ∨ e = .ret) (h : k j = some out) (hr : resL t res = some []) (hm : m ≤ t.fr.length) (hp2 : t.p.2 ≤ m) (hp1 : t.p.1 ≤ (bx j).length) (hF : t.fr.take m ++ [] = fr j) (hv : val j = .tup [])
   (hB : WkB m (bx j).length (fr j) t.box (bx j)) : RetW res (QJ k out val bx fr) e t :=
 retj_in m he h hr hm hp2 hp1 hF hB (bs := []) trivial hv.symm
theorem aw_ret_full {α : Type} [Enc α] {P : Program} {n k sz : Nat} {ty : TypeId} {xs : List α} (hp : s.p = (0, 0)) (hn : s.n = n) (h : getT s.tm k = .slice .full sz (xs.map Enc.enc)) :
   AW P .ret (RetOk [.tmp k] (.slice (.app 0) sz (xs.map Enc.enc)) [(ty, xs.length)]) s :=
 aw_weak (t := { n := s.n, tm := [(k, .slice (.app 0) sz (xs.map Enc.enc))], box := [], fr := [(ty, xs.length)], p := s.p })
   ⟨rfl, ⟨rfl, by rw [hp]; exact Nat.zero_le _⟩, 0, [(ty, xs.length)], rfl, Nat.zero_le _, by rw [hp]; exact Nat.zero_le _, ⟨by rw [h]; exact wka_tag (Nat.zero_le _) rfl, trivial⟩, by cases s.box <;> trivial⟩
   (aw_ret (ret_app (j := 0) (by simp [getT]) rfl (purL_enc xs)))
end
theorem tagO_imm : tagO .imm = .imm := rfl
theorem tagO_app (k : Nat) : tagO (.app k) = .imm := rfl
theorem bbeq (a b : Bool) : (a == b) = decide (a = b) := by cases a <;> cases b <;> rfl
theorem lbeq (a b : List UInt8) : (a == b) = decide (a = b) := by
 by_cases h : a = b
 · subst h; simp
 · simp [h]
theorem wlits : IntKind.i64.wrap 0 = 0 ∧ IntKind.i64.wrap 1 = 1 ∧ IntKind.i64.wrap 2 = 2 ∧ IntKind.i64.wrap 3 = 3 ∧ IntKind.i64.wrap 4 = 4 ∧ IntKind.i64.wrap 5 = 5 ∧ IntKind.i64.wrap 6 = 6 ∧ IntKind.i64.wrap 7 = 7 ∧ IntKind.i64.wrap 8 = 8 ∧ IntKind.i64.wrap 9 = 9 ∧ IntKind.i64.wrap 10 = 10 ∧ IntKind.i64.wrap 11 = 11 ∧ IntKind.i64.wrap 12 = 12 ∧ IntKind.i64.wrap 13 = 13 ∧ IntKind.i64.wrap 14 = 14 ∧ IntKind.i64.wrap 15 = 15 ∧ IntKind.i64.wrap 16 = 16 := by decide
attribute [irreducible] RetQ QJ
theorem one_tup {a b : AV} {as : List AV} : one? (a :: b :: as) = .tup (a :: b :: as) := rfl
theorem one_one {a : AV} : one? [a] = a := rfl
theorem slc_max {α : Type} [Enc α] {P : Program} {s : St} {l : List AO} {K : St → Prop} {dst : Option Nat} {xs ys : List α} {X : List AV} {sz sz' : Nat} {t : Tag} {lo hi : Int} {k k' : IntKind} {a : Option AV} (h : sl xs lo hi = some ys) (hx : X = xs.map Enc.enc) (h0 : sz' = sz ∨ X.length = 0) (ha : asNatO 0 a = some lo.toNat)
   (hK : RStep P l (s.next dst ⟨.slice .full sz (ys.map Enc.enc), none, []⟩) K) : SlC sz (.slice t sz' X) a (some (.int k hi)) (some (.int k' hi)) P s dst l K := by
 obtain ⟨h1, rfl⟩ := sl_get h
 subst hx
 unfold SlC cutAV
 have hb : asNatO (xs.map Enc.enc).length (some (.int k hi)) = some hi.toNat := by simp [asNatO, asNat]; omega
 have hc : asNat (.int k' hi) = some hi.toNat := by simp [asNat]; omega
 simp only [ha, hb, hc]
 rw [if_pos ⟨h0, by omega, by rw [List.length_map]; omega⟩, if_pos ⟨Nat.le_refl _, by rw [List.length_map]; omega⟩, if_pos trivial, Option.map_some, qc_some]
 rw [List.map_drop, List.map_take] at hK
 exact hK
theorem asn_none : asNatO 0 none = some (0 : Int).toNat := rfl
theorem asn_some {k : IntKind} {lo : Int} (h : 0 ≤ lo) : asNatO 0 (some (.int k lo)) = some lo.toNat := by simp [asNatO, asNat, h]
end Go.Proofs.YtibploaibljcmaaGreatDoor
