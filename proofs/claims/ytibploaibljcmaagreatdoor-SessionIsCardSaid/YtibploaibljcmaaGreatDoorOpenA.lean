import Derived.Test.YtibploaibljcmaaGreatDoorAv15
import Derived.ProofKit
import Derived.OpenShut
import Derived.ShutString
import Derived.ChangeOld
import Derived.WideShapes
import Derived.Lib.SmallJoins
import Derived.Deep.Slices
namespace Go.Proofs.YtibploaibljcmaaGreatDoor
open Go.RowKit Go.ChangeShapes Go.WideShapes Go.ChangeAt Go.Joins
set_option linter.unusedVariables false
set_option linter.unusedSimpArgs false
set_option maxHeartbeats 1000000
mutual
inductive Ty where
 | int (k : IntKind)
 | bool
 | str
 | sl (sz : Nat) (ag : Bool) (e : Ty)
 | st (fs : Tys)
inductive Tys where
 | nil
 | cons (w : Nat) (T : Ty) (fs : Tys)
end
mutual
def Shp : Ty → List AV → Prop
 | .int k, as => ∃ n, as = [.int k n] ∧ (Lit.int k n).wf = true
 | .bool, as => ∃ b, as = [.bool b]
 | .str, as => ∃ s, as = [.str s] ∧ s.size ≤ maxLen
 | .sl sz ag e, as => ∃ xs : List AV, as = [.slice .imm sz xs] ∧ xs.length ≤ maxLen ∧ ∀ x ∈ xs, if ag then ∃ cs, x = .agg cs ∧ Shp e cs else Shp e [x]
 | .st fs, as => ShpL fs as
def ShpL : Tys → List AV → Prop
 | .nil, as => as = []
 | .cons w T fs, as => ∃ cs ds, as = cs ++ ds ∧ cs.length = w ∧ Shp T cs ∧ ShpL fs ds
end
def ShA : Ty → AV → Prop
 | .st fs, a => ∃ cs, a = .agg cs ∧ ShpL fs cs
 | T, a => Shp T [a]
def isAgg? (P : Program) (t : TypeId) : Bool := match P.underlying t with | some d => aggD d | none => false
def tysOf (P : Program) (go : TypeId → Option Ty) (total : Nat) : Nat → List Field → Option Tys
 | off, [] => if off = total then some .nil else none
 | off, f :: fs =>
   if f.offset = off then
     match go f.type, tysOf P go total (off + P.cellsOf f.type) fs with
     | some T, some Ts => some (.cons (P.cellsOf f.type) T Ts)
     | _, _ => none
   else none
def tyOf (P : Program) : Nat → TypeId → Option Ty
 | 0, _ => none
 | d + 1, t =>
   match P.underlying t with
   | some (.int k) => some (.int k)
   | some .bool => some .bool
   | some .string => some .str
   | some (.slice e) =>
     match tyOf P d e with
     | some T => if P.cellsOf e ≠ 0 then some (.sl (P.cellsOf e) (isAgg? P e) T) else none
     | none => none
   | some (.struct fs) => (tysOf P (tyOf P d) (P.cellsOf t) 0 fs.toList).map .st
   | _ => none
section
variable {H : Type} {enc : TypeId × Value → H} {P : Program} {W : World} {held : Bool}
def OpenT (enc : TypeId × Value → H) (P : Program) (W : World) (held : Bool) (t : TypeId) (T : Ty) : Prop :=
 ∀ (fuel : Nat) (cs : List Value) (y : DataW H × List MemPlace), DataW.trod enc P W 0 (fun _ => true) held fuel t cs = some y → ∃ as, Reps (M0 W.cell?) cs as ∧ Shp T as ∧ ∀ u ∈ cs, u.oneCell' = true
theorem open_fields {go : TypeId → Option Ty} (hgo : ∀ t T, go t = some T → OpenT enc P W held t T) {total : Nat} {n : Nat} {all : List Value} (hall : all.length = total) :
   ∀ (fs : List Field) (off : Nat) (Ts : Tys), tysOf P go total off fs = some Ts → (∀ f ∈ fs, ∃ y, DataW.trod enc P W 0 (fun _ => true) held n f.type ((all.drop f.offset).take (P.cellsOf f.type)) = some y) →
     ∃ as, Reps (M0 W.cell?) (all.drop off) as ∧ ShpL Ts as ∧ ∀ u ∈ all.drop off, u.oneCell' = true
 | [], off, Ts, h, _ => by
   simp only [tysOf] at h
   split at h
   · rename_i e
     injection h with h
     subst h
     have : all.drop off = [] := List.drop_eq_nil_of_le (by omega)
     rw [this]
     exact ⟨[], reps_nil, rfl, by simp⟩
   · cases h
 | f :: fs, off, Ts, h, hf => by
   simp only [tysOf] at h
   split at h
   rotate_left
   · cases h
   rename_i ho
   split at h
   rotate_left
   · cases h
   rename_i T Ts' h1 h2
   injection h with h
   subst h
   obtain ⟨y, hy⟩ := hf f (by simp)
   rw [ho] at hy
   obtain ⟨as, r1, s1, o1⟩ := hgo _ _ h1 _ _ _ hy
   obtain ⟨bs, r2, s2, o2⟩ := open_fields hgo hall fs _ Ts' h2 fun g hg => hf g (by simp [hg])
   have e : all.drop off = (all.drop off).take (P.cellsOf f.type) ++ all.drop (off + P.cellsOf f.type) := by
     rw [← List.drop_drop, List.take_append_drop]
   have hw : as.length = P.cellsOf f.type ∨ as.length < P.cellsOf f.type := by
     have := r1.1
     rw [List.length_take] at this
     omega
   rcases hw with hw | hw
   · refine ⟨as ++ bs, by rw [e]; exact reps_append r1 r2, ⟨as, bs, rfl, hw, s1, s2⟩, fun u hu => ?_⟩
     rw [e] at hu
     rcases List.mem_append.1 hu with hu | hu
     · exact o1 u hu
     · exact o2 u hu
   · exfalso
     have h3 := r1.1
     rw [List.length_take, List.length_drop] at h3
     have : ∀ (fs : List Field) (off : Nat) (Ts : Tys), tysOf P go total off fs = some Ts → off ≤ total := by
       intro fs
       induction fs with
       | nil =>
         intro off Ts h
         simp only [tysOf] at h
         split at h
         · omega
         · cases h
       | cons g fs ih =>
         intro off Ts h
         simp only [tysOf] at h
         split at h
         · split at h
           · rename_i q
             have := ih _ _ q
             omega
           · cases h
         · cases h
     have := this _ _ _ h2
     omega
theorem cells_one {T : Ty} {cs : List Value} {as : List AV} (hr : Reps (M0 W.cell?) cs as) (hs : Shp T as) (hn : ∀ fs, T ≠ .st fs) : ∃ v a, cs = [v] ∧ as = [a] := by
 have : ∃ a, as = [a] := by
   cases T with
   | int k => obtain ⟨n, rfl, _⟩ := hs; exact ⟨_, rfl⟩
   | bool => obtain ⟨n, rfl⟩ := hs; exact ⟨_, rfl⟩
   | str => obtain ⟨n, rfl, _⟩ := hs; exact ⟨_, rfl⟩
   | sl sz ag e => obtain ⟨n, rfl, _⟩ := hs; exact ⟨_, rfl⟩
   | st fs => exact absurd rfl (hn fs)
 obtain ⟨a, rfl⟩ := this
 have hl := hr.1
 match cs, hl with
 | [v], _ => exact ⟨v, a, rfl, rfl⟩
theorem ty_agg {d : Nat} {t : TypeId} {T : Ty} (h : tyOf P d t = some T) : (isAgg? P t = true → ∃ fs, T = .st fs) ∧ (isAgg? P t = false → ∀ fs, T ≠ .st fs) := by
 cases d with
 | zero => cases h
 | succ d =>
   unfold tyOf at h
   unfold isAgg?
   split at h
   all_goals rename_i hu
   all_goals first
     | (injection h with h; subst h; rw [hu]; exact ⟨fun e => by simp [aggD] at e, fun _ fs e => by cases e⟩)
     | (split at h
        · split at h
          · injection h with h; subst h; rw [hu]; exact ⟨fun e => by simp [aggD] at e, fun _ fs e => by cases e⟩
          · cases h
        · cases h)
     | (obtain ⟨Ts, _, rfl⟩ := Option.map_eq_some_iff.1 h; rw [hu]; exact ⟨fun _ => ⟨_, rfl⟩, fun e => by simp [aggD] at e⟩)
     | cases h
theorem open_ty : ∀ (d : Nat) (t : TypeId) (T : Ty), tyOf P d t = some T → OpenT enc P W held t T
 | 0, t, T, h => by cases h
 | d + 1, t, T, h => by
   have ih := open_ty d
   intro fuel cs y hy
   have h0 := h
   unfold tyOf at h
   split at h
   · rename_i k hu
     injection h with h
     subst h
     obtain ⟨n, rfl, _, hw⟩ := DataW.trod_int hu hy
     exact ⟨[.int k n], reps_cons (.int k n) reps_nil, ⟨n, rfl, hw⟩, by simp; rfl⟩
   · rename_i hu
     injection h with h
     subst h
     obtain ⟨b, rfl, _⟩ := DataW.trod_bool hu hy
     exact ⟨[.bool b], reps_cons (.bool b) reps_nil, ⟨b, rfl⟩, by simp; rfl⟩
   · rename_i hu
     injection h with h
     subst h
     obtain ⟨s, rfl, _, hs⟩ := DataW.trod_string hu hy
     exact ⟨[.str s], reps_cons (.str s) reps_nil, ⟨s, rfl, hs⟩, by simp; rfl⟩
   · rename_i e hu
     split at h
     rotate_left
     · cases h
     rename_i E hE
     split at h
     rotate_left
     · cases h
     rename_i hne
     injection h with h
     subst h
     rcases Deep.open_slice hu hy with ⟨rfl, _⟩ | ⟨a, len, cap, m, n, D, Pl, rfl, _, hl, hm, hmm, _, hx⟩
     · exact ⟨[.slice .imm (P.cellsOf e) []], reps_cons (.slice .imm none 0 0 _ [] [] rfl rfl (Nat.le_refl _) (Nat.zero_le _) (by simp) (.inl rfl) (fun i h => absurd h (by simp)) trivial) reps_nil, ⟨[], rfl, Nat.zero_le _, by simp⟩, by simp; rfl⟩
     · have hlm : len ≤ m := by rw [hmm]; split <;> omega
       have each : ∀ i, i < len → ∃ p : Value × AV, (∀ j, j < P.cellsOf e → W.cell? (a.add (i * P.cellsOf e + j)) = p.1.cells.toList[j]?) ∧ ElemOk (P.cellsOf e) p.1 ∧ Rep (M0 W.cell?) p.1 p.2 ∧ (if isAgg? P e then ∃ cs, p.2 = .agg cs ∧ Shp E cs else Shp E [p.2]) := by
         intro i hi
         obtain ⟨cs', h1, h2⟩ := hx i (by omega)
         obtain ⟨as, r1, s1, o1⟩ := ih e E hE _ _ _ h2
         obtain ⟨_, hlen, hcell⟩ := World.cells?_some h1
         have hce : ∀ j, j < P.cellsOf e → W.cell? (a.add (i * P.cellsOf e + j)) = cs'[j]? := fun j hj => by
           have := hcell j hj
           rwa [Deep.add_add] at this
         cases hag : isAgg? P e with
         | true =>
           refine ⟨(.agg cs'.toArray, .agg as), hce, ⟨by simpa [Value.cells] using hlen, fun u hu => o1 u (by simpa [Value.cells] using hu)⟩, .agg cs' as r1.1 o1 r1.2, ?_⟩
           rw [if_pos rfl]
           exact ⟨as, rfl, s1⟩
         | false =>
           obtain ⟨v, b, rfl, rfl⟩ := cells_one r1 s1 ((ty_agg hE).2 hag)
           have hv : v.cells = #[v] := by
             have := o1 v (by simp)
             cases v <;> first | rfl | cases this
           refine ⟨(v, b), fun j hj => by rw [hce j hj, hv], ⟨by rw [hv]; simpa using hlen, fun u hu => by rw [hv] at hu; exact o1 u hu⟩, (reps_uncons r1).1, ?_⟩
           rw [if_neg (by simp)]
           exact s1
       haveI : Inhabited (Value × AV) := ⟨(undef, .und)⟩
       obtain ⟨f, hf⟩ := Deep.choose_lt each
       have hvs : ∀ v ∈ (List.range len).map fun i => (f i).1, ElemOk (P.cellsOf e) v := fun v hv => by
         obtain ⟨i, hi, rfl⟩ := List.mem_map.1 hv
         exact (hf i (List.mem_range.1 hi)).2.1
       refine ⟨[.slice .imm (P.cellsOf e) ((List.range len).map fun i => (f i).2)], reps_cons (.slice .imm (some a) len cap _ ((List.range len).map fun i => (f i).1) _ (by simp) (by simp) hl hm hvs ?_ ?_ trivial) reps_nil, ⟨_, rfl, by simp; omega, ?_⟩, by simp; rfl⟩
       · by_cases h0 : len = 0
         · left; subst h0; rfl
         · right
           obtain ⟨b, o, sp⟩ := a
           have hpos : 0 < P.cellsOf e := by omega
           have h1 := (hf 0 (by omega)).1 0 hpos
           have hc0 : ∃ u, (f 0).1.cells.toList[0]? = some u := by
             have := (hf 0 (by omega)).2.1.1
             exact ⟨_, List.getElem?_eq_getElem (by rw [Array.length_toList, this]; exact hpos)⟩
           obtain ⟨u, hu0⟩ := hc0
           have hsp : sp = none := by simpa [Addr.add] using World.cell?_spot (h1.trans hu0)
           subst hsp
           refine ⟨b, o, rfl, fun q hq => ?_⟩
           have hfl := flat_length _ hvs
           have hq' : q < len * P.cellsOf e := by rw [hfl] at hq; simpa using hq
           have hi : q / P.cellsOf e < len := by
             rw [Nat.div_lt_iff_lt_mul hpos]
             exact hq'
           have hj : q % P.cellsOf e < P.cellsOf e := Nat.mod_lt _ hpos
           have h2 := (hf _ hi).1 _ hj
           have h3 := flat_at _ hvs (i := q / P.cellsOf e) (v := (f (q / P.cellsOf e)).1) (by simp [hi]) hj
           have hq2 : q / P.cellsOf e * P.cellsOf e + q % P.cellsOf e = q := by rw [Nat.mul_comm]; exact Nat.div_add_mod _ _
           rw [hq2] at h2 h3
           rw [Addr.add_lit] at h2
           rw [← h3, List.getElem?_eq_getElem hq] at h2
           exact h2
       · intro i h1 h2
         simp only [List.getElem_map, List.getElem_range]
         exact (hf i (by simpa using h1)).2.2.1
       · intro x hx
         obtain ⟨i, hi, rfl⟩ := List.mem_map.1 hx
         exact (hf i (List.mem_range.1 hi)).2.2.2
   · rename_i fs hu
     obtain ⟨Ts, hTs, rfl⟩ := Option.map_eq_some_iff.1 h
     obtain ⟨xs, n, _, _, hl, hn, hff⟩ := DataW.trod_struct hu hy
     have := open_fields (fun t T h => ih t T h) hl fs.toList 0 Ts hTs (n := n) (fun f hf => by
       obtain ⟨i, hi, rfl⟩ := List.getElem_of_mem hf
       have hi' : i < fs.size := by simpa using hi
       have := hff i fs[i] (Array.getElem?_eq_getElem hi')
       have hx : i < xs.length := by omega
       rw [List.getElem?_eq_getElem hx] at this
       exact ⟨_, by simpa using this⟩)
     rw [List.drop_zero] at this
     exact this
   · cases h
theorem val_one {d : Nat} {t : TypeId} {T : Ty} (h : tyOf P d t = some T) (hag : isAgg? P t = false) {r : Reach} {b0 : Nat} {v : Value} (hv : Value.okWide P W r b0 t v) : v.cells = #[v] := by
 cases d with
 | zero => cases h
 | succ d =>
   unfold tyOf at h
   unfold isAgg? at hag
   split at h
   · rename_i k hu
     obtain ⟨n, rfl⟩ := okWide_int hu hv
     rfl
   · rename_i hu
     obtain ⟨n, rfl⟩ := okWide_bool hu hv
     rfl
   · rename_i hu
     obtain ⟨n, rfl⟩ := okWide_string hu hv
     rfl
   · rename_i e hu
     obtain ⟨a, l, c, rfl⟩ := okWide_slice hu hv
     rfl
   · rename_i fs hu
     rw [hu] at hag
     simp [aggD] at hag
   · cases h
theorem open_any {d : Nat} {t : TypeId} {T : Ty} (hT : tyOf P d t = some T) {r : Reach} {b0 : Nat} {v : Value} {x : DataW H} {p : List MemPlace} (hv : Value.okWide P W r b0 t v) (h : DataW.Trod enc P W 0 (fun _ => true) held t v x p) :
   ∃ a, Rep (M0 W.cell?) v a ∧ ShA T a := by
 obtain ⟨fuel, hf⟩ := h
 obtain ⟨as, r1, s1, o1⟩ := open_ty d t T hT _ _ _ hf
 cases hag : isAgg? P t with
 | true =>
   obtain ⟨fs, rfl⟩ := (ty_agg hT).1 hag
   have : ∃ fs', P.underlying t = some (.struct fs') := by
     cases d with
     | zero => cases hT
     | succ d =>
       unfold tyOf at hT
       split at hT
       all_goals first
         | (rename_i hu; exact ⟨_, hu⟩)
         | skip
       all_goals (repeat' split at hT) <;> cases hT
   obtain ⟨fs', hu⟩ := this
   obtain ⟨cs, rfl, _⟩ := okWide_struct hu hv
   have r1 : Reps (M0 W.cell?) cs.toList as := r1
   refine ⟨.agg as, ?_, as, rfl, s1⟩
   have := Rep.agg (M := M0 W.cell?) cs.toList as r1.1 o1 r1.2
   simpa using this
 | false =>
   have hn := (ty_agg hT).2 hag
   obtain ⟨u, a, e1, rfl⟩ := cells_one r1 s1 hn
   have hvu : v = u := by
     have := val_one hT hag hv
     have e1 : v.cells.toList = [u] := e1
     rw [this] at e1
     simpa using e1
   subst hvu
   refine ⟨a, by rw [e1] at r1; exact (reps_uncons r1).1, ?_⟩
   cases T with
   | st fs => exact absurd rfl (hn fs)
   | _ => exact s1
end
end Go.Proofs.YtibploaibljcmaaGreatDoor
