/- From a model's answer to the function's: maps. -/
import Derived.Test.YtkdodhkiemfpeaaLf0
namespace Go.Proofs.Ytkdodhkiemfpeaa
open Go.RowKit
set_option linter.unusedVariables false
set_option linter.unusedSimpArgs false

/-- Keys of a map, as they are compared. -/
class KeyE (α : Type) [Enc α] [DecidableEq α] where
  K : KeyK
  eq : ∀ a b : α, K.eq (Enc.enc a) (Enc.enc b) = some (decide (a = b))
  ok : ∀ a : α, keyOkA K (Enc.enc a) = true
instance keyInt : KeyE Int := ⟨.sc 0, fun a b => by
  show eqS 0 (.int .i64 a) (.int .i64 b) = _
  simp [eqS]
  by_cases h : a = b <;> simp [h], fun _ => rfl⟩
instance keyStr : KeyE Str := ⟨.sc 2, fun a b => by
  show eqS 2 (.str ⟨a.b.toArray⟩) (.str ⟨b.b.toArray⟩) = _
  simp only [eqS, ByteArray.toList_eq]
  congr 1
  cases a; cases b
  simp only [Str.mk.injEq]
  by_cases h : ‹List UInt8› = ‹List UInt8›
  all_goals (rw [Bool.eq_iff_iff]; simp), fun _ => rfl⟩
/-- A map's cells. -/
def kv {α β : Type} [Enc α] [Enc β] (m : List (α × β)) : List AV := m.flatMap fun p => [Enc.enc p.1, Enc.enc p.2]
theorem kv_cons {α β : Type} [Enc α] [Enc β] (p : α × β) (m : List (α × β)) : kv (p :: m) = Enc.enc p.1 :: Enc.enc p.2 :: kv m := rfl
theorem kv_append {α β : Type} [Enc α] [Enc β] (a b : List (α × β)) : kv (a ++ b) = kv a ++ kv b := by simp [kv]
theorem prc_mk (α β : Type) [Enc α] [Enc β] {P : Program} {s : St} {l : List AO} {K : St → Prop} {dst : Option Nat} {t : TypeId} (hK : RStep P l ({ s with box := s.box ++ [(t + 1099511627776, kv ([] : List (α × β)))] }.put dst (.mp s.box.length)) K) : PrC (.mkMap t) [] P s dst l K :=
  prc_out (p := (s.box ++ [(t + 1099511627776, [])], .mp s.box.length)) rfl hK
theorem get_fork {α β : Type} [DecidableEq α] {m : List (α × β)} {k : α} {R : Type} {r : R} {A : β → Option R} {B : Option R} (h : (bif mhas m k then bd (mget m k) A else B) = some r) : (∃ y, mget m k = some y ∧ A y = some r) ∨ (mget m k = none ∧ B = some r) := by
  rw [mhas_get] at h
  cases hg : mget m k with
  | none => rw [hg] at h; exact .inr ⟨rfl, h⟩
  | some y => rw [hg, bd_some] at h; exact .inl ⟨y, rfl, h⟩
section
variable {α β : Type} [Enc α] [Enc β] [DecidableEq α] [KeyE α]
theorem kv_find_none (k : α) : ∀ (m : List (α × β)) (i : Nat), mget m k = none → kvFind (KeyE.K α) (Enc.enc k) (kv m) i = some none ∧ msetL m k = (fun v => m ++ [(k, v)]) ∧ mdelL m k = m
  | [], i, _ => ⟨rfl, rfl, rfl⟩
  | (a, b) :: m, i, h => by
    rw [mget_eq, List.find?_cons] at h
    by_cases e : a = k
    · simp [e] at h
    · have h : mget m k = none := by rw [mget_eq]; simpa [e] using h
      obtain ⟨h1, h2, h3⟩ := kv_find_none k m (i + 1) h
      refine ⟨?_, ?_, ?_⟩
      · rw [kv_cons]
        simp only [kvFind, KeyE.eq]
        rw [show decide (k = a) = false from decide_eq_false (fun q => e q.symm)]
        exact h1
      · funext v
        rw [msetL, if_neg e, h2]
        rfl
      · rw [mdelL, if_neg e, h3]
theorem kv_find_some (k : α) : ∀ (m : List (α × β)) (i : Nat) (y : β), mget m k = some y → ∃ j, kvFind (KeyE.K α) (Enc.enc k) (kv m) i = some (some (i + j)) ∧ (kv m)[2 * j + 1]? = some (Enc.enc y) ∧
      (∀ v, kvPut (kv m) j (Enc.enc k) (Enc.enc v) = kv (msetL m k v)) ∧ kvDel (kv m) j = kv (mdelL m k)
  | [], i, y, h => by rw [mget_eq] at h; cases h
  | (a, b) :: m, i, y, h => by
    rw [mget_eq, List.find?_cons] at h
    by_cases e : a = k
    · subst e
      simp at h
      subst h
      refine ⟨0, ?_, by simp [kv_cons], fun v => ?_, ?_⟩
      · rw [kv_cons]
        simp only [kvFind, KeyE.eq, decide_true]
        rfl
      · rw [msetL, if_pos rfl, kv_cons, kv_cons]
        simp [kvPut]
      · rw [mdelL, if_pos rfl, kv_cons]
        simp [kvDel]
    · have h : mget m k = some y := by rw [mget_eq]; simpa [e] using h
      obtain ⟨j, h1, h2, h3, h4⟩ := kv_find_some k m (i + 1) y h
      refine ⟨j + 1, ?_, ?_, fun v => ?_, ?_⟩
      · rw [kv_cons]
        simp only [kvFind, KeyE.eq]
        rw [show decide (k = a) = false from decide_eq_false (fun q => e q.symm)]
        simp only
        rw [h1]
        congr 2
        omega
      · rw [kv_cons, show 2 * (j + 1) + 1 = 2 * j + 1 + 1 + 1 by omega, List.getElem?_cons_succ, List.getElem?_cons_succ]
        exact h2
      · rw [msetL, if_neg e, kv_cons, kv_cons, ← h3 v]
        unfold kvPut
        rw [show 2 * (j + 1) = 2 * j + 1 + 1 by omega, show 2 * j + 1 + 1 + 2 = 2 * j + 2 + 1 + 1 by omega]
        simp
      · rw [mdelL, if_neg e, kv_cons, kv_cons, ← h4]
        unfold kvDel
        rw [show 2 * (j + 1) = 2 * j + 1 + 1 by omega, show 2 * j + 1 + 1 + 2 = 2 * j + 2 + 1 + 1 by omega]
        simp
variable {P : Program} {s : St} {l : List AO} {K : St → Prop} {dst : Option Nat} {m zs : List (α × β)} {k : α} {v : β} {bl : Nat} {T : TypeId} {KK : KeyK} {ak av z : AV} {R : Type} {r : R} {A : β → Option R} {B : Option R}
theorem out_get (hb : s.box[bl]? = some (T, kv m)) (hT : 1099511627776 ≤ T) (hkk : KK = KeyE.K α) (hk : ak = Enc.enc k) (ok : Bool) :
    pout (.mapGet KK z ok) s.box [.mp bl, ak] = match mget m k with | some y => some (s.box, if ok then .tup [Enc.enc y, .bool true] else Enc.enc y) | none => some (s.box, if ok then .tup [z, .bool false] else z) := by
  subst hkk hk
  simp only [pout, hb]
  rw [if_pos ⟨hT, KeyE.ok k⟩]
  cases hg : mget m k with
  | none => rw [(kv_find_none k m 0 hg).1]
  | some y =>
    obtain ⟨j, h1, h2, _⟩ := kv_find_some k m 0 y hg
    rw [h1, Nat.zero_add]
    simp only [h2, Option.map_some]
theorem prc_get (h : (bif mhas m k then bd (mget m k) A else B) = some r) (hb : s.box[bl]? = some (T, kv m)) (hT : 1099511627776 ≤ T) (hkk : KK = KeyE.K α) (hk : ak = Enc.enc k)
    (h1 : ∀ y, mget m k = some y → A y = some r → RStep P l (s.put dst (.tup [Enc.enc y, .bool true])) K) (h2 : mget m k = none → B = some r → RStep P l (s.put dst (.tup [z, .bool false])) K) : PrC (.mapGet KK z true) [.mp bl, ak] P s dst l K := by
  have ho := out_get (z := z) hb hT hkk hk true
  rcases get_fork h with ⟨y, e1, e2⟩ | ⟨e1, e2⟩
  · rw [e1] at ho
    exact prc_out ho (h1 y e1 e2)
  · rw [e1] at ho
    exact prc_out ho (h2 e1 e2)
theorem prc_get0 (h : (bif mhas m k then bd (mget m k) A else B) = some r) (hb : s.box[bl]? = some (T, kv m)) (hT : 1099511627776 ≤ T) (hkk : KK = KeyE.K α) (hk : ak = Enc.enc k)
    (h1 : ∀ y, mget m k = some y → A y = some r → RStep P l (s.put dst (Enc.enc y)) K) (h2 : mget m k = none → B = some r → RStep P l (s.put dst z) K) : PrC (.mapGet KK z false) [.mp bl, ak] P s dst l K := by
  have ho := out_get (z := z) hb hT hkk hk false
  rcases get_fork h with ⟨y, e1, e2⟩ | ⟨e1, e2⟩
  · rw [e1] at ho
    exact prc_out ho (h1 y e1 e2)
  · rw [e1] at ho
    exact prc_out ho (h2 e1 e2)
theorem reps_le3 {a b c c' : AV} (h : LeA c c') (M : Mem) (vs : List Value) (k : Reps M vs [a, b, c]) : Reps M vs [a, b, c'] := by
  match vs, k with
  | [], k => exact absurd k.1 (by simp)
  | [_], k => exact absurd k.1 (by simp)
  | [_, _], k => exact absurd k.1 (by simp)
  | _ :: _ :: _ :: _ :: _, k => exact absurd k.1 (by simp)
  | [u, v, w], k =>
    obtain ⟨k1, k2⟩ := reps_uncons k
    obtain ⟨k2, k3⟩ := reps_uncons k2
    obtain ⟨k3, _⟩ := reps_uncons k3
    exact reps_cons k1 (reps_cons k2 (reps_cons (h M w k3) reps_nil))
theorem prc_set (h : ms m k v = some zs) (hb : s.box[bl]? = some (T, kv m)) (hT : 1099511627776 ≤ T) (hkk : KK = KeyE.K α) (hk : ak = Enc.enc k) (hv : LeA av (Enc.enc v))
    (hK : RStep P l ({ s with box := s.box.set bl (T, kv zs) }.put dst .nov) K) : PrC (.mapSet KK) [.mp bl, ak, av] P s dst l K := by
  rw [ms_eq] at h
  injection h with h
  subst h
  subst hkk hk
  cases hg : mget m k with
  | none =>
    obtain ⟨h1, h2, _⟩ := kv_find_none k m 0 hg
    have e : kv m ++ [Enc.enc k, Enc.enc v] = kv (msetL m k v) := by rw [h2, kv_append]; rfl
    refine prc_le (p := (s.box.set bl (T, kv (msetL m k v)), .nov)) (reps_le3 hv) ?_ hK
    simp only [pout, hb]
    rw [if_pos ⟨hT, KeyE.ok k⟩, h1]
    simp only [e]
  | some y =>
    obtain ⟨j, h1, _, h3, _⟩ := kv_find_some k m 0 y hg
    refine prc_le (p := (s.box.set bl (T, kv (msetL m k v)), .nov)) (reps_le3 hv) ?_ hK
    simp only [pout, hb]
    rw [if_pos ⟨hT, KeyE.ok k⟩, h1, Nat.zero_add]
    simp only [h3 v]
theorem prc_del (h : md m k = some zs) (hb : s.box[bl]? = some (T, kv m)) (hT : 1099511627776 ≤ T) (hkk : KK = KeyE.K α) (hk : ak = Enc.enc k)
    (hK : RStep P l ({ s with box := s.box.set bl (T, kv zs) }.put dst (.tup [])) K) : PrC (.mapDel KK) [.mp bl, ak] P s dst l K := by
  rw [md_eq] at h
  injection h with h
  subst h
  subst hkk hk
  have hlt := (List.getElem?_eq_some_iff.1 hb).1
  cases hg : mget m k with
  | none =>
    obtain ⟨h1, _, h3⟩ := kv_find_none k m 0 hg
    refine prc_out (p := (s.box, .tup [])) ?_ ?_
    · simp only [pout, hb]
      rw [if_pos ⟨hT, KeyE.ok k⟩, h1]
    · have e : s.box.set bl (T, kv (mdelL m k)) = s.box := by
        rw [h3]
        apply List.ext_getElem?
        intro i
        rw [List.getElem?_set]
        split
        · rename_i hi; subst hi; exact hb.symm
        · rfl
      rw [e] at hK
      exact hK
  | some y =>
    obtain ⟨j, h1, _, _, h4⟩ := kv_find_some k m 0 y hg
    refine prc_out (p := (s.box.set bl (T, kv (mdelL m k)), .tup [])) ?_ hK
    simp only [pout, hb]
    rw [if_pos ⟨hT, KeyE.ok k⟩, h1, Nat.zero_add]
    simp only [h4]
end
theorem wkc_same {m b : Nat} {fr : List (TypeId × Nat)} : ∀ {as : List AV}, okBL m b as = true → WkC m b fr as as
  | [], _ => trivial
  | a :: as, h => by
    have h : (okB m b a && okBL m b as) = true := h
    rw [Bool.and_eq_true] at h
    exact ⟨.same _ h.1, wkc_same h.2⟩
theorem wkc_kv {α β : Type} [Enc α] [Enc β] {m b : Nat} {fr : List (TypeId × Nat)} {xs : List (α × β)} : WkC m b fr (kv xs) (kv xs) := by
  refine wkc_same (okBL_of fun a ha => ?_)
  obtain ⟨p, _, hp⟩ := List.mem_flatMap.1 ha
  rcases List.mem_cons.1 hp with rfl | hp
  · exact okB_enc _
  · rcases List.mem_cons.1 hp with rfl | hp
    · exact okB_enc _
    · cases hp
theorem wkc_FL {α : Type} [Enc α] {m b : Nat} {fr : List (TypeId × Nat)} {xs : List α} : WkC m b fr (FL xs) (FL xs) := by
  refine wkc_same (okBL_of fun a ha => ?_)
  unfold FL flatAV at ha
  obtain ⟨q, hq, ha⟩ := List.mem_flatMap.1 ha
  obtain ⟨x, _, rfl⟩ := List.mem_map.1 hq
  obtain ⟨cs, h1, _⟩ := Enc.cel x
  rw [h1] at ha
  obtain ⟨i, hi, rfl⟩ := List.getElem_of_mem ha
  exact okB_pur (purL_get (pur_cells (Enc.pure_enc x) h1) i hi)
theorem frz_kv {α β : Type} [Enc α] [Enc β] {m l sz : Nat} {ys : List AV} (xs : List (α × β)) : (kv xs).map (frz1 m l sz ys) = kv xs := by
  rw [List.map_congr_left (g := id) (fun a ha => ?_), List.map_id]
  obtain ⟨p, _, hp⟩ := List.mem_flatMap.1 ha
  rcases List.mem_cons.1 hp with rfl | hp
  · exact frz1_pur (Enc.pure_enc _)
  · rcases List.mem_cons.1 hp with rfl | hp
    · exact frz1_pur (Enc.pure_enc _)
    · cases hp
theorem ixr {P : Program} {s : St} {l : List AO} {K : St → Prop} {dst : Option Nat} {X : List AV} {n : Int} {a : AV} {t : Tag} {sz : Nat} {k : IntKind} (h : X[n.toNat]? = some a) (h0 : 0 ≤ n) (hK : RStep P l (s.next dst ⟨.cptr [a] 0 0, none, []⟩) K) : IxC sz (.slice t sz X) (.int k n) P s dst l K := by
  rw [ixc_raw, if_pos ⟨rfl, h0⟩, h, Option.map_some, qc_some]
  exact hK
section
variable {P : Program} {s : St} {l : List AO} {K : St → Prop} {dst : Option Nat}
end
theorem wka_full {α : Type} [Enc α] {m b : Nat} {fr : List (TypeId × Nat)} {sz : Nat} {xs : List α} : WkA m b fr (.slice .full sz (xs.map Enc.enc)) (.slice .full sz (xs.map Enc.enc)) := .same _ (okBL_enc xs)
theorem le_full0 {α : Type} [Enc α] {sz sz' : Nat} : LeA (.slice .full sz []) (.slice .full sz' (([] : List α).map Enc.enc)) := fun M v h => rep_sz h (.inr rfl)
theorem wka_full0 {α : Type} [Enc α] {m b : Nat} {fr : List (TypeId × Nat)} {sz sz' : Nat} : WkA m b fr (.slice .full sz []) (.slice .full sz' (([] : List α).map Enc.enc)) := .le _ _ le_full0 rfl
theorem le_eq {a b : AV} (h : a = b) : LeA a b := h ▸ le_same _
theorem bcontra {b : Bool} {G : Prop} (h1 : b = true) (h2 : b = false) : G := by rw [h1] at h2; cases h2
theorem z_succ (n : Nat) : (0 = n + 1) = False := by simp
theorem retTt {res : List RV} {as bs : List AV} {b1 b2 : AV} {j n : Nat} {ty : TypeId} {e : Exit} {s : St} (he : e = .normal ∨ e = .ret) (h : resL s res = some as) (hf : s.fr[j]? = some (ty, n)) (hL : RetL s.fr [j] as (b1 :: b2 :: bs)) : RetOk res (.tup (b1 :: b2 :: bs)) [(ty, n)] e s :=
  ⟨by rcases he with rfl | rfl <;> trivial, as, _, [j], h, hL, rfl, by simp, by simp [hf]⟩
theorem aw_ret_nil {P : Program} {K : Exit → St → Prop} {s : St} {k k2 sz sz' : Nat} {ty : TypeId} {v : AV} (hp : s.p = (0, 0)) (h : getT s.tm k = .slice .full sz' []) (h2 : getT s.tm k2 = v) (hv : pur v = true)
    (hK : AW P .ret K { n := s.n, tm := [(k2, v), (k, .slice (.app s.fr.length) sz [])], box := [], fr := s.fr ++ [(ty, 0)], p := s.p }) : AW P .ret K s :=
  aw_weak (t := { n := s.n, tm := [(k2, v), (k, .slice (.app s.fr.length) sz [])], box := [], fr := s.fr ++ [(ty, 0)], p := s.p }) ⟨rfl, ⟨rfl, by rw [hp]; exact Nat.zero_le _⟩, s.fr.length, [(ty, 0)], by simp, Nat.le_refl _, by rw [hp]; exact Nat.zero_le _, ⟨by rw [h2]; exact wka_pur hv, by rw [h]; exact .tag sz' sz [] s.fr.length ty (.inr rfl) (Nat.le_refl _) (by simp) rfl, trivial⟩, by cases s.box <;> trivial⟩ hK
attribute [irreducible] kv
end Go.Proofs.Ytkdodhkiemfpeaa
