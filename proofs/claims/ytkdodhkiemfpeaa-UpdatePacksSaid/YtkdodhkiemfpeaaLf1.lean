/- From a model's answer to the function's: maps. -/
import Derived.Test.YtkdodhkiemfpeaaLf0
namespace Go.Proofs.Ytkdodhkiemfpeaa
open Go.RowKit
set_option linter.unusedVariables false
set_option linter.unusedSimpArgs false

/-- Keys of a map, as they are compared. -/
class KeyE (α : Type) [Enc α] [DecidableEq α] where
  K : KeyK
  eq : ∀ a b : α, K.eq (Enc.enc a) (Enc.enc b) = some (decide (a = b))
  ok : ∀ a : α, keyOkA K (Enc.enc a) = true
instance keyInt : KeyE Int := ⟨.sc 0, fun a b => by
  show eqS 0 (.int .i64 a) (.int .i64 b) = _
  simp [eqS]
  by_cases h : a = b <;> simp [h], fun _ => rfl⟩
instance keyStr : KeyE Str := ⟨.sc 2, fun a b => by
  show eqS 2 (.str ⟨a.b.toArray⟩) (.str ⟨b.b.toArray⟩) = _
  simp only [eqS, ByteArray.toList_eq]
  congr 1
  cases a; cases b
  simp only [Str.mk.injEq]
  by_cases h : ‹List UInt8› = ‹List UInt8›
  all_goals (rw [Bool.eq_iff_iff]; simp), fun _ => rfl⟩
/-- A map's cells. -/
def kv {α β : Type} [Enc α] [Enc β] (m : List (α × β)) : List AV := m.flatMap fun p => [Enc.enc p.1, Enc.enc p.2]
theorem kv_cons {α β : Type} [Enc α] [Enc β] (p : α × β) (m : List (α × β)) : kv (p :: m) = Enc.enc p.1 :: Enc.enc p.2 :: kv m := rfl
theorem kv_append {α β : Type} [Enc α] [Enc β] (a b : List (α × β)) : kv (a ++ b) = kv a ++ kv b := by simp [kv]
theorem kv_len {α β : Type} [Enc α] [Enc β] : ∀ m : List (α × β), (kv m).length = 2 * m.length
  | [] => rfl
  | p :: m => by
    rw [kv_cons, List.length_cons, List.length_cons, kv_len m, List.length_cons]
    omega
theorem prc_mk (α β : Type) [Enc α] [Enc β] {P : Program} {s : St} {l : List AO} {K : St → Prop} {dst : Option Nat} {t : TypeId} (hK : RStep P l ({ s with box := s.box ++ [(t + 1099511627776, kv ([] : List (α × β)))] }.put dst (.mp s.box.length)) K) : PrC (.mkMap t) [] P s dst l K :=
  prc_out (p := (s.box ++ [(t + 1099511627776, [])], .mp s.box.length)) rfl hK
theorem get_fork {α β : Type} [DecidableEq α] {m : List (α × β)} {k : α} {R : Type} {r : R} {A : β → Option R} {B : Option R} (h : (bif mhas m k then bd (mget m k) A else B) = some r) : (∃ y, mget m k = some y ∧ A y = some r) ∨ (mget m k = none ∧ B = some r) := by
  rw [mhas_get] at h
  cases hg : mget m k with
  | none => rw [hg] at h; exact .inr ⟨rfl, h⟩
  | some y => rw [hg, bd_some] at h; exact .inl ⟨y, rfl, h⟩
section
variable {α β : Type} [Enc α] [Enc β] [DecidableEq α] [KeyE α]
theorem kv_find_none (k : α) : ∀ (m : List (α × β)) (i : Nat), mget m k = none → kvFind (KeyE.K α) (Enc.enc k) (kv m) i = some none ∧ msetL m k = (fun v => m ++ [(k, v)]) ∧ mdelL m k = m
  | [], i, _ => ⟨rfl, rfl, rfl⟩
  | (a, b) :: m, i, h => by
    rw [mget_eq, List.find?_cons] at h
    by_cases e : a = k
    · simp [e] at h
    · have h : mget m k = none := by rw [mget_eq]; simpa [e] using h
      obtain ⟨h1, h2, h3⟩ := kv_find_none k m (i + 1) h
      refine ⟨?_, ?_, ?_⟩
      · rw [kv_cons]
        simp only [kvFind, KeyE.eq]
        rw [show decide (k = a) = false from decide_eq_false (fun q => e q.symm)]
        exact h1
      · funext v
        rw [msetL, if_neg e, h2]
        rfl
      · rw [mdelL, if_neg e, h3]
theorem kv_find_some (k : α) : ∀ (m : List (α × β)) (i : Nat) (y : β), mget m k = some y → ∃ j, kvFind (KeyE.K α) (Enc.enc k) (kv m) i = some (some (i + j)) ∧ (kv m)[2 * j + 1]? = some (Enc.enc y) ∧
      (∀ v, kvPut (kv m) j (Enc.enc k) (Enc.enc v) = kv (msetL m k v)) ∧ kvDel (kv m) j = kv (mdelL m k)
  | [], i, y, h => by rw [mget_eq] at h; cases h
  | (a, b) :: m, i, y, h => by
    rw [mget_eq, List.find?_cons] at h
    by_cases e : a = k
    · subst e
      simp at h
      subst h
      refine ⟨0, ?_, by simp [kv_cons], fun v => ?_, ?_⟩
      · rw [kv_cons]
        simp only [kvFind, KeyE.eq, decide_true]
        rfl
      · rw [msetL, if_pos rfl, kv_cons, kv_cons]
        simp [kvPut]
      · rw [mdelL, if_pos rfl, kv_cons]
        simp [kvDel]
    · have h : mget m k = some y := by rw [mget_eq]; simpa [e] using h
      obtain ⟨j, h1, h2, h3, h4⟩ := kv_find_some k m (i + 1) y h
      refine ⟨j + 1, ?_, ?_, fun v => ?_, ?_⟩
      · rw [kv_cons]
        simp only [kvFind, KeyE.eq]
        rw [show decide (k = a) = false from decide_eq_false (fun q => e q.symm)]
        simp only
        rw [h1]
        congr 2
        omega
      · rw [kv_cons, show 2 * (j + 1) + 1 = 2 * j + 1 + 1 + 1 by omega, List.getElem?_cons_succ, List.getElem?_cons_succ]
        exact h2
      · rw [msetL, if_neg e, kv_cons, kv_cons, ← h3 v]
        unfold kvPut
        rw [show 2 * (j + 1) = 2 * j + 1 + 1 by omega, show 2 * j + 1 + 1 + 2 = 2 * j + 2 + 1 + 1 by omega]
        simp
      · rw [mdelL, if_neg e, kv_cons, kv_cons, ← h4]
        unfold kvDel
        rw [show 2 * (j + 1) = 2 * j + 1 + 1 by omega, show 2 * j + 1 + 1 + 2 = 2 * j + 2 + 1 + 1 by omega]
        simp
variable {P : Program} {s : St} {l : List AO} {K : St → Prop} {dst : Option Nat} {m zs : List (α × β)} {k : α} {v : β} {bl : Nat} {T : TypeId} {KK : KeyK} {ak av z : AV} {R : Type} {r : R} {A : β → Option R} {B : Option R}
theorem out_get (hb : s.box[bl]? = some (T, kv m)) (hT : 1099511627776 ≤ T) (hkk : KK = KeyE.K α) (hk : ak = Enc.enc k) (ok : Bool) :
    pout (.mapGet KK z ok) s.box [.mp bl, ak] = match mget m k with | some y => some (s.box, if ok then .tup [Enc.enc y, .bool true] else Enc.enc y) | none => some (s.box, if ok then .tup [z, .bool false] else z) := by
  subst hkk hk
  simp only [pout, hb]
  rw [if_pos ⟨hT, KeyE.ok k⟩]
  cases hg : mget m k with
  | none => rw [(kv_find_none k m 0 hg).1]
  | some y =>
    obtain ⟨j, h1, h2, _⟩ := kv_find_some k m 0 y hg
    rw [h1, Nat.zero_add]
    simp only [h2, Option.map_some]
theorem prc_get (h : (bif mhas m k then bd (mget m k) A else B) = some r) (hb : s.box[bl]? = some (T, kv m)) (hT : 1099511627776 ≤ T) (hkk : KK = KeyE.K α) (hk : ak = Enc.enc k)
    (h1 : ∀ y, mget m k = some y → A y = some r → RStep P l (s.put dst (.tup [Enc.enc y, .bool true])) K) (h2 : mget m k = none → B = some r → RStep P l (s.put dst (.tup [z, .bool false])) K) : PrC (.mapGet KK z true) [.mp bl, ak] P s dst l K := by
  have ho := out_get (z := z) hb hT hkk hk true
  rcases get_fork h with ⟨y, e1, e2⟩ | ⟨e1, e2⟩
  · rw [e1] at ho
    exact prc_out ho (h1 y e1 e2)
  · rw [e1] at ho
    exact prc_out ho (h2 e1 e2)
theorem prc_get0 (h : (bif mhas m k then bd (mget m k) A else B) = some r) (hb : s.box[bl]? = some (T, kv m)) (hT : 1099511627776 ≤ T) (hkk : KK = KeyE.K α) (hk : ak = Enc.enc k)
    (h1 : ∀ y, mget m k = some y → A y = some r → RStep P l (s.put dst (Enc.enc y)) K) (h2 : mget m k = none → B = some r → RStep P l (s.put dst z) K) : PrC (.mapGet KK z false) [.mp bl, ak] P s dst l K := by
  have ho := out_get (z := z) hb hT hkk hk false
  rcases get_fork h with ⟨y, e1, e2⟩ | ⟨e1, e2⟩
  · rw [e1] at ho
    exact prc_out ho (h1 y e1 e2)
  · rw [e1] at ho
    exact prc_out ho (h2 e1 e2)
theorem reps_le3 {a b c c' : AV} (h : LeA c c') (M : Mem) (vs : List Value) (k : Reps M vs [a, b, c]) : Reps M vs [a, b, c'] := by
  match vs, k with
  | [], k => exact absurd k.1 (by simp)
  | [_], k => exact absurd k.1 (by simp)
  | [_, _], k => exact absurd k.1 (by simp)
  | _ :: _ :: _ :: _ :: _, k => exact absurd k.1 (by simp)
  | [u, v, w], k =>
    obtain ⟨k1, k2⟩ := reps_uncons k
    obtain ⟨k2, k3⟩ := reps_uncons k2
    obtain ⟨k3, _⟩ := reps_uncons k3
    exact reps_cons k1 (reps_cons k2 (reps_cons (h M w k3) reps_nil))
theorem prc_set (h : ms m k v = some zs) (hb : s.box[bl]? = some (T, kv m)) (hT : 1099511627776 ≤ T) (hkk : KK = KeyE.K α) (hk : ak = Enc.enc k) (hv : LeA av (Enc.enc v))
    (hK : RStep P l ({ s with box := s.box.set bl (T, kv zs) }.put dst .nov) K) : PrC (.mapSet KK) [.mp bl, ak, av] P s dst l K := by
  rw [ms_eq] at h
  injection h with h
  subst h
  subst hkk hk
  cases hg : mget m k with
  | none =>
    obtain ⟨h1, h2, _⟩ := kv_find_none k m 0 hg
    have e : kv m ++ [Enc.enc k, Enc.enc v] = kv (msetL m k v) := by rw [h2, kv_append]; rfl
    refine prc_le (p := (s.box.set bl (T, kv (msetL m k v)), .nov)) (reps_le3 hv) ?_ hK
    simp only [pout, hb]
    rw [if_pos ⟨hT, KeyE.ok k⟩, h1]
    simp only [e]
  | some y =>
    obtain ⟨j, h1, _, h3, _⟩ := kv_find_some k m 0 y hg
    refine prc_le (p := (s.box.set bl (T, kv (msetL m k v)), .nov)) (reps_le3 hv) ?_ hK
    simp only [pout, hb]
    rw [if_pos ⟨hT, KeyE.ok k⟩, h1, Nat.zero_add]
    simp only [h3 v]
theorem prc_del (h : md m k = some zs) (hb : s.box[bl]? = some (T, kv m)) (hT : 1099511627776 ≤ T) (hkk : KK = KeyE.K α) (hk : ak = Enc.enc k)
    (hK : RStep P l ({ s with box := s.box.set bl (T, kv zs) }.put dst (.tup [])) K) : PrC (.mapDel KK) [.mp bl, ak] P s dst l K := by
  rw [md_eq] at h
  injection h with h
  subst h
  subst hkk hk
  have hlt := (List.getElem?_eq_some_iff.1 hb).1
  cases hg : mget m k with
  | none =>
    obtain ⟨h1, _, h3⟩ := kv_find_none k m 0 hg
    refine prc_out (p := (s.box, .tup [])) ?_ ?_
    · simp only [pout, hb]
      rw [if_pos ⟨hT, KeyE.ok k⟩, h1]
    · have e : s.box.set bl (T, kv (mdelL m k)) = s.box := by
        rw [h3]
        apply List.ext_getElem?
        intro i
        rw [List.getElem?_set]
        split
        · rename_i hi; subst hi; exact hb.symm
        · rfl
      rw [e] at hK
      exact hK
  | some y =>
    obtain ⟨j, h1, _, _, h4⟩ := kv_find_some k m 0 y hg
    refine prc_out (p := (s.box.set bl (T, kv (mdelL m k)), .tup [])) ?_ hK
    simp only [pout, hb]
    rw [if_pos ⟨hT, KeyE.ok k⟩, h1, Nat.zero_add]
    simp only [h4]
end
theorem prc_len {α β : Type} [Enc α] [Enc β] {P : Program} {s : St} {l : List AO} {K : St → Prop} {dst : Option Nat} {m : List (α × β)} {bl : Nat} {T : TypeId} (hb : s.box[bl]? = some (T, kv m)) (hT : 1099511627776 ≤ T) (hK : RStep P l (s.put dst (.int .i64 (m.length : Int))) K) : PrC .mapLen [.mp bl] P s dst l K := by
  refine prc_out (p := (s.box, .int .i64 (m.length : Int))) ?_ hK
  simp only [pout, hb]
  rw [if_pos hT, kv_len, Nat.mul_div_cancel_left _ (by decide)]
theorem wkc_same {m b : Nat} {fr : List (TypeId × Nat)} : ∀ {as : List AV}, okBL m b as = true → WkC m b fr as as
  | [], _ => trivial
  | a :: as, h => by
    have h : (okB m b a && okBL m b as) = true := h
    rw [Bool.and_eq_true] at h
    exact ⟨.same _ h.1, wkc_same h.2⟩
theorem wkc_kv {α β : Type} [Enc α] [Enc β] {m b : Nat} {fr : List (TypeId × Nat)} {xs : List (α × β)} : WkC m b fr (kv xs) (kv xs) := by
  refine wkc_same (okBL_of fun a ha => ?_)
  obtain ⟨p, _, hp⟩ := List.mem_flatMap.1 ha
  rcases List.mem_cons.1 hp with rfl | hp
  · exact okB_enc _
  · rcases List.mem_cons.1 hp with rfl | hp
    · exact okB_enc _
    · cases hp
theorem wkc_FL {α : Type} [Enc α] {m b : Nat} {fr : List (TypeId × Nat)} {xs : List α} : WkC m b fr (FL xs) (FL xs) := by
  refine wkc_same (okBL_of fun a ha => ?_)
  unfold FL flatAV at ha
  obtain ⟨q, hq, ha⟩ := List.mem_flatMap.1 ha
  obtain ⟨x, _, rfl⟩ := List.mem_map.1 hq
  obtain ⟨cs, h1, _⟩ := Enc.cel x
  rw [h1] at ha
  obtain ⟨i, hi, rfl⟩ := List.getElem_of_mem ha
  exact okB_pur (purL_get (pur_cells (Enc.pure_enc x) h1) i hi)
theorem frz_kv {α β : Type} [Enc α] [Enc β] {m l sz : Nat} {ys : List AV} (xs : List (α × β)) : (kv xs).map (frz1 m l sz ys) = kv xs := by
  rw [List.map_congr_left (g := id) (fun a ha => ?_), List.map_id]
  obtain ⟨p, _, hp⟩ := List.mem_flatMap.1 ha
  rcases List.mem_cons.1 hp with rfl | hp
  · exact frz1_pur (Enc.pure_enc _)
  · rcases List.mem_cons.1 hp with rfl | hp
    · exact frz1_pur (Enc.pure_enc _)
    · cases hp
theorem ixr {P : Program} {s : St} {l : List AO} {K : St → Prop} {dst : Option Nat} {X : List AV} {n : Int} {a : AV} {t : Tag} {sz : Nat} {k : IntKind} (h : X[n.toNat]? = some a) (h0 : 0 ≤ n) (hK : RStep P l (s.next dst ⟨.cptr [a] 0 0, none, []⟩) K) : IxC sz (.slice t sz X) (.int k n) P s dst l K := by
  rw [ixc_raw, if_pos ⟨rfl, h0⟩, h, Option.map_some, qc_some]
  exact hK
/-- Lists that are made, and copied into. -/
theorem FL_cons {α : Type} [Enc α] {x : α} {xs : List α} {cs : List AV} (h : cellsOf (Enc.enc x) = some cs) : FL (x :: xs) = cs ++ FL xs := by
  unfold FL flatAV
  simp [h]
theorem FL_append {α : Type} [Enc α] (a b : List α) : FL (a ++ b) = FL a ++ FL b := by
  unfold FL flatAV
  simp
theorem FL_take {α : Type} [Enc α] : ∀ (k : Nat) (xs : List α), (FL xs).take (k * Enc.sz α) = FL (xs.take k)
  | 0, xs => by rw [Nat.zero_mul, List.take_zero, List.take_zero]; unfold FL flatAV; rfl
  | k + 1, [] => by unfold FL flatAV; simp
  | k + 1, x :: xs => by
    obtain ⟨cs, h1, h2⟩ := Enc.cel x
    rw [FL_cons h1, List.take_succ_cons, FL_cons h1, ← FL_take k xs, List.take_append, h2, Nat.succ_mul, Nat.add_sub_cancel, List.take_of_length_le (by rw [h2]; omega)]
theorem FL_drop {α : Type} [Enc α] : ∀ (k : Nat) (xs : List α), (FL xs).drop (k * Enc.sz α) = FL (xs.drop k)
  | 0, xs => by rw [Nat.zero_mul, List.drop_zero, List.drop_zero]
  | k + 1, [] => by unfold FL flatAV; simp
  | k + 1, x :: xs => by
    obtain ⟨cs, h1, h2⟩ := Enc.cel x
    rw [FL_cons h1, List.drop_succ_cons, ← FL_drop k xs, List.drop_append, h2, Nat.succ_mul, Nat.add_sub_cancel, List.drop_eq_nil_of_le (by rw [h2]; omega), List.nil_append]
theorem FL_rep {α : Type} [Enc α] {z : α} {zc : List AV} (h : cellsOf (Enc.enc z) = some zc) : ∀ n : Nat, (List.replicate n zc).flatten = FL (List.replicate n z)
  | 0 => by unfold FL flatAV; rfl
  | n + 1 => by rw [List.replicate_succ, List.replicate_succ, List.flatten_cons, FL_cons h, FL_rep h n]
theorem FL_put {α : Type} [Enc α] {xs ys : List α} {off m : Nat} (hm : m = ys.length) : putCells (FL xs) (off * Enc.sz α) (FL ys) = FL (xs.take off ++ ys ++ xs.drop (off + m)) := by
  unfold putCells
  rw [flat_len ys, ← Nat.add_mul, FL_take, FL_drop, FL_append, FL_append, hm]
section
variable {P : Program} {s : St} {l : List AO} {K : St → Prop} {dst : Option Nat}
theorem prc_make {α : Type} [Enc α] {z : α} {zs : List α} {e : TypeId} {sz bytes : Nat} {zc : List AV} {n : Int} {k k' : IntKind} (h : mkz bytes z n = some zs) (hz : cellsOf (Enc.enc z) = some zc) (hT : e < 1099511627776)
    (hK : RStep P l ({ s with box := s.box ++ [(e, FL zs)] }.put dst (.bsl s.box.length 0 n.toNat sz (n.toNat + 1))) K) : PrC (.mkSl e sz bytes zc) [.int k n, .int k' n] P s dst l K := by
  rw [mkz_eq] at h
  split at h
  rotate_left
  · cases h
  rename_i hc
  injection h with h
  subst h
  refine prc_out (p := (s.box ++ [(e, FL (List.replicate n.toNat z))], .bsl s.box.length 0 n.toNat sz (n.toNat + 1))) ?_ hK
  simp only [pout]
  rw [if_pos ⟨trivial, hc.1, hc.2.1, hc.2.2, hT⟩, FL_rep hz]
theorem cut_bsl {sz bl off n q a b : Nat} {lo hi : Option AV} (ha : asNatO 0 lo = some a) (hb : asNatO n hi = some b) (h1 : a < b) (h2 : b ≤ n) : cutAV sz (.bsl bl off n sz q) lo hi none = some (.bsl bl (off + a) (b - a) sz (q - a)) := by
  simp only [cutAV, ha, hb]
  rw [if_pos ⟨trivial, h1, h2, rfl⟩]
theorem slb10 {sz bl off n q : Nat} {k : IntKind} {lo : Int} {u : Unit} (h : slb n lo n = some u) (hK : RStep P l (s.next dst ⟨.bsl bl (off + lo.toNat) (n - lo.toNat) sz (q - lo.toNat), none, []⟩) K) : SlC sz (.bsl bl off n sz q) (some (.int k lo)) none none P s dst l K := by
  obtain ⟨h1, h2, h3⟩ := slb_get h
  rw [slc_raw, cut_bsl (a := lo.toNat) (b := n) (by simp [asNatO, asNat, h1]) rfl (by omega) (Nat.le_refl _), Option.map_some, qc_some]
  exact hK
theorem slb01 {sz bl off n q : Nat} {k : IntKind} {hi : Int} {u : Unit} (h : slb n 0 hi = some u) (hK : RStep P l (s.next dst ⟨.bsl bl (off + 0) (hi.toNat - 0) sz (q - 0), none, []⟩) K) : SlC sz (.bsl bl off n sz q) none (some (.int k hi)) none P s dst l K := by
  obtain ⟨h1, h2, h3⟩ := slb_get h
  rw [slc_raw, cut_bsl (a := 0) (b := hi.toNat) rfl (by simp [asNatO, asNat]; omega) (by omega) (by omega), Option.map_some, qc_some]
  exact hK
theorem prc_cps {α : Type} [Enc α] {xs ys zs : List α} {T : TypeId} {bl off n sz q sz'' : Nat} {tg : Tag} {X : List AV} (h : cpn xs off n ys = some zs) (hb : s.box[bl]? = some (T, FL xs)) (hX : X = ys.map Enc.enc) (hsz : sz = Enc.sz α) (h0 : sz'' = sz ∨ X.length = 0) (hT : T < 1099511627776)
    (hK : RStep P l ({ s with box := s.box.set bl (T, FL zs) }.put dst (.int .i64 ((min ys.length n : Nat) : Int))) K) : PrC (.copy sz) [.bsl bl off n sz q, .slice tg sz'' X] P s dst l K := by
  rw [cpn_eq] at h
  split at h
  rotate_left
  · cases h
  rename_i hc
  injection h with h
  subst hX
  have hl : (ys.map Enc.enc).length = ys.length := List.length_map _
  have c4 : off * sz + min ys.length n * sz ≤ (FL xs).length := by
    rw [hsz, flat_len, ← Nat.add_mul]
    exact Nat.mul_le_mul_right _ hc
  refine prc_out (p := (s.box.set bl (T, FL zs), .int .i64 ((min ys.length n : Nat) : Int))) ?_ hK
  simp only [pout, hb]
  rw [hl, if_pos ⟨trivial, by rw [hl] at h0; exact h0, hT, c4, enc_some ys⟩]
  · have e : flatAV ((ys.map Enc.enc).take (min ys.length n)) = FL (ys.take (min ys.length n)) := by unfold FL; rw [List.map_take]
    rw [e, hsz, FL_put (m := min ys.length n) (by rw [List.length_take]; omega), h]
theorem prc_cpb {α : Type} [Enc α] {xs xs' ys zs : List α} {T T' : TypeId} {bl off n sz q bl' off' n' q' : Nat} (hy : sub xs' off' n' = some ys) (h : cpn xs off n ys = some zs) (hb : s.box[bl]? = some (T, FL xs)) (hb' : s.box[bl']? = some (T', FL xs')) (hsz : sz = Enc.sz α) (hT : T < 1099511627776) (hT' : T' < 1099511627776)
    (hK : RStep P l ({ s with box := s.box.set bl (T, FL zs) }.put dst (.int .i64 ((min n' n : Nat) : Int))) K) : PrC (.copy sz) [.bsl bl off n sz q, .bsl bl' off' n' sz q'] P s dst l K := by
  rw [sub_eq] at hy
  split at hy
  rotate_left
  · cases hy
  rename_i hc'
  injection hy with hy
  have hyl : ys.length = n' := by rw [← hy, List.length_take, List.length_drop]; omega
  rw [cpn_eq, hyl] at h
  split at h
  rotate_left
  · cases h
  rename_i hc
  injection h with h
  have c4 : off * sz + min n' n * sz ≤ (FL xs).length := by
    rw [hsz, flat_len, ← Nat.add_mul]
    exact Nat.mul_le_mul_right _ hc
  have c5 : off' * sz + min n' n * sz ≤ (FL xs').length := by
    rw [hsz, flat_len, ← Nat.add_mul]
    exact Nat.mul_le_mul_right _ (by omega)
  refine prc_out (p := (s.box.set bl (T, FL zs), .int .i64 ((min n' n : Nat) : Int))) ?_ hK
  simp only [pout, hb, hb']
  rw [if_pos ⟨trivial, trivial, hT, hT', c4, c5⟩]
  · rw [hsz, FL_drop, FL_take]
    have e : (xs'.drop off').take (min n' n) = ys.take (min n' n) := by rw [← hy, List.take_take]; congr 1; omega
    rw [e, FL_put (m := min n' n) (by rw [List.length_take]; omega), h]
end
theorem wka_full {α : Type} [Enc α] {m b : Nat} {fr : List (TypeId × Nat)} {sz : Nat} {xs : List α} : WkA m b fr (.slice .full sz (xs.map Enc.enc)) (.slice .full sz (xs.map Enc.enc)) := .same _ (okBL_enc xs)
theorem le_full0 {α : Type} [Enc α] {sz sz' : Nat} : LeA (.slice .full sz []) (.slice .full sz' (([] : List α).map Enc.enc)) := fun M v h => rep_sz h (.inr rfl)
theorem wka_full0 {α : Type} [Enc α] {m b : Nat} {fr : List (TypeId × Nat)} {sz sz' : Nat} : WkA m b fr (.slice .full sz []) (.slice .full sz' (([] : List α).map Enc.enc)) := .le _ _ le_full0 rfl
theorem le_eq {a b : AV} (h : a = b) : LeA a b := h ▸ le_same _
theorem bcontra {b : Bool} {G : Prop} (h1 : b = true) (h2 : b = false) : G := by rw [h1] at h2; cases h2
theorem z_succ (n : Nat) : (0 = n + 1) = False := by simp
theorem retTt {res : List RV} {as bs : List AV} {b1 b2 : AV} {j n : Nat} {ty : TypeId} {e : Exit} {s : St} (he : e = .normal ∨ e = .ret) (h : resL s res = some as) (hf : s.fr[j]? = some (ty, n)) (hL : RetL s.fr [j] as (b1 :: b2 :: bs)) : RetOk res (.tup (b1 :: b2 :: bs)) [(ty, n)] e s :=
  ⟨by rcases he with rfl | rfl <;> trivial, as, _, [j], h, hL, rfl, by simp, by simp [hf]⟩
theorem aw_ret_nil {P : Program} {K : Exit → St → Prop} {s : St} {k k2 sz sz' : Nat} {ty : TypeId} {v : AV} (hp : s.p = (0, 0)) (h : getT s.tm k = .slice .full sz' []) (h2 : getT s.tm k2 = v) (hv : pur v = true)
    (hK : AW P .ret K { n := s.n, tm := [(k2, v), (k, .slice (.app s.fr.length) sz [])], box := [], fr := s.fr ++ [(ty, 0)], p := s.p }) : AW P .ret K s :=
  aw_weak (t := { n := s.n, tm := [(k2, v), (k, .slice (.app s.fr.length) sz [])], box := [], fr := s.fr ++ [(ty, 0)], p := s.p }) ⟨rfl, ⟨rfl, by rw [hp]; exact Nat.zero_le _⟩, s.fr.length, [(ty, 0)], by simp, Nat.le_refl _, by rw [hp]; exact Nat.zero_le _, ⟨by rw [h2]; exact wka_pur hv, by rw [h]; exact .tag sz' sz [] s.fr.length ty (.inr rfl) (Nat.le_refl _) (by simp) rfl, trivial⟩, by cases s.box <;> trivial⟩ hK
attribute [irreducible] kv
end Go.Proofs.Ytkdodhkiemfpeaa
