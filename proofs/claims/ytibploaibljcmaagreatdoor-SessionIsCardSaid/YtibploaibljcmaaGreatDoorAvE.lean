import Derived.Test.YtibploaibljcmaaGreatDoorAv5
import Derived.Laws.BytesArg
import Derived.Laws.IdiomStrings
namespace Go.Proofs.YtibploaibljcmaaGreatDoor
open Go.RowKit
set_option linter.unusedVariables false
set_option linter.unusedSimpArgs false
set_option maxHeartbeats 1000000
section
variable {X : Cx} {M : Mem} {σ σt : Nat → Option (TypeId × List AV)} {w : World}
def EqCells (P : Program) (w : World) (D : Nat) (t : TypeId) (a b : Value) (r : Bool) : Prop := (Op.equalIn D t a b).run P w = .ok r w
theorem eqL_append (xs ys : List AV) : ∀ (L L' : List (Nat × Nat)) (r : Bool), eqL xs ys (L ++ L') = some r → ∃ r1 r2, eqL xs ys L = some r1 ∧ eqL xs ys L' = some r2 ∧ r = (r1 && r2)
 | [], L', r, h => ⟨true, r, rfl, h, by simp⟩
 | o :: L, L', r, h => by
   simp only [List.cons_append, eqL] at h
   split at h
   rotate_left
   · cases h
   rename_i a b ha hb
   split at h
   rotate_left
   · cases h
   rename_i q hq
   obtain ⟨p, hp, rfl⟩ := Option.map_eq_some_iff.1 h
   obtain ⟨r1, r2, h1, h2, rfl⟩ := eqL_append xs ys L L' p hp
   exact ⟨q && r1, r2, by simp [eqL, ha, hb, hq, h1], h2, by rw [Bool.and_assoc]⟩
theorem extract_at {α : Type} (X : Array α) (b e k : Nat) (h : b + k < e) : (X.extract b e)[k]? = X[b + k]? := by
 rw [Array.getElem?_extract]
 by_cases h2 : b + k < X.size
 · rw [if_pos (by omega)]
 · rw [if_neg (by omega), Array.getElem?_eq_none (by omega)]
theorem extract_extract' {α : Type} (X : Array α) (b n o k : Nat) (h : o + k ≤ n) : (X.extract b (b + n)).extract o (o + k) = X.extract (b + o) (b + o + k) := by
 apply Array.ext'
 rw [Array.toList_extract, Array.toList_extract, Array.toList_extract]
 simp only [List.extract_eq_take_drop, List.drop_take, List.take_take, List.drop_drop]
 congr 1
 omega
theorem run_part {P : Program} {w : World} {t : TypeId} {cs : Array Value} {off : Nat} {d : TypeDesc} (hu : P.underlying t = some d) : (aggD d = false → ∀ v, cs[off]? = some v → (part t cs off).run P w = .ok v w) ∧
   (aggD d = true → ∀ i, P.info? t = some i → (part t cs off).run P w = .ok (.agg (cs.extract off (off + i.size))) w) := by
 have hg : (isAgg t).run P w = .ok (aggD d) w := by
   unfold isAgg
   rw [Sem.run_bind, run_underlying hu w]
   cases d <;> rfl
 constructor
 · intro h v hv
   rw [h] at hg
   simp [part, Sem.run_bind, hg, hv]
 · intro h i hi
   rw [h] at hg
   simp [part, Sem.run_bind, hg, sizeOf, typeInfo, hi]
theorem run_eqS {P : Program} {w : World} {D : Nat} {t : TypeId} {u v : Value} {a b : AV} {k : Nat} {r : Bool} (hu : Rep M u a) (hv : Rep M v b) (ht : (k = 0 ∧ ∃ kd, P.underlying t = some (.int kd)) ∨ (k = 1 ∧ P.underlying t = some .bool) ∨ (k = 2 ∧ P.underlying t = some .string)) (h : eqS k a b = some r) :
   (Op.equalIn (D + 1) t u v).run P w = .ok r w := by
 unfold eqS at h
 split at h
 · obtain ⟨kd, ht⟩ := (ht.resolve_right (by simp)).2
   obtain rfl := rep_int hu
   obtain rfl := rep_int hv
   split at h
   · rename_i hk
     subst hk
     injection h with h
     subst h
     exact run_equalIn_int w D t _ kd _ _ ht
   · cases h
 · have ht : P.underlying t = some .bool := by simpa using ht
   obtain rfl := rep_bool hu
   obtain rfl := rep_bool hv
   injection h with h
   subst h
   exact run_equalIn_bool' w D t _ _ ht
 · have ht : P.underlying t = some .string := by simpa using ht
   obtain rfl := rep_str hu
   obtain rfl := rep_str hv
   injection h with h
   subst h
   exact run_equalIn_string w D t _ _ ht
 · cases h
def LeavesOk (P : Program) (M : Mem) (w : World) (X Y : Array Value) (xs ys : List AV) (D : Nat) (t : TypeId) (base : Nat) (L : List (Nat × Nat)) : Prop :=
 ∀ r, eqL xs ys L = some r → ∀ d, P.underlying t = some d →
   (aggD d = false → ∃ a b, X[base]? = some a ∧ Y[base]? = some b ∧ (Op.equalIn D t a b).run P w = .ok r w) ∧
   (aggD d = true → ∀ i, P.info? t = some i → (Op.equalIn D t (.agg (X.extract base (base + i.size))) (.agg (Y.extract base (base + i.size)))).run P w = .ok r w)
theorem leavesF_ok {P : Program} {w : World} {X Y : Array Value} {xs ys : List AV} {D sz base : Nat} {go : TypeId → Nat → Option (List (Nat × Nat))} (hgo : ∀ t b L, go t b = some L → (∃ d, P.underlying t = some d) ∧ LeavesOk P M w X Y xs ys D t b L) :
   ∀ (fs : List Field) (L : List (Nat × Nat)) (r : Bool), leavesF P sz base go fs = some L → eqL xs ys L = some r → (Op.eqFields D (X.extract base (base + sz)) (Y.extract base (base + sz)) fs).run P w = .ok r w
 | [], L, r, h, hr => by
   simp only [leavesF, Option.some.injEq] at h
   subst h
   simp only [eqL, Option.some.injEq] at hr
   subst hr
   rfl
 | f :: fs, L, r, h, hr => by
   simp only [leavesF] at h
   split at h
   rotate_left
   · cases h
   rename_i fi hfi
   split at h
   rotate_left
   · cases h
   rename_i hc
   obtain ⟨c1, c2, c3⟩ := hc
   split at h
   rotate_left
   · cases h
   rename_i L1 L2 h1 h2
   injection h with h
   subst h
   obtain ⟨r1, r2, e1, e2, rfl⟩ := eqL_append xs ys L1 L2 r hr
   obtain ⟨⟨d, hd⟩, hok⟩ := hgo _ _ _ h1
   obtain ⟨k1, k2⟩ := hok r1 e1 d hd
   have ih := leavesF_ok hgo fs L2 r2 h2 e2
   simp only [Op.eqFields, if_pos c1]
   cases hag : aggD d with
   | false =>
     obtain ⟨a, b, ha, hb, hrun⟩ := k1 hag
     have pa := (run_part (w := w) (cs := X.extract base (base + sz)) (off := f.offset) hd).1 hag a (by rw [extract_at X base (base + sz) f.offset (by omega)]; exact ha)
     have pb := (run_part (w := w) (cs := Y.extract base (base + sz)) (off := f.offset) hd).1 hag b (by rw [extract_at Y base (base + sz) f.offset (by omega)]; exact hb)
     simp only [Sem.run_bind, pa, pb, hrun, Result.andThen_ok]
     cases r1
     · simp
     · simp [ih]
   | true =>
     have hrun := k2 hag fi hfi
     have pa := (run_part (w := w) (cs := X.extract base (base + sz)) (off := f.offset) hd).2 hag fi hfi
     have pb := (run_part (w := w) (cs := Y.extract base (base + sz)) (off := f.offset) hd).2 hag fi hfi
     rw [extract_extract' X base sz f.offset fi.size c2] at pa
     rw [extract_extract' Y base sz f.offset fi.size c2] at pb
     simp only [Sem.run_bind, pa, pb, hrun, Result.andThen_ok]
     cases r1
     · simp
     · simp [ih]
theorem leaves_ok {P : Program} {w : World} {X Y : Array Value} {xs ys : List AV} (hx : Reps M X.toList xs) (hy : Reps M Y.toList ys) : ∀ (d D : Nat) (t : TypeId) (base : Nat) (L : List (Nat × Nat)), leaves P d t base = some L → (∃ d, P.underlying t = some d) ∧ LeavesOk P M w X Y xs ys (d + D) t base L
 | 0, D, t, base, L, h => by simp [leaves] at h
 | d + 1, D, t, base, L, h => by
   have one : ∀ k, L = [(base, k)] → ((k = 0 ∧ ∃ kd, P.underlying t = some (.int kd)) ∨ (k = 1 ∧ P.underlying t = some .bool) ∨ (k = 2 ∧ P.underlying t = some .string)) → LeavesOk P M w X Y xs ys (d + 1 + D) t base L := fun k hL hk r hr dd hdd => by
     subst hL
     have hnag : aggD dd = false := by
       rcases hk with ⟨_, kd, hk⟩ | ⟨_, hk⟩ | ⟨_, hk⟩ <;> (rw [hk] at hdd; injection hdd with hdd; subst hdd; rfl)
     refine ⟨fun _ => ?_, (fun e => by rw [hnag] at e; cases e)⟩
     simp only [eqL] at hr
     split at hr
     rotate_left
     · cases hr
     rename_i a b ha hb
     split at hr
     rotate_left
     · cases hr
     rename_i q hq
     simp at hr
     subst hr
     obtain ⟨u, hu, hru⟩ := reps_get hx ha
     obtain ⟨v, hv, hrv⟩ := reps_get hy hb
     refine ⟨u, v, by simpa using hu, by simpa using hv, ?_⟩
     rw [show d + 1 + D = (d + D) + 1 by omega]
     exact run_eqS hru hrv hk hq
   simp only [leaves] at h
   split at h
   · rename_i fs hfs
     split at h
     rotate_left
     · cases h
     rename_i i hi
     split at h
     · cases h
     rename_i hst
     refine ⟨⟨_, hfs⟩, fun r hr dd hdd => ?_⟩
     rw [hfs] at hdd
     injection hdd with hdd
     subst hdd
     refine ⟨(fun e => by cases e), fun _ i' hi' => ?_⟩
     obtain rfl : i = i' := Option.some.inj (hi.symm.trans hi')
     have hft : P.fieldsOf t = fs := by simp [Program.fieldsOf, hfs]
     have hrun := leavesF_ok (w := w) (X := X) (Y := Y) (D := d + D) (fun t b L hL => leaves_ok hx hy d D t b L hL) fs.toList L r h hr
     rw [show d + 1 + D = (d + D) + 1 by omega, run_equalIn_struct w (d + D) t _ _ (by rw [hft]; exact hfs) (by simpa using hst), hft]
     exact hrun
   · rename_i kd hk
     injection h with h
     exact ⟨⟨_, hk⟩, one 0 h.symm (.inl ⟨rfl, kd, hk⟩)⟩
   · rename_i hk
     injection h with h
     exact ⟨⟨_, hk⟩, one 1 h.symm (.inr (.inl ⟨rfl, hk⟩))⟩
   · rename_i hk
     injection h with h
     exact ⟨⟨_, hk⟩, one 2 h.symm (.inr (.inr ⟨rfl, hk⟩))⟩
   · cases h
theorem run_eqA {neg : Bool} {t : TypeId} {x y : Operand} {L : List (Nat × Nat)} {fs : Array Field} (ht : X.P.underlying t = some (.struct fs)) (hL : leaves X.P 8 t 0 = some L) (hg : X.P.eqGuardType X.P.depth t = false) {u v : Value} {xs ys : List AV} (hu : Rep M u (.agg xs)) (hv : Rep M v (.agg ys)) {i : TypeInfo} (hi : X.P.info? t = some i)
   (hx : xs.length = i.size) (hy : ys.length = i.size) {r : Bool} (hr : eqL xs ys L = some r) :
   (do eqGuard (if neg then .neq else .eql) t x y u v; binOp (if neg then .neq else .eql) t u v : Sem Value).run X.P w = .ok (.bool (if neg then !r else r)) w := by
 cases hu with
 | agg us _ hl h1 hru =>
 cases hv with
 | agg vs _ kl k1 krv =>
 obtain ⟨_, hok⟩ := leaves_ok (w := w) (P := X.P) (M := M) (X := us.toArray) (Y := vs.toArray) ⟨hl, hru⟩ ⟨kl, krv⟩ 8 9992 t 0 L hL
 have := (hok r hr _ ht).2 rfl i hi
 have e1 : us.toArray.extract 0 (0 + i.size) = us.toArray := by
   apply Array.ext'
   simp only [Array.toList_extract, List.extract_eq_take_drop, List.drop_zero, Nat.zero_add, Nat.sub_zero]
   exact List.take_of_length_le (by rw [hl, hx]; exact Nat.le_refl _)
 have e2 : vs.toArray.extract 0 (0 + i.size) = vs.toArray := by
   apply Array.ext'
   simp only [Array.toList_extract, List.extract_eq_take_drop, List.drop_zero, Nat.zero_add, Nat.sub_zero]
   exact List.take_of_length_le (by rw [kl, hy]; exact Nat.le_refl _)
 rw [e1, e2] at this
 cases neg
 · rw [Sem.run_bind, run_eqGuard_agg w _ t x y _ _ hg, Result.andThen_ok]
   show (binOp .eql t _ _).run _ _ = _
   rw [run_eql_struct, this]
   rfl
 · rw [Sem.run_bind, run_eqGuard_agg w _ t x y _ _ hg, Result.andThen_ok]
   show (binOp .neq t _ _).run _ _ = _
   rw [run_neq_struct, this]
   rfl
theorem run_equalA {t : TypeId} {L : List (Nat × Nat)} {fs : Array Field} {P : Program} {w : World} {M : Mem} (ht : P.underlying t = some (.struct fs)) {i : TypeInfo} (hi : P.info? t = some i) (hL : leaves P 8 t 0 = some L) {u v : Value} {xs ys : List AV} (hu : Rep M u (.agg xs)) (hv : Rep M v (.agg ys))
   (hx : xs.length = i.size) (hy : ys.length = i.size) {r : Bool} (hr : eqL xs ys L = some r) : (Op.equal t u v).run P w = .ok r w := by
 cases hu with
 | agg us _ hl h1 hru =>
 cases hv with
 | agg vs _ kl k1 krv =>
 obtain ⟨_, hok⟩ := leaves_ok (w := w) (P := P) (M := M) (X := us.toArray) (Y := vs.toArray) ⟨hl, hru⟩ ⟨kl, krv⟩ 8 9992 t 0 L hL
 have := (hok r hr _ ht).2 rfl i hi
 have e1 : us.toArray.extract 0 (0 + i.size) = us.toArray := by
   apply Array.ext'
   simp only [Array.toList_extract, List.extract_eq_take_drop, List.drop_zero, Nat.zero_add, Nat.sub_zero]
   exact List.take_of_length_le (by rw [hl, hx]; exact Nat.le_refl _)
 have e2 : vs.toArray.extract 0 (0 + i.size) = vs.toArray := by
   apply Array.ext'
   simp only [Array.toList_extract, List.extract_eq_take_drop, List.drop_zero, Nat.zero_add, Nat.sub_zero]
   exact List.take_of_length_le (by rw [kl, hy]; exact Nat.le_refl _)
 rw [e1, e2] at this
 exact this
theorem bytes_reps : ∀ {vs : List Value} {as : List AV} {l : List UInt8}, Reps M vs as → bytesOf as = some l → vs = l.map (fun b => Value.int .u8 (b.toNat : Int))
 | [], [], l, _, h => by
   simp only [bytesOf, Option.some.injEq] at h
   subst h
   rfl
 | [], _ :: _, l, k, _ => absurd k.1 (by simp)
 | _ :: _, [], l, k, _ => absurd k.1 (by simp)
 | v :: vs, a :: as, l, k, h => by
   obtain ⟨k1, k2⟩ := reps_uncons k
   unfold bytesOf at h
   split at h
   · rename_i e
     cases e
   · rename_i n r e
     injection e with e1 e2
     subst e1 e2
     split at h
     · rename_i hn
       obtain ⟨l', hl', rfl⟩ := Option.map_eq_some_iff.1 h
       rw [rep_int k1, bytes_reps k2 hl', List.map_cons]
       congr 2
       rw [UInt8.toNat_ofNat']
       omega
     · cases h
   · cases h
theorem run_b2s (hm : MR X M σ w) {src dst e : TypeId} (hs : X.P.underlying src = some (.slice e)) (he : X.P.underlying e = some (.int .u8)) (hd : X.P.underlying dst = some .string) {v : Value} {t : Tag} {sz : Nat} {as : List AV} {l : List UInt8}
   (hv : Rep M v (.slice t sz as)) (h1 : sz = 1 ∨ as.length = 0) (hl : bytesOf as = some l) : (convert src dst v).run X.P w = .ok (.string ⟨l.toArray⟩) w := by
 cases hv with
 | slice _ A n c _ vs _ hvl hn hc hmx hel hA hr ht =>
   have hvs := bytes_reps ⟨hvl, hr⟩ hl
   have hfl : flat vs = vs := by
     rw [hvs]
     have : ∀ l : List UInt8, flat (l.map fun b => Value.int .u8 (b.toNat : Int)) = l.map fun b => Value.int .u8 (b.toNat : Int) := fun l => by
       induction l with
       | nil => rfl
       | cons b l ih =>
         rw [List.map_cons, flat_cons, ih]
         rfl
     exact this l
   have hlen : vs.length = l.length := by rw [hvs]; simp
   rw [hfl] at hA
   rcases hA with hA | ⟨b, o, rfl, hA⟩
   · have hl0 : l = [] := by
       rw [hA] at hlen
       exact List.eq_nil_of_length_eq_zero (by simpa using hlen.symm)
     subst hl0
     have hn0 : n = 0 := by rw [hn, ← hvl, hA]; rfl
     subst hn0
     cases A with
     | none => exact run_convert_bytes_nil w src e hs he 0 c dst hd
     | some a =>
       rw [run_convert_bytes_string w src dst e (some a) 0 c hs he hd]
       exact run_bytesToString w a 0 c [] (by simp [loadCells, loadCellsFrom])
   · have := run_convert_bytes_arg (w := w) src e hs he b o n c (l.map fun b => (b.toNat : Int)) (by simp; omega) (fun i hi => by
       have hi2 : i < vs.length := by omega
       have hi3 : i < l.length := by omega
       have := hm.kap _ _ (hA i hi2)
       rw [this]
       simp only [hvs, List.getElem_map]
       rw [List.getD_eq_getElem?_getD, List.getElem?_map, List.getElem?_eq_getElem hi3]
       rfl) dst hd
     rw [this]
     congr 3
     unfold strOfNums
     rw [List.map_map]
     congr 2
     have : ∀ l : List UInt8, l.map ((fun n : Int => UInt8.ofNat n.toNat) ∘ fun b : UInt8 => (b.toNat : Int)) = l := fun l => by
       induction l with
       | nil => rfl
       | cons b l ih => simp [ih]
     exact this l
end
theorem ld_part {M : Mem} {P : Program} {w : World} {t : TypeId} {n : Option Nat} (ht : aggSize P t = some n) {u : Value} {cs : List AV} {off : Nat} {a : AV} (hu : Rep M u (.agg cs)) (ha : ldAt n cs off = some a) :
   ∃ us v, u = .agg us ∧ (part t us off).run P w = .ok v w ∧ Rep M v a := by
 cases hu with
 | agg vs _ hl h1 hr =>
   have hreps : Reps M vs cs := ⟨hl, hr⟩
   unfold aggSize isAggT at ht
   cases hd : P.underlying t with
   | none => simp [hd] at ht
   | some d =>
     have hp := run_part (w := w) (cs := vs.toArray) (off := off) hd
     cases hi : P.info? t with
     | none => cases hg : aggD d <;> simp [hd, hi, hg] at ht
     | some i =>
       cases hg : aggD d with
       | false =>
         simp [hd, hi, hg] at ht
         subst ht
         obtain ⟨v, hv, hr'⟩ := reps_get hreps ha
         exact ⟨_, v, rfl, hp.1 hg v (by simpa using hv), hr'⟩
       | true =>
         simp [hd, hi, hg] at ht
         subst ht
         simp only [ldAt] at ha
         split at ha
         rotate_left
         · cases ha
         rename_i hle
         injection ha with ha
         subst ha
         refine ⟨_, _, rfl, hp.2 hg i hi, ?_⟩
         have hk := reps_take (reps_drop hreps off) i.size
         have := Rep.agg (M := M) _ _ hk.1 (fun v hv => h1 v (List.mem_of_mem_drop (List.mem_of_mem_take hv))) hk.2
         have e : vs.toArray.extract off (off + i.size) = ((vs.drop off).take i.size).toArray := by
           rw [List.extract_toArray, List.extract_eq_take_drop, Nat.add_sub_cancel_left]
         rw [e]
         exact this
end Go.Proofs.YtibploaibljcmaaGreatDoor
