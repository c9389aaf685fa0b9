import Derived.Test.YtibploaibljcmaaGreatDoorAv9
import Derived.MapKept
import Derived.Laws.MakeOwn
import Derived.Laws.CopyRow
namespace Go.Proofs.YtibploaibljcmaaGreatDoor
open Go.RowKit
set_option linter.unusedVariables false
set_option linter.unusedSimpArgs false
set_option maxHeartbeats 1000000
def KeyK.eq (K : KeyK) (a b : AV) : Option Bool :=
 match K with
 | .sc k => eqS k a b
 | .ag n L =>
   match a, b with
   | .agg xs, .agg ys => if xs.length = n ∧ ys.length = n then eqL xs ys L else none
   | _, _ => none
def kvFind (K : KeyK) (k : AV) : List AV → Nat → Option (Option Nat)
 | [], _ => some none
 | [_], _ => none
 | a :: _ :: r, i =>
   match K.eq k a with
   | some true => some (some i)
   | some false => kvFind K k r (i + 1)
   | none => none
def kvPut (cs : List AV) (i : Nat) (k v : AV) : List AV := cs.take (2 * i) ++ [k, v] ++ cs.drop (2 * i + 2)
def kvDel (cs : List AV) (i : Nat) : List AV := cs.take (2 * i) ++ cs.drop (2 * i + 2)
def scal1 : AV → Bool
 | .bool _ => true
 | .int _ _ => true
 | .str _ => true
 | _ => false
def scalK : AV → Bool
 | .agg cs => cs.all scal1
 | a => scal1 a
theorem scal1_val {M : Mem} {u v : Value} {a : AV} (h : scal1 a = true) (hu : Rep M u a) (hv : Rep M v a) : u = v ∧ Instr.sameBits 10000 u v = true ∧ ∀ n, Instr.sameBits n u v = true := by
 cases a <;> simp [scal1] at h
 · cases hu; cases hv; exact ⟨rfl, by simp [Instr.sameBits], fun n => by simp [Instr.sameBits]⟩
 · cases hu; cases hv; exact ⟨rfl, by simp [Instr.sameBits], fun n => by simp [Instr.sameBits]⟩
 · cases hu; cases hv; exact ⟨rfl, by simp [Instr.sameBits, Go.MapKept.bytes_beq], fun n => by simp [Instr.sameBits, Go.MapKept.bytes_beq]⟩
theorem scalK_val {M : Mem} {u v : Value} {a : AV} (h : scalK a = true) (hu : Rep M u a) (hv : Rep M v a) : u = v ∧ Instr.sameBits 10000 u v = true := by
 cases a with
 | agg cs =>
   have h : cs.all scal1 = true := h
   cases hu with
   | agg us _ hl h1 hr =>
     cases hv with
     | agg vs _ kl k1 kr =>
       have key : ∀ i (h1 : i < us.length) (h2 : i < vs.length), us[i] = vs[i] ∧ Instr.sameBits 9999 us[i] vs[i] = true := fun i h1 h2 => by
         have hs := List.all_eq_true.1 h cs[i] (List.getElem_mem (by omega))
         have := scal1_val hs (hr i h1 (by omega)) (kr i h2 (by omega))
         exact ⟨this.1, this.2.2 _⟩
       have hlen : us.length = vs.length := hl.trans kl.symm
       have e : us = vs := List.ext_getElem hlen fun i h1 h2 => (key i h1 h2).1
       subst e
       refine ⟨rfl, ?_⟩
       simp only [Instr.sameBits, beq_self_eq_true, Bool.true_and, List.all_eq_true]
       rintro ⟨x, y⟩ hxy
       obtain ⟨i, hi, he⟩ := List.getElem_of_mem hxy
       have hi' : i < us.length := by simpa using hi
       simp at he
       obtain ⟨rfl, rfl⟩ := he
       exact (key i hi' hi').2
 | bool b => have := scal1_val (a := .bool b) rfl hu hv; exact ⟨this.1, this.2.1⟩
 | int k n => have := scal1_val (a := .int k n) rfl hu hv; exact ⟨this.1, this.2.1⟩
 | str s => have := scal1_val (a := .str s) rfl hu hv; exact ⟨this.1, this.2.1⟩
 | _ => simp [scalK, scal1] at h
def flatField (P : Program) (n : Nat) (f : Field) : Bool :=
 f.name != "_" && decide (f.offset < n) && (match P.underlying f.type with | some (.int _) => true | some .bool => true | some .string => true | _ => false)
def keyK (P : Program) (t : TypeId) : Option KeyK :=
 match P.underlying t with
 | some (.int _) => some (.sc 0)
 | some .bool => some (.sc 1)
 | some .string => some (.sc 2)
 | some (.struct fs) =>
   match P.info? t, leaves P 8 t 0 with
   | some i, some L => if fs.all (flatField P i.size) = true then some (.ag i.size L) else none
   | _, _ => none
 | _ => none
def FoundAt (es : List MapEntry) : Option Nat → Option (Nat × Value) → Prop
 | none, x => x = none
 | some j, x => ∃ e, es[j]? = some e ∧ x = some (j, e.val)
theorem key_now {M : Mem} {d : TypeDesc} {k : Nat} (hd : (k = 0 ∧ ∃ q, d = .int q) ∨ (k = 1 ∧ d = .bool) ∨ (k = 2 ∧ d = .string)) {u v : Value} {a b : AV} {r : Bool} (hu : Rep M u a) (hv : Rep M v b) (h : eqS k a b = some r) :
   Instr.sameNow d u v = some r := by
 unfold eqS at h
 split at h
 · obtain rfl := rep_int hu
   obtain rfl := rep_int hv
   rcases hd with ⟨_, q, rfl⟩ | ⟨e, _⟩ | ⟨e, _⟩
   · exact h
   · cases e
   · cases e
 · obtain rfl := rep_bool hu
   obtain rfl := rep_bool hv
   rcases hd with ⟨e, _⟩ | ⟨_, rfl⟩ | ⟨e, _⟩
   · cases e
   · exact h
   · cases e
 · obtain rfl := rep_str hu
   obtain rfl := rep_str hv
   rcases hd with ⟨e, _⟩ | ⟨e, _⟩ | ⟨_, rfl⟩
   · cases e
   · cases e
   · rename_i x y _
     have e : (x == y) = (x.toList == y.toList) := by
       rw [Bool.eq_iff_iff, Go.MapKept.bytes_beq, beq_iff_eq, ByteArray.toList_eq, ByteArray.toList_eq, Array.toList_inj]
       exact ⟨fun e => by rw [e], fun e => by cases x; cases y; simpa using e⟩
     simp only [Instr.sameNow, e]
     exact h
 · cases h
theorem sc_find {P : Program} {w : World} {M : Mem} {kt : TypeId} {d : TypeDesc} (hu : P.underlying kt = some d) {k : Nat} (hd : (k = 0 ∧ ∃ q, d = .int q) ∨ (k = 1 ∧ d = .bool) ∨ (k = 2 ∧ d = .string)) {key : Value} {ak : AV} (hk : Rep M key ak) :
   ∀ (es : List MapEntry) (cs : List AV) (i : Nat) (r : Option Nat), Reps M (flatKV es) cs → kvFind (.sc k) ak cs i = some r →
     (match r with | none => Instr.findNow d key es i = some none | some j => ∃ e, i ≤ j ∧ es[j - i]? = some e ∧ Instr.findNow d key es i = some (some (j, e.val)))
 | [], cs, i, r, h, hf => by
   have : cs = [] := List.eq_nil_of_length_eq_zero (by rw [← h.1]; rfl)
   subst this
   simp only [kvFind, Option.some.injEq] at hf
   subst hf
   rfl
 | e :: es, cs, i, r, h, hf => by
   have h : Reps M (e.key :: e.val :: flatKV es) cs := h
   match cs, h, hf with
   | [], h, _ => exact absurd h.1 (by simp)
   | [_], h, _ => exact absurd h.1 (by simp)
   | a :: b :: cs, h, hf =>
     obtain ⟨h1, h2⟩ := reps_uncons h
     obtain ⟨h3, h4⟩ := reps_uncons h2
     simp only [kvFind] at hf
     cases hq : KeyK.eq (.sc k) ak a with
     | none => rw [hq] at hf; cases hf
     | some t =>
       rw [hq] at hf
       have hn := key_now hd hk h1 (r := t) hq
       cases t with
       | true =>
         simp only [Option.some.injEq] at hf
         subst hf
         exact ⟨e, Nat.le_refl _, by simp, by simp [Instr.findNow, hn]⟩
       | false =>
         have ih := sc_find (w := w) hu hd hk es cs (i + 1) r h4 hf
         cases r with
         | none => simpa [Instr.findNow, hn] using ih
         | some j =>
           obtain ⟨e', k1, k2, k3⟩ := ih
           refine ⟨e', by omega, ?_, by simpa [Instr.findNow, hn] using k3⟩
           rw [show j - i = (j - (i + 1)) + 1 by omega]
           exact k2
theorem ag_find {P : Program} {w : World} {M : Mem} {kt : TypeId} {fs : Array Field} {ti : TypeInfo} {L : List (Nat × Nat)} (hu : P.underlying kt = some (.struct fs)) (hi : P.info? kt = some ti) (hL : leaves P 8 kt 0 = some L) {key : Value} {ak : AV} (hk : Rep M key ak) :
   ∀ (es : List MapEntry) (cs : List AV) (i : Nat) (r : Option Nat), Reps M (flatKV es) cs → kvFind (.ag ti.size L) ak cs i = some r →
     (match r with | none => (Instr.findAsking kt key es i).run P w = .ok none w | some j => ∃ e, i ≤ j ∧ es[j - i]? = some e ∧ (Instr.findAsking kt key es i).run P w = .ok (some (j, e.val)) w)
 | [], cs, i, r, h, hf => by
   have : cs = [] := List.eq_nil_of_length_eq_zero (by rw [← h.1]; rfl)
   subst this
   simp only [kvFind, Option.some.injEq] at hf
   subst hf
   simp [Instr.findAsking]
 | e :: es, cs, i, r, h, hf => by
   have h : Reps M (e.key :: e.val :: flatKV es) cs := h
   match cs, h, hf with
   | [], h, _ => exact absurd h.1 (by simp)
   | [_], h, _ => exact absurd h.1 (by simp)
   | a :: b :: cs, h, hf =>
     obtain ⟨h1, h2⟩ := reps_uncons h
     obtain ⟨h3, h4⟩ := reps_uncons h2
     simp only [kvFind] at hf
     cases hq : KeyK.eq (.ag ti.size L) ak a with
     | none => rw [hq] at hf; cases hf
     | some t =>
       rw [hq] at hf
       have hn : (Op.equal kt key e.key).run P w = .ok t w := by
         unfold KeyK.eq at hq
         simp only at hq
         split at hq
         rotate_left
         · cases hq
         rename_i xs ys
         split at hq
         rotate_left
         · cases hq
         rename_i hc
         exact run_equalA hu hi hL hk h1 hc.1 hc.2 hq
       cases t with
       | true =>
         simp only [Option.some.injEq] at hf
         subst hf
         exact ⟨e, Nat.le_refl _, by simp, by simp [Instr.findAsking, hn]⟩
       | false =>
         have ih := ag_find (w := w) hu hi hL hk es cs (i + 1) r h4 hf
         cases r with
         | none => simpa [Instr.findAsking, hn] using ih
         | some j =>
           obtain ⟨e', k1, k2, k3⟩ := ih
           refine ⟨e', by omega, ?_, by simpa [Instr.findAsking, hn] using k3⟩
           rw [show j - i = (j - (i + 1)) + 1 by omega]
           exact k2
theorem key_find {P : Program} {w : World} {M : Mem} {kt : TypeId} {K : KeyK} (hK : keyK P kt = some K) {key : Value} {ak : AV} (hk : Rep M key ak) {es : List MapEntry} {cs : List AV} {r : Option Nat} (h : Reps M (flatKV es) cs) (hf : kvFind K ak cs 0 = some r) :
   ∃ x, (Instr.findKey kt key es).run P w = .ok x w ∧ FoundAt es r x := by
 have sc : ∀ {d : TypeDesc} {k : Nat}, P.underlying kt = some d → K = .sc k → ((k = 0 ∧ ∃ q, d = .int q) ∨ (k = 1 ∧ d = .bool) ∨ (k = 2 ∧ d = .string)) → ∃ x, (Instr.findKey kt key es).run P w = .ok x w ∧ FoundAt es r x := fun {d k} hu hKe hd => by
   subst hKe
   have := sc_find (w := w) hu hd hk es cs 0 r h hf
   cases r with
   | none => exact ⟨none, Go.MapKept.run_findKey hu this, rfl⟩
   | some j =>
     obtain ⟨e, _, h2, h3⟩ := this
     exact ⟨_, Go.MapKept.run_findKey hu h3, e, by simpa using h2, rfl⟩
 unfold keyK at hK
 split at hK
 · rename_i q hu; injection hK with hK; exact sc hu hK.symm (.inl ⟨rfl, q, rfl⟩)
 · rename_i hu; injection hK with hK; exact sc hu hK.symm (.inr (.inl ⟨rfl, rfl⟩))
 · rename_i hu; injection hK with hK; exact sc hu hK.symm (.inr (.inr ⟨rfl, rfl⟩))
 · rename_i fs hu
   split at hK
   rotate_left
   · cases hK
   rename_i i L hi hL
   split at hK
   rotate_left
   · cases hK
   injection hK with hK
   subst hK
   have := ag_find (w := w) hu hi hL hk es cs 0 r h hf
   cases es with
   | nil =>
     have : cs = [] := List.eq_nil_of_length_eq_zero (by rw [← h.1]; rfl)
     subst this
     simp only [kvFind, Option.some.injEq] at hf
     subst hf
     exact ⟨none, by simp [Instr.findKey, run_underlying hu, Instr.findNow], rfl⟩
   | cons e es =>
     have hn : ∀ i, Instr.findNow (.struct fs) key (e :: es) i = none := fun i => by simp [Instr.findNow, Instr.sameNow]
     cases r with
     | none => exact ⟨none, by simp [Instr.findKey, run_underlying hu, hn, this], rfl⟩
     | some j =>
       obtain ⟨e', _, h2, h3⟩ := this
       exact ⟨_, by simp [Instr.findKey, run_underlying hu, hn]; exact h3, e', by simpa using h2, rfl⟩
 · cases hK
def KeyFits (K : KeyK) (ak : AV) : Prop := match K with | .sc _ => True | .ag n _ => ∃ xs, ak = .agg xs ∧ xs.length = n
theorem key_check {P : Program} {w : World} {M : Mem} {kt : TypeId} {K : KeyK} (hK : keyK P kt = some K) {key : Value} {ak : AV} (hk : Rep M key ak) (hs : KeyFits K ak) (em : Bool) :
   (Instr.checkKey em 10000 kt key).run P w = .ok () w := by
 have sc : ∀ d, P.underlying kt = some d → (d = .bool ∨ d = .string ∨ ∃ q, d = .int q) → ∀ (n : Nat) (v : Value), (Instr.checkKey em (n + 1) kt v).run P w = .ok () w := fun d hu hd n v => by
   unfold Instr.checkKey
   simp only [Sem.run_bind, run_underlying hu, Result.andThen]
   rcases hd with rfl | rfl | ⟨q, rfl⟩ <;> cases v <;> simp
 unfold keyK at hK
 split at hK
 · rename_i q hu; exact sc _ hu (.inr (.inr ⟨q, rfl⟩)) 9999 key
 · rename_i hu; exact sc _ hu (.inl rfl) 9999 key
 · rename_i hu; exact sc _ hu (.inr (.inl rfl)) 9999 key
 · rename_i fs hu
   split at hK
   rotate_left
   · cases hK
   rename_i i L hi hL
   split at hK
   rotate_left
   · cases hK
   rename_i hall
   injection hK with hK
   subst hK
   obtain ⟨xs, rfl, hx⟩ := hs
   cases hk with
   | agg us _ hl h1 hr =>
   unfold Instr.checkKey
   simp only [Sem.run_bind, run_underlying hu, Result.andThen_ok]
   rw [← Array.forIn_toList]
   have deep : ∀ f ∈ fs.toList, flatField P i.size f = true := fun f hf => Array.all_eq_true_iff_forall_mem.1 hall f (Array.mem_toList_iff.1 hf)
   generalize fs.toList = l at deep
   induction l with
   | nil => simp
   | cons f l ih =>
     have hf := deep f (by simp)
     unfold flatField at hf
     simp only [Bool.and_eq_true, bne_iff_ne, ne_eq, decide_eq_true_eq] at hf
     obtain ⟨⟨hn, ho⟩, ht⟩ := hf
     obtain ⟨d, hd, hd2⟩ : ∃ d, P.underlying f.type = some d ∧ (d = .bool ∨ d = .string ∨ ∃ q, d = .int q) := by
       split at ht
       · exact ⟨_, ‹_›, .inr (.inr ⟨_, rfl⟩)⟩
       · exact ⟨_, ‹_›, .inl rfl⟩
       · exact ⟨_, ‹_›, .inr (.inl rfl)⟩
       · cases ht
     have hag : aggD d = false := by rcases hd2 with rfl | rfl | ⟨q, rfl⟩ <;> rfl
     have hlt : f.offset < us.length := by rw [hl, hx]; exact ho
     have p1 : (part f.type us.toArray f.offset).run P w = .ok us[f.offset] w := (run_part (w := w) (cs := us.toArray) (off := f.offset) hd).1 hag _ (by simp [hlt])
     have p2 : (Instr.checkKey em 9999 f.type us[f.offset]).run P w = .ok () w := by
       unfold Instr.checkKey
       simp only [Sem.run_bind, run_underlying hd, Result.andThen]
       rcases hd2 with rfl | rfl | ⟨q, rfl⟩ <;> cases us[f.offset] <;> simp
     simp only [List.forIn_cons, Sem.run_bind, hn, ne_eq, not_false_eq_true, if_true, Result.andThen_ok, p1, p2, Sem.run_pure]
     exact ih (fun y hy => deep y (by simp [hy]))
 · cases hK
end Go.Proofs.YtibploaibljcmaaGreatDoor
