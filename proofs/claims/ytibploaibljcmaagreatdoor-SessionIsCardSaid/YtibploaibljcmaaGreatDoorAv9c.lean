import Derived.Test.YtibploaibljcmaaGreatDoorAv9b
namespace Go.Proofs.YtibploaibljcmaaGreatDoor
open Go.RowKit
set_option linter.unusedVariables false
set_option linter.unusedSimpArgs false
set_option maxHeartbeats 1000000
def covers (L : List (Nat × Nat)) (n : Nat) : Bool := L.map (·.1) == List.range n
def KeyCov (K : KeyK) : Prop := match K with | .sc _ => True | .ag n L => covers L n = true
def keyK2 (P : Program) (t : TypeId) : Option KeyK :=
 match keyK P t with
 | some (.sc k) => some (.sc k)
 | some (.ag n L) => if covers L n = true then some (.ag n L) else none
 | none => none
theorem keyK2_of {P : Program} {t : TypeId} {K : KeyK} (h : keyK2 P t = some K) : keyK P t = some K ∧ KeyCov K := by
 unfold keyK2 at h
 split at h
 · rename_i k hk; injection h with h; subst h; exact ⟨hk, trivial⟩
 · rename_i n L hk
   split at h
   · rename_i hc; injection h with h; subst h; exact ⟨hk, hc⟩
   · cases h
 · cases h
def keyOkA (K : KeyK) (k : AV) : Bool :=
 scalK k && (match K, k with
   | .sc _, _ => true
   | .ag n _, .agg xs => xs.length == n
   | _, _ => false)
theorem keyOkA_fits {K : KeyK} {k : AV} (h : keyOkA K k = true) : scalK k = true ∧ KeyFits K k := by
 unfold keyOkA at h
 rw [Bool.and_eq_true] at h
 refine ⟨h.1, ?_⟩
 cases K with
 | sc _ => trivial
 | ag n L =>
   have h2 := h.2
   cases k <;> simp at h2
   exact ⟨_, rfl, h2⟩
theorem eqS_eq {k : Nat} {a b : AV} (h : eqS k a b = some true) : a = b := by
 unfold eqS at h
 split at h
 · split at h
   · rename_i hk; subst hk; simp at h; rw [h]
   · cases h
 · simp at h; rw [h]
 · rename_i x y
   simp at h
   have : x = y := by
     rw [ByteArray.toList_eq, ByteArray.toList_eq, Array.toList_inj] at h
     cases x; cases y; simpa using h
   rw [this]
 · cases h
theorem eqL_eq {xs ys : List AV} : ∀ {L : List (Nat × Nat)}, eqL xs ys L = some true → ∀ p ∈ L, ∃ a, xs[p.1]? = some a ∧ ys[p.1]? = some a
 | [], _, p, hp => by cases hp
 | o :: L, h, p, hp => by
   unfold eqL at h
   split at h
   rotate_left
   · cases h
   rename_i a b ha hb
   split at h
   rotate_left
   · cases h
   rename_i r hr
   obtain ⟨q, hq, e⟩ := Option.map_eq_some_iff.1 h
   rw [Bool.and_eq_true] at e
   obtain ⟨rfl, rfl⟩ := e
   rcases List.mem_cons.1 hp with rfl | hp
   · have := eqS_eq hr
     subst this
     exact ⟨a, ha, hb⟩
   · exact eqL_eq hq p hp
theorem keyEq_eq {K : KeyK} (hK : KeyCov K) {a b : AV} (h : K.eq a b = some true) : a = b := by
 unfold KeyK.eq at h
 cases K with
 | sc k => exact eqS_eq h
 | ag n L =>
   simp only at h hK
   split at h
   rotate_left
   · cases h
   rename_i xs ys
   split at h
   rotate_left
   · cases h
   rename_i hc
   have hcov : L.map (·.1) = List.range n := by simpa [covers, KeyCov] using hK
   congr 1
   apply List.ext_getElem?
   intro i
   by_cases hi : i < n
   · have : i ∈ L.map (·.1) := by rw [hcov]; exact List.mem_range.2 hi
     obtain ⟨p, hp, rfl⟩ := List.mem_map.1 this
     obtain ⟨a, h1, h2⟩ := eqL_eq h p hp
     rw [h1, h2]
   · rw [List.getElem?_eq_none (by omega), List.getElem?_eq_none (by omega)]
theorem kvFind_at {K : KeyK} (hK : KeyCov K) {k : AV} : ∀ {cs : List AV} {i j : Nat}, kvFind K k cs i = some (some j) → i ≤ j ∧ cs[2 * (j - i)]? = some k
 | [], i, j, h => by simp [kvFind] at h
 | [_], i, j, h => by simp [kvFind] at h
 | a :: b :: cs, i, j, h => by
   simp only [kvFind] at h
   split at h
   · rename_i hq
     simp only [Option.some.injEq] at h
     subst h
     have := keyEq_eq hK hq
     subst this
     exact ⟨Nat.le_refl _, by simp⟩
   · have ih := kvFind_at hK h
     refine ⟨by omega, ?_⟩
     rw [show 2 * (j - i) = 2 * (j - (i + 1)) + 1 + 1 by omega]
     exact ih.2
   · cases h
theorem flatKV_append (a b : List MapEntry) : flatKV (a ++ b) = flatKV a ++ flatKV b := by simp [flatKV]
theorem flatKV_length (a : List MapEntry) : (flatKV a).length = 2 * a.length := by
 induction a with
 | nil => rfl
 | cons e a ih =>
   show (e.key :: e.val :: flatKV a).length = _
   simp [ih]
   omega
theorem flatKV_take : ∀ (i : Nat) (a : List MapEntry), flatKV (a.take i) = (flatKV a).take (2 * i)
 | 0, _ => rfl
 | _ + 1, [] => by simp [flatKV]
 | i + 1, e :: a => by
   show e.key :: e.val :: flatKV (a.take i) = (e.key :: e.val :: flatKV a).take (2 * (i + 1))
   rw [flatKV_take i a, show 2 * (i + 1) = 2 * i + 1 + 1 by omega, List.take_succ_cons, List.take_succ_cons]
theorem flatKV_drop : ∀ (i : Nat) (a : List MapEntry), flatKV (a.drop i) = (flatKV a).drop (2 * i)
 | 0, _ => rfl
 | _ + 1, [] => by simp [flatKV]
 | i + 1, e :: a => by
   show flatKV (a.drop i) = (e.key :: e.val :: flatKV a).drop (2 * (i + 1))
   rw [flatKV_drop i a, show 2 * (i + 1) = 2 * i + 1 + 1 by omega, List.drop_succ_cons, List.drop_succ_cons]
theorem flatKV_val {es : List MapEntry} {i : Nat} {e : MapEntry} (h : es[i]? = some e) : (flatKV es)[2 * i]? = some e.key ∧ (flatKV es)[2 * i + 1]? = some e.val := by
 obtain ⟨hlt, rfl⟩ := List.getElem?_eq_some_iff.1 h
 have hd := flatKV_drop i es
 rw [List.drop_eq_getElem_cons hlt] at hd
 have hd : es[i].key :: es[i].val :: flatKV (es.drop (i + 1)) = (flatKV es).drop (2 * i) := hd
 constructor
 · have := List.getElem?_drop (xs := flatKV es) (i := 2 * i) (j := 0)
   rw [← hd] at this
   simpa using this.symm
 · have := List.getElem?_drop (xs := flatKV es) (i := 2 * i) (j := 1)
   rw [← hd] at this
   simpa using this.symm
def pout (k : PK) (B : List (TypeId × List AV)) (as : List AV) : Option (List (TypeId × List AV) × AV) :=
 match k, as with
 | .mkMap t, [] => some (B ++ [(t + 1099511627776, [])], .mp B.length)
 | .mapGet K z ok, [.mp l, k] =>
   match B[l]? with
   | some (T, cs) =>
     if 1099511627776 ≤ T ∧ keyOkA K k = true then
       match kvFind K k cs 0 with
       | some (some i) => (cs[2 * i + 1]?).map fun v => (B, if ok then .tup [v, .bool true] else v)
       | some none => some (B, if ok then .tup [z, .bool false] else z)
       | none => none
     else none
   | none => none
 | .mapSet K, [.mp l, k, v] =>
   match B[l]? with
   | some (T, cs) =>
     if 1099511627776 ≤ T ∧ keyOkA K k = true then
       match kvFind K k cs 0 with
       | some (some i) => some (B.set l (T, kvPut cs i k v), .nov)
       | some none => some (B.set l (T, cs ++ [k, v]), .nov)
       | none => none
     else none
   | none => none
 | .mapDel K, [.mp l, k] =>
   match B[l]? with
   | some (T, cs) =>
     if 1099511627776 ≤ T ∧ keyOkA K k = true then
       match kvFind K k cs 0 with
       | some (some i) => some (B.set l (T, kvDel cs i), .tup [])
       | some none => some (B, .tup [])
       | none => none
     else none
   | none => none
 | .mapLen, [.mp l] =>
   match B[l]? with
   | some (T, cs) => if 1099511627776 ≤ T then some (B, .int .i64 ((cs.length / 2 : Nat) : Int)) else none
   | none => none
 | .mkSl e sz bytes zero, [.int _ n, .int _ c] =>
   if n = c ∧ 0 ≤ n ∧ n.toNat * bytes ≤ 140737488355328 ∧ n ≤ 9223372036854775807 ∧ e < 1099511627776 then
     some (B ++ [(e, (List.replicate n.toNat zero).flatten)], .bsl B.length 0 n.toNat sz (n.toNat + 1))
   else none
 | .copy sz, [.bsl l off n sz' _, .slice _ sz'' xs] =>
   match B[l]? with
   | some (T, cs) =>
     if sz' = sz ∧ (sz'' = sz ∨ xs.length = 0) ∧ T < 1099511627776 ∧ off * sz + min xs.length n * sz ≤ cs.length ∧ (xs.all fun x => (cellsOf x).isSome) = true then
       some (B.set l (T, putCells cs (off * sz) (flatAV (xs.take (min xs.length n)))), .int .i64 ((min xs.length n : Nat) : Int))
     else none
   | none => none
 | .copy sz, [.bsl l off n sz' _, .bsl l' off' n' sz'' _] =>
   match B[l]?, B[l']? with
   | some (T, cs), some (T', cs') =>
     if sz' = sz ∧ sz'' = sz ∧ T < 1099511627776 ∧ T' < 1099511627776 ∧ off * sz + min n' n * sz ≤ cs.length ∧ off' * sz + min n' n * sz ≤ cs'.length then
       some (B.set l (T, putCells cs (off * sz) ((cs'.drop (off' * sz)).take (min n' n * sz))), .int .i64 ((min n' n : Nat) : Int))
     else none
   | _, _ => none
 | _, _ => none
def PStep (k : PK) (B : List (TypeId × List AV)) (F : List (TypeId × Nat)) (as : List AV) (Q : List (TypeId × List AV) → List (TypeId × Nat) → AV → Prop) : Prop :=
 ∃ as', (∀ (M : Mem) (vs : List Value), Reps M vs as → Reps M vs as') ∧ match pout k B as' with | some p => Q p.1 F p.2 | none => False
theorem PStep.mono {k : PK} {B : List (TypeId × List AV)} {F : List (TypeId × Nat)} {as : List AV} {Q Q' : List (TypeId × List AV) → List (TypeId × Nat) → AV → Prop} (h : PStep k B F as Q) (hQ : ∀ B F v, Q B F v → Q' B F v) : PStep k B F as Q' := by
 obtain ⟨as', h1, h2⟩ := h
 refine ⟨as', h1, ?_⟩
 split at h2
 · rename_i p hp; exact hQ _ _ _ h2
 · exact h2.elim
def prepSet (P : Program) (t : TypeId) (m k x : Operand) : Option (PK × List AX) :=
 match P.underlying t with
 | some (.map kt _) => do return (.mapSet (← keyK2 P kt), [← axOf m, ← axOf k, ← axOf x])
 | _ => none
def prepPrim (P : Program) (o : Oper) : Option (PK × List AX) :=
 match o.op with
 | .makeMap t none => some (.mkMap t, [])
 | .lookup t m k ok =>
   match P.underlying t with
   | some (.map kt et) => do
     let K ← keyK2 P kt
     let z ← (← P.info? et).zero
     return (.mapGet K (← avOf z) ok, [← axOf m, ← axOf k])
   | _ => none
 | .mapUpdate t m k x => prepSet P t m k x
 | .insert t m k x => prepSet P t m k x
 | .makeSlice t n c =>
   match P.underlying t with
   | some (.slice e) => do
     let i ← P.info? e
     let z ← i.zero
     let za ← z.cells.toList.mapM scalarOf
     if z.cells.size = i.size ∧ i.size ≠ 0 then return (.mkSl e i.size i.bytes za, [← axOf n, ← axOf c]) else none
   | _ => none
 | .call c =>
   match c.callee, c.args.toList, c.argTypes.toList with
   | .builtin .len, [x], [t] =>
     match P.underlying t with
     | some (.map _ _) => do return (.mapLen, [← axOf x])
     | _ => none
   | .builtin .delete, [m, k], t :: _ =>
     match P.underlying t with
     | some (.map kt _) => do return (.mapDel (← keyK2 P kt), [← axOf m, ← axOf k])
     | _ => none
   | .builtin .copy, [x, y], t :: _ =>
     match P.underlying t with
     | some (.slice e) => do return (.copy (← P.info? e).size, [← axOf x, ← axOf y])
     | _ => none
   | _, _, _ => none
 | _ => none
theorem MR.setObj {X : Cx} {M : Mem} {σ : Nat → Option (TypeId × List AV)} {w : World} (h : MR X M σ w) {l g : Nat} (hl : M.μ l = some g) {w' : World} (hsz : w'.heap.size = w.heap.size) (ho : w'.os = w.os ∧ w'.tape = w.tape ∧ w'.output = w.output)
   (hoth : ∀ k, k ≠ g → w'.heap[k]? = w.heap[k]?) {T : TypeId} {vs us : List Value} {cs : List AV} (hb : BoxIs w' g T vs us) (hr : Reps M vs cs) {σ' : Nat → Option (TypeId × List AV)} (hσ : σ' l = some (T, cs)) (hσ' : ∀ l', l' ≠ l → σ' l' = σ l') :
   MR X M σ' w' := by
 obtain ⟨hbg, hκ, T0, cs0, _, vs0, us0, hb0, _⟩ := h.box l g hl
 refine ⟨fun a v hv => ?_, h.old, ?_, by rw [hsz]; exact h.hb, fun l' g' hg' => ?_, h.inj, fun s g' c hs => ?_, h.tinj, h.prot⟩
 · have hne : a.block ≠ g := by
     intro e
     have hc := h.kap a v hv
     have hsp : a.spot = none := by
       unfold World.cell? at hc
       rw [e] at hc
       rcases hb0 with ⟨_, hg, _⟩ | ⟨_, es, cl, hg, _⟩
       · rw [hg] at hc
         cases hs : a.spot with
         | none => rfl
         | some _ => simp [hs] at hc
       · rw [hg] at hc
         cases hc
     have ha : a = ⟨g, a.off, none⟩ := by
       cases a
       simp_all
     rw [ha, hκ] at hv
     cases hv
   have : w'.cell? a = w.cell? a := by unfold World.cell?; rw [hoth _ hne]
   rw [this]
   exact h.kap a v hv
 · obtain ⟨b1, b2, b3, b4, b5⟩ := h.bel
   exact ⟨ho.1.trans b1, ho.2.1.trans b2, ho.2.2.trans b3, by rw [hsz]; exact b4, fun k hk => (hoth k (by omega)).trans (b5 k hk)⟩
 · by_cases e : l' = l
   · subst e
     obtain rfl : g = g' := Option.some.inj (hl.symm.trans hg')
     exact ⟨hbg, hκ, T, cs, hσ, vs, us, hb, hr⟩
   · have hne : g' ≠ g := fun eg => e (h.inj l' l g (eg ▸ hg') hl)
     obtain ⟨k1, k2, T', cs', k3, k4⟩ := h.box l' g' hg'
     exact ⟨k1, k2, T', cs', (hσ' l' e).trans k3, k4.mono (.refl M) (hoth _ hne)⟩
 · obtain ⟨k1, k2, e, n, i, cells, k3, k4, k5, k6, k7, k8, k9⟩ := h.tok s g' c hs
   have hne : g' ≠ g := fun eg => k2 l (eg ▸ hl)
   exact ⟨k1, k2, e, n, i, cells, k3, k4, k5, k6, (hoth _ hne).trans k7, k8, k9⟩
end Go.Proofs.YtibploaibljcmaaGreatDoor
