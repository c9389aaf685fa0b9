/- A region that draws its order, walked once: each operation yields, in every world that the region can come to, a value of which a lasting fact is told. -/
import Derived.Test.YtkdodhkiemfpeaaWords
import Derived.Orders
import Derived.Still
import Derived.Deep.Quiet
namespace Go.Proofs.Ytkdodhkiemfpeaa
open Go.RowKit

/-- A fact on a value that lasts: what is made later turns nothing of it. -/
def Lasts (V : Value → World → Prop) : Prop := ∀ v w w', Below w.heap.size w w' → V v w → V v w'
/-- The value is just this. -/
def Just (u : Value) : Value → World → Prop := fun v _ => v = u
theorem lasts_just (u : Value) : Lasts (Just u) := fun _ _ _ _ h => h

/-- What a call hands back: a value of which V holds; nothing that was there has turned. -/
def Ret (V : Value → World → Prop) (w : World) (e : Ending) (w' : World) : Prop := ∃ v, e = .returned v ∧ V v w' ∧ Below w.heap.size w w'

/-- Which facts are known of the slots that the region has written. -/
abbrev Env := List (Nat × (Value → World → Prop))
def slotFact (a0 : Act) (env : Env) (t : Nat) : Value → World → Prop :=
  match env.lookup t with
  | some V => V
  | none => Just (a0.tmps.getD t undef)

/-- The step of one operation. -/
def StepOK (P : Program) (V : Value → World → Prop) (w : World) : Result Next → Prop
  | .ok (.value u) w' => V u w' ∧ Below w.heap.size w w'
  | .ok .skip w' => V undef w' ∧ Below w.heap.size w w'
  | .ok (.enter f args) w' => Below w.heap.size w w' ∧ Calls P f args w' (Ret V w')
  | _ => False

/-- The values of operands: constants and functions are themselves. -/
structure Reads (ρ : Operand → Value) : Prop where
  const : ∀ v, ρ (.const v) = v
  global : ∀ g, ρ (.global g) = .pointer (some ⟨g, 0, none⟩)
  func : ∀ f, ρ (.func f) = .func (.func f) #[] #[]

def looks (o : Oper) : List Nat := o.op.operands.toList.filterMap fun | .tmp t => some t | _ => none

/-- The guard says yes. -/
def GuardYes (ops : Array Oper) (a0 : Act) (env : Env) (o : Oper) : Prop :=
  o.guard = none ∨ ∃ g d b, o.guard = some (g, b) ∧ (ops[g]?).bind (·.dst) = some d ∧ slotFact a0 env d = Just (.bool b)
def GuardNo (ops : Array Oper) (a0 : Act) (env : Env) (o : Oper) : Prop :=
  ∃ g d b v, o.guard = some (g, b) ∧ (ops[g]?).bind (·.dst) = some d ∧ slotFact a0 env d = Just v ∧ v ≠ .bool b

/-- The walk, in the order of the text: a lasting fact for each operation. -/
def Rel (P : Program) (ops : Array Oper) (C : World → Prop) (a0 : Act) (Q : Env → Prop) : Env → List Oper → Prop
  | env, [] => Q env
  | env, o :: rest => ∃ V, Lasts V ∧
      ((GuardYes ops a0 env o ∧ ∀ ρ w, Reads ρ → C w → (∀ t ∈ looks o, slotFact a0 env t (ρ (.tmp t)) w) → StepOK P V w ((execOp ρ o).run P w)) ∨ (GuardNo ops a0 env o ∧ V = Just undef)) ∧
      Rel P ops C a0 Q ((o.dst.getD 0, V) :: env) rest

/-- What is asked of the region's text. -/
def okBefore (dsts : List Nat) (ops : Array Oper) (i : Nat) (o : Oper) : Bool :=
  o.dst.isSome && !dsts.contains (o.dst.getD 0) &&
  (match o.op with | .select _ _ => false | _ => true) &&
  (o.after.all fun e => e.on < i) &&
  ((looks o).all fun t => (t != o.dst.getD 0) && ((List.range ops.size).all fun j => (match ops[j]? with | some oj => oj.dst != some t | none => true) || (o.after.any fun e => Region.binds .any e && e.on == j))) &&
  (match o.guard with | some (g, _) => o.after.any fun e => Region.binds .any e && e.on == g | none => true)
def okFrom (ops : Array Oper) : List Nat → Nat → List Oper → Bool
  | _, _, [] => true
  | dsts, i, o :: rest => okBefore dsts ops i o && okFrom ops ((o.dst.getD 0) :: dsts) (i + 1) rest


theorem ok_spec {dsts : List Nat} {ops : Array Oper} {i : Nat} {o : Oper} (h : okBefore dsts ops i o = true) :
    ∃ d, o.dst = some d ∧ d ∉ dsts ∧ (∀ cs b, o.op ≠ .select cs b) ∧ (∀ e ∈ o.after, e.on < i) ∧
      (∀ t ∈ looks o, t ≠ d ∧ ∀ j oj, ops[j]? = some oj → oj.dst = some t → ∃ e ∈ o.after, Region.binds .any e = true ∧ e.on = j) ∧
      (∀ g b, o.guard = some (g, b) → ∃ e ∈ o.after, Region.binds .any e = true ∧ e.on = g) := by
  simp only [okBefore, Bool.and_eq_true] at h
  obtain ⟨⟨⟨⟨⟨h1, h2⟩, h3⟩, h4⟩, h5⟩, h6⟩ := h
  obtain ⟨d, hd⟩ := Option.isSome_iff_exists.1 h1
  simp only [hd, Option.getD_some] at h2 h5
  refine ⟨d, hd, by simpa using h2, fun cs b hc => by simp [hc] at h3, fun e he => ?_, fun t ht => ?_, fun g b hg => ?_⟩
  · have := (Array.all_eq_true_iff_forall_mem.1 h4) e he
    simpa using this
  · have := (List.all_eq_true.1 h5) t ht
    simp only [Bool.and_eq_true, bne_iff_ne, ne_eq, List.all_eq_true, List.mem_range, Bool.or_eq_true] at this
    refine ⟨this.1, fun j oj hj hdj => ?_⟩
    rcases this.2 j (Array.getElem?_eq_some_iff.1 hj).1 with h | h
    · simp [hj, hdj] at h
    · obtain ⟨e, he, hb⟩ := Array.any_eq_true'.1 h
      simp only [Bool.and_eq_true, beq_iff_eq] at hb
      exact ⟨e, he, hb.1, hb.2⟩
  · simp only [hg] at h6
    obtain ⟨e, he, hb⟩ := Array.any_eq_true'.1 h6
    simp only [Bool.and_eq_true, beq_iff_eq] at hb
    exact ⟨e, he, hb.1, hb.2⟩

theorem lookup_append_ne {s env : Env} {t : Nat} (h : ∀ p ∈ s, p.1 ≠ t) : (s ++ env).lookup t = env.lookup t := by
  induction s with
  | nil => rfl
  | cons p s ih =>
    obtain ⟨k, V⟩ := p
    have hk : k ≠ t := h (k, V) (by simp)
    have : (t == k) = false := beq_eq_false_iff_ne.2 (Ne.symm hk)
    simp only [List.cons_append, List.lookup_cons, this]
    exact ih fun p hp => h p (by simp [hp])
theorem slotFact_append {a0 : Act} {s env : Env} {t : Nat} (h : ∀ p ∈ s, p.1 ≠ t) : slotFact a0 (s ++ env) t = slotFact a0 env t := by
  unfold slotFact; rw [lookup_append_ne h]
theorem slotFact_here {a0 : Act} {s env : Env} {t : Nat} {V : Value → World → Prop} (h : ∀ p ∈ s, p.1 ≠ t) : slotFact a0 (s ++ (t, V) :: env) t = V := by
  rw [slotFact_append h]; simp [slotFact]
theorem slotFact_none {a0 : Act} {E : Env} {t : Nat} (h : ∀ p ∈ E, p.1 ≠ t) : slotFact a0 E t = Just (a0.tmps.getD t undef) := by
  have := slotFact_append (a0 := a0) (env := []) h
  rw [List.append_nil] at this
  rw [this]
  rfl

section
variable {P : Program} {ops : Array Oper} {a0 : Act} {C : World → Prop} {Q : Env → Prop}

def Obl (P : Program) (ops : Array Oper) (C : World → Prop) (a0 : Act) (E : Env) (o : Oper) : Prop :=
  Lasts (slotFact a0 E (o.dst.getD 0)) ∧
  ((GuardYes ops a0 E o ∧ ∀ ρ w, Reads ρ → C w → (∀ t ∈ looks o, slotFact a0 E t (ρ (.tmp t)) w) → StepOK P (slotFact a0 E (o.dst.getD 0)) w ((execOp ρ o).run P w)) ∨
   (GuardNo ops a0 E o ∧ slotFact a0 E (o.dst.getD 0) = Just undef))

theorem obl_of_rel : ∀ (l : List Oper) (i : Nat) (env : Env) (dsts : List Nat), (∀ k, l[k]? = ops[i + k]?) → okFrom ops dsts i l = true → (∀ p ∈ env, p.1 ∈ dsts) → (∀ j oj, j < i → ops[j]? = some oj → oj.dst.getD 0 ∈ dsts) →
    Rel P ops C a0 Q env l → ∃ s : Env, Q (s ++ env) ∧ (∀ p ∈ s, p.1 ∉ dsts ∧ ∃ (k : Nat) (o : Oper), l[k]? = some o ∧ o.dst = some p.1) ∧ (∀ (k : Nat) (o : Oper), l[k]? = some o → Obl P ops C a0 (s ++ env) o)
  | [], _, env, _, _, _, _, _, h => ⟨[], h, by simp, by simp⟩
  | o :: rest, i, env, dsts, hl, hok, henv, hprev, h => by
    obtain ⟨V, hV, hstep, hrest⟩ := h
    simp only [okFrom, Bool.and_eq_true] at hok
    obtain ⟨hok1, hok2⟩ := hok
    obtain ⟨d, hd, hnd, hsel, haf, hlk, hgd⟩ := ok_spec hok1
    have ho : ops[i]? = some o := by simpa using (hl 0).symm
    simp only [hd, Option.getD_some] at hrest hok2
    obtain ⟨s, hQ, hs, hobl⟩ := obl_of_rel rest (i + 1) ((d, V) :: env) (d :: dsts) (fun k => by have := hl (k + 1); simpa [Nat.add_assoc, Nat.add_comm 1 k] using this) hok2
      (fun p hp => by
        rcases List.mem_cons.1 hp with rfl | hp
        · simp
        · exact List.mem_cons_of_mem _ (henv p hp))
      (fun j oj hj hoj => by
        by_cases e : j = i
        · subst e; rw [ho] at hoj; injection hoj with hoj; subst hoj; simp [hd]
        · exact List.mem_cons_of_mem _ (hprev j oj (by omega) hoj)) hrest
    have hsd : ∀ p ∈ s, p.1 ≠ d := fun p hp e => (hs p hp).1 (by rw [e]; simp)
    have hfar : ∀ t, (∀ j oj, ops[j]? = some oj → oj.dst = some t → j < i) → t ≠ d → ∀ p ∈ s ++ [(d, V)], p.1 ≠ t := by
      intro t ht htd p hp e
      rcases List.mem_append.1 hp with hp | hp
      · obtain ⟨_, k, ok, hk, hdk⟩ := hs p hp
        have := ht (i + 1 + k) ok (by have := hl (k + 1); rw [show i + 1 + k = i + (k + 1) by omega, ← this]; simpa using hk) (by rw [hdk, e])
        omega
      · rw [List.mem_singleton.1 hp] at e
        exact htd e.symm
    have hagree : ∀ t, (∀ j oj, ops[j]? = some oj → oj.dst = some t → j < i) → t ≠ d → slotFact a0 (s ++ (d, V) :: env) t = slotFact a0 env t := by
      intro t h1 h2
      have := slotFact_append (a0 := a0) (env := env) (hfar t h1 h2)
      rwa [List.append_assoc] at this
    have hlook : ∀ t ∈ looks o, slotFact a0 (s ++ (d, V) :: env) t = slotFact a0 env t := fun t ht =>
      hagree t (fun j oj hj hdj => by
        obtain ⟨e, he, _, hon⟩ := (hlk t ht).2 j oj hj hdj
        have := haf e he
        omega) (hlk t ht).1
    have hguard : ∀ g b d', o.guard = some (g, b) → (ops[g]?).bind (·.dst) = some d' → slotFact a0 (s ++ (d, V) :: env) d' = slotFact a0 env d' := fun g b d' hg hd' => by
      obtain ⟨e, he, _, hon⟩ := hgd g b hg
      have hlt := haf e he
      rw [hon] at hlt
      cases hog : ops[g]? with
      | none => simp [hog] at hd'
      | some og =>
        simp only [hog, Option.bind_some] at hd'
        have hin := hprev g og hlt hog
        rw [hd', Option.getD_some] at hin
        have h2 : d' ≠ d := fun e => hnd (e ▸ hin)
        have h1 : ∀ p ∈ s ++ [(d, V)], p.1 ≠ d' := by
          intro p hp e
          rcases List.mem_append.1 hp with hp | hp
          · exact (hs p hp).1 (by rw [e]; exact List.mem_cons_of_mem _ hin)
          · rw [List.mem_singleton.1 hp] at e; exact h2 e.symm
        have := slotFact_append (a0 := a0) (env := env) h1
        rwa [List.append_assoc] at this
    refine ⟨s ++ [(d, V)], by simpa using hQ, fun p hp => ?_, fun k ok hk => ?_⟩
    · rcases List.mem_append.1 hp with hp | hp
      · obtain ⟨h1, k, ok, hk, hdk⟩ := hs p hp
        exact ⟨fun h => h1 (List.mem_cons_of_mem _ h), k + 1, ok, by simpa using hk, hdk⟩
      · rw [List.mem_singleton.1 hp]
        exact ⟨hnd, 0, o, by simp, hd⟩
    · rw [List.append_assoc]
      cases k with
      | succ k => exact hobl k ok (by simpa using hk)
      | zero =>
        obtain rfl : o = ok := by simpa using hk
        have hself : slotFact a0 (s ++ (d, V) :: env) d = V := slotFact_here hsd
        show Obl P ops C a0 (s ++ (d, V) :: env) o
        unfold Obl
        rw [hd, Option.getD_some, hself]
        refine ⟨hV, ?_⟩
        rcases hstep with ⟨hg, hst⟩ | ⟨hg, hu⟩
        · refine .inl ⟨?_, fun ρ w hρ hC ht => hst ρ w hρ hC fun t h => by rw [← hlook t h]; exact ht t h⟩
          rcases hg with hg | ⟨g, d', b, h1, h2, h3⟩
          · exact .inl hg
          · exact .inr ⟨g, d', b, h1, h2, by rw [hguard g b d' h1 h2]; exact h3⟩
        · obtain ⟨g, d', b, v, h1, h2, h3, h4⟩ := hg
          exact .inr ⟨⟨g, d', b, v, h1, h2, by rw [hguard g b d' h1 h2]; exact h3, h4⟩, hu⟩

theorem dsts_ne : ∀ (l : List Oper) (i : Nat) (dsts : List Nat), (∀ k, l[k]? = ops[i + k]?) → okFrom ops dsts i l = true →
    (∀ (k : Nat) (o : Oper), l[k]? = some o → ∃ d, o.dst = some d ∧ d ∉ dsts) ∧ (∀ (j k : Nat) (o o' : Oper), j < k → l[j]? = some o → l[k]? = some o' → o.dst ≠ o'.dst)
  | [], _, _, _, _ => ⟨by simp, by simp⟩
  | o :: rest, i, dsts, hl, hok => by
    simp only [okFrom, Bool.and_eq_true] at hok
    obtain ⟨d, hd, hnd, _⟩ := ok_spec hok.1
    obtain ⟨h1, h2⟩ := dsts_ne rest (i + 1) _ (fun k => by have := hl (k + 1); simpa [Nat.add_assoc, Nat.add_comm 1 k] using this) hok.2
    refine ⟨fun k ok hk => ?_, fun j k oj ok hjk hj hk => ?_⟩
    · cases k with
      | zero =>
        obtain rfl : o = ok := by simpa using hk
        exact ⟨d, hd, hnd⟩
      | succ k =>
        obtain ⟨d', hd', hn'⟩ := h1 k ok (by simpa using hk)
        exact ⟨d', hd', fun h => hn' (List.mem_cons_of_mem _ h)⟩
    · cases k with
      | zero => omega
      | succ k =>
        cases j with
        | succ j => exact h2 j k oj ok (by omega) (by simpa using hj) (by simpa using hk)
        | zero =>
          obtain rfl : o = oj := by simpa using hj
          obtain ⟨d', hd', hn'⟩ := h1 k ok (by simpa using hk)
          rw [hd, hd']
          intro e
          injection e with e
          exact hn' (by rw [← e, hd]; simp)

structure Inv (ops : Array Oper) (a0 : Act) (w0 : World) (E : Env) (listed : Array Bool) (a : Act) (w : World) : Prop where
  size : listed.size = ops.size
  below : Below w0.heap.size w0 w
  defers : a.defers = a0.defers
  tmps : a.tmps.size = a0.tmps.size
  done : ∀ (j : Nat) (oj : Oper) (d : Nat), ops[j]? = some oj → oj.dst = some d → listed.getD j false = true → slotFact a0 E d (a.tmps.getD d undef) w
  still : ∀ (t : Nat), (∀ (j : Nat) (oj : Oper), ops[j]? = some oj → oj.dst = some t → listed.getD j false = false) → a.tmps.getD t undef = a0.tmps.getD t undef

theorem reads_eval (a : Act) : Reads a.eval := ⟨fun _ => rfl, fun _ => rfl, fun _ => rfl⟩

theorem getD_put {a : Act} {d t : Nat} {v : Value} (hd : d < a.tmps.size) : (a.put (some d) v).tmps.getD t undef = if t = d then v else a.tmps.getD t undef := by
  simp only [Act.put, Array.getD_eq_getD_getElem?, Array.getElem?_setIfInBounds]
  by_cases h : t = d
  · subst h; simp [hd]
  · simp [h, Ne.symm h]

theorem getD_some {x : Array Value} {t : Nat} {v : Value} (h : x.getD t undef = v) (hv : v ≠ undef) : x[t]? = some v := by
  rw [Array.getD_eq_getD_getElem?] at h
  cases hx : x[t]? with
  | none => rw [hx] at h; exact absurd h.symm hv
  | some u => rw [hx] at h; simpa using h

theorem getD_bool (l : Array Bool) (j : Nat) (hj : j < l.size) : l.getD j true = l.getD j false := by simp [hj]

theorem inv_step {a0 : Act} {w0 : World} {E : Env} {listed : Array Bool} {a : Act} {w w' : World} {i : Nat} {o : Oper} {d : Nat} {u : Value} (hne : ∀ (j k : Nat) (o o' : Oper), j < k → ops[j]? = some o → ops[k]? = some o' → o.dst ≠ o'.dst)
    (hlast : ∀ (j : Nat) (oj : Oper), ops[j]? = some oj → Lasts (slotFact a0 E (oj.dst.getD 0)))
    (hI : Inv ops a0 w0 E listed a w) (ho : ops[i]? = some o) (hd : o.dst = some d) (hds : d < a0.tmps.size) (hu : slotFact a0 E d u w') (hb : Below w.heap.size w w') :
    Inv ops a0 w0 E (listed.setIfInBounds i true) (a.put o.dst u) w' := by
  have hi : i < ops.size := (Array.getElem?_eq_some_iff.1 ho).1
  have hda : d < a.tmps.size := by rw [hI.tmps]; exact hds
  have hother : ∀ (j : Nat) (oj : Oper), ops[j]? = some oj → j ≠ i → oj.dst ≠ some d := by
    intro j oj hj hji
    rw [← hd]
    rcases Nat.lt_or_gt_of_ne hji with h | h
    · exact hne j i oj o h hj ho
    · exact (hne i j o oj h ho hj).symm
  refine ⟨by simp [hI.size], hI.below.trans (hb.mono hI.below.size), ?_, ?_, ?_, ?_⟩
  · rw [hd]; exact hI.defers
  · rw [hd]; simp [Act.put, hI.tmps]
  · intro j oj dj hj hdj hl
    rw [hd, getD_put hda]
    by_cases hji : j = i
    · subst hji
      rw [ho] at hj; injection hj with hj; subst hj
      rw [hd] at hdj; injection hdj with hdj; subst hdj
      rw [if_pos rfl]
      exact hu
    · have hne' : dj ≠ d := fun e => hother j oj hj hji (by rw [hdj, e])
      rw [if_neg hne']
      rw [getD_set_ne false (Ne.symm hji)] at hl
      have := hlast j oj hj
      rw [hdj, Option.getD_some] at this
      exact this _ _ _ hb (hI.done j oj dj hj hdj hl)
  · intro t ht
    have htd : t ≠ d := by
      intro e
      subst e
      have := ht i o ho hd
      simp [hI.size, hi] at this
    rw [hd, getD_put hda, if_neg htd]
    refine hI.still t fun j oj hj hdj => ?_
    have hji : j ≠ i := by
      intro e
      subst e
      rw [ho] at hj; injection hj with hj; subst hj
      rw [hd] at hdj; injection hdj with hdj
      exact htd hdj.symm
    have := ht j oj hj hdj
    rwa [getD_set_ne false (Ne.symm hji)] at this

theorem wpAny_of_inv {a0 : Act} {w0 : World} {E : Env} {Q' : Exit → Act → World → Prop} (hok : okFrom ops [] 0 ops.toList = true) (hsz : ∀ (j : Nat) (oj : Oper), ops[j]? = some oj → oj.dst.getD 0 < a0.tmps.size)
    (hkeys : ∀ p ∈ E, ∃ (k : Nat) (o : Oper), ops[k]? = some o ∧ o.dst = some p.1)
    (hobl : ∀ (k : Nat) (o : Oper), ops[k]? = some o → Obl P ops (Below w0.heap.size w0) a0 E o)
    (hfin : ∀ a w, Below w0.heap.size w0 w → a.defers = a0.defers → a.tmps.size = a0.tmps.size → (∀ t, slotFact a0 E t (a.tmps.getD t undef) w) → Q' .normal a w) :
    ∀ (fuel : Nat) (listed : Array Bool) (a : Act) (w : World), ((List.range ops.size).filter fun j => !listed.getD j true).length ≤ fuel → Inv ops a0 w0 E listed a w → wpAny P .any ops Q' fuel listed a w := by
  have hspec : ∀ (i : Nat) (o : Oper), ops[i]? = some o → ∃ dsts, okBefore dsts ops i o = true := by
    have key : ∀ (l : List Oper) (i : Nat) (dsts : List Nat), okFrom ops dsts i l = true → ∀ (k : Nat) (o : Oper), l[k]? = some o → ∃ dsts, okBefore dsts ops (i + k) o = true := by
      intro l
      induction l with
      | nil => intro i dsts _ k o hk; simp at hk
      | cons o' rest ih =>
        intro i dsts h k o hk
        simp only [okFrom, Bool.and_eq_true] at h
        cases k with
        | zero => obtain rfl : o' = o := by simpa using hk
                  exact ⟨dsts, h.1⟩
        | succ k => obtain ⟨ds, hh⟩ := ih (i + 1) _ h.2 k o (by simpa using hk)
                    exact ⟨ds, by rw [show i + (k + 1) = i + 1 + k by omega]; exact hh⟩
    intro i o ho
    have := key ops.toList 0 [] hok i o (by simpa using ho)
    simpa using this
  have hne : ∀ (j k : Nat) (o o' : Oper), j < k → ops[j]? = some o → ops[k]? = some o' → o.dst ≠ o'.dst := fun j k o o' h1 h2 h3 =>
    (dsts_ne ops.toList 0 [] (by simp) hok).2 j k o o' h1 (by simpa using h2) (by simpa using h3)
  have hlast : ∀ (j : Nat) (oj : Oper), ops[j]? = some oj → Lasts (slotFact a0 E (oj.dst.getD 0)) := fun j oj hj => (hobl j oj hj).1
  have hunw : ∀ t, (∀ (j : Nat) (oj : Oper), ops[j]? = some oj → oj.dst ≠ some t) → slotFact a0 E t = Just (a0.tmps.getD t undef) := fun t ht =>
    slotFact_none fun p hp e => by
      obtain ⟨k, o, hk, hdk⟩ := hkeys p hp
      exact ht k o hk (by rw [hdk, e])
  -- what is known where nothing may come up any more
  have hend : ∀ (listed : Array Bool) (a : Act) (w : World), Inv ops a0 w0 E listed a w → Region.ready .any ops listed = [] → Q' .normal a w := by
    intro listed a w hI hr
    have hall : ∀ n j, j < n → j < ops.size → listed.getD j false = true := by
      intro n
      induction n with
      | zero => intro j hj; omega
      | succ n ih =>
        intro j hj hjs
        by_cases hjn : j < n
        · exact ih j hjn hjs
        · have hj' : j = n := by omega
          subst hj'
          cases hlj : listed.getD j false with
          | true => rfl
          | false =>
            have hoj : ops[j]? = some ops[j] := Array.getElem?_eq_getElem hjs
            have : j ∈ Region.ready .any ops listed := mem_ready.2 ⟨by rw [getD_bool _ _ (by rw [hI.size]; exact hjs)]; exact hlj, ops[j], hoj, fun e he _ => by
              obtain ⟨ds, hs⟩ := hspec j _ hoj
              obtain ⟨_, _, _, _, haf, _⟩ := ok_spec hs
              have := haf e he
              exact ih e.on this (by omega)⟩
            rw [hr] at this
            cases this
    refine hfin a w hI.below hI.defers hI.tmps fun t => ?_
    by_cases hw : ∃ (j : Nat) (oj : Oper), ops[j]? = some oj ∧ oj.dst = some t
    · obtain ⟨j, oj, hj, hdj⟩ := hw
      exact hI.done j oj t hj hdj (hall (j + 1) j (by omega) (Array.getElem?_eq_some_iff.1 hj).1)
    · have hno : ∀ (j : Nat) (oj : Oper), ops[j]? = some oj → oj.dst ≠ some t := fun j oj hj hdj => hw ⟨j, oj, hj, hdj⟩
      rw [hunw t hno]
      exact hI.still t fun j oj hj hdj => absurd hdj (hno j oj hj)
  intro fuel
  induction fuel with
  | zero =>
    intro listed a w hf hI
    have hr : Region.ready .any ops listed = [] := by
      apply List.eq_nil_iff_forall_not_mem.2
      intro j hj
      obtain ⟨h0, o, ho, _⟩ := mem_ready.1 hj
      have hmem : j ∈ (List.range ops.size).filter fun j => !listed.getD j true := by
        rw [List.mem_filter, List.mem_range]
        exact ⟨(Array.getElem?_eq_some_iff.1 ho).1, by rw [h0]; rfl⟩
      have := List.length_pos_of_mem hmem
      omega
    exact ⟨hr, hend listed a w hI hr⟩
  | succ fuel ih =>
    intro listed a w hf hI
    refine ⟨hend listed a w hI, fun i hi => ?_⟩
    obtain ⟨h0, o, ho, hall⟩ := mem_ready.1 hi
    have his : i < ops.size := (Array.getElem?_eq_some_iff.1 ho).1
    obtain ⟨ds, hs⟩ := hspec i o ho
    obtain ⟨d, hd, _, _, _, hlk, hgd⟩ := ok_spec hs
    have hds : d < a0.tmps.size := by have := hsz i o ho; rwa [hd, Option.getD_some] at this
    have hfuel : ((List.range ops.size).filter fun j => !(listed.setIfInBounds i true).getD j true).length ≤ fuel := by
      have hlt : ((List.range ops.size).filter fun j => !(listed.setIfInBounds i true).getD j true).length < ((List.range ops.size).filter fun j => !listed.getD j true).length := by
        have hsub : ((List.range ops.size).filter fun j => !(listed.setIfInBounds i true).getD j true) = (((List.range ops.size).filter fun j => !listed.getD j true).filter fun j => j != i) := by
          rw [List.filter_filter]
          apply List.filter_congr
          intro j hj
          rw [List.mem_range] at hj
          by_cases hji : j = i
          · subst hji; simp [hI.size, his]
          · rw [getD_set_ne true (Ne.symm hji)]; simp [hji]
        rw [hsub]
        have hmem : i ∈ (List.range ops.size).filter fun j => !listed.getD j true := by
          rw [List.mem_filter, List.mem_range]
          exact ⟨his, by rw [h0]; rfl⟩
        exact List.length_filter_lt_length_iff_exists.2 ⟨i, hmem, by simp⟩
      omega
    have hnext : ∀ u w', slotFact a0 E d u w' → Below w.heap.size w w' → wpAny P .any ops Q' fuel (listed.setIfInBounds i true) (a.put o.dst u) w' := fun u w' hu hb =>
      ih _ _ _ hfuel (inv_step hne hlast hI ho hd hds hu hb)
    have hslot : ∀ t, (∀ (j : Nat) (oj : Oper), ops[j]? = some oj → oj.dst = some t → ∃ e ∈ o.after, Region.binds .any e = true ∧ e.on = j) → slotFact a0 E t (a.tmps.getD t undef) w := by
      intro t ht
      by_cases hw : ∃ (j : Nat) (oj : Oper), ops[j]? = some oj ∧ oj.dst = some t
      · obtain ⟨j, oj, hj, hdj⟩ := hw
        obtain ⟨e, he, hb, hon⟩ := ht j oj hj hdj
        exact hI.done j oj t hj hdj (by rw [← hon]; exact hall e he hb)
      · have hno : ∀ (j : Nat) (oj : Oper), ops[j]? = some oj → oj.dst ≠ some t := fun j oj hj hdj => hw ⟨j, oj, hj, hdj⟩
        rw [hunw t hno]
        exact hI.still t fun j oj hj hdj => absurd hdj (hno j oj hj)
    obtain ⟨hV, hcase⟩ := hobl i o ho
    rw [hd, Option.getD_some] at hV hcase
    have hgv : ∀ g b d' b', o.guard = some (g, b) → (ops[g]?).bind (·.dst) = some d' → slotFact a0 E d' = Just (.bool b') → yielded ops a.tmps g = some b' := by
      intro g b d' b' hg hd' hf'
      obtain ⟨e, he, hb, hon⟩ := hgd g b hg
      cases hog : ops[g]? with
      | none => simp [hog] at hd'
      | some og =>
        have hdg : og.dst = some d' := by simpa [hog] using hd'
        have h1 := hI.done g og d' hog hdg (by rw [← hon]; exact hall e he hb)
        rw [hf'] at h1
        have h2 := getD_some (v := .bool b') h1 (by intro h; cases h)
        simp [yielded, hog, hdg, h2]
    unfold wpOp
    simp only [ho]
    rcases hcase with ⟨hg, hst⟩ | ⟨hg, hu⟩
    · have hw : Region.wanted o (yielded ops a.tmps) = true := by
        rcases hg with hg | ⟨g, d', b, h1, h2, h3⟩
        · simp [Region.wanted, hg]
        · have := hgv g b d' b h1 h2 h3
          simp [Region.wanted, h1, this]
      rw [if_pos hw]
      left
      have h := hst a.eval w (reads_eval a) hI.below (fun t ht => hslot t (hlk t ht).2)
      unfold Oper.wp
      generalize (execOp a.eval o).run P w = r at h
      cases r with
      | ok n w' =>
        cases n <;> simp only [StepOK] at h <;> simp only [Oper.upon]
        case value u => exact hnext _ _ h.1 h.2
        case skip => exact hnext _ _ h.1 h.2
        case enter f args =>
          obtain ⟨hb, hc⟩ := h
          refine hc.mono fun e w'' ⟨u, he, hu, hb'⟩ => ?_
          subst he
          exact hnext _ _ hu (hb.trans (hb'.mono hb.size))
      | halt x w' => simp only [StepOK] at h
    · have hw : Region.wanted o (yielded ops a.tmps) = false := by
        obtain ⟨g, d', b, v, h1, h2, h3, h4⟩ := hg
        have hne : yielded ops a.tmps g ≠ some b := by
          obtain ⟨e, he, hb, hon⟩ := hgd g b h1
          cases hog : ops[g]? with
          | none => simp [hog] at h2
          | some og =>
            have hdg : og.dst = some d' := by simpa [hog] using h2
            have h5 := hI.done g og d' hog hdg (by rw [← hon]; exact hall e he hb)
            rw [h3] at h5
            intro h6
            simp only [yielded, hog, hdg, Option.bind_some] at h6
            cases hx : a.tmps[d']? with
            | none => simp [hx] at h6
            | some u =>
              rw [Array.getD_eq_getD_getElem?, hx, Option.getD_some] at h5
              have h5 : u = v := h5
              subst h5
              simp only [hx] at h6
              split at h6
              · rename_i heq
                injection heq with heq
                injection h6 with h6
                exact h4 (by rw [heq, h6])
              · cases h6
        simp [Region.wanted, h1, hne]
      rw [if_neg (by rw [hw]; exact Bool.false_ne_true)]
      exact hnext _ _ (by rw [hu]; rfl) (Below.refl _ _)

/-- THE REGION: one walk in the order of the text. -/
theorem wp_region_rel {id : Nat} {Q' : Exit → Act → World → Prop} {a0 : Act} {w0 : World} {l : List Oper} (hm : P.follows .mixedOrders = true) (hok : okFrom l.toArray [] 0 l = true) (hsz : (l.all fun o => o.dst.getD 0 < a0.tmps.size) = true)
    (h : Rel P l.toArray (Below w0.heap.size w0) a0 (fun E => ∀ a w, Below w0.heap.size w0 w → a.defers = a0.defers → a.tmps.size = a0.tmps.size → (∀ t, slotFact a0 E t (a.tmps.getD t undef) w) → Q' .normal a w) [] l) :
    (Code.region id l.toArray true).wp P Q' a0 w0 := by
  obtain ⟨s, hQ, hs, hobl⟩ := obl_of_rel l 0 [] [] (by simp) hok (by simp) (by intro j _ hj; omega) h
  rw [List.append_nil] at hQ hobl
  refine wp_region_any hm (wpAny_of_inv (E := s) (by simpa using hok) (fun j oj hj => ?_) (fun p hp => ?_) (fun k o hk => hobl k o (by simpa using hk)) hQ _ _ _ _ ?_ ?_)
  · have := (List.all_eq_true.1 hsz) oj (List.mem_of_getElem? (by simpa using hj))
    simpa using this
  · obtain ⟨_, k, o, hk, hdk⟩ := hs p hp
    exact ⟨k, o, by simpa using hk, hdk⟩
  · refine Nat.le_trans (List.length_filter_le _ _) (by simp)
  · refine ⟨by simp, ⟨rfl, rfl, rfl, Nat.le_refl _, fun _ _ => rfl⟩, rfl, rfl, ?_, fun _ _ => rfl⟩
    intro j oj d hj hd hl
    simp only [Array.getD_eq_getD_getElem?, Array.getElem?_replicate] at hl
    split at hl <;> simp at hl
#print axioms wp_region_rel
end
end Go.Proofs.Ytkdodhkiemfpeaa
