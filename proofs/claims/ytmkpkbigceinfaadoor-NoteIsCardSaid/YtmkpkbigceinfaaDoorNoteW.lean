/- What the walks of layer 5 share. -/
import Derived.Test.YtmkpkbigceinfaaDoorBytes
import Derived.Test.YtmkpkbigceinfaaDoorOctL
import Derived.Laws.Rows
import Derived.Laws.StructEq
import Derived.WalkLawsBesides
import Derived.WalkSpells
import Derived.IntWalk
import Derived.Outline
import Derived.Deep.QuietTactic
import Derived.BigQuiet
import Derived.RegionTactic
import Derived.Deep.Cut
namespace Go.Proofs.YtmkpkbigceinfaaDoor
open Go.RowKit
set_option maxHeartbeats 400000
set_option linter.unusedVariables false
set_option linter.unusedSimpArgs false

theorem octAt_toNat (v : Int) (j : Nat) : ((octAt v j).toNat : Int) = v / (2 : Int) ^ (8 * j) % 256 := by
  have := bv_octAt v j
  unfold bv at this
  injection this

theorem octAt_small (v : Int) (h0 : 0 ≤ v) (h1 : v < 256) : ((octAt v 0).toNat : Int) = v := by
  rw [octAt_toNat]
  simp
  omega

theorem octAt_two (v : Int) (h0 : 0 ≤ v) (h1 : v < 65536) : ((octAt v 1).toNat : Int) * 256 + ((octAt v 0).toNat : Int) = v := by
  rw [octAt_toNat, octAt_toNat]
  simp
  omega

def leastZ (k : Int) : Int := if (k == 1) = true then 29 else if (k == 2) = true then 23 else if (k == 3) = true then 21 else if (k == 4) = true then 19 else 0

theorem leastZ_bd (k : Int) : 0 ≤ leastZ k ∧ leastZ k ≤ 29 := by unfold leastZ; repeat (split; omega); omega

theorem least_any (k : Int) (w : World) : Calls Tryd.prog 23 #[.int .i64 k] w fun e w' => e = .returned (.int .i64 (leastZ k)) ∧ w = w' := by
  cases h1 : (k == 1)
  · cases h2 : (k == 2)
    · cases h3 : (k == 3)
      · cases h4 : (k == 4)
        all_goals
          have HF := Lib.hid (show leastZ k = _ by simp only [leastZ, h1, h2, h3, h4, if_true, Bool.false_eq_true, if_false]; rfl)
          go_enter Tryd.func23, Tryd.ntmps23
          go_wp2
          go_ret
          exact ⟨by rw [HF.out]; rfl, rfl⟩
      · have HF := Lib.hid (show leastZ k = _ by simp only [leastZ, h1, h2, h3, if_true, Bool.false_eq_true, if_false]; rfl)
        go_enter Tryd.func23, Tryd.ntmps23
        go_wp2
        go_ret
        exact ⟨by rw [HF.out]; rfl, rfl⟩
    · have HF := Lib.hid (show leastZ k = _ by simp only [leastZ, h1, h2, if_true, Bool.false_eq_true, if_false]; rfl)
      go_enter Tryd.func23, Tryd.ntmps23
      go_wp2
      go_ret
      exact ⟨by rw [HF.out]; rfl, rfl⟩
  · have HF := Lib.hid (show leastZ k = _ by simp only [leastZ, h1, if_true]; rfl)
    go_enter Tryd.func23, Tryd.ntmps23
    go_wp2
    go_ret
    exact ⟨by rw [HF.out]; rfl, rfl⟩

def wrongB (k s : Int) : Bool := decide (s < leastZ k) || (k == 4 && s != 19)

theorem wrong_any (k s : Int) (w : World) : Calls Tryd.prog 24 #[.int .i64 k, .int .i64 s] w fun e w' => e = .returned (.bool (wrongB k s)) ∧ w = w' := by
  obtain ⟨L, hL⟩ : ∃ L, leastZ k = L := ⟨_, rfl⟩
  have HL := Lib.hid hL
  cases hd : decide (s < L) <;> cases h4 : (k == 4) <;> cases h5 : (s != 19)
  all_goals
    have HF := Lib.hid (show wrongB k s = _ by simp only [wrongB, hL, hd, h4, h5]; rfl)
    clear hL
    go_enter Tryd.func24, Tryd.ntmps24
    go_wp2_with fail
    with_reducible refine (least_any _ _).mono ?_
    rw [HL.out]
    rintro e w1 ⟨rfl, rfl⟩
    go_wp2
    go_ret
    exact ⟨by rw [HF.out]; rfl, rfl⟩

def saneB (t : Int) (n : Nat) : Bool := decide (0 < leastZ t) && (!wrongB t (19 + n) && decide ((19 : Int) + n ≤ 4096))

theorem sane_any (t : Int) (A : Option Addr) (n c : Nat) (w : World) (hn : n ≤ 140737488355328) :
    Calls Tryd.prog 20 #[.agg #[.int .i64 t, .slice A n c]] w fun e w' => e = .returned (.bool (saneB t n)) ∧ Below w.heap.size w w' := by
  obtain ⟨L, hL⟩ : ∃ L, leastZ t = L := ⟨_, rfl⟩
  obtain ⟨W, hW⟩ : ∃ W, wrongB t (19 + n) = W := ⟨_, rfl⟩
  have HL := Lib.hid hL
  have HW := Lib.hid hW
  have hHF := show saneB t n = (decide (0 < L) && (!W && decide ((19 : Int) + n ≤ 4096))) by simp only [saneB, hL, hW]
  have HF := Lib.hid hHF
  clear hL hW hHF
  cases hd : decide (0 < L) <;> cases W <;> cases h5 : decide ((19 : Int) + n ≤ 4096)
  all_goals
    have HD := Lib.hid hd
    have H5 := Lib.hid h5
    go_enter Tryd.func20, Tryd.ntmps20
    go_wp2_with fail
    with_reducible refine (least_any _ _).mono ?_
    rw [HL.out]
    rintro e w1 ⟨rfl, rfl⟩
    try
      (go_wp2_with fail
       with_reducible refine (wrong_any _ _ _).mono ?_
       rw [HW.out]
       rintro e w1 ⟨rfl, rfl⟩)
    go_wp2
    go_ret
    exact ⟨by rw [HF.out, HD.out, H5.out]; rfl, bnew _ _⟩

/-- An address in a block from `base` on. -/
def Fresh (base : Nat) (A : Option Addr) : Prop := ∀ b o, A = some ⟨b, o, none⟩ → base ≤ b

theorem fresh_none (base : Nat) : Fresh base none := fun _ _ h => by cases h

theorem fresh_own {w : World} {base b0 e size n c m : Nat} {A : Option Addr} {xs : List Value} (h : w.ownsRow base e size (.slice A n c) m xs) (hb : b0 ≤ base) : Fresh b0 A := by
  intro b o hA
  rcases h.2 with ⟨hv, _⟩ | ⟨g, cap, cur, hv, hg, _⟩
  · injection hv with h1
    rw [hA] at h1
    cases h1
  · injection hv with h1
    rw [hA] at h1
    injection h1 with h1
    injection h1 with h1
    omega

/-- A note whose octets lie in a block from `base` on. -/
def NoteF (base : Nat) (c s : Int) (d : List UInt8) : Value → World → Prop := fun v w => ∃ A n cap, v = .agg #[.int .i64 c, .int .i64 s, .slice A n cap] ∧ RdB w A n cap d ∧ Fresh base A

/-- A message: its kind, its body. -/
def IsMsg (t : Int) (d : List UInt8) : Value → World → Prop := fun v w => ∃ A n cap, v = .agg #[.int .i64 t, .slice A n cap] ∧ RdB w A n cap d

theorem lasts_isMsg (t : Int) (d : List UInt8) : Lasts (IsMsg t d) := fun _ _ _ hb ⟨A, n, c, hv, hr⟩ => ⟨A, n, c, hv, hr.below hb⟩

theorem bcell {W w1 : World} (hb : Below W.heap.size W w1) : (∀ b o, b < W.heap.size → w1.cell? ⟨b, o, none⟩ = W.cell? ⟨b, o, none⟩) ∧ (∀ b o, b < W.heap.size → w1.frozen? ⟨b, o, none⟩ = W.frozen? ⟨b, o, none⟩) :=
  ⟨fun b o h => hb.cell (p := ⟨b, o, none⟩) h, fun b o h => hb.frozen (p := ⟨b, o, none⟩) h⟩

theorem set3 {w : World} {g : Nat} {t : TypeId} {a b c : Value} (h : w.heap[g]? = some (.cells #[a, b, c] t (0, 0))) (x y z : Value) :
    (((w.setCell ⟨g, 0, none⟩ x).setCell ⟨g, 1, none⟩ y).setCell ⟨g, 2, none⟩ z).heap[g]? = some (.cells #[x, y, z] t (0, 0)) := by
  simp [World.setCell, Array.getElem?_modify, h]

theorem below_set3 {B g : Nat} {w w1 : World} (h : Below B w w1) (hg : B ≤ g) (x y z : Value) : Below B w (((w1.setCell ⟨g, 0, none⟩ x).setCell ⟨g, 1, none⟩ y).setCell ⟨g, 2, none⟩ z) :=
  ((h.setCell (p := ⟨g, 0, none⟩) hg x).setCell (p := ⟨g, 1, none⟩) hg y).setCell (p := ⟨g, 2, none⟩) hg z

theorem noteSize : (Tryd.prog.info? 24).map (·.size) = some 3 := by kernel_rfl

/-- What is known, behind a call, of the result's own block of three cells. -/
theorem own3 {w w1 : World} {t : TypeId} {a b c : Value} (hb : Below (w.alloc (.cells #[a, b, c] t)).heap.size (w.alloc (.cells #[a, b, c] t)) w1) :
    w1.heap[w.heap.size]? = some (.cells #[a, b, c] t (0, 0)) := (hb.block w.heap.size (by simp)).trans (heap_alloc_new w _)

theorem own3_cells {w1 : World} {g : Nat} {t : TypeId} {a b c : Value} (h : w1.heap[g]? = some (.cells #[a, b, c] t (0, 0))) :
    (w1.cell? ⟨g, 0, none⟩ = some a ∧ w1.cell? ⟨g, 1, none⟩ = some b ∧ w1.cell? ⟨g, 2, none⟩ = some c) ∧ (w1.frozen? ⟨g, 0, none⟩ = false ∧ w1.frozen? ⟨g, 1, none⟩ = false ∧ w1.frozen? ⟨g, 2, none⟩ = false) := by
  refine ⟨⟨?_, ?_, ?_⟩, ?_, ?_, ?_⟩ <;> simp [World.cell?, World.frozen?, h]

theorem Lies.keep3 {w : World} {g : Nat} {A : Option Addr} {xs : List Value} (h : Lies w A xs) (hx : ∀ o, A ≠ some ⟨g, o, none⟩ ∨ xs = []) (x y z : Value) :
    Lies (((w.setCell ⟨g, 0, none⟩ x).setCell ⟨g, 1, none⟩ y).setCell ⟨g, 2, none⟩ z) A xs := by
  rcases h with h | ⟨b', o, hA, hc⟩
  · exact .inl h
  · by_cases hxs : xs = []
    · exact .inl hxs
    · have hne : b' ≠ g := by
        intro e
        subst e
        rcases hx o with h1 | h1
        · exact h1 hA
        · exact hxs h1
      refine .inr ⟨b', o, hA, fun j hj => ?_⟩
      rw [World.cell?_setCell_other _ _ _ _ (fun e => hne (by injection e with e; exact e.symm)), World.cell?_setCell_other _ _ _ _ (fun e => hne (by injection e with e; exact e.symm)), World.cell?_setCell_other _ _ _ _ (fun e => hne (by injection e with e; exact e.symm))]
      exact hc j hj

theorem own_keep3 {w : World} {base g n c : Nat} {A : Option Addr} {l : List UInt8} (ho : w.ownsRow base 5 1 (.slice A n c) n (l.map bv)) (hg : g < base) (x y z : Value) :
    RdB (((w.setCell ⟨g, 0, none⟩ x).setCell ⟨g, 1, none⟩ y).setCell ⟨g, 2, none⟩ z) A n c l := by
  have hr := rdB_of_own ho
  refine ⟨hr.len, hr.le, hr.max, hr.lies.keep3 (fun o => .inl ?_) _ _ _⟩
  rcases ho.2 with ⟨hv, hn⟩ | ⟨g', cap, cur, hv, hb, _⟩
  · injection hv with hA
    rw [hA]
    intro e
    cases e
  · injection hv with hA
    rw [hA]
    intro e
    injection e with e
    injection e with e1
    omega

theorem row_frozen {w : World} {g : Nat} {cs : Array Value} {t : TypeId} (h : w.heap[g]? = some (.cells cs t (0, 0))) (j : Nat) : w.frozen? ⟨g, j, none⟩ = false := by
  simp [World.frozen?, h]

theorem size2 (w : World) (o1 o2 : Obj) (k : Nat) : (((w.alloc o1).alloc o2).drewN k).heap.size = w.heap.size + 2 := by
  show ((w.heap.push o1).push o2).size = _
  simp

theorem msgSize : (Tryd.prog.info? 26).map (·.size) = some 2 := by kernel_rfl

theorem same_yes (t : Int) (A B : Option Addr) (n c m d : Nat) (l : List UInt8) (w : World) (h : RdB w A n c l) (k : RdB w B m d l) :
    Calls Tryd.prog 13 #[.agg #[.int .i64 t, .slice A n c], .agg #[.int .i64 t, .slice B m d]] w fun e w' => e = .returned (.bool true) ∧ Below w.heap.size w w' := by
  have hb := fun o1 o2 => balloc (bnew w o1) o2
  have s1 := fun o1 o2 => (h.below (hb o1 o2)).str
  have s2 := fun o1 o2 => (k.below (hb o1 o2)).str
  go_enter Tryd.func13, Tryd.ntmps13
  go_wp2
  go_ret
  exact ⟨rfl, hb _ _⟩

theorem sameNote_yes (t s : Int) (A B : Option Addr) (n c m d : Nat) (l : List UInt8) (w : World) (h : RdB w A n c l) (k : RdB w B m d l) :
    Calls Tryd.prog 10 #[.agg #[.int .i64 t, .int .i64 s, .slice A n c], .agg #[.int .i64 t, .int .i64 s, .slice B m d]] w fun e w' => e = .returned (.bool true) ∧ Below w.heap.size w w' := by
  have hb := fun o1 o2 => balloc (bnew w o1) o2
  have s1 := fun o1 o2 => (h.below (hb o1 o2)).str
  have s2 := fun o1 o2 => (k.below (hb o1 o2)).str
  go_enter Tryd.func10, Tryd.ntmps10
  go_wp2
  go_ret
  exact ⟨rfl, hb _ _⟩

theorem rel_loadRow {P : Program} {ops : Array Oper} {a0 : Act} {C : World → Prop} {Q : Env → Prop} {env : Env} {o : Oper} {rest : List Oper} (t g : Nat) (ty tt : TypeId) (cs : Array Value) (fr : Nat × Nat) (d : TypeDesc)
    (hop : o.op = .load ty (.tmp t)) (hg : GuardYes ops a0 env o) (hs : slotFact a0 env t = Just (.pointer (some ⟨g, 0, none⟩)))
    (hu : P.underlying ty = some d) (hd : (match d with | .struct _ | .array _ _ => true | _ => false) = true) (hi : (P.info? ty).map (·.size) = some cs.size)
    (hrow : ∀ w, C w → w.heap[g]? = some (.cells cs tt fr)) (h : Rel P ops C a0 Q ((o.dst.getD 0, Just (.agg cs)) :: env) rest) : Rel P ops C a0 Q env (o :: rest) := by
  refine rel_exact (.agg cs) hg (fun ρ w hρ hC hk => ?_) h
  obtain ⟨dst, op, type, pos, after, guard⟩ := o
  simp only at hop
  subst hop
  simp only [looks, Op.operands] at hk
  simp [known] at hk
  rw [hs] at hk
  have hk : ρ (.tmp t) = _ := hk
  unfold execOp
  simp only [hk, Instr.loadAt, Instr.sureAddr, Sem.run_bind, Sem.run_pure, Result.andThen_ok, run_loadVar_row w g tt ty cs fr d (hrow w hC) hu hd hi]

theorem row2 {w : World} {g : Nat} {t : TypeId} {a b : Value} (h : w.heap[g]? = some (.cells #[a, b] t (0, 0))) : w.cell? ⟨g, 0, none⟩ = some a ∧ w.cell? ⟨g, 1, none⟩ = some b := by
  constructor <;> simp [World.cell?, h]

theorem row_lt {w : World} {g : Nat} {o : Obj} (h : w.heap[g]? = some o) : g < w.heap.size := (Array.getElem?_eq_some_iff.1 h).1

theorem row_to {w w' : World} {g : Nat} {o : Obj} (hb : Below w.heap.size w w') (h : w.heap[g]? = some o) : w'.heap[g]? = some o := (hb.block _ (row_lt h)).trans h

theorem octAt_eq {v : Int} {j : Nat} {x : UInt8} (h : v / (2 : Int) ^ (8 * j) % 256 = x.toNat) : octAt v j = x := by
  have := octAt_toNat v j
  rw [h] at this
  exact UInt8.toNat_inj.1 (by omega)

theorem octAt_one (a : UInt8) : octAt (a.toNat : Int) 0 = a := by
  have := a.toNat_lt
  exact octAt_eq (by simp; omega)

theorem row3 {w : World} {g : Nat} {t : TypeId} {a b c : Value} (h : w.heap[g]? = some (.cells #[a, b, c] t (0, 0))) : w.cell? ⟨g, 0, none⟩ = some a ∧ w.cell? ⟨g, 1, none⟩ = some b ∧ w.cell? ⟨g, 2, none⟩ = some c := by
  refine ⟨?_, ?_, ?_⟩ <;> simp [World.cell?, h]

theorem own_below {w w' : World} {base e size n : Nat} {v : Value} {xs : List Value} (h : w.ownsRow base e size v n xs) (hb : Below w.heap.size w w') : w'.ownsRow base e size v n xs :=
  ⟨h.1, h.2.imp id fun ⟨g, cap, cur, hv, h1, hg, rest⟩ => ⟨g, cap, cur, hv, h1, row_to hb hg, rest⟩⟩

def aggB : TypeDesc → Bool
  | .struct _ => true
  | .array _ _ => true
  | _ => false

theorem run_loadVar_cells {P : Program} (w : World) (g : Nat) (ty : TypeId) (cs : List Value) (d : TypeDesc) (hc : ∀ j, ∀ h : j < cs.length, w.cell? ⟨g, j, none⟩ = some cs[j])
    (hu : P.underlying ty = some d) (hd : aggB d = true) (hi : (P.info? ty).map (·.size) = some cs.length) :
    (loadVar ty ⟨g, 0, none⟩).run P w = .ok (.agg cs.toArray) w := by
  have hl : (loadCells ⟨g, 0, none⟩ cs.length).run P w = .ok cs.toArray w :=
    run_loadCells_list (P := P) w ⟨g, 0, none⟩ cs (fun j v hv => by
      obtain ⟨hj, rfl⟩ := List.getElem?_eq_some_iff.1 hv
      rw [Addr.add_lit, Nat.zero_add]
      exact hc j hj)
  cases hq : P.info? ty with
  | none => simp [hq] at hi
  | some i =>
    have hs : i.size = cs.length := by simpa [hq] using hi
    have hagg : (isAgg ty).run P w = .ok true w := by
      unfold isAgg
      rw [Sem.run_bind, run_underlying hu w]
      cases d <;> simp_all [aggB]
    simp [loadVar, Sem.run_bind, hagg, sizeOf, typeInfo, hq, hs, hl]

theorem wpList_load_cells {P : Program} {ops : Array Oper} {rest : List Oper} {o : Oper} {a : Act} {w : World} {Q : Exit → Act → World → Prop} (hgd : o.guard = none) (ty : TypeId) (x : Operand) (ho : o.op = .load ty x)
    (g : Nat) (hx : a.eval x = .pointer (some ⟨g, 0, none⟩)) (cs : List Value) (d : TypeDesc) (hc : ∀ j, ∀ h : j < cs.length, w.cell? ⟨g, j, none⟩ = some cs[j])
    (hu : P.underlying ty = some d) (hd : aggB d = true) (hi : (P.info? ty).map (·.size) = some cs.length)
    (h : wpList P ops Q rest (a.put o.dst (.agg cs.toArray)) w) : wpList P ops Q (o :: rest) a w :=
  wpList_plain hgd fun _ hK => by
    unfold Oper.wp execOp
    simp only [ho, hx, Instr.loadAt, Instr.sureAddr, Sem.run_bind, Sem.run_pure, Result.andThen_ok, run_loadVar_cells w g ty cs d hc hu hd hi]
    exact hK _ _ h

theorem infoB : (Tryd.prog.info? 5).map (fun i => (i.zero, i.size, i.bytes)) = some (some (.int .u8 0), 1, 1) := by kernel_rfl

theorem below_drewN {B : Nat} {w : World} (n : Nat) : Below B w (w.drewN n) := ⟨rfl, rfl, rfl, Nat.le_refl _, fun _ _ => rfl⟩

theorem rel_appendB {ops : Array Oper} {a0 : Act} {C : World → Prop} {Q : Env → Prop} {env : Env} {o : Oper} {rest : List Oper} (s x : Nat) (A : Option Addr) (n : Nat) (l l2 : List UInt8)
    (hop : o.op = .call { callee := .builtin .append, args := #[.tmp s, .tmp x], argTypes := #[22, 22] }) (hg : GuardYes ops a0 env o)
    (hs : slotFact a0 env s = Just (.slice A n n)) (hx : slotFact a0 env x = IsB l2) (h : Rel Tryd.prog ops C a0 Q ((o.dst.getD 0, IsB (l ++ l2)) :: env) rest)
    (hlen : l.length = n) (hA : ∀ w, C w → Lies w A (l.map bv)) (hbd : n + l2.length ≤ 140737488355328) : Rel Tryd.prog ops C a0 Q env (o :: rest) := by
  refine rel_op (IsB (l ++ l2)) (lasts_isB _) hg (fun ρ w hρ hC hk => ?_) h
  obtain ⟨dst, op, type, pos, after, guard⟩ := o
  simp only at hop
  subst hop
  simp only [looks, Op.operands, Call.operands] at hk
  simp [known] at hk
  rw [hs, hx] at hk
  obtain ⟨h1, A2, n2, c2, h2, hr⟩ := hk
  have h1 : ρ (.tmp s) = .slice A n n := h1
  have hl2 := hr.len
  obtain ⟨i0, hi, hz0, hz1, hz2⟩ := info_row infoB
  obtain ⟨A', c', w', hrun, hG⟩ := run_append_gr (P := Tryd.prog) w w.heap.size 22 type 5 i0 (.int .u8 0) 1 1 Tryd.underlying22 hi hz0 hz1 hz2 rfl (by decide) (.slice A n n) n (l.map bv)
    (.inr ⟨by simp [hlen], by unfold maxLen; omega, A, rfl, hA w hC⟩) A2 n2 c2 (l2.map bv) (by simp [hl2]) hr.lies (oneCell_bv _) (by unfold maxLen; omega) (by omega) (Nat.le_refl _)
  have hr' : RdB w' A' (n + n2) c' (l ++ l2) := by
    have hgr := hG.gr
    rw [← List.map_append] at hgr
    rcases hgr with ho | ⟨q1, q2, A3, q3, q4⟩
    · exact rdB_of_own ho
    · injection q3 with e1 e2 e3
      subst e1 e3
      exact ⟨by simpa using q1, Nat.le_refl _, q2, q4⟩
  simp [execOp, resolve, invoke, builtin, h1, h2, hrun, Result.andThen, StepOK]
  exact ⟨⟨_, _, _, rfl, hr'⟩, hG.below⟩
end Go.Proofs.YtmkpkbigceinfaaDoor
