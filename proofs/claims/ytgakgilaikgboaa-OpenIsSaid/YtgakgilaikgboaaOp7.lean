/- Opening: the arguments, and the law. -/
import Derived.Test.YtgakgilaikgboaaOp6
import Derived.Test.YtgakgilaikgboaaAwkO
import Derived.Test.YtgakgilaikgboaaOpenA
namespace Go.Proofs.Ytgakgilaikgboaa
open Go.RowKit
set_option maxHeartbeats 8000000
set_option maxRecDepth 100000
set_option linter.unusedSimpArgs false
set_option linter.unusedVariables false

theorem act_bool {P : Program} {f : FuncId} {q : List AV} {b : Bool} (h : ACt P f q (.bool b) []) {w : World} {args : Array Value} (ha : Reps (M0 w.cell?) args.toList q) : Calls P f args w fun e w' => e = .returned (.bool b) ∧ Below w.heap.size w w' :=
  (h.2 w w.cell? args (fun _ _ h => h) ha).mono fun e w' ⟨v, M', he, hm, _, hr⟩ => ⟨by
    have hr : Rep (M0 M'.κ) v (.bool b) := by
      unfold RepR at hr
      simp only at hr
      unfold RepR1 at hr
      exact hr
    cases hr
    exact he, hm.bel⟩
def tyI : Ty := .int .i64
def tyB : Ty := .sl 1 false (.int .u8)
def tyHl : Ty := .st (.cons 1 tyI (.cons 1 tyI (.cons 1 tyI (.cons 1 tyI .nil))))
def tyMsg : Ty := .st (.cons 1 tyI (.cons 1 tyB .nil))
theorem int_of {qs : List AV} (h : Shp tyI qs) : ∃ n : Int, qs = [.int .i64 n] ∧ -9223372036854775808 ≤ n ∧ n ≤ 9223372036854775807 := by
  obtain ⟨n, rfl, hw⟩ := h
  have := bounds_i64 hw
  exact ⟨n, rfl, by omega, by omega⟩
theorem map_of {α : Type} (f : α → AV) : ∀ {xs : List AV}, (∀ x ∈ xs, ∃ y, x = f y) → ∃ l : List α, xs = l.map f
  | [], _ => ⟨[], rfl⟩
  | x :: xs, h => by
    obtain ⟨y, rfl⟩ := h x (by simp)
    obtain ⟨l, rfl⟩ := map_of f (xs := xs) fun z hz => h z (List.mem_cons_of_mem _ hz)
    exact ⟨y :: l, rfl⟩
theorem bytes_of {qs : List AV} (h : Shp tyB qs) : ∃ l : List UInt8, qs = [.slice .imm 1 (l.map bA)] ∧ l.length ≤ maxLen := by
  obtain ⟨xs, rfl, hl, hx⟩ := h
  obtain ⟨l, rfl⟩ := map_of bA (xs := xs) fun x hxm => by
    obtain ⟨n, e, hw⟩ := hx x hxm
    injection e with e
    subst e
    have := bounds_u8 hw
    refine ⟨UInt8.ofNat n.toNat, ?_⟩
    unfold bA
    congr 1
    rw [UInt8.toNat_ofNat']
    omega
  exact ⟨l, rfl, by simpa using hl⟩
theorem hl_of {a : AV} (h : ShA tyHl a) : ∃ x : Hl, a = hlA x := by
  obtain ⟨cs, rfl, h⟩ := h
  obtain ⟨_, _, rfl, _, h0, h⟩ := h
  obtain ⟨a0, rfl, _⟩ := int_of h0
  obtain ⟨_, _, rfl, _, h1, h⟩ := h
  obtain ⟨a1, rfl, _⟩ := int_of h1
  obtain ⟨_, _, rfl, _, h2, h⟩ := h
  obtain ⟨a2, rfl, _⟩ := int_of h2
  obtain ⟨_, _, rfl, _, h3, h⟩ := h
  obtain ⟨a3, rfl, _⟩ := int_of h3
  obtain rfl : _ = [] := h
  exact ⟨⟨a0, a1, a2, a3⟩, rfl⟩
theorem msg_of {a : AV} (h : ShA tyMsg a) : ∃ t l, a = mA t l ∧ l.length ≤ maxLen := by
  obtain ⟨cs, rfl, h⟩ := h
  obtain ⟨_, _, rfl, _, h0, h⟩ := h
  obtain ⟨t, rfl, _⟩ := int_of h0
  obtain ⟨_, _, rfl, _, h1, h⟩ := h
  obtain ⟨l, rfl, hl⟩ := bytes_of h1
  obtain rfl : _ = [] := h
  exact ⟨t, l, rfl, hl⟩
theorem openIs_av (a0 : AV) (s0 : ShA tyHl a0) (a1 : AV) (s1 : ShA tyMsg a1) (a2 : AV) (s2 : ShA tyI a2) : ACt Try.prog 3 [a0, a1, a2] (.bool true) [] := by
  obtain ⟨h, rfl⟩ := hl_of s0
  obtain ⟨t, l, rfl, hl⟩ := msg_of s1
  obtain ⟨asn, e, _⟩ := int_of s2
  injection e with e
  subst e
  by_cases hb : (l.length : Int) > 5000
  · refine act_of p_ridgewaylaw06_OpenIs (by simp [c_ridgewaylaw06_OpenIs]) ?_
    show AW _ b_ridgewaylaw06_OpenIs (RetOk [.tmp 6] _ _) { n := 55, tm := [(0, _), (1, _), (2, _)], box := [], fr := [] }
    unfold b_ridgewaylaw06_OpenIs
    unfold hlA mA
    try simp -implicitDefEqProofs only [avl, reduceCtorEq, ↓reduceIte, sevalprocAttr]
    repeat' (first | (refine (hκ _).mpr ?_; clear hκ) | refine kn1 ?_ | refine kr1 ?_ | refine ke1 ?_ | refine kn2 ?_ | refine kr2 ?_ | refine kx2 ?_ | refine ke2 rfl ?_ | refine kn3 ?_ | refine kr3 ?_ | refine ke3 ?_ | refine kn4 ?_ | refine kr4 ?_ | refine ke4 ?_ | refine w_seq ?_ | refine w_block ?_ | (refine aw_regk fun κ hκ => ?_; simp -implicitDefEqProofs only [avl, reduceCtorEq, ↓reduceIte, sevalprocAttr]) | refine aw_exit ?_ | refine aw_ret ?_ | refine aw_skip ?_ | refine aw_label ?_ | refine condc_t ?_ | refine condc_f ?_ | (refine aw_cond2 (by simp -implicitDefEqProofs only [avl, reduceCtorEq, ↓reduceIte, sevalprocAttr]; rfl) ?_) | ((first | refine gkc_fork ?_ ?_ | refine gkc_split ?_ ?_) <;> intro hq <;> simp -implicitDefEqProofs only [hq, avl, reduceCtorEq, ↓reduceIte, sevalprocAttr]) | ((first | refine condc_fork ?_ ?_ | refine condc_bool ?_ ?_) <;> intro hq))
    first | refine callsc (awake_ac) ?_ ?_ | refine callc (awake_ac) ?_ ?_ | ((first | refine callsc (act_le (awake_ac) ?_) ?_ ?_ | refine callc (act_le (awake_ac) ?_) ?_ ?_); (focus (repeat' (first | exact trivial | exact le_same _ | exact le_imm (.inl rfl) | exact le_imm (.inr rfl) | (refine le_agg ?_) | apply And.intro))))
    (focus (simp [purs]; done))
    try simp -implicitDefEqProofs only [avl, reduceCtorEq, ↓reduceIte, sevalprocAttr, sh, sh1, (eq_true hb)]
    repeat' (first | (refine (hκ _).mpr ?_; clear hκ) | refine kn1 ?_ | refine kr1 ?_ | refine ke1 ?_ | refine kn2 ?_ | refine kr2 ?_ | refine kx2 ?_ | refine ke2 rfl ?_ | refine kn3 ?_ | refine kr3 ?_ | refine ke3 ?_ | refine kn4 ?_ | refine kr4 ?_ | refine ke4 ?_ | refine w_seq ?_ | refine w_block ?_ | (refine aw_regk fun κ hκ => ?_; simp -implicitDefEqProofs only [avl, reduceCtorEq, ↓reduceIte, sevalprocAttr, sh, sh1, (eq_true hb)]) | refine aw_exit ?_ | refine aw_ret ?_ | refine aw_skip ?_ | refine aw_label ?_ | refine condc_t ?_ | refine condc_f ?_ | (refine aw_cond2 (by simp -implicitDefEqProofs only [avl, reduceCtorEq, ↓reduceIte, sevalprocAttr, sh, sh1, (eq_true hb)]; rfl) ?_) | ((first | refine gkc_fork ?_ ?_ | refine gkc_split ?_ ?_) <;> intro hq <;> simp -implicitDefEqProofs only [hq, avl, reduceCtorEq, ↓reduceIte, sevalprocAttr, sh, sh1, (eq_true hb)]) | ((first | refine condc_fork ?_ ?_ | refine condc_bool ?_ ?_) <;> intro hq))
    exact ret_bool rfl rfl
  have g1 := oget_ac t l asn (by omega)
  have g2 := orget_ac t l asn (by omega)
  have hs1 := hsane_ac h
  have hs2 := hrsane_ac h
  have hp1 := oput_ac h
  have hp2 := orput_ac h
  generalize getO t l asn = q at *
  generalize putO h = r at *
  generalize hlB h = z at *
  obtain ⟨qh, c, s, d⟩ := q
  obtain ⟨rt, rb⟩ := r
  have hn := sameNote_ac c s c s d d
  have hm := sameMsg_ac rt rt rb rb
  unfold getA hlA ntA at g1 g2
  unfold hlA at hs1 hs2 hp1 hp2
  unfold ntA at hn
  unfold mA at g1 g2 hp1 hp2 hm
  refine act_of p_ridgewaylaw06_OpenIs (by simp [c_ridgewaylaw06_OpenIs]) ?_
  show AW _ b_ridgewaylaw06_OpenIs (RetOk [.tmp 6] _ _) { n := 55, tm := [(0, _), (1, _), (2, _)], box := [], fr := [] }
  unfold b_ridgewaylaw06_OpenIs
  unfold hlA mA
  try simp -implicitDefEqProofs only [avl, reduceCtorEq, ↓reduceIte, sevalprocAttr]
  repeat' (first | (refine (hκ _).mpr ?_; clear hκ) | refine kn1 ?_ | refine kr1 ?_ | refine ke1 ?_ | refine kn2 ?_ | refine kr2 ?_ | refine kx2 ?_ | refine ke2 rfl ?_ | refine kn3 ?_ | refine kr3 ?_ | refine ke3 ?_ | refine kn4 ?_ | refine kr4 ?_ | refine ke4 ?_ | refine w_seq ?_ | refine w_block ?_ | (refine aw_regk fun κ hκ => ?_; simp -implicitDefEqProofs only [avl, reduceCtorEq, ↓reduceIte, sevalprocAttr]) | refine aw_exit ?_ | refine aw_ret ?_ | refine aw_skip ?_ | refine aw_label ?_ | refine condc_t ?_ | refine condc_f ?_ | (refine aw_cond2 (by simp -implicitDefEqProofs only [avl, reduceCtorEq, ↓reduceIte, sevalprocAttr]; rfl) ?_) | ((first | refine gkc_fork ?_ ?_ | refine gkc_split ?_ ?_) <;> intro hq <;> simp -implicitDefEqProofs only [hq, avl, reduceCtorEq, ↓reduceIte, sevalprocAttr]) | ((first | refine condc_fork ?_ ?_ | refine condc_bool ?_ ?_) <;> intro hq))
  first | refine callsc (awake_ac) ?_ ?_ | refine callc (awake_ac) ?_ ?_ | ((first | refine callsc (act_le (awake_ac) ?_) ?_ ?_ | refine callc (act_le (awake_ac) ?_) ?_ ?_); (focus (repeat' (first | exact trivial | exact le_same _ | exact le_imm (.inl rfl) | exact le_imm (.inr rfl) | (refine le_agg ?_) | apply And.intro))))
  (focus (simp [purs]; done))
  try simp -implicitDefEqProofs only [avl, reduceCtorEq, ↓reduceIte, sevalprocAttr, sh, sh1, hb]
  repeat' (first | (refine (hκ _).mpr ?_; clear hκ) | refine kn1 ?_ | refine kr1 ?_ | refine ke1 ?_ | refine kn2 ?_ | refine kr2 ?_ | refine kx2 ?_ | refine ke2 rfl ?_ | refine kn3 ?_ | refine kr3 ?_ | refine ke3 ?_ | refine kn4 ?_ | refine kr4 ?_ | refine ke4 ?_ | refine w_seq ?_ | refine w_block ?_ | (refine aw_regk fun κ hκ => ?_; simp -implicitDefEqProofs only [avl, reduceCtorEq, ↓reduceIte, sevalprocAttr, sh, sh1, hb]) | refine aw_exit ?_ | refine aw_ret ?_ | refine aw_skip ?_ | refine aw_label ?_ | refine condc_t ?_ | refine condc_f ?_ | (refine aw_cond2 (by simp -implicitDefEqProofs only [avl, reduceCtorEq, ↓reduceIte, sevalprocAttr, sh, sh1, hb]; rfl) ?_) | ((first | refine gkc_fork ?_ ?_ | refine gkc_split ?_ ?_) <;> intro hq <;> simp -implicitDefEqProofs only [hq, avl, reduceCtorEq, ↓reduceIte, sevalprocAttr, sh, sh1, hb]) | ((first | refine condc_fork ?_ ?_ | refine condc_bool ?_ ?_) <;> intro hq))
  first | refine callsc (g1) ?_ ?_ | refine callc (g1) ?_ ?_ | ((first | refine callsc (act_le (g1) ?_) ?_ ?_ | refine callc (act_le (g1) ?_) ?_ ?_); (focus (repeat' (first | exact trivial | exact le_same _ | exact le_imm (.inl rfl) | exact le_imm (.inr rfl) | (refine le_agg ?_) | apply And.intro))))
  (focus (simp [purs]; done))
  try simp -implicitDefEqProofs only [avl, reduceCtorEq, ↓reduceIte, sevalprocAttr, sh, sh1]
  repeat' (first | (refine (hκ _).mpr ?_; clear hκ) | refine kn1 ?_ | refine kr1 ?_ | refine ke1 ?_ | refine kn2 ?_ | refine kr2 ?_ | refine kx2 ?_ | refine ke2 rfl ?_ | refine kn3 ?_ | refine kr3 ?_ | refine ke3 ?_ | refine kn4 ?_ | refine kr4 ?_ | refine ke4 ?_ | refine w_seq ?_ | refine w_block ?_ | (refine aw_regk fun κ hκ => ?_; simp -implicitDefEqProofs only [avl, reduceCtorEq, ↓reduceIte, sevalprocAttr, sh, sh1]) | refine aw_exit ?_ | refine aw_ret ?_ | refine aw_skip ?_ | refine aw_label ?_ | refine condc_t ?_ | refine condc_f ?_ | (refine aw_cond2 (by simp -implicitDefEqProofs only [avl, reduceCtorEq, ↓reduceIte, sevalprocAttr, sh, sh1]; rfl) ?_) | ((first | refine gkc_fork ?_ ?_ | refine gkc_split ?_ ?_) <;> intro hq <;> simp -implicitDefEqProofs only [hq, avl, reduceCtorEq, ↓reduceIte, sevalprocAttr, sh, sh1]) | ((first | refine condc_fork ?_ ?_ | refine condc_bool ?_ ?_) <;> intro hq))
  first | refine callsc (g2) ?_ ?_ | refine callc (g2) ?_ ?_ | ((first | refine callsc (act_le (g2) ?_) ?_ ?_ | refine callc (act_le (g2) ?_) ?_ ?_); (focus (repeat' (first | exact trivial | exact le_same _ | exact le_imm (.inl rfl) | exact le_imm (.inr rfl) | (refine le_agg ?_) | apply And.intro))))
  (focus (simp [purs]; done))
  try simp -implicitDefEqProofs only [avl, reduceCtorEq, ↓reduceIte, sevalprocAttr, sh, sh1, eq_self, Bool.and_self]
  repeat' (first | (refine (hκ _).mpr ?_; clear hκ) | refine kn1 ?_ | refine kr1 ?_ | refine ke1 ?_ | refine kn2 ?_ | refine kr2 ?_ | refine kx2 ?_ | refine ke2 rfl ?_ | refine kn3 ?_ | refine kr3 ?_ | refine ke3 ?_ | refine kn4 ?_ | refine kr4 ?_ | refine ke4 ?_ | refine w_seq ?_ | refine w_block ?_ | (refine aw_regk fun κ hκ => ?_; simp -implicitDefEqProofs only [avl, reduceCtorEq, ↓reduceIte, sevalprocAttr, sh, sh1, eq_self, Bool.and_self]) | refine aw_exit ?_ | refine aw_ret ?_ | refine aw_skip ?_ | refine aw_label ?_ | refine condc_t ?_ | refine condc_f ?_ | (refine aw_cond2 (by simp -implicitDefEqProofs only [avl, reduceCtorEq, ↓reduceIte, sevalprocAttr, sh, sh1, eq_self, Bool.and_self]; rfl) ?_) | ((first | refine gkc_fork ?_ ?_ | refine gkc_split ?_ ?_) <;> intro hq <;> simp -implicitDefEqProofs only [hq, avl, reduceCtorEq, ↓reduceIte, sevalprocAttr, sh, sh1, eq_self, Bool.and_self]) | ((first | refine condc_fork ?_ ?_ | refine condc_bool ?_ ?_) <;> intro hq))
  first | refine callsc (hn) ?_ ?_ | refine callc (hn) ?_ ?_ | ((first | refine callsc (act_le (hn) ?_) ?_ ?_ | refine callc (act_le (hn) ?_) ?_ ?_); (focus (repeat' (first | exact trivial | exact le_same _ | exact le_imm (.inl rfl) | exact le_imm (.inr rfl) | (refine le_agg ?_) | apply And.intro))))
  (focus (simp [purs]; done))
  try simp -implicitDefEqProofs only [avl, reduceCtorEq, ↓reduceIte, sevalprocAttr, sh, sh1, eq_self, Bool.and_self, decide_true]
  repeat' (first | (refine (hκ _).mpr ?_; clear hκ) | refine kn1 ?_ | refine kr1 ?_ | refine ke1 ?_ | refine kn2 ?_ | refine kr2 ?_ | refine kx2 ?_ | refine ke2 rfl ?_ | refine kn3 ?_ | refine kr3 ?_ | refine ke3 ?_ | refine kn4 ?_ | refine kr4 ?_ | refine ke4 ?_ | refine w_seq ?_ | refine w_block ?_ | (refine aw_regk fun κ hκ => ?_; simp -implicitDefEqProofs only [avl, reduceCtorEq, ↓reduceIte, sevalprocAttr, sh, sh1, eq_self, Bool.and_self, decide_true]) | refine aw_exit ?_ | refine aw_ret ?_ | refine aw_skip ?_ | refine aw_label ?_ | refine condc_t ?_ | refine condc_f ?_ | (refine aw_cond2 (by simp -implicitDefEqProofs only [avl, reduceCtorEq, ↓reduceIte, sevalprocAttr, sh, sh1, eq_self, Bool.and_self, decide_true]; rfl) ?_) | ((first | refine gkc_fork ?_ ?_ | refine gkc_split ?_ ?_) <;> intro hq <;> simp -implicitDefEqProofs only [hq, avl, reduceCtorEq, ↓reduceIte, sevalprocAttr, sh, sh1, eq_self, Bool.and_self, decide_true]) | ((first | refine condc_fork ?_ ?_ | refine condc_bool ?_ ?_) <;> intro hq))
  first | refine callsc (hs1) ?_ ?_ | refine callc (hs1) ?_ ?_ | ((first | refine callsc (act_le (hs1) ?_) ?_ ?_ | refine callc (act_le (hs1) ?_) ?_ ?_); (focus (repeat' (first | exact trivial | exact le_same _ | exact le_imm (.inl rfl) | exact le_imm (.inr rfl) | (refine le_agg ?_) | apply And.intro))))
  (focus (simp [purs]; done))
  try simp -implicitDefEqProofs only [avl, reduceCtorEq, ↓reduceIte, sevalprocAttr, sh, sh1, eq_self, Bool.and_self, decide_true]
  repeat' (first | (refine (hκ _).mpr ?_; clear hκ) | refine kn1 ?_ | refine kr1 ?_ | refine ke1 ?_ | refine kn2 ?_ | refine kr2 ?_ | refine kx2 ?_ | refine ke2 rfl ?_ | refine kn3 ?_ | refine kr3 ?_ | refine ke3 ?_ | refine kn4 ?_ | refine kr4 ?_ | refine ke4 ?_ | refine w_seq ?_ | refine w_block ?_ | (refine aw_regk fun κ hκ => ?_; simp -implicitDefEqProofs only [avl, reduceCtorEq, ↓reduceIte, sevalprocAttr, sh, sh1, eq_self, Bool.and_self, decide_true]) | refine aw_exit ?_ | refine aw_ret ?_ | refine aw_skip ?_ | refine aw_label ?_ | refine condc_t ?_ | refine condc_f ?_ | (refine aw_cond2 (by simp -implicitDefEqProofs only [avl, reduceCtorEq, ↓reduceIte, sevalprocAttr, sh, sh1, eq_self, Bool.and_self, decide_true]; rfl) ?_) | ((first | refine gkc_fork ?_ ?_ | refine gkc_split ?_ ?_) <;> intro hq <;> simp -implicitDefEqProofs only [hq, avl, reduceCtorEq, ↓reduceIte, sevalprocAttr, sh, sh1, eq_self, Bool.and_self, decide_true]) | ((first | refine condc_fork ?_ ?_ | refine condc_bool ?_ ?_) <;> intro hq))
  first | refine callsc (hs2) ?_ ?_ | refine callc (hs2) ?_ ?_ | ((first | refine callsc (act_le (hs2) ?_) ?_ ?_ | refine callc (act_le (hs2) ?_) ?_ ?_); (focus (repeat' (first | exact trivial | exact le_same _ | exact le_imm (.inl rfl) | exact le_imm (.inr rfl) | (refine le_agg ?_) | apply And.intro))))
  (focus (simp [purs]; done))
  try simp -implicitDefEqProofs only [avl, reduceCtorEq, ↓reduceIte, sevalprocAttr, sh, sh1, eq_self, Bool.and_self, decide_true]
  repeat' (first | (refine (hκ _).mpr ?_; clear hκ) | refine kn1 ?_ | refine kr1 ?_ | refine ke1 ?_ | refine kn2 ?_ | refine kr2 ?_ | refine kx2 ?_ | refine ke2 rfl ?_ | refine kn3 ?_ | refine kr3 ?_ | refine ke3 ?_ | refine kn4 ?_ | refine kr4 ?_ | refine ke4 ?_ | refine w_seq ?_ | refine w_block ?_ | (refine aw_regk fun κ hκ => ?_; simp -implicitDefEqProofs only [avl, reduceCtorEq, ↓reduceIte, sevalprocAttr, sh, sh1, eq_self, Bool.and_self, decide_true]) | refine aw_exit ?_ | refine aw_ret ?_ | refine aw_skip ?_ | refine aw_label ?_ | refine condc_t ?_ | refine condc_f ?_ | (refine aw_cond2 (by simp -implicitDefEqProofs only [avl, reduceCtorEq, ↓reduceIte, sevalprocAttr, sh, sh1, eq_self, Bool.and_self, decide_true]; rfl) ?_) | ((first | refine gkc_fork ?_ ?_ | refine gkc_split ?_ ?_) <;> intro hq <;> simp -implicitDefEqProofs only [hq, avl, reduceCtorEq, ↓reduceIte, sevalprocAttr, sh, sh1, eq_self, Bool.and_self, decide_true]) | ((first | refine condc_fork ?_ ?_ | refine condc_bool ?_ ?_) <;> intro hq))
  first | refine callsc (hp1) ?_ ?_ | refine callc (hp1) ?_ ?_ | ((first | refine callsc (act_le (hp1) ?_) ?_ ?_ | refine callc (act_le (hp1) ?_) ?_ ?_); (focus (repeat' (first | exact trivial | exact le_same _ | exact le_imm (.inl rfl) | exact le_imm (.inr rfl) | (refine le_agg ?_) | apply And.intro))))
  (focus (simp [purs]; done))
  try simp -implicitDefEqProofs only [avl, reduceCtorEq, ↓reduceIte, sevalprocAttr, sh, sh1, eq_self, Bool.and_self, decide_true]
  repeat' (first | (refine (hκ _).mpr ?_; clear hκ) | refine kn1 ?_ | refine kr1 ?_ | refine ke1 ?_ | refine kn2 ?_ | refine kr2 ?_ | refine kx2 ?_ | refine ke2 rfl ?_ | refine kn3 ?_ | refine kr3 ?_ | refine ke3 ?_ | refine kn4 ?_ | refine kr4 ?_ | refine ke4 ?_ | refine w_seq ?_ | refine w_block ?_ | (refine aw_regk fun κ hκ => ?_; simp -implicitDefEqProofs only [avl, reduceCtorEq, ↓reduceIte, sevalprocAttr, sh, sh1, eq_self, Bool.and_self, decide_true]) | refine aw_exit ?_ | refine aw_ret ?_ | refine aw_skip ?_ | refine aw_label ?_ | refine condc_t ?_ | refine condc_f ?_ | (refine aw_cond2 (by simp -implicitDefEqProofs only [avl, reduceCtorEq, ↓reduceIte, sevalprocAttr, sh, sh1, eq_self, Bool.and_self, decide_true]; rfl) ?_) | ((first | refine gkc_fork ?_ ?_ | refine gkc_split ?_ ?_) <;> intro hq <;> simp -implicitDefEqProofs only [hq, avl, reduceCtorEq, ↓reduceIte, sevalprocAttr, sh, sh1, eq_self, Bool.and_self, decide_true]) | ((first | refine condc_fork ?_ ?_ | refine condc_bool ?_ ?_) <;> intro hq))
  first | refine callsc (hp2) ?_ ?_ | refine callc (hp2) ?_ ?_ | ((first | refine callsc (act_le (hp2) ?_) ?_ ?_ | refine callc (act_le (hp2) ?_) ?_ ?_); (focus (repeat' (first | exact trivial | exact le_same _ | exact le_imm (.inl rfl) | exact le_imm (.inr rfl) | (refine le_agg ?_) | apply And.intro))))
  (focus (simp [purs]; done))
  try simp -implicitDefEqProofs only [avl, reduceCtorEq, ↓reduceIte, sevalprocAttr, sh, sh1, eq_self, Bool.and_self, decide_true]
  repeat' (first | (refine (hκ _).mpr ?_; clear hκ) | refine kn1 ?_ | refine kr1 ?_ | refine ke1 ?_ | refine kn2 ?_ | refine kr2 ?_ | refine kx2 ?_ | refine ke2 rfl ?_ | refine kn3 ?_ | refine kr3 ?_ | refine ke3 ?_ | refine kn4 ?_ | refine kr4 ?_ | refine ke4 ?_ | refine w_seq ?_ | refine w_block ?_ | (refine aw_regk fun κ hκ => ?_; simp -implicitDefEqProofs only [avl, reduceCtorEq, ↓reduceIte, sevalprocAttr, sh, sh1, eq_self, Bool.and_self, decide_true]) | refine aw_exit ?_ | refine aw_ret ?_ | refine aw_skip ?_ | refine aw_label ?_ | refine condc_t ?_ | refine condc_f ?_ | (refine aw_cond2 (by simp -implicitDefEqProofs only [avl, reduceCtorEq, ↓reduceIte, sevalprocAttr, sh, sh1, eq_self, Bool.and_self, decide_true]; rfl) ?_) | ((first | refine gkc_fork ?_ ?_ | refine gkc_split ?_ ?_) <;> intro hq <;> simp -implicitDefEqProofs only [hq, avl, reduceCtorEq, ↓reduceIte, sevalprocAttr, sh, sh1, eq_self, Bool.and_self, decide_true]) | ((first | refine condc_fork ?_ ?_ | refine condc_bool ?_ ?_) <;> intro hq))
  first | refine callsc (hm) ?_ ?_ | refine callc (hm) ?_ ?_ | ((first | refine callsc (act_le (hm) ?_) ?_ ?_ | refine callc (act_le (hm) ?_) ?_ ?_); (focus (repeat' (first | exact trivial | exact le_same _ | exact le_imm (.inl rfl) | exact le_imm (.inr rfl) | (refine le_agg ?_) | apply And.intro))))
  (focus (simp [purs]; done))
  try simp -implicitDefEqProofs only [avl, reduceCtorEq, ↓reduceIte, sevalprocAttr, sh, sh1, eq_self, Bool.and_self, decide_true]
  repeat' (first | (refine (hκ _).mpr ?_; clear hκ) | refine kn1 ?_ | refine kr1 ?_ | refine ke1 ?_ | refine kn2 ?_ | refine kr2 ?_ | refine kx2 ?_ | refine ke2 rfl ?_ | refine kn3 ?_ | refine kr3 ?_ | refine ke3 ?_ | refine kn4 ?_ | refine kr4 ?_ | refine ke4 ?_ | refine w_seq ?_ | refine w_block ?_ | (refine aw_regk fun κ hκ => ?_; simp -implicitDefEqProofs only [avl, reduceCtorEq, ↓reduceIte, sevalprocAttr, sh, sh1, eq_self, Bool.and_self, decide_true]) | refine aw_exit ?_ | refine aw_ret ?_ | refine aw_skip ?_ | refine aw_label ?_ | refine condc_t ?_ | refine condc_f ?_ | (refine aw_cond2 (by simp -implicitDefEqProofs only [avl, reduceCtorEq, ↓reduceIte, sevalprocAttr, sh, sh1, eq_self, Bool.and_self, decide_true]; rfl) ?_) | ((first | refine gkc_fork ?_ ?_ | refine gkc_split ?_ ?_) <;> intro hq <;> simp -implicitDefEqProofs only [hq, avl, reduceCtorEq, ↓reduceIte, sevalprocAttr, sh, sh1, eq_self, Bool.and_self, decide_true]) | ((first | refine condc_fork ?_ ?_ | refine condc_bool ?_ ?_) <;> intro hq))
  exact ret_bool rfl rfl
end Go.Proofs.Ytgakgilaikgboaa
