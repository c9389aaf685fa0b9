/- Opening: the small functions, over plain values. -/
import Derived.Test.YtgakgilaikgboaaOc
namespace Go.Proofs.Ytgakgilaikgboaa
open Go.RowKit
set_option maxHeartbeats 4000000
set_option maxRecDepth 100000
set_option linter.unusedSimpArgs false
set_option linter.unusedVariables false

structure Hl where
  asn : Int
  hold : Int
  id : Int
  role : Int
def hlA (h : Hl) : AV := .agg [.int .i64 h.asn, .int .i64 h.hold, .int .i64 h.id, .int .i64 h.role]
def numB (n : Int) : Bool := decide (1 ≤ n) && decide (n ≤ 4294967295)
def holdB (n : Int) : Bool := decide (n = 0) || (decide (3 ≤ n) && decide (n ≤ 65535))
def hlB (h : Hl) : Bool := numB h.asn && numB h.id && holdB h.hold && decide (-1 ≤ h.role) && decide (h.role ≤ 4)
def shortI (n : Int) : Int := if n > 65535 then 23456 else n
theorem u8_b (v : Int) : IntKind.u8.wrap v = ((octAt v 0).toNat : Int) := by
  have e : (bv (octAt v 0)) = .int .u8 (v / (2 : Int) ^ (8 * 0) % 256) := bv_octAt v 0
  unfold bv at e
  injection e with _ e
  rw [e]
  simp only [IntKind.wrap, IntKind.signed, IntKind.bits, Bool.false_and, Bool.false_eq_true, if_false]
  simp
theorem number_ac (n : Int) : ACt Try.prog 50 [.int .i64 n] (.bool (numB n)) [] := by
  unfold numB
  refine act_of p_open_number (by simp [c_open_number]) ?_
  show AW _ b_open_number (RetOk [.tmp 2] _ _) { n := 9, tm := [(0, _)], box := [], fr := [] }
  unfold b_open_number
  try simp -implicitDefEqProofs only [avl, reduceCtorEq, ↓reduceIte, sevalprocAttr]
  repeat' (first | (refine (hκ _).mpr ?_; clear hκ) | refine kn1 ?_ | refine kr1 ?_ | refine ke1 ?_ | refine kn2 ?_ | refine kr2 ?_ | refine kx2 ?_ | refine ke2 rfl ?_ | refine kn3 ?_ | refine kr3 ?_ | refine ke3 ?_ | refine kn4 ?_ | refine kr4 ?_ | refine ke4 ?_ | refine w_seq ?_ | refine w_block ?_ | (refine aw_regk fun κ hκ => ?_; simp -implicitDefEqProofs only [avl, reduceCtorEq, ↓reduceIte, sevalprocAttr]) | refine aw_exit ?_ | refine aw_ret ?_ | refine aw_skip ?_ | refine aw_label ?_ | refine condc_t ?_ | refine condc_f ?_ | (refine aw_cond2 (by simp -implicitDefEqProofs only [avl, reduceCtorEq, ↓reduceIte, sevalprocAttr]; rfl) ?_) | ((first | refine gkc_fork ?_ ?_ | refine gkc_split ?_ ?_) <;> intro hq <;> simp -implicitDefEqProofs only [hq, avl, reduceCtorEq, ↓reduceIte, sevalprocAttr]) | ((first | refine condc_fork ?_ ?_ | refine condc_bool ?_ ?_) <;> intro hq))
  all_goals refine ret_bool rfl ?_
  all_goals (rw [Bool.eq_iff_iff]; simp only [Bool.and_eq_true, Bool.or_eq_true, Bool.not_eq_true', decide_eq_true_eq, decide_eq_false_iff_not, Bool.not_true, Bool.not_false, Bool.false_eq_true, Bool.true_and, Bool.and_true, Bool.false_and, Bool.and_false, Bool.and_self, Bool.or_true, Bool.or_false, Bool.true_or, Bool.false_or, reduceCtorEq, true_and, and_true, false_and, and_false, or_true, true_or, or_false, false_or, iff_true, iff_false, true_iff, false_iff, not_false_eq_true, not_true_eq_false]; first | omega | (simp_all; done) | skip)
theorem holds_ac (n : Int) : ACt Try.prog 51 [.int .i64 n] (.bool (holdB n)) [] := by
  unfold holdB
  refine act_of p_open_holds (by simp [c_open_holds]) ?_
  show AW _ b_open_holds (RetOk [.tmp 2] _ _) { n := 13, tm := [(0, _)], box := [], fr := [] }
  unfold b_open_holds
  try simp -implicitDefEqProofs only [avl, reduceCtorEq, ↓reduceIte, sevalprocAttr]
  repeat' (first | (refine (hκ _).mpr ?_; clear hκ) | refine kn1 ?_ | refine kr1 ?_ | refine ke1 ?_ | refine kn2 ?_ | refine kr2 ?_ | refine kx2 ?_ | refine ke2 rfl ?_ | refine kn3 ?_ | refine kr3 ?_ | refine ke3 ?_ | refine kn4 ?_ | refine kr4 ?_ | refine ke4 ?_ | refine w_seq ?_ | refine w_block ?_ | (refine aw_regk fun κ hκ => ?_; simp -implicitDefEqProofs only [avl, reduceCtorEq, ↓reduceIte, sevalprocAttr]) | refine aw_exit ?_ | refine aw_ret ?_ | refine aw_skip ?_ | refine aw_label ?_ | refine condc_t ?_ | refine condc_f ?_ | (refine aw_cond2 (by simp -implicitDefEqProofs only [avl, reduceCtorEq, ↓reduceIte, sevalprocAttr]; rfl) ?_) | ((first | refine gkc_fork ?_ ?_ | refine gkc_split ?_ ?_) <;> intro hq <;> simp -implicitDefEqProofs only [hq, avl, reduceCtorEq, ↓reduceIte, sevalprocAttr]) | ((first | refine condc_fork ?_ ?_ | refine condc_bool ?_ ?_) <;> intro hq))
  all_goals refine ret_bool rfl ?_
  all_goals (rw [Bool.eq_iff_iff]; simp only [Bool.and_eq_true, Bool.or_eq_true, Bool.not_eq_true', decide_eq_true_eq, decide_eq_false_iff_not, Bool.not_true, Bool.not_false, Bool.false_eq_true, Bool.true_and, Bool.and_true, Bool.false_and, Bool.and_false, Bool.and_self, Bool.or_true, Bool.or_false, Bool.true_or, Bool.false_or, reduceCtorEq, true_and, and_true, false_and, and_false, or_true, true_or, or_false, false_or, iff_true, iff_false, true_iff, false_iff, not_false_eq_true, not_true_eq_false]; first | omega | (simp_all; done) | skip)
theorem hsane_ac (h : Hl) : ACt Try.prog 19 [hlA h] (.bool (hlB h)) [] := by
  unfold hlB
  have h1 := number_ac h.asn
  have h2 := number_ac h.id
  have h3 := holds_ac h.hold
  generalize numB h.asn = b1 at *
  generalize numB h.id = b2 at *
  generalize holdB h.hold = b3 at *
  refine act_of p_open_Sane (by simp [c_open_Sane]) ?_
  show AW _ b_open_Sane (RetOk [.tmp 2] _ _) { n := 26, tm := [(0, _)], box := [], fr := [] }
  unfold b_open_Sane
  unfold hlA
  try simp -implicitDefEqProofs only [avl, reduceCtorEq, ↓reduceIte, sevalprocAttr]
  repeat' (first | (refine (hκ _).mpr ?_; clear hκ) | refine kn1 ?_ | refine kr1 ?_ | refine ke1 ?_ | refine kn2 ?_ | refine kr2 ?_ | refine kx2 ?_ | refine ke2 rfl ?_ | refine kn3 ?_ | refine kr3 ?_ | refine ke3 ?_ | refine kn4 ?_ | refine kr4 ?_ | refine ke4 ?_ | refine w_seq ?_ | refine w_block ?_ | (refine aw_regk fun κ hκ => ?_; simp -implicitDefEqProofs only [avl, reduceCtorEq, ↓reduceIte, sevalprocAttr]) | refine aw_exit ?_ | refine aw_ret ?_ | refine aw_skip ?_ | refine aw_label ?_ | refine condc_t ?_ | refine condc_f ?_ | (refine aw_cond2 (by simp -implicitDefEqProofs only [avl, reduceCtorEq, ↓reduceIte, sevalprocAttr]; rfl) ?_) | ((first | refine gkc_fork ?_ ?_ | refine gkc_split ?_ ?_) <;> intro hq <;> simp -implicitDefEqProofs only [hq, avl, reduceCtorEq, ↓reduceIte, sevalprocAttr]) | ((first | refine condc_fork ?_ ?_ | refine condc_bool ?_ ?_) <;> intro hq))
  first | refine callsc (h1) ?_ ?_ | refine callc (h1) ?_ ?_ | ((first | refine callsc (act_le (h1) ?_) ?_ ?_ | refine callc (act_le (h1) ?_) ?_ ?_); (focus (repeat' (first | exact trivial | exact le_same _ | exact le_imm (.inl rfl) | exact le_imm (.inr rfl) | (refine le_agg ?_) | apply And.intro))))
  (focus (simp [purs]; done))
  cases b1
  · try simp -implicitDefEqProofs only [avl, reduceCtorEq, ↓reduceIte, sevalprocAttr, sh, sh1]
    repeat' (first | (refine (hκ _).mpr ?_; clear hκ) | refine kn1 ?_ | refine kr1 ?_ | refine ke1 ?_ | refine kn2 ?_ | refine kr2 ?_ | refine kx2 ?_ | refine ke2 rfl ?_ | refine kn3 ?_ | refine kr3 ?_ | refine ke3 ?_ | refine kn4 ?_ | refine kr4 ?_ | refine ke4 ?_ | refine w_seq ?_ | refine w_block ?_ | (refine aw_regk fun κ hκ => ?_; simp -implicitDefEqProofs only [avl, reduceCtorEq, ↓reduceIte, sevalprocAttr, sh, sh1]) | refine aw_exit ?_ | refine aw_ret ?_ | refine aw_skip ?_ | refine aw_label ?_ | refine condc_t ?_ | refine condc_f ?_ | (refine aw_cond2 (by simp -implicitDefEqProofs only [avl, reduceCtorEq, ↓reduceIte, sevalprocAttr, sh, sh1]; rfl) ?_) | ((first | refine gkc_fork ?_ ?_ | refine gkc_split ?_ ?_) <;> intro hq <;> simp -implicitDefEqProofs only [hq, avl, reduceCtorEq, ↓reduceIte, sevalprocAttr, sh, sh1]) | ((first | refine condc_fork ?_ ?_ | refine condc_bool ?_ ?_) <;> intro hq))
    exact ret_bool rfl rfl
  try simp -implicitDefEqProofs only [avl, reduceCtorEq, ↓reduceIte, sevalprocAttr, sh, sh1]
  repeat' (first | (refine (hκ _).mpr ?_; clear hκ) | refine kn1 ?_ | refine kr1 ?_ | refine ke1 ?_ | refine kn2 ?_ | refine kr2 ?_ | refine kx2 ?_ | refine ke2 rfl ?_ | refine kn3 ?_ | refine kr3 ?_ | refine ke3 ?_ | refine kn4 ?_ | refine kr4 ?_ | refine ke4 ?_ | refine w_seq ?_ | refine w_block ?_ | (refine aw_regk fun κ hκ => ?_; simp -implicitDefEqProofs only [avl, reduceCtorEq, ↓reduceIte, sevalprocAttr, sh, sh1]) | refine aw_exit ?_ | refine aw_ret ?_ | refine aw_skip ?_ | refine aw_label ?_ | refine condc_t ?_ | refine condc_f ?_ | (refine aw_cond2 (by simp -implicitDefEqProofs only [avl, reduceCtorEq, ↓reduceIte, sevalprocAttr, sh, sh1]; rfl) ?_) | ((first | refine gkc_fork ?_ ?_ | refine gkc_split ?_ ?_) <;> intro hq <;> simp -implicitDefEqProofs only [hq, avl, reduceCtorEq, ↓reduceIte, sevalprocAttr, sh, sh1]) | ((first | refine condc_fork ?_ ?_ | refine condc_bool ?_ ?_) <;> intro hq))
  first | refine callsc (h2) ?_ ?_ | refine callc (h2) ?_ ?_ | ((first | refine callsc (act_le (h2) ?_) ?_ ?_ | refine callc (act_le (h2) ?_) ?_ ?_); (focus (repeat' (first | exact trivial | exact le_same _ | exact le_imm (.inl rfl) | exact le_imm (.inr rfl) | (refine le_agg ?_) | apply And.intro))))
  (focus (simp [purs]; done))
  cases b2
  · try simp -implicitDefEqProofs only [avl, reduceCtorEq, ↓reduceIte, sevalprocAttr, sh, sh1]
    repeat' (first | (refine (hκ _).mpr ?_; clear hκ) | refine kn1 ?_ | refine kr1 ?_ | refine ke1 ?_ | refine kn2 ?_ | refine kr2 ?_ | refine kx2 ?_ | refine ke2 rfl ?_ | refine kn3 ?_ | refine kr3 ?_ | refine ke3 ?_ | refine kn4 ?_ | refine kr4 ?_ | refine ke4 ?_ | refine w_seq ?_ | refine w_block ?_ | (refine aw_regk fun κ hκ => ?_; simp -implicitDefEqProofs only [avl, reduceCtorEq, ↓reduceIte, sevalprocAttr, sh, sh1]) | refine aw_exit ?_ | refine aw_ret ?_ | refine aw_skip ?_ | refine aw_label ?_ | refine condc_t ?_ | refine condc_f ?_ | (refine aw_cond2 (by simp -implicitDefEqProofs only [avl, reduceCtorEq, ↓reduceIte, sevalprocAttr, sh, sh1]; rfl) ?_) | ((first | refine gkc_fork ?_ ?_ | refine gkc_split ?_ ?_) <;> intro hq <;> simp -implicitDefEqProofs only [hq, avl, reduceCtorEq, ↓reduceIte, sevalprocAttr, sh, sh1]) | ((first | refine condc_fork ?_ ?_ | refine condc_bool ?_ ?_) <;> intro hq))
    exact ret_bool rfl rfl
  try simp -implicitDefEqProofs only [avl, reduceCtorEq, ↓reduceIte, sevalprocAttr, sh, sh1]
  repeat' (first | (refine (hκ _).mpr ?_; clear hκ) | refine kn1 ?_ | refine kr1 ?_ | refine ke1 ?_ | refine kn2 ?_ | refine kr2 ?_ | refine kx2 ?_ | refine ke2 rfl ?_ | refine kn3 ?_ | refine kr3 ?_ | refine ke3 ?_ | refine kn4 ?_ | refine kr4 ?_ | refine ke4 ?_ | refine w_seq ?_ | refine w_block ?_ | (refine aw_regk fun κ hκ => ?_; simp -implicitDefEqProofs only [avl, reduceCtorEq, ↓reduceIte, sevalprocAttr, sh, sh1]) | refine aw_exit ?_ | refine aw_ret ?_ | refine aw_skip ?_ | refine aw_label ?_ | refine condc_t ?_ | refine condc_f ?_ | (refine aw_cond2 (by simp -implicitDefEqProofs only [avl, reduceCtorEq, ↓reduceIte, sevalprocAttr, sh, sh1]; rfl) ?_) | ((first | refine gkc_fork ?_ ?_ | refine gkc_split ?_ ?_) <;> intro hq <;> simp -implicitDefEqProofs only [hq, avl, reduceCtorEq, ↓reduceIte, sevalprocAttr, sh, sh1]) | ((first | refine condc_fork ?_ ?_ | refine condc_bool ?_ ?_) <;> intro hq))
  first | refine callsc (h3) ?_ ?_ | refine callc (h3) ?_ ?_ | ((first | refine callsc (act_le (h3) ?_) ?_ ?_ | refine callc (act_le (h3) ?_) ?_ ?_); (focus (repeat' (first | exact trivial | exact le_same _ | exact le_imm (.inl rfl) | exact le_imm (.inr rfl) | (refine le_agg ?_) | apply And.intro))))
  (focus (simp [purs]; done))
  cases b3
  · try simp -implicitDefEqProofs only [avl, reduceCtorEq, ↓reduceIte, sevalprocAttr, sh, sh1]
    repeat' (first | (refine (hκ _).mpr ?_; clear hκ) | refine kn1 ?_ | refine kr1 ?_ | refine ke1 ?_ | refine kn2 ?_ | refine kr2 ?_ | refine kx2 ?_ | refine ke2 rfl ?_ | refine kn3 ?_ | refine kr3 ?_ | refine ke3 ?_ | refine kn4 ?_ | refine kr4 ?_ | refine ke4 ?_ | refine w_seq ?_ | refine w_block ?_ | (refine aw_regk fun κ hκ => ?_; simp -implicitDefEqProofs only [avl, reduceCtorEq, ↓reduceIte, sevalprocAttr, sh, sh1]) | refine aw_exit ?_ | refine aw_ret ?_ | refine aw_skip ?_ | refine aw_label ?_ | refine condc_t ?_ | refine condc_f ?_ | (refine aw_cond2 (by simp -implicitDefEqProofs only [avl, reduceCtorEq, ↓reduceIte, sevalprocAttr, sh, sh1]; rfl) ?_) | ((first | refine gkc_fork ?_ ?_ | refine gkc_split ?_ ?_) <;> intro hq <;> simp -implicitDefEqProofs only [hq, avl, reduceCtorEq, ↓reduceIte, sevalprocAttr, sh, sh1]) | ((first | refine condc_fork ?_ ?_ | refine condc_bool ?_ ?_) <;> intro hq))
    exact ret_bool rfl rfl
  try simp -implicitDefEqProofs only [avl, reduceCtorEq, ↓reduceIte, sevalprocAttr, sh, sh1]
  repeat' (first | (refine (hκ _).mpr ?_; clear hκ) | refine kn1 ?_ | refine kr1 ?_ | refine ke1 ?_ | refine kn2 ?_ | refine kr2 ?_ | refine kx2 ?_ | refine ke2 rfl ?_ | refine kn3 ?_ | refine kr3 ?_ | refine ke3 ?_ | refine kn4 ?_ | refine kr4 ?_ | refine ke4 ?_ | refine w_seq ?_ | refine w_block ?_ | (refine aw_regk fun κ hκ => ?_; simp -implicitDefEqProofs only [avl, reduceCtorEq, ↓reduceIte, sevalprocAttr, sh, sh1]) | refine aw_exit ?_ | refine aw_ret ?_ | refine aw_skip ?_ | refine aw_label ?_ | refine condc_t ?_ | refine condc_f ?_ | (refine aw_cond2 (by simp -implicitDefEqProofs only [avl, reduceCtorEq, ↓reduceIte, sevalprocAttr, sh, sh1]; rfl) ?_) | ((first | refine gkc_fork ?_ ?_ | refine gkc_split ?_ ?_) <;> intro hq <;> simp -implicitDefEqProofs only [hq, avl, reduceCtorEq, ↓reduceIte, sevalprocAttr, sh, sh1]) | ((first | refine condc_fork ?_ ?_ | refine condc_bool ?_ ?_) <;> intro hq))
  all_goals refine ret_bool rfl ?_
  all_goals (rw [Bool.eq_iff_iff]; simp only [Bool.and_eq_true, Bool.or_eq_true, Bool.not_eq_true', decide_eq_true_eq, decide_eq_false_iff_not, Bool.not_true, Bool.not_false, Bool.false_eq_true, Bool.true_and, Bool.and_true, Bool.false_and, Bool.and_false, Bool.and_self, Bool.or_true, Bool.or_false, Bool.true_or, Bool.false_or, reduceCtorEq, true_and, and_true, false_and, and_false, or_true, true_or, or_false, false_or, iff_true, iff_false, true_iff, false_iff, not_false_eq_true, not_true_eq_false]; first | omega | (simp_all; done) | skip)
theorem hrsane_ac (h : Hl) : ACt Try.prog 20 [hlA h] (.bool (hlB h)) [] := by
  unfold hlB numB holdB
  refine act_of p_ridgewayref06_Sane (by simp [c_ridgewayref06_Sane]) ?_
  show AW _ b_ridgewayref06_Sane (RetOk [.tmp 2] _ _) { n := 46, tm := [(0, _)], box := [], fr := [] }
  unfold b_ridgewayref06_Sane
  unfold hlA
  try simp -implicitDefEqProofs only [avl, reduceCtorEq, ↓reduceIte, sevalprocAttr]
  repeat' (first | (refine (hκ _).mpr ?_; clear hκ) | refine kn1 ?_ | refine kr1 ?_ | refine ke1 ?_ | refine kn2 ?_ | refine kr2 ?_ | refine kx2 ?_ | refine ke2 rfl ?_ | refine kn3 ?_ | refine kr3 ?_ | refine ke3 ?_ | refine kn4 ?_ | refine kr4 ?_ | refine ke4 ?_ | refine w_seq ?_ | refine w_block ?_ | (refine aw_regk fun κ hκ => ?_; simp -implicitDefEqProofs only [avl, reduceCtorEq, ↓reduceIte, sevalprocAttr]) | refine aw_exit ?_ | refine aw_ret ?_ | refine aw_skip ?_ | refine aw_label ?_ | refine condc_t ?_ | refine condc_f ?_ | (refine aw_cond2 (by simp -implicitDefEqProofs only [avl, reduceCtorEq, ↓reduceIte, sevalprocAttr]; rfl) ?_) | ((first | refine gkc_fork ?_ ?_ | refine gkc_split ?_ ?_) <;> intro hq <;> simp -implicitDefEqProofs only [hq, avl, reduceCtorEq, ↓reduceIte, sevalprocAttr]) | ((first | refine condc_fork ?_ ?_ | refine condc_bool ?_ ?_) <;> intro hq))
  all_goals refine ret_bool rfl ?_
  all_goals (rw [Bool.eq_iff_iff]; simp only [Bool.and_eq_true, Bool.or_eq_true, Bool.not_eq_true', decide_eq_true_eq, decide_eq_false_iff_not, Bool.not_true, Bool.not_false, Bool.false_eq_true, Bool.true_and, Bool.and_true, Bool.false_and, Bool.and_false, Bool.and_self, Bool.or_true, Bool.or_false, Bool.true_or, Bool.false_or, reduceCtorEq, true_and, and_true, false_and, and_false, or_true, true_or, or_false, false_or, iff_true, iff_false, true_iff, false_iff, not_false_eq_true, not_true_eq_false]; first | omega | (simp_all; done) | skip)
theorem short_ac (n : Int) : ACt Try.prog 53 [.int .i64 n] (.int .i64 (shortI n)) [] := by
  refine act_of p_open_short (by simp [c_open_short]) ?_
  show AW _ b_open_short (RetOk [.tmp 2] _ _) { n := 6, tm := [(0, _)], box := [], fr := [] }
  unfold b_open_short
  unfold shortI
  by_cases h : n > 65535
  · rw [if_pos h]
    try simp -implicitDefEqProofs only [avl, reduceCtorEq, ↓reduceIte, sevalprocAttr, h]
    repeat' (first | (refine (hκ _).mpr ?_; clear hκ) | refine kn1 ?_ | refine kr1 ?_ | refine ke1 ?_ | refine kn2 ?_ | refine kr2 ?_ | refine kx2 ?_ | refine ke2 rfl ?_ | refine kn3 ?_ | refine kr3 ?_ | refine ke3 ?_ | refine kn4 ?_ | refine kr4 ?_ | refine ke4 ?_ | refine w_seq ?_ | refine w_block ?_ | (refine aw_regk fun κ hκ => ?_; simp -implicitDefEqProofs only [avl, reduceCtorEq, ↓reduceIte, sevalprocAttr, h]) | refine aw_exit ?_ | refine aw_ret ?_ | refine aw_skip ?_ | refine aw_label ?_ | refine condc_t ?_ | refine condc_f ?_ | (refine aw_cond2 (by simp -implicitDefEqProofs only [avl, reduceCtorEq, ↓reduceIte, sevalprocAttr, h]; rfl) ?_) | ((first | refine gkc_fork ?_ ?_ | refine gkc_split ?_ ?_) <;> intro hq <;> simp -implicitDefEqProofs only [hq, avl, reduceCtorEq, ↓reduceIte, sevalprocAttr, h]) | ((first | refine condc_fork ?_ ?_ | refine condc_bool ?_ ?_) <;> intro hq))
    try simp -implicitDefEqProofs only [List.append_assoc, avl, reduceCtorEq, ↓reduceIte, sevalprocAttr]
    first | refine retLt (by first | exact .inr rfl | exact .inl rfl) (by rfl) ?_ | refine retL1 (by first | exact .inr rfl | exact .inl rfl) (by rfl) ?_
    repeat' (first | exact trivial | apply And.intro)
    all_goals first
      | exact .same _ rfl
      | (refine .same _ ?_; (focus (simp [purs]; done)))
      | (refine .imm _ _ _ ?_; (focus (simp [purs]; done)))
      | (refine .le _ _ ?_ ?_; (focus (repeat' (first | exact trivial | exact le_same _ | exact le_imm (.inl rfl) | exact le_imm (.inr rfl) | (refine le_agg ?_) | apply And.intro))); (focus (simp [purs]; done)))
      | skip
  · rw [if_neg h]
    try simp -implicitDefEqProofs only [avl, reduceCtorEq, ↓reduceIte, sevalprocAttr, h]
    repeat' (first | (refine (hκ _).mpr ?_; clear hκ) | refine kn1 ?_ | refine kr1 ?_ | refine ke1 ?_ | refine kn2 ?_ | refine kr2 ?_ | refine kx2 ?_ | refine ke2 rfl ?_ | refine kn3 ?_ | refine kr3 ?_ | refine ke3 ?_ | refine kn4 ?_ | refine kr4 ?_ | refine ke4 ?_ | refine w_seq ?_ | refine w_block ?_ | (refine aw_regk fun κ hκ => ?_; simp -implicitDefEqProofs only [avl, reduceCtorEq, ↓reduceIte, sevalprocAttr, h]) | refine aw_exit ?_ | refine aw_ret ?_ | refine aw_skip ?_ | refine aw_label ?_ | refine condc_t ?_ | refine condc_f ?_ | (refine aw_cond2 (by simp -implicitDefEqProofs only [avl, reduceCtorEq, ↓reduceIte, sevalprocAttr, h]; rfl) ?_) | ((first | refine gkc_fork ?_ ?_ | refine gkc_split ?_ ?_) <;> intro hq <;> simp -implicitDefEqProofs only [hq, avl, reduceCtorEq, ↓reduceIte, sevalprocAttr, h]) | ((first | refine condc_fork ?_ ?_ | refine condc_bool ?_ ?_) <;> intro hq))
    try simp -implicitDefEqProofs only [List.append_assoc, avl, reduceCtorEq, ↓reduceIte, sevalprocAttr]
    first | refine retLt (by first | exact .inr rfl | exact .inl rfl) (by rfl) ?_ | refine retL1 (by first | exact .inr rfl | exact .inl rfl) (by rfl) ?_
    repeat' (first | exact trivial | apply And.intro)
    all_goals first
      | exact .same _ rfl
      | (refine .same _ ?_; (focus (simp [purs]; done)))
      | (refine .imm _ _ _ ?_; (focus (simp [purs]; done)))
      | (refine .le _ _ ?_ ?_; (focus (repeat' (first | exact trivial | exact le_same _ | exact le_imm (.inl rfl) | exact le_imm (.inr rfl) | (refine le_agg ?_) | apply And.intro))); (focus (simp [purs]; done)))
      | skip
theorem two_ac (n : Int) : ACt Try.prog 49 [.int .i64 n] (.int .i64 (shortI n)) [] := by
  refine act_of p_ridgewayref06_two (by simp [c_ridgewayref06_two]) ?_
  show AW _ b_ridgewayref06_two (RetOk [.tmp 2] _ _) { n := 6, tm := [(0, _)], box := [], fr := [] }
  unfold b_ridgewayref06_two
  unfold shortI
  by_cases h : n > 65535
  · rw [if_pos h]
    try simp -implicitDefEqProofs only [avl, reduceCtorEq, ↓reduceIte, sevalprocAttr, h]
    repeat' (first | (refine (hκ _).mpr ?_; clear hκ) | refine kn1 ?_ | refine kr1 ?_ | refine ke1 ?_ | refine kn2 ?_ | refine kr2 ?_ | refine kx2 ?_ | refine ke2 rfl ?_ | refine kn3 ?_ | refine kr3 ?_ | refine ke3 ?_ | refine kn4 ?_ | refine kr4 ?_ | refine ke4 ?_ | refine w_seq ?_ | refine w_block ?_ | (refine aw_regk fun κ hκ => ?_; simp -implicitDefEqProofs only [avl, reduceCtorEq, ↓reduceIte, sevalprocAttr, h]) | refine aw_exit ?_ | refine aw_ret ?_ | refine aw_skip ?_ | refine aw_label ?_ | refine condc_t ?_ | refine condc_f ?_ | (refine aw_cond2 (by simp -implicitDefEqProofs only [avl, reduceCtorEq, ↓reduceIte, sevalprocAttr, h]; rfl) ?_) | ((first | refine gkc_fork ?_ ?_ | refine gkc_split ?_ ?_) <;> intro hq <;> simp -implicitDefEqProofs only [hq, avl, reduceCtorEq, ↓reduceIte, sevalprocAttr, h]) | ((first | refine condc_fork ?_ ?_ | refine condc_bool ?_ ?_) <;> intro hq))
    try simp -implicitDefEqProofs only [List.append_assoc, avl, reduceCtorEq, ↓reduceIte, sevalprocAttr]
    first | refine retLt (by first | exact .inr rfl | exact .inl rfl) (by rfl) ?_ | refine retL1 (by first | exact .inr rfl | exact .inl rfl) (by rfl) ?_
    repeat' (first | exact trivial | apply And.intro)
    all_goals first
      | exact .same _ rfl
      | (refine .same _ ?_; (focus (simp [purs]; done)))
      | (refine .imm _ _ _ ?_; (focus (simp [purs]; done)))
      | (refine .le _ _ ?_ ?_; (focus (repeat' (first | exact trivial | exact le_same _ | exact le_imm (.inl rfl) | exact le_imm (.inr rfl) | (refine le_agg ?_) | apply And.intro))); (focus (simp [purs]; done)))
      | skip
  · rw [if_neg h]
    try simp -implicitDefEqProofs only [avl, reduceCtorEq, ↓reduceIte, sevalprocAttr, h]
    repeat' (first | (refine (hκ _).mpr ?_; clear hκ) | refine kn1 ?_ | refine kr1 ?_ | refine ke1 ?_ | refine kn2 ?_ | refine kr2 ?_ | refine kx2 ?_ | refine ke2 rfl ?_ | refine kn3 ?_ | refine kr3 ?_ | refine ke3 ?_ | refine kn4 ?_ | refine kr4 ?_ | refine ke4 ?_ | refine w_seq ?_ | refine w_block ?_ | (refine aw_regk fun κ hκ => ?_; simp -implicitDefEqProofs only [avl, reduceCtorEq, ↓reduceIte, sevalprocAttr, h]) | refine aw_exit ?_ | refine aw_ret ?_ | refine aw_skip ?_ | refine aw_label ?_ | refine condc_t ?_ | refine condc_f ?_ | (refine aw_cond2 (by simp -implicitDefEqProofs only [avl, reduceCtorEq, ↓reduceIte, sevalprocAttr, h]; rfl) ?_) | ((first | refine gkc_fork ?_ ?_ | refine gkc_split ?_ ?_) <;> intro hq <;> simp -implicitDefEqProofs only [hq, avl, reduceCtorEq, ↓reduceIte, sevalprocAttr, h]) | ((first | refine condc_fork ?_ ?_ | refine condc_bool ?_ ?_) <;> intro hq))
    try simp -implicitDefEqProofs only [List.append_assoc, avl, reduceCtorEq, ↓reduceIte, sevalprocAttr]
    first | refine retLt (by first | exact .inr rfl | exact .inl rfl) (by rfl) ?_ | refine retL1 (by first | exact .inr rfl | exact .inl rfl) (by rfl) ?_
    repeat' (first | exact trivial | apply And.intro)
    all_goals first
      | exact .same _ rfl
      | (refine .same _ ?_; (focus (simp [purs]; done)))
      | (refine .imm _ _ _ ?_; (focus (simp [purs]; done)))
      | (refine .le _ _ ?_ ?_; (focus (repeat' (first | exact trivial | exact le_same _ | exact le_imm (.inl rfl) | exact le_imm (.inr rfl) | (refine le_agg ?_) | apply And.intro))); (focus (simp [purs]; done)))
      | skip
def labL (k : Int) (l : List UInt8) : List UInt8 := octAt k 0 :: octAt l.length 0 :: l
theorem labelled_ac (k : Int) (l : List UInt8) (hn : l.length ≤ 1000) : ACt Try.prog 52 [.int .i64 k, .slice .imm 1 (l.map bA)] (.slice (.app 0) 1 ((labL k l).map bA)) [(5, l.length + 2)] := by
  refine act_of p_open_labelled (by simp [c_open_labelled]) ?_
  show AW _ b_open_labelled (RetOk [.tmp 4] _ _) { n := 13, tm := [(0, _), (1, _)], box := [], fr := [] }
  unfold b_open_labelled
  unfold labL
  have e8 : 2 + l.length ≤ 140737488355328 := by omega
  have e9 : 2 + l.length ≤ maxLen := by unfold maxLen; omega
  try simp -implicitDefEqProofs only [avl, reduceCtorEq, ↓reduceIte, sevalprocAttr, u8_b, e8, e9, Nat.mul_one]
  repeat' (first | (refine (hκ _).mpr ?_; clear hκ) | refine kn1 ?_ | refine kr1 ?_ | refine ke1 ?_ | refine kn2 ?_ | refine kr2 ?_ | refine kx2 ?_ | refine ke2 rfl ?_ | refine kn3 ?_ | refine kr3 ?_ | refine ke3 ?_ | refine kn4 ?_ | refine kr4 ?_ | refine ke4 ?_ | refine w_seq ?_ | refine w_block ?_ | (refine aw_regk fun κ hκ => ?_; simp -implicitDefEqProofs only [avl, reduceCtorEq, ↓reduceIte, sevalprocAttr, u8_b, e8, e9, Nat.mul_one]) | refine aw_exit ?_ | refine aw_ret ?_ | refine aw_skip ?_ | refine aw_label ?_ | refine condc_t ?_ | refine condc_f ?_ | (refine aw_cond2 (by simp -implicitDefEqProofs only [avl, reduceCtorEq, ↓reduceIte, sevalprocAttr, u8_b, e8, e9, Nat.mul_one]; rfl) ?_) | ((first | refine gkc_fork ?_ ?_ | refine gkc_split ?_ ?_) <;> intro hq <;> simp -implicitDefEqProofs only [hq, avl, reduceCtorEq, ↓reduceIte, sevalprocAttr, u8_b, e8, e9, Nat.mul_one]) | ((first | refine condc_fork ?_ ?_ | refine condc_bool ?_ ?_) <;> intro hq))
  rw [Nat.add_comm 2]
  exact ret_app rfl rfl (by simp [purL, purL_map_eq, purL_append, pur, bA])
end Go.Proofs.Ytgakgilaikgboaa
