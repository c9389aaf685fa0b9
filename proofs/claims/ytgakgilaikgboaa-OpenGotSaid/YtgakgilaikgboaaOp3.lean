/- Opening: messages, and what is got. -/
import Derived.Test.YtgakgilaikgboaaOp2
namespace Go.Proofs.Ytgakgilaikgboaa
open Go.RowKit
set_option maxHeartbeats 4000000
set_option maxRecDepth 100000
set_option linter.unusedSimpArgs false
set_option linter.unusedVariables false

def mA (t : Int) (l : List UInt8) : AV := .agg [.int .i64 t, .slice .imm 1 (l.map bA)]
def ntA (c s : Int) (d : List UInt8) : AV := .agg [.int .i64 c, .int .i64 s, .slice .imm 1 (d.map bA)]
def leastI (k : Int) : Int := if k = 1 then 29 else if k = 2 then 23 else if k = 3 then 21 else if k = 4 then 19 else 0
def fitB (k n : Int) : Bool := decide (0 < leastI k) && decide (leastI k ≤ n) && decide (n ≤ 4096) && (decide (¬ k = 4) || decide (n = 19))
theorem msg_Least_ac (k : Int) : ACt Try.prog 55 [.int .i64 k] (.int .i64 (leastI k)) [] := by
  have w1 : IntKind.i64.wrap (0 + 6) = 6 := by decide
  have w2 : IntKind.i64.wrap (6 + 2) = 8 := by decide
  have w3 : IntKind.i64.wrap (8 + 2) = 10 := by decide
  have w4 : IntKind.i64.wrap (10 + 19) = 29 := by decide
  have w5 : IntKind.i64.wrap (0 + 2) = 2 := by decide
  have w6 : IntKind.i64.wrap (2 + 2) = 4 := by decide
  have w7 : IntKind.i64.wrap (4 + 19) = 23 := by decide
  have w8 : IntKind.i64.wrap (2 + 19) = 21 := by decide
  have w9 : IntKind.i64.wrap (0 + 19) = 19 := by decide
  unfold leastI
  by_cases h1 : k = 1
  · rw [if_pos h1]
    refine act_of p_msg_Least (by simp [c_msg_Least]) ?_
    show AW _ b_msg_Least (RetOk [.tmp 2] _ _) { n := 22, tm := [(0, _)], box := [], fr := [] }
    unfold b_msg_Least
    try simp -implicitDefEqProofs only [avl, reduceCtorEq, ↓reduceIte, sevalprocAttr, h1, w1, w2, w3, w4]
    repeat' (first | (refine (hκ _).mpr ?_; clear hκ) | refine kn1 ?_ | refine kr1 ?_ | refine ke1 ?_ | refine kn2 ?_ | refine kr2 ?_ | refine kx2 ?_ | refine ke2 rfl ?_ | refine kn3 ?_ | refine kr3 ?_ | refine ke3 ?_ | refine kn4 ?_ | refine kr4 ?_ | refine ke4 ?_ | refine w_seq ?_ | refine w_block ?_ | (refine aw_regk fun κ hκ => ?_; simp -implicitDefEqProofs only [avl, reduceCtorEq, ↓reduceIte, sevalprocAttr, h1, w1, w2, w3, w4]) | refine aw_exit ?_ | refine aw_ret ?_ | refine aw_skip ?_ | refine aw_label ?_ | refine condc_t ?_ | refine condc_f ?_ | (refine aw_cond2 (by simp -implicitDefEqProofs only [avl, reduceCtorEq, ↓reduceIte, sevalprocAttr, h1, w1, w2, w3, w4]; rfl) ?_) | ((first | refine gkc_fork ?_ ?_ | refine gkc_split ?_ ?_) <;> intro hq <;> simp -implicitDefEqProofs only [hq, avl, reduceCtorEq, ↓reduceIte, sevalprocAttr, h1, w1, w2, w3, w4]) | ((first | refine condc_fork ?_ ?_ | refine condc_bool ?_ ?_) <;> intro hq))
    try simp -implicitDefEqProofs only [List.append_assoc, avl, reduceCtorEq, ↓reduceIte, sevalprocAttr]
    first | refine retLt (by first | exact .inr rfl | exact .inl rfl) (by rfl) ?_ | refine retL1 (by first | exact .inr rfl | exact .inl rfl) (by rfl) ?_
    repeat' (first | exact trivial | apply And.intro)
    all_goals first
      | exact .same _ rfl
      | (refine .same _ ?_; (focus (simp [purs]; done)))
      | (refine .imm _ _ _ ?_; (focus (simp [purs]; done)))
      | (refine .le _ _ ?_ ?_; (focus (repeat' (first | exact trivial | exact le_same _ | exact le_imm (.inl rfl) | exact le_imm (.inr rfl) | (refine le_agg ?_) | apply And.intro))); (focus (simp [purs]; done)))
      | skip
  rw [if_neg h1]
  by_cases h2 : k = 2
  · rw [if_pos h2]
    refine act_of p_msg_Least (by simp [c_msg_Least]) ?_
    show AW _ b_msg_Least (RetOk [.tmp 2] _ _) { n := 22, tm := [(0, _)], box := [], fr := [] }
    unfold b_msg_Least
    try simp -implicitDefEqProofs only [avl, reduceCtorEq, ↓reduceIte, sevalprocAttr, h2, w5, w6, w7, (show ¬ (2 : Int) = 1 by decide)]
    repeat' (first | (refine (hκ _).mpr ?_; clear hκ) | refine kn1 ?_ | refine kr1 ?_ | refine ke1 ?_ | refine kn2 ?_ | refine kr2 ?_ | refine kx2 ?_ | refine ke2 rfl ?_ | refine kn3 ?_ | refine kr3 ?_ | refine ke3 ?_ | refine kn4 ?_ | refine kr4 ?_ | refine ke4 ?_ | refine w_seq ?_ | refine w_block ?_ | (refine aw_regk fun κ hκ => ?_; simp -implicitDefEqProofs only [avl, reduceCtorEq, ↓reduceIte, sevalprocAttr, h2, w5, w6, w7, (show ¬ (2 : Int) = 1 by decide)]) | refine aw_exit ?_ | refine aw_ret ?_ | refine aw_skip ?_ | refine aw_label ?_ | refine condc_t ?_ | refine condc_f ?_ | (refine aw_cond2 (by simp -implicitDefEqProofs only [avl, reduceCtorEq, ↓reduceIte, sevalprocAttr, h2, w5, w6, w7, (show ¬ (2 : Int) = 1 by decide)]; rfl) ?_) | ((first | refine gkc_fork ?_ ?_ | refine gkc_split ?_ ?_) <;> intro hq <;> simp -implicitDefEqProofs only [hq, avl, reduceCtorEq, ↓reduceIte, sevalprocAttr, h2, w5, w6, w7, (show ¬ (2 : Int) = 1 by decide)]) | ((first | refine condc_fork ?_ ?_ | refine condc_bool ?_ ?_) <;> intro hq))
    try simp -implicitDefEqProofs only [List.append_assoc, avl, reduceCtorEq, ↓reduceIte, sevalprocAttr]
    first | refine retLt (by first | exact .inr rfl | exact .inl rfl) (by rfl) ?_ | refine retL1 (by first | exact .inr rfl | exact .inl rfl) (by rfl) ?_
    repeat' (first | exact trivial | apply And.intro)
    all_goals first
      | exact .same _ rfl
      | (refine .same _ ?_; (focus (simp [purs]; done)))
      | (refine .imm _ _ _ ?_; (focus (simp [purs]; done)))
      | (refine .le _ _ ?_ ?_; (focus (repeat' (first | exact trivial | exact le_same _ | exact le_imm (.inl rfl) | exact le_imm (.inr rfl) | (refine le_agg ?_) | apply And.intro))); (focus (simp [purs]; done)))
      | skip
  rw [if_neg h2]
  by_cases h3 : k = 3
  · rw [if_pos h3]
    refine act_of p_msg_Least (by simp [c_msg_Least]) ?_
    show AW _ b_msg_Least (RetOk [.tmp 2] _ _) { n := 22, tm := [(0, _)], box := [], fr := [] }
    unfold b_msg_Least
    try simp -implicitDefEqProofs only [avl, reduceCtorEq, ↓reduceIte, sevalprocAttr, h3, w5, w8, (show ¬ (3 : Int) = 1 by decide), (show ¬ (3 : Int) = 2 by decide)]
    repeat' (first | (refine (hκ _).mpr ?_; clear hκ) | refine kn1 ?_ | refine kr1 ?_ | refine ke1 ?_ | refine kn2 ?_ | refine kr2 ?_ | refine kx2 ?_ | refine ke2 rfl ?_ | refine kn3 ?_ | refine kr3 ?_ | refine ke3 ?_ | refine kn4 ?_ | refine kr4 ?_ | refine ke4 ?_ | refine w_seq ?_ | refine w_block ?_ | (refine aw_regk fun κ hκ => ?_; simp -implicitDefEqProofs only [avl, reduceCtorEq, ↓reduceIte, sevalprocAttr, h3, w5, w8, (show ¬ (3 : Int) = 1 by decide), (show ¬ (3 : Int) = 2 by decide)]) | refine aw_exit ?_ | refine aw_ret ?_ | refine aw_skip ?_ | refine aw_label ?_ | refine condc_t ?_ | refine condc_f ?_ | (refine aw_cond2 (by simp -implicitDefEqProofs only [avl, reduceCtorEq, ↓reduceIte, sevalprocAttr, h3, w5, w8, (show ¬ (3 : Int) = 1 by decide), (show ¬ (3 : Int) = 2 by decide)]; rfl) ?_) | ((first | refine gkc_fork ?_ ?_ | refine gkc_split ?_ ?_) <;> intro hq <;> simp -implicitDefEqProofs only [hq, avl, reduceCtorEq, ↓reduceIte, sevalprocAttr, h3, w5, w8, (show ¬ (3 : Int) = 1 by decide), (show ¬ (3 : Int) = 2 by decide)]) | ((first | refine condc_fork ?_ ?_ | refine condc_bool ?_ ?_) <;> intro hq))
    try simp -implicitDefEqProofs only [List.append_assoc, avl, reduceCtorEq, ↓reduceIte, sevalprocAttr]
    first | refine retLt (by first | exact .inr rfl | exact .inl rfl) (by rfl) ?_ | refine retL1 (by first | exact .inr rfl | exact .inl rfl) (by rfl) ?_
    repeat' (first | exact trivial | apply And.intro)
    all_goals first
      | exact .same _ rfl
      | (refine .same _ ?_; (focus (simp [purs]; done)))
      | (refine .imm _ _ _ ?_; (focus (simp [purs]; done)))
      | (refine .le _ _ ?_ ?_; (focus (repeat' (first | exact trivial | exact le_same _ | exact le_imm (.inl rfl) | exact le_imm (.inr rfl) | (refine le_agg ?_) | apply And.intro))); (focus (simp [purs]; done)))
      | skip
  rw [if_neg h3]
  by_cases h4 : k = 4
  · rw [if_pos h4]
    refine act_of p_msg_Least (by simp [c_msg_Least]) ?_
    show AW _ b_msg_Least (RetOk [.tmp 2] _ _) { n := 22, tm := [(0, _)], box := [], fr := [] }
    unfold b_msg_Least
    try simp -implicitDefEqProofs only [avl, reduceCtorEq, ↓reduceIte, sevalprocAttr, h4, w9, (show ¬ (4 : Int) = 1 by decide), (show ¬ (4 : Int) = 2 by decide), (show ¬ (4 : Int) = 3 by decide)]
    repeat' (first | (refine (hκ _).mpr ?_; clear hκ) | refine kn1 ?_ | refine kr1 ?_ | refine ke1 ?_ | refine kn2 ?_ | refine kr2 ?_ | refine kx2 ?_ | refine ke2 rfl ?_ | refine kn3 ?_ | refine kr3 ?_ | refine ke3 ?_ | refine kn4 ?_ | refine kr4 ?_ | refine ke4 ?_ | refine w_seq ?_ | refine w_block ?_ | (refine aw_regk fun κ hκ => ?_; simp -implicitDefEqProofs only [avl, reduceCtorEq, ↓reduceIte, sevalprocAttr, h4, w9, (show ¬ (4 : Int) = 1 by decide), (show ¬ (4 : Int) = 2 by decide), (show ¬ (4 : Int) = 3 by decide)]) | refine aw_exit ?_ | refine aw_ret ?_ | refine aw_skip ?_ | refine aw_label ?_ | refine condc_t ?_ | refine condc_f ?_ | (refine aw_cond2 (by simp -implicitDefEqProofs only [avl, reduceCtorEq, ↓reduceIte, sevalprocAttr, h4, w9, (show ¬ (4 : Int) = 1 by decide), (show ¬ (4 : Int) = 2 by decide), (show ¬ (4 : Int) = 3 by decide)]; rfl) ?_) | ((first | refine gkc_fork ?_ ?_ | refine gkc_split ?_ ?_) <;> intro hq <;> simp -implicitDefEqProofs only [hq, avl, reduceCtorEq, ↓reduceIte, sevalprocAttr, h4, w9, (show ¬ (4 : Int) = 1 by decide), (show ¬ (4 : Int) = 2 by decide), (show ¬ (4 : Int) = 3 by decide)]) | ((first | refine condc_fork ?_ ?_ | refine condc_bool ?_ ?_) <;> intro hq))
    try simp -implicitDefEqProofs only [List.append_assoc, avl, reduceCtorEq, ↓reduceIte, sevalprocAttr]
    first | refine retLt (by first | exact .inr rfl | exact .inl rfl) (by rfl) ?_ | refine retL1 (by first | exact .inr rfl | exact .inl rfl) (by rfl) ?_
    repeat' (first | exact trivial | apply And.intro)
    all_goals first
      | exact .same _ rfl
      | (refine .same _ ?_; (focus (simp [purs]; done)))
      | (refine .imm _ _ _ ?_; (focus (simp [purs]; done)))
      | (refine .le _ _ ?_ ?_; (focus (repeat' (first | exact trivial | exact le_same _ | exact le_imm (.inl rfl) | exact le_imm (.inr rfl) | (refine le_agg ?_) | apply And.intro))); (focus (simp [purs]; done)))
      | skip
  rw [if_neg h4]
  refine act_of p_msg_Least (by simp [c_msg_Least]) ?_
  show AW _ b_msg_Least (RetOk [.tmp 2] _ _) { n := 22, tm := [(0, _)], box := [], fr := [] }
  unfold b_msg_Least
  try simp -implicitDefEqProofs only [avl, reduceCtorEq, ↓reduceIte, sevalprocAttr, h1, h2, h3, h4]
  repeat' (first | (refine (hκ _).mpr ?_; clear hκ) | refine kn1 ?_ | refine kr1 ?_ | refine ke1 ?_ | refine kn2 ?_ | refine kr2 ?_ | refine kx2 ?_ | refine ke2 rfl ?_ | refine kn3 ?_ | refine kr3 ?_ | refine ke3 ?_ | refine kn4 ?_ | refine kr4 ?_ | refine ke4 ?_ | refine w_seq ?_ | refine w_block ?_ | (refine aw_regk fun κ hκ => ?_; simp -implicitDefEqProofs only [avl, reduceCtorEq, ↓reduceIte, sevalprocAttr, h1, h2, h3, h4]) | refine aw_exit ?_ | refine aw_ret ?_ | refine aw_skip ?_ | refine aw_label ?_ | refine condc_t ?_ | refine condc_f ?_ | (refine aw_cond2 (by simp -implicitDefEqProofs only [avl, reduceCtorEq, ↓reduceIte, sevalprocAttr, h1, h2, h3, h4]; rfl) ?_) | ((first | refine gkc_fork ?_ ?_ | refine gkc_split ?_ ?_) <;> intro hq <;> simp -implicitDefEqProofs only [hq, avl, reduceCtorEq, ↓reduceIte, sevalprocAttr, h1, h2, h3, h4]) | ((first | refine condc_fork ?_ ?_ | refine condc_bool ?_ ?_) <;> intro hq))
  try simp -implicitDefEqProofs only [List.append_assoc, avl, reduceCtorEq, ↓reduceIte, sevalprocAttr]
  first | refine retLt (by first | exact .inr rfl | exact .inl rfl) (by rfl) ?_ | refine retL1 (by first | exact .inr rfl | exact .inl rfl) (by rfl) ?_
  repeat' (first | exact trivial | apply And.intro)
  all_goals first
    | exact .same _ rfl
    | (refine .same _ ?_; (focus (simp [purs]; done)))
    | (refine .imm _ _ _ ?_; (focus (simp [purs]; done)))
    | (refine .le _ _ ?_ ?_; (focus (repeat' (first | exact trivial | exact le_same _ | exact le_imm (.inl rfl) | exact le_imm (.inr rfl) | (refine le_agg ?_) | apply And.intro))); (focus (simp [purs]; done)))
    | skip
theorem ridgewayref03_Least_ac (k : Int) : ACt Try.prog 79 [.int .i64 k] (.int .i64 (leastI k)) [] := by
  have w1 : IntKind.i64.wrap (0 + 6) = 6 := by decide
  have w2 : IntKind.i64.wrap (6 + 2) = 8 := by decide
  have w3 : IntKind.i64.wrap (8 + 2) = 10 := by decide
  have w4 : IntKind.i64.wrap (10 + 19) = 29 := by decide
  have w5 : IntKind.i64.wrap (0 + 2) = 2 := by decide
  have w6 : IntKind.i64.wrap (2 + 2) = 4 := by decide
  have w7 : IntKind.i64.wrap (4 + 19) = 23 := by decide
  have w8 : IntKind.i64.wrap (2 + 19) = 21 := by decide
  have w9 : IntKind.i64.wrap (0 + 19) = 19 := by decide
  unfold leastI
  by_cases h1 : k = 1
  · rw [if_pos h1]
    refine act_of p_ridgewayref03_Least (by simp [c_ridgewayref03_Least]) ?_
    show AW _ b_ridgewayref03_Least (RetOk [.tmp 2] _ _) { n := 12, tm := [(0, _)], box := [], fr := [] }
    unfold b_ridgewayref03_Least
    try simp -implicitDefEqProofs only [avl, reduceCtorEq, ↓reduceIte, sevalprocAttr, h1, w1, w2, w3, w4]
    repeat' (first | (refine (hκ _).mpr ?_; clear hκ) | refine kn1 ?_ | refine kr1 ?_ | refine ke1 ?_ | refine kn2 ?_ | refine kr2 ?_ | refine kx2 ?_ | refine ke2 rfl ?_ | refine kn3 ?_ | refine kr3 ?_ | refine ke3 ?_ | refine kn4 ?_ | refine kr4 ?_ | refine ke4 ?_ | refine w_seq ?_ | refine w_block ?_ | (refine aw_regk fun κ hκ => ?_; simp -implicitDefEqProofs only [avl, reduceCtorEq, ↓reduceIte, sevalprocAttr, h1, w1, w2, w3, w4]) | refine aw_exit ?_ | refine aw_ret ?_ | refine aw_skip ?_ | refine aw_label ?_ | refine condc_t ?_ | refine condc_f ?_ | (refine aw_cond2 (by simp -implicitDefEqProofs only [avl, reduceCtorEq, ↓reduceIte, sevalprocAttr, h1, w1, w2, w3, w4]; rfl) ?_) | ((first | refine gkc_fork ?_ ?_ | refine gkc_split ?_ ?_) <;> intro hq <;> simp -implicitDefEqProofs only [hq, avl, reduceCtorEq, ↓reduceIte, sevalprocAttr, h1, w1, w2, w3, w4]) | ((first | refine condc_fork ?_ ?_ | refine condc_bool ?_ ?_) <;> intro hq))
    try simp -implicitDefEqProofs only [List.append_assoc, avl, reduceCtorEq, ↓reduceIte, sevalprocAttr]
    first | refine retLt (by first | exact .inr rfl | exact .inl rfl) (by rfl) ?_ | refine retL1 (by first | exact .inr rfl | exact .inl rfl) (by rfl) ?_
    repeat' (first | exact trivial | apply And.intro)
    all_goals first
      | exact .same _ rfl
      | (refine .same _ ?_; (focus (simp [purs]; done)))
      | (refine .imm _ _ _ ?_; (focus (simp [purs]; done)))
      | (refine .le _ _ ?_ ?_; (focus (repeat' (first | exact trivial | exact le_same _ | exact le_imm (.inl rfl) | exact le_imm (.inr rfl) | (refine le_agg ?_) | apply And.intro))); (focus (simp [purs]; done)))
      | skip
  rw [if_neg h1]
  by_cases h2 : k = 2
  · rw [if_pos h2]
    refine act_of p_ridgewayref03_Least (by simp [c_ridgewayref03_Least]) ?_
    show AW _ b_ridgewayref03_Least (RetOk [.tmp 2] _ _) { n := 12, tm := [(0, _)], box := [], fr := [] }
    unfold b_ridgewayref03_Least
    try simp -implicitDefEqProofs only [avl, reduceCtorEq, ↓reduceIte, sevalprocAttr, h2, w5, w6, w7, (show ¬ (2 : Int) = 1 by decide)]
    repeat' (first | (refine (hκ _).mpr ?_; clear hκ) | refine kn1 ?_ | refine kr1 ?_ | refine ke1 ?_ | refine kn2 ?_ | refine kr2 ?_ | refine kx2 ?_ | refine ke2 rfl ?_ | refine kn3 ?_ | refine kr3 ?_ | refine ke3 ?_ | refine kn4 ?_ | refine kr4 ?_ | refine ke4 ?_ | refine w_seq ?_ | refine w_block ?_ | (refine aw_regk fun κ hκ => ?_; simp -implicitDefEqProofs only [avl, reduceCtorEq, ↓reduceIte, sevalprocAttr, h2, w5, w6, w7, (show ¬ (2 : Int) = 1 by decide)]) | refine aw_exit ?_ | refine aw_ret ?_ | refine aw_skip ?_ | refine aw_label ?_ | refine condc_t ?_ | refine condc_f ?_ | (refine aw_cond2 (by simp -implicitDefEqProofs only [avl, reduceCtorEq, ↓reduceIte, sevalprocAttr, h2, w5, w6, w7, (show ¬ (2 : Int) = 1 by decide)]; rfl) ?_) | ((first | refine gkc_fork ?_ ?_ | refine gkc_split ?_ ?_) <;> intro hq <;> simp -implicitDefEqProofs only [hq, avl, reduceCtorEq, ↓reduceIte, sevalprocAttr, h2, w5, w6, w7, (show ¬ (2 : Int) = 1 by decide)]) | ((first | refine condc_fork ?_ ?_ | refine condc_bool ?_ ?_) <;> intro hq))
    try simp -implicitDefEqProofs only [List.append_assoc, avl, reduceCtorEq, ↓reduceIte, sevalprocAttr]
    first | refine retLt (by first | exact .inr rfl | exact .inl rfl) (by rfl) ?_ | refine retL1 (by first | exact .inr rfl | exact .inl rfl) (by rfl) ?_
    repeat' (first | exact trivial | apply And.intro)
    all_goals first
      | exact .same _ rfl
      | (refine .same _ ?_; (focus (simp [purs]; done)))
      | (refine .imm _ _ _ ?_; (focus (simp [purs]; done)))
      | (refine .le _ _ ?_ ?_; (focus (repeat' (first | exact trivial | exact le_same _ | exact le_imm (.inl rfl) | exact le_imm (.inr rfl) | (refine le_agg ?_) | apply And.intro))); (focus (simp [purs]; done)))
      | skip
  rw [if_neg h2]
  by_cases h3 : k = 3
  · rw [if_pos h3]
    refine act_of p_ridgewayref03_Least (by simp [c_ridgewayref03_Least]) ?_
    show AW _ b_ridgewayref03_Least (RetOk [.tmp 2] _ _) { n := 12, tm := [(0, _)], box := [], fr := [] }
    unfold b_ridgewayref03_Least
    try simp -implicitDefEqProofs only [avl, reduceCtorEq, ↓reduceIte, sevalprocAttr, h3, w5, w8, (show ¬ (3 : Int) = 1 by decide), (show ¬ (3 : Int) = 2 by decide)]
    repeat' (first | (refine (hκ _).mpr ?_; clear hκ) | refine kn1 ?_ | refine kr1 ?_ | refine ke1 ?_ | refine kn2 ?_ | refine kr2 ?_ | refine kx2 ?_ | refine ke2 rfl ?_ | refine kn3 ?_ | refine kr3 ?_ | refine ke3 ?_ | refine kn4 ?_ | refine kr4 ?_ | refine ke4 ?_ | refine w_seq ?_ | refine w_block ?_ | (refine aw_regk fun κ hκ => ?_; simp -implicitDefEqProofs only [avl, reduceCtorEq, ↓reduceIte, sevalprocAttr, h3, w5, w8, (show ¬ (3 : Int) = 1 by decide), (show ¬ (3 : Int) = 2 by decide)]) | refine aw_exit ?_ | refine aw_ret ?_ | refine aw_skip ?_ | refine aw_label ?_ | refine condc_t ?_ | refine condc_f ?_ | (refine aw_cond2 (by simp -implicitDefEqProofs only [avl, reduceCtorEq, ↓reduceIte, sevalprocAttr, h3, w5, w8, (show ¬ (3 : Int) = 1 by decide), (show ¬ (3 : Int) = 2 by decide)]; rfl) ?_) | ((first | refine gkc_fork ?_ ?_ | refine gkc_split ?_ ?_) <;> intro hq <;> simp -implicitDefEqProofs only [hq, avl, reduceCtorEq, ↓reduceIte, sevalprocAttr, h3, w5, w8, (show ¬ (3 : Int) = 1 by decide), (show ¬ (3 : Int) = 2 by decide)]) | ((first | refine condc_fork ?_ ?_ | refine condc_bool ?_ ?_) <;> intro hq))
    try simp -implicitDefEqProofs only [List.append_assoc, avl, reduceCtorEq, ↓reduceIte, sevalprocAttr]
    first | refine retLt (by first | exact .inr rfl | exact .inl rfl) (by rfl) ?_ | refine retL1 (by first | exact .inr rfl | exact .inl rfl) (by rfl) ?_
    repeat' (first | exact trivial | apply And.intro)
    all_goals first
      | exact .same _ rfl
      | (refine .same _ ?_; (focus (simp [purs]; done)))
      | (refine .imm _ _ _ ?_; (focus (simp [purs]; done)))
      | (refine .le _ _ ?_ ?_; (focus (repeat' (first | exact trivial | exact le_same _ | exact le_imm (.inl rfl) | exact le_imm (.inr rfl) | (refine le_agg ?_) | apply And.intro))); (focus (simp [purs]; done)))
      | skip
  rw [if_neg h3]
  by_cases h4 : k = 4
  · rw [if_pos h4]
    refine act_of p_ridgewayref03_Least (by simp [c_ridgewayref03_Least]) ?_
    show AW _ b_ridgewayref03_Least (RetOk [.tmp 2] _ _) { n := 12, tm := [(0, _)], box := [], fr := [] }
    unfold b_ridgewayref03_Least
    try simp -implicitDefEqProofs only [avl, reduceCtorEq, ↓reduceIte, sevalprocAttr, h4, w9, (show ¬ (4 : Int) = 1 by decide), (show ¬ (4 : Int) = 2 by decide), (show ¬ (4 : Int) = 3 by decide)]
    repeat' (first | (refine (hκ _).mpr ?_; clear hκ) | refine kn1 ?_ | refine kr1 ?_ | refine ke1 ?_ | refine kn2 ?_ | refine kr2 ?_ | refine kx2 ?_ | refine ke2 rfl ?_ | refine kn3 ?_ | refine kr3 ?_ | refine ke3 ?_ | refine kn4 ?_ | refine kr4 ?_ | refine ke4 ?_ | refine w_seq ?_ | refine w_block ?_ | (refine aw_regk fun κ hκ => ?_; simp -implicitDefEqProofs only [avl, reduceCtorEq, ↓reduceIte, sevalprocAttr, h4, w9, (show ¬ (4 : Int) = 1 by decide), (show ¬ (4 : Int) = 2 by decide), (show ¬ (4 : Int) = 3 by decide)]) | refine aw_exit ?_ | refine aw_ret ?_ | refine aw_skip ?_ | refine aw_label ?_ | refine condc_t ?_ | refine condc_f ?_ | (refine aw_cond2 (by simp -implicitDefEqProofs only [avl, reduceCtorEq, ↓reduceIte, sevalprocAttr, h4, w9, (show ¬ (4 : Int) = 1 by decide), (show ¬ (4 : Int) = 2 by decide), (show ¬ (4 : Int) = 3 by decide)]; rfl) ?_) | ((first | refine gkc_fork ?_ ?_ | refine gkc_split ?_ ?_) <;> intro hq <;> simp -implicitDefEqProofs only [hq, avl, reduceCtorEq, ↓reduceIte, sevalprocAttr, h4, w9, (show ¬ (4 : Int) = 1 by decide), (show ¬ (4 : Int) = 2 by decide), (show ¬ (4 : Int) = 3 by decide)]) | ((first | refine condc_fork ?_ ?_ | refine condc_bool ?_ ?_) <;> intro hq))
    try simp -implicitDefEqProofs only [List.append_assoc, avl, reduceCtorEq, ↓reduceIte, sevalprocAttr]
    first | refine retLt (by first | exact .inr rfl | exact .inl rfl) (by rfl) ?_ | refine retL1 (by first | exact .inr rfl | exact .inl rfl) (by rfl) ?_
    repeat' (first | exact trivial | apply And.intro)
    all_goals first
      | exact .same _ rfl
      | (refine .same _ ?_; (focus (simp [purs]; done)))
      | (refine .imm _ _ _ ?_; (focus (simp [purs]; done)))
      | (refine .le _ _ ?_ ?_; (focus (repeat' (first | exact trivial | exact le_same _ | exact le_imm (.inl rfl) | exact le_imm (.inr rfl) | (refine le_agg ?_) | apply And.intro))); (focus (simp [purs]; done)))
      | skip
  rw [if_neg h4]
  refine act_of p_ridgewayref03_Least (by simp [c_ridgewayref03_Least]) ?_
  show AW _ b_ridgewayref03_Least (RetOk [.tmp 2] _ _) { n := 12, tm := [(0, _)], box := [], fr := [] }
  unfold b_ridgewayref03_Least
  try simp -implicitDefEqProofs only [avl, reduceCtorEq, ↓reduceIte, sevalprocAttr, h1, h2, h3, h4]
  repeat' (first | (refine (hκ _).mpr ?_; clear hκ) | refine kn1 ?_ | refine kr1 ?_ | refine ke1 ?_ | refine kn2 ?_ | refine kr2 ?_ | refine kx2 ?_ | refine ke2 rfl ?_ | refine kn3 ?_ | refine kr3 ?_ | refine ke3 ?_ | refine kn4 ?_ | refine kr4 ?_ | refine ke4 ?_ | refine w_seq ?_ | refine w_block ?_ | (refine aw_regk fun κ hκ => ?_; simp -implicitDefEqProofs only [avl, reduceCtorEq, ↓reduceIte, sevalprocAttr, h1, h2, h3, h4]) | refine aw_exit ?_ | refine aw_ret ?_ | refine aw_skip ?_ | refine aw_label ?_ | refine condc_t ?_ | refine condc_f ?_ | (refine aw_cond2 (by simp -implicitDefEqProofs only [avl, reduceCtorEq, ↓reduceIte, sevalprocAttr, h1, h2, h3, h4]; rfl) ?_) | ((first | refine gkc_fork ?_ ?_ | refine gkc_split ?_ ?_) <;> intro hq <;> simp -implicitDefEqProofs only [hq, avl, reduceCtorEq, ↓reduceIte, sevalprocAttr, h1, h2, h3, h4]) | ((first | refine condc_fork ?_ ?_ | refine condc_bool ?_ ?_) <;> intro hq))
  try simp -implicitDefEqProofs only [List.append_assoc, avl, reduceCtorEq, ↓reduceIte, sevalprocAttr]
  first | refine retLt (by first | exact .inr rfl | exact .inl rfl) (by rfl) ?_ | refine retL1 (by first | exact .inr rfl | exact .inl rfl) (by rfl) ?_
  repeat' (first | exact trivial | apply And.intro)
  all_goals first
    | exact .same _ rfl
    | (refine .same _ ?_; (focus (simp [purs]; done)))
    | (refine .imm _ _ _ ?_; (focus (simp [purs]; done)))
    | (refine .le _ _ ?_ ?_; (focus (repeat' (first | exact trivial | exact le_same _ | exact le_imm (.inl rfl) | exact le_imm (.inr rfl) | (refine le_agg ?_) | apply And.intro))); (focus (simp [purs]; done)))
    | skip
theorem fits_ac (k n : Int) : ACt Try.prog 68 [.int .i64 k, .int .i64 n] (.bool (fitB k n)) [] := by
  unfold fitB
  have hl := ridgewayref03_Least_ac k
  generalize leastI k = x at *
  refine act_of p_ridgewayref03_fits (by simp [c_ridgewayref03_fits]) ?_
  show AW _ b_ridgewayref03_fits (RetOk [.tmp 4] _ _) { n := 26, tm := [(0, _), (1, _)], box := [], fr := [] }
  unfold b_ridgewayref03_fits
  try simp -implicitDefEqProofs only [avl, reduceCtorEq, ↓reduceIte, sevalprocAttr]
  repeat' (first | (refine (hκ _).mpr ?_; clear hκ) | refine kn1 ?_ | refine kr1 ?_ | refine ke1 ?_ | refine kn2 ?_ | refine kr2 ?_ | refine kx2 ?_ | refine ke2 rfl ?_ | refine kn3 ?_ | refine kr3 ?_ | refine ke3 ?_ | refine kn4 ?_ | refine kr4 ?_ | refine ke4 ?_ | refine w_seq ?_ | refine w_block ?_ | (refine aw_regk fun κ hκ => ?_; simp -implicitDefEqProofs only [avl, reduceCtorEq, ↓reduceIte, sevalprocAttr]) | refine aw_exit ?_ | refine aw_ret ?_ | refine aw_skip ?_ | refine aw_label ?_ | refine condc_t ?_ | refine condc_f ?_ | (refine aw_cond2 (by simp -implicitDefEqProofs only [avl, reduceCtorEq, ↓reduceIte, sevalprocAttr]; rfl) ?_) | ((first | refine gkc_fork ?_ ?_ | refine gkc_split ?_ ?_) <;> intro hq <;> simp -implicitDefEqProofs only [hq, avl, reduceCtorEq, ↓reduceIte, sevalprocAttr]) | ((first | refine condc_fork ?_ ?_ | refine condc_bool ?_ ?_) <;> intro hq))
  first | refine callsc (hl) ?_ ?_ | refine callc (hl) ?_ ?_ | ((first | refine callsc (act_le (hl) ?_) ?_ ?_ | refine callc (act_le (hl) ?_) ?_ ?_); (focus (repeat' (first | exact trivial | exact le_same _ | exact le_imm (.inl rfl) | exact le_imm (.inr rfl) | (refine le_agg ?_) | apply And.intro))))
  (focus (simp [purs]; done))
  try simp -implicitDefEqProofs only [avl, reduceCtorEq, ↓reduceIte, sevalprocAttr, sh, sh1]
  repeat' (first | (refine (hκ _).mpr ?_; clear hκ) | refine kn1 ?_ | refine kr1 ?_ | refine ke1 ?_ | refine kn2 ?_ | refine kr2 ?_ | refine kx2 ?_ | refine ke2 rfl ?_ | refine kn3 ?_ | refine kr3 ?_ | refine ke3 ?_ | refine kn4 ?_ | refine kr4 ?_ | refine ke4 ?_ | refine w_seq ?_ | refine w_block ?_ | (refine aw_regk fun κ hκ => ?_; simp -implicitDefEqProofs only [avl, reduceCtorEq, ↓reduceIte, sevalprocAttr, sh, sh1]) | refine aw_exit ?_ | refine aw_ret ?_ | refine aw_skip ?_ | refine aw_label ?_ | refine condc_t ?_ | refine condc_f ?_ | (refine aw_cond2 (by simp -implicitDefEqProofs only [avl, reduceCtorEq, ↓reduceIte, sevalprocAttr, sh, sh1]; rfl) ?_) | ((first | refine gkc_fork ?_ ?_ | refine gkc_split ?_ ?_) <;> intro hq <;> simp -implicitDefEqProofs only [hq, avl, reduceCtorEq, ↓reduceIte, sevalprocAttr, sh, sh1]) | ((first | refine condc_fork ?_ ?_ | refine condc_bool ?_ ?_) <;> intro hq))
  · first | refine callsc (hl) ?_ ?_ | refine callc (hl) ?_ ?_ | ((first | refine callsc (act_le (hl) ?_) ?_ ?_ | refine callc (act_le (hl) ?_) ?_ ?_); (focus (repeat' (first | exact trivial | exact le_same _ | exact le_imm (.inl rfl) | exact le_imm (.inr rfl) | (refine le_agg ?_) | apply And.intro))))
    (focus (simp [purs]; done))
    try simp -implicitDefEqProofs only [avl, reduceCtorEq, ↓reduceIte, sevalprocAttr, sh, sh1]
    repeat' (first | (refine (hκ _).mpr ?_; clear hκ) | refine kn1 ?_ | refine kr1 ?_ | refine ke1 ?_ | refine kn2 ?_ | refine kr2 ?_ | refine kx2 ?_ | refine ke2 rfl ?_ | refine kn3 ?_ | refine kr3 ?_ | refine ke3 ?_ | refine kn4 ?_ | refine kr4 ?_ | refine ke4 ?_ | refine w_seq ?_ | refine w_block ?_ | (refine aw_regk fun κ hκ => ?_; simp -implicitDefEqProofs only [avl, reduceCtorEq, ↓reduceIte, sevalprocAttr, sh, sh1]) | refine aw_exit ?_ | refine aw_ret ?_ | refine aw_skip ?_ | refine aw_label ?_ | refine condc_t ?_ | refine condc_f ?_ | (refine aw_cond2 (by simp -implicitDefEqProofs only [avl, reduceCtorEq, ↓reduceIte, sevalprocAttr, sh, sh1]; rfl) ?_) | ((first | refine gkc_fork ?_ ?_ | refine gkc_split ?_ ?_) <;> intro hq <;> simp -implicitDefEqProofs only [hq, avl, reduceCtorEq, ↓reduceIte, sevalprocAttr, sh, sh1]) | ((first | refine condc_fork ?_ ?_ | refine condc_bool ?_ ?_) <;> intro hq))
    all_goals refine ret_bool rfl ?_
    all_goals (rw [Bool.eq_iff_iff]; simp only [Bool.and_eq_true, Bool.or_eq_true, Bool.not_eq_true', decide_eq_true_eq, decide_eq_false_iff_not, Bool.not_true, Bool.not_false, Bool.false_eq_true, Bool.true_and, Bool.and_true, Bool.false_and, Bool.and_false, Bool.and_self, Bool.or_true, Bool.or_false, Bool.true_or, Bool.false_or, reduceCtorEq, true_and, and_true, false_and, and_false, or_true, true_or, or_false, false_or, iff_true, iff_false, true_iff, false_iff, not_false_eq_true, not_true_eq_false]; first | omega | (simp_all; done) | skip)
  · all_goals refine ret_bool rfl ?_
    all_goals (rw [Bool.eq_iff_iff]; simp only [Bool.and_eq_true, Bool.or_eq_true, Bool.not_eq_true', decide_eq_true_eq, decide_eq_false_iff_not, Bool.not_true, Bool.not_false, Bool.false_eq_true, Bool.true_and, Bool.and_true, Bool.false_and, Bool.and_false, Bool.and_self, Bool.or_true, Bool.or_false, Bool.true_or, Bool.false_or, reduceCtorEq, true_and, and_true, false_and, and_false, or_true, true_or, or_false, false_or, iff_true, iff_false, true_iff, false_iff, not_false_eq_true, not_true_eq_false]; first | omega | (simp_all; done) | skip)
theorem fsane_ac (t : Int) (l : List UInt8) (hl : l.length ≤ 1000000) : ACt Try.prog 45 [mA t l] (.bool (fitB t (l.length + 19))) [] := by
  have hf := fits_ac t (l.length + 19)
  have e : IntKind.i64.wrap ((l.length : Int) + 19) = l.length + 19 := wrap64 (by omega) (by omega)
  generalize fitB t (l.length + 19) = B at *
  unfold mA
  refine act_of p_ridgewayref03_Sane (by simp [c_ridgewayref03_Sane]) ?_
  show AW _ b_ridgewayref03_Sane (RetOk [.tmp 2] _ _) { n := 10, tm := [(0, _)], box := [], fr := [] }
  unfold b_ridgewayref03_Sane
  try simp -implicitDefEqProofs only [avl, reduceCtorEq, ↓reduceIte, sevalprocAttr, e]
  repeat' (first | (refine (hκ _).mpr ?_; clear hκ) | refine kn1 ?_ | refine kr1 ?_ | refine ke1 ?_ | refine kn2 ?_ | refine kr2 ?_ | refine kx2 ?_ | refine ke2 rfl ?_ | refine kn3 ?_ | refine kr3 ?_ | refine ke3 ?_ | refine kn4 ?_ | refine kr4 ?_ | refine ke4 ?_ | refine w_seq ?_ | refine w_block ?_ | (refine aw_regk fun κ hκ => ?_; simp -implicitDefEqProofs only [avl, reduceCtorEq, ↓reduceIte, sevalprocAttr, e]) | refine aw_exit ?_ | refine aw_ret ?_ | refine aw_skip ?_ | refine aw_label ?_ | refine condc_t ?_ | refine condc_f ?_ | (refine aw_cond2 (by simp -implicitDefEqProofs only [avl, reduceCtorEq, ↓reduceIte, sevalprocAttr, e]; rfl) ?_) | ((first | refine gkc_fork ?_ ?_ | refine gkc_split ?_ ?_) <;> intro hq <;> simp -implicitDefEqProofs only [hq, avl, reduceCtorEq, ↓reduceIte, sevalprocAttr, e]) | ((first | refine condc_fork ?_ ?_ | refine condc_bool ?_ ?_) <;> intro hq))
  first | refine callsc (hf) ?_ ?_ | refine callc (hf) ?_ ?_ | ((first | refine callsc (act_le (hf) ?_) ?_ ?_ | refine callc (act_le (hf) ?_) ?_ ?_); (focus (repeat' (first | exact trivial | exact le_same _ | exact le_imm (.inl rfl) | exact le_imm (.inr rfl) | (refine le_agg ?_) | apply And.intro))))
  (focus (simp [purs]; done))
  try simp -implicitDefEqProofs only [avl, reduceCtorEq, ↓reduceIte, sevalprocAttr, sh, sh1]
  repeat' (first | (refine (hκ _).mpr ?_; clear hκ) | refine kn1 ?_ | refine kr1 ?_ | refine ke1 ?_ | refine kn2 ?_ | refine kr2 ?_ | refine kx2 ?_ | refine ke2 rfl ?_ | refine kn3 ?_ | refine kr3 ?_ | refine ke3 ?_ | refine kn4 ?_ | refine kr4 ?_ | refine ke4 ?_ | refine w_seq ?_ | refine w_block ?_ | (refine aw_regk fun κ hκ => ?_; simp -implicitDefEqProofs only [avl, reduceCtorEq, ↓reduceIte, sevalprocAttr, sh, sh1]) | refine aw_exit ?_ | refine aw_ret ?_ | refine aw_skip ?_ | refine aw_label ?_ | refine condc_t ?_ | refine condc_f ?_ | (refine aw_cond2 (by simp -implicitDefEqProofs only [avl, reduceCtorEq, ↓reduceIte, sevalprocAttr, sh, sh1]; rfl) ?_) | ((first | refine gkc_fork ?_ ?_ | refine gkc_split ?_ ?_) <;> intro hq <;> simp -implicitDefEqProofs only [hq, avl, reduceCtorEq, ↓reduceIte, sevalprocAttr, sh, sh1]) | ((first | refine condc_fork ?_ ?_ | refine condc_bool ?_ ?_) <;> intro hq))
  exact ret_bool rfl rfl
def wrongB (k n : Int) : Bool := decide (n < leastI k) || (decide (k = 4) && decide (¬ n = 19))
theorem wrong_ac (k n : Int) : ACt Try.prog 56 [.int .i64 k, .int .i64 n] (.bool (wrongB k n)) [] := by
  unfold wrongB
  have hl := msg_Least_ac k
  generalize leastI k = x at *
  refine act_of p_msg_wrong (by simp [c_msg_wrong]) ?_
  show AW _ b_msg_wrong (RetOk [.tmp 4] _ _) { n := 17, tm := [(0, _), (1, _)], box := [], fr := [] }
  unfold b_msg_wrong
  try simp -implicitDefEqProofs only [avl, reduceCtorEq, ↓reduceIte, sevalprocAttr]
  repeat' (first | (refine (hκ _).mpr ?_; clear hκ) | refine kn1 ?_ | refine kr1 ?_ | refine ke1 ?_ | refine kn2 ?_ | refine kr2 ?_ | refine kx2 ?_ | refine ke2 rfl ?_ | refine kn3 ?_ | refine kr3 ?_ | refine ke3 ?_ | refine kn4 ?_ | refine kr4 ?_ | refine ke4 ?_ | refine w_seq ?_ | refine w_block ?_ | (refine aw_regk fun κ hκ => ?_; simp -implicitDefEqProofs only [avl, reduceCtorEq, ↓reduceIte, sevalprocAttr]) | refine aw_exit ?_ | refine aw_ret ?_ | refine aw_skip ?_ | refine aw_label ?_ | refine condc_t ?_ | refine condc_f ?_ | (refine aw_cond2 (by simp -implicitDefEqProofs only [avl, reduceCtorEq, ↓reduceIte, sevalprocAttr]; rfl) ?_) | ((first | refine gkc_fork ?_ ?_ | refine gkc_split ?_ ?_) <;> intro hq <;> simp -implicitDefEqProofs only [hq, avl, reduceCtorEq, ↓reduceIte, sevalprocAttr]) | ((first | refine condc_fork ?_ ?_ | refine condc_bool ?_ ?_) <;> intro hq))
  first | refine callsc (hl) ?_ ?_ | refine callc (hl) ?_ ?_ | ((first | refine callsc (act_le (hl) ?_) ?_ ?_ | refine callc (act_le (hl) ?_) ?_ ?_); (focus (repeat' (first | exact trivial | exact le_same _ | exact le_imm (.inl rfl) | exact le_imm (.inr rfl) | (refine le_agg ?_) | apply And.intro))))
  (focus (simp [purs]; done))
  try simp -implicitDefEqProofs only [avl, reduceCtorEq, ↓reduceIte, sevalprocAttr, sh, sh1]
  repeat' (first | (refine (hκ _).mpr ?_; clear hκ) | refine kn1 ?_ | refine kr1 ?_ | refine ke1 ?_ | refine kn2 ?_ | refine kr2 ?_ | refine kx2 ?_ | refine ke2 rfl ?_ | refine kn3 ?_ | refine kr3 ?_ | refine ke3 ?_ | refine kn4 ?_ | refine kr4 ?_ | refine ke4 ?_ | refine w_seq ?_ | refine w_block ?_ | (refine aw_regk fun κ hκ => ?_; simp -implicitDefEqProofs only [avl, reduceCtorEq, ↓reduceIte, sevalprocAttr, sh, sh1]) | refine aw_exit ?_ | refine aw_ret ?_ | refine aw_skip ?_ | refine aw_label ?_ | refine condc_t ?_ | refine condc_f ?_ | (refine aw_cond2 (by simp -implicitDefEqProofs only [avl, reduceCtorEq, ↓reduceIte, sevalprocAttr, sh, sh1]; rfl) ?_) | ((first | refine gkc_fork ?_ ?_ | refine gkc_split ?_ ?_) <;> intro hq <;> simp -implicitDefEqProofs only [hq, avl, reduceCtorEq, ↓reduceIte, sevalprocAttr, sh, sh1]) | ((first | refine condc_fork ?_ ?_ | refine condc_bool ?_ ?_) <;> intro hq))
  all_goals refine ret_bool rfl ?_
  all_goals (rw [Bool.eq_iff_iff]; simp only [Bool.and_eq_true, Bool.or_eq_true, Bool.not_eq_true', decide_eq_true_eq, decide_eq_false_iff_not, Bool.not_true, Bool.not_false, Bool.false_eq_true, Bool.true_and, Bool.and_true, Bool.false_and, Bool.and_false, Bool.and_self, Bool.or_true, Bool.or_false, Bool.true_or, Bool.false_or, reduceCtorEq, true_and, and_true, false_and, and_false, or_true, true_or, or_false, false_or, iff_true, iff_false, true_iff, false_iff, not_false_eq_true, not_true_eq_false]; first | omega | (simp_all; done) | skip)
theorem msane_ac (t : Int) (l : List UInt8) (hl : l.length ≤ 1000000) : ACt Try.prog 24 [mA t l] (.bool (fitB t (l.length + 19))) [] := by
  have e : IntKind.i64.wrap (19 + (l.length : Int)) = 19 + l.length := wrap64 (by omega) (by omega)
  have hL := msg_Least_ac t
  have hw := wrong_ac t (19 + l.length)
  have hfw : fitB t (l.length + 19) = (decide (0 < leastI t) && !wrongB t (19 + l.length) && decide (19 + (l.length : Int) ≤ 4096)) := by
    unfold fitB wrongB
    rw [Bool.eq_iff_iff]
    simp only [Bool.and_eq_true, Bool.or_eq_true, Bool.not_eq_true', Bool.or_eq_false_iff, Bool.and_eq_false_imp, decide_eq_true_eq, decide_eq_false_iff_not]
    omega
  rw [hfw]
  generalize leastI t = x at *
  generalize wrongB t (19 + l.length) = B at *
  clear hfw
  unfold mA
  refine act_of p_msg_Sane (by simp [c_msg_Sane]) ?_
  show AW _ b_msg_Sane (RetOk [.tmp 2] _ _) { n := 24, tm := [(0, _)], box := [], fr := [] }
  unfold b_msg_Sane
  try simp -implicitDefEqProofs only [avl, reduceCtorEq, ↓reduceIte, sevalprocAttr, e]
  repeat' (first | (refine (hκ _).mpr ?_; clear hκ) | refine kn1 ?_ | refine kr1 ?_ | refine ke1 ?_ | refine kn2 ?_ | refine kr2 ?_ | refine kx2 ?_ | refine ke2 rfl ?_ | refine kn3 ?_ | refine kr3 ?_ | refine ke3 ?_ | refine kn4 ?_ | refine kr4 ?_ | refine ke4 ?_ | refine w_seq ?_ | refine w_block ?_ | (refine aw_regk fun κ hκ => ?_; simp -implicitDefEqProofs only [avl, reduceCtorEq, ↓reduceIte, sevalprocAttr, e]) | refine aw_exit ?_ | refine aw_ret ?_ | refine aw_skip ?_ | refine aw_label ?_ | refine condc_t ?_ | refine condc_f ?_ | (refine aw_cond2 (by simp -implicitDefEqProofs only [avl, reduceCtorEq, ↓reduceIte, sevalprocAttr, e]; rfl) ?_) | ((first | refine gkc_fork ?_ ?_ | refine gkc_split ?_ ?_) <;> intro hq <;> simp -implicitDefEqProofs only [hq, avl, reduceCtorEq, ↓reduceIte, sevalprocAttr, e]) | ((first | refine condc_fork ?_ ?_ | refine condc_bool ?_ ?_) <;> intro hq))
  first | refine callsc (hL) ?_ ?_ | refine callc (hL) ?_ ?_ | ((first | refine callsc (act_le (hL) ?_) ?_ ?_ | refine callc (act_le (hL) ?_) ?_ ?_); (focus (repeat' (first | exact trivial | exact le_same _ | exact le_imm (.inl rfl) | exact le_imm (.inr rfl) | (refine le_agg ?_) | apply And.intro))))
  (focus (simp [purs]; done))
  try simp -implicitDefEqProofs only [avl, reduceCtorEq, ↓reduceIte, sevalprocAttr, sh, sh1, e]
  repeat' (first | (refine (hκ _).mpr ?_; clear hκ) | refine kn1 ?_ | refine kr1 ?_ | refine ke1 ?_ | refine kn2 ?_ | refine kr2 ?_ | refine kx2 ?_ | refine ke2 rfl ?_ | refine kn3 ?_ | refine kr3 ?_ | refine ke3 ?_ | refine kn4 ?_ | refine kr4 ?_ | refine ke4 ?_ | refine w_seq ?_ | refine w_block ?_ | (refine aw_regk fun κ hκ => ?_; simp -implicitDefEqProofs only [avl, reduceCtorEq, ↓reduceIte, sevalprocAttr, sh, sh1, e]) | refine aw_exit ?_ | refine aw_ret ?_ | refine aw_skip ?_ | refine aw_label ?_ | refine condc_t ?_ | refine condc_f ?_ | (refine aw_cond2 (by simp -implicitDefEqProofs only [avl, reduceCtorEq, ↓reduceIte, sevalprocAttr, sh, sh1, e]; rfl) ?_) | ((first | refine gkc_fork ?_ ?_ | refine gkc_split ?_ ?_) <;> intro hq <;> simp -implicitDefEqProofs only [hq, avl, reduceCtorEq, ↓reduceIte, sevalprocAttr, sh, sh1, e]) | ((first | refine condc_fork ?_ ?_ | refine condc_bool ?_ ?_) <;> intro hq))
  · first | refine callsc (hw) ?_ ?_ | refine callc (hw) ?_ ?_ | ((first | refine callsc (act_le (hw) ?_) ?_ ?_ | refine callc (act_le (hw) ?_) ?_ ?_); (focus (repeat' (first | exact trivial | exact le_same _ | exact le_imm (.inl rfl) | exact le_imm (.inr rfl) | (refine le_agg ?_) | apply And.intro))))
    (focus (simp [purs]; done))
    cases B
    · try simp -implicitDefEqProofs only [avl, reduceCtorEq, ↓reduceIte, sevalprocAttr, sh, sh1, e, Bool.not_false, Bool.not_true]
      repeat' (first | (refine (hκ _).mpr ?_; clear hκ) | refine kn1 ?_ | refine kr1 ?_ | refine ke1 ?_ | refine kn2 ?_ | refine kr2 ?_ | refine kx2 ?_ | refine ke2 rfl ?_ | refine kn3 ?_ | refine kr3 ?_ | refine ke3 ?_ | refine kn4 ?_ | refine kr4 ?_ | refine ke4 ?_ | refine w_seq ?_ | refine w_block ?_ | (refine aw_regk fun κ hκ => ?_; simp -implicitDefEqProofs only [avl, reduceCtorEq, ↓reduceIte, sevalprocAttr, sh, sh1, e, Bool.not_false, Bool.not_true]) | refine aw_exit ?_ | refine aw_ret ?_ | refine aw_skip ?_ | refine aw_label ?_ | refine condc_t ?_ | refine condc_f ?_ | (refine aw_cond2 (by simp -implicitDefEqProofs only [avl, reduceCtorEq, ↓reduceIte, sevalprocAttr, sh, sh1, e, Bool.not_false, Bool.not_true]; rfl) ?_) | ((first | refine gkc_fork ?_ ?_ | refine gkc_split ?_ ?_) <;> intro hq <;> simp -implicitDefEqProofs only [hq, avl, reduceCtorEq, ↓reduceIte, sevalprocAttr, sh, sh1, e, Bool.not_false, Bool.not_true]) | ((first | refine condc_fork ?_ ?_ | refine condc_bool ?_ ?_) <;> intro hq))
      all_goals refine ret_bool rfl ?_
      all_goals (rw [Bool.eq_iff_iff]; simp only [Bool.and_eq_true, Bool.or_eq_true, Bool.not_eq_true', decide_eq_true_eq, decide_eq_false_iff_not, Bool.not_true, Bool.not_false, Bool.false_eq_true, Bool.true_and, Bool.and_true, Bool.false_and, Bool.and_false, Bool.and_self, Bool.or_true, Bool.or_false, Bool.true_or, Bool.false_or, reduceCtorEq, true_and, and_true, false_and, and_false, or_true, true_or, or_false, false_or, iff_true, iff_false, true_iff, false_iff, not_false_eq_true, not_true_eq_false]; first | omega | (simp_all; done) | skip)
    · try simp -implicitDefEqProofs only [avl, reduceCtorEq, ↓reduceIte, sevalprocAttr, sh, sh1, e, Bool.not_false, Bool.not_true]
      repeat' (first | (refine (hκ _).mpr ?_; clear hκ) | refine kn1 ?_ | refine kr1 ?_ | refine ke1 ?_ | refine kn2 ?_ | refine kr2 ?_ | refine kx2 ?_ | refine ke2 rfl ?_ | refine kn3 ?_ | refine kr3 ?_ | refine ke3 ?_ | refine kn4 ?_ | refine kr4 ?_ | refine ke4 ?_ | refine w_seq ?_ | refine w_block ?_ | (refine aw_regk fun κ hκ => ?_; simp -implicitDefEqProofs only [avl, reduceCtorEq, ↓reduceIte, sevalprocAttr, sh, sh1, e, Bool.not_false, Bool.not_true]) | refine aw_exit ?_ | refine aw_ret ?_ | refine aw_skip ?_ | refine aw_label ?_ | refine condc_t ?_ | refine condc_f ?_ | (refine aw_cond2 (by simp -implicitDefEqProofs only [avl, reduceCtorEq, ↓reduceIte, sevalprocAttr, sh, sh1, e, Bool.not_false, Bool.not_true]; rfl) ?_) | ((first | refine gkc_fork ?_ ?_ | refine gkc_split ?_ ?_) <;> intro hq <;> simp -implicitDefEqProofs only [hq, avl, reduceCtorEq, ↓reduceIte, sevalprocAttr, sh, sh1, e, Bool.not_false, Bool.not_true]) | ((first | refine condc_fork ?_ ?_ | refine condc_bool ?_ ?_) <;> intro hq))
      all_goals refine ret_bool rfl ?_
      all_goals (rw [Bool.eq_iff_iff]; simp only [Bool.and_eq_true, Bool.or_eq_true, Bool.not_eq_true', decide_eq_true_eq, decide_eq_false_iff_not, Bool.not_true, Bool.not_false, Bool.false_eq_true, Bool.true_and, Bool.and_true, Bool.false_and, Bool.and_false, Bool.and_self, Bool.or_true, Bool.or_false, Bool.true_or, Bool.false_or, reduceCtorEq, true_and, and_true, false_and, and_false, or_true, true_or, or_false, false_or, iff_true, iff_false, true_iff, false_iff, not_false_eq_true, not_true_eq_false]; first | omega | (simp_all; done) | skip)
  · all_goals refine ret_bool rfl ?_
    all_goals (rw [Bool.eq_iff_iff]; simp only [Bool.and_eq_true, Bool.or_eq_true, Bool.not_eq_true', decide_eq_true_eq, decide_eq_false_iff_not, Bool.not_true, Bool.not_false, Bool.false_eq_true, Bool.true_and, Bool.and_true, Bool.false_and, Bool.and_false, Bool.and_self, Bool.or_true, Bool.or_false, Bool.true_or, Bool.false_or, reduceCtorEq, true_and, and_true, false_and, and_false, or_true, true_or, or_false, false_or, iff_true, iff_false, true_iff, false_iff, not_false_eq_true, not_true_eq_false]; first | omega | (simp_all; done) | skip)
def faultS (a asn two hold id : Int) : Int × Int × List UInt8 :=
  if a < 0 then (2, 7, [65, 0]) else if a = 0 ∨ ¬ a = asn ∨ ¬ two = shortI a then (2, 2, []) else if holdB hold = false then (2, 6, []) else if id = 0 then (2, 3, []) else (0, 0, [])
theorem fault_ac (a r asn two hold id : Int) : ACt Try.prog 44 [.agg [.int .i64 a, .int .i64 r], .int .i64 asn, .int .i64 two, .int .i64 hold, .int .i64 id] (ntA (faultS a asn two hold id).1 (faultS a asn two hold id).2.1 (faultS a asn two hold id).2.2) [] := by
  have hs := short_ac a
  have hh := holds_ac hold
  unfold ntA faultS
  generalize shortI a = sa at *
  generalize holdB hold = hb at *
  by_cases h1 : a < 0
  · rw [if_pos h1]
    refine act_of p_open_fault (by simp [c_open_fault]) ?_
    show AW _ b_open_fault (RetOk [.cell 10 (some 3)] _ _) { n := 45, tm := [(0, _), (1, _), (2, _), (3, _), (4, _)], box := [], fr := [] }
    unfold b_open_fault
    try simp -implicitDefEqProofs only [avl, reduceCtorEq, ↓reduceIte, sevalprocAttr, h1]
    repeat' (first | (refine (hκ _).mpr ?_; clear hκ) | refine kn1 ?_ | refine kr1 ?_ | refine ke1 ?_ | refine kn2 ?_ | refine kr2 ?_ | refine kx2 ?_ | refine ke2 rfl ?_ | refine kn3 ?_ | refine kr3 ?_ | refine ke3 ?_ | refine kn4 ?_ | refine kr4 ?_ | refine ke4 ?_ | refine w_seq ?_ | refine w_block ?_ | (refine aw_regk fun κ hκ => ?_; simp -implicitDefEqProofs only [avl, reduceCtorEq, ↓reduceIte, sevalprocAttr, h1]) | refine aw_exit ?_ | refine aw_ret ?_ | refine aw_skip ?_ | refine aw_label ?_ | refine condc_t ?_ | refine condc_f ?_ | (refine aw_cond2 (by simp -implicitDefEqProofs only [avl, reduceCtorEq, ↓reduceIte, sevalprocAttr, h1]; rfl) ?_) | ((first | refine gkc_fork ?_ ?_ | refine gkc_split ?_ ?_) <;> intro hq <;> simp -implicitDefEqProofs only [hq, avl, reduceCtorEq, ↓reduceIte, sevalprocAttr, h1]) | ((first | refine condc_fork ?_ ?_ | refine condc_bool ?_ ?_) <;> intro hq))
    try simp -implicitDefEqProofs only [List.append_assoc, avl, reduceCtorEq, ↓reduceIte, sevalprocAttr, bA]
    first | refine retLt (by first | exact .inr rfl | exact .inl rfl) (by rfl) ?_ | refine retL1 (by first | exact .inr rfl | exact .inl rfl) (by rfl) ?_
    repeat' (first | exact trivial | apply And.intro)
    all_goals first
      | exact .same _ rfl
      | (refine .same _ ?_; (focus (simp [purs]; done)))
      | (refine .imm _ _ _ ?_; (focus (simp [purs]; done)))
      | (refine .le _ _ ?_ ?_; (focus (repeat' (first | exact trivial | exact le_same _ | exact le_imm (.inl rfl) | exact le_imm (.inr rfl) | (refine le_agg ?_) | apply And.intro))); (focus (simp [purs]; done)))
      | skip
  rw [if_neg h1]
  by_cases h2 : a = 0
  · rw [if_pos (.inl h2)]
    refine act_of p_open_fault (by simp [c_open_fault]) ?_
    show AW _ b_open_fault (RetOk [.cell 10 (some 3)] _ _) { n := 45, tm := [(0, _), (1, _), (2, _), (3, _), (4, _)], box := [], fr := [] }
    unfold b_open_fault
    try simp -implicitDefEqProofs only [avl, reduceCtorEq, ↓reduceIte, sevalprocAttr, h1, h2, Int.lt_irrefl]
    repeat' (first | (refine (hκ _).mpr ?_; clear hκ) | refine kn1 ?_ | refine kr1 ?_ | refine ke1 ?_ | refine kn2 ?_ | refine kr2 ?_ | refine kx2 ?_ | refine ke2 rfl ?_ | refine kn3 ?_ | refine kr3 ?_ | refine ke3 ?_ | refine kn4 ?_ | refine kr4 ?_ | refine ke4 ?_ | refine w_seq ?_ | refine w_block ?_ | (refine aw_regk fun κ hκ => ?_; simp -implicitDefEqProofs only [avl, reduceCtorEq, ↓reduceIte, sevalprocAttr, h1, h2, Int.lt_irrefl]) | refine aw_exit ?_ | refine aw_ret ?_ | refine aw_skip ?_ | refine aw_label ?_ | refine condc_t ?_ | refine condc_f ?_ | (refine aw_cond2 (by simp -implicitDefEqProofs only [avl, reduceCtorEq, ↓reduceIte, sevalprocAttr, h1, h2, Int.lt_irrefl]; rfl) ?_) | ((first | refine gkc_fork ?_ ?_ | refine gkc_split ?_ ?_) <;> intro hq <;> simp -implicitDefEqProofs only [hq, avl, reduceCtorEq, ↓reduceIte, sevalprocAttr, h1, h2, Int.lt_irrefl]) | ((first | refine condc_fork ?_ ?_ | refine condc_bool ?_ ?_) <;> intro hq))
    try simp -implicitDefEqProofs only [List.append_assoc, avl, reduceCtorEq, ↓reduceIte, sevalprocAttr]
    first | refine retLt (by first | exact .inr rfl | exact .inl rfl) (by rfl) ?_ | refine retL1 (by first | exact .inr rfl | exact .inl rfl) (by rfl) ?_
    repeat' (first | exact trivial | apply And.intro)
    all_goals first
      | exact .same _ rfl
      | (refine .same _ ?_; (focus (simp [purs]; done)))
      | (refine .imm _ _ _ ?_; (focus (simp [purs]; done)))
      | (refine .le _ _ ?_ ?_; (focus (repeat' (first | exact trivial | exact le_same _ | exact le_imm (.inl rfl) | exact le_imm (.inr rfl) | (refine le_agg ?_) | apply And.intro))); (focus (simp [purs]; done)))
      | skip
  by_cases h3 : a = asn
  rotate_left
  · rw [if_pos (.inr (.inl h3))]
    refine act_of p_open_fault (by simp [c_open_fault]) ?_
    show AW _ b_open_fault (RetOk [.cell 10 (some 3)] _ _) { n := 45, tm := [(0, _), (1, _), (2, _), (3, _), (4, _)], box := [], fr := [] }
    unfold b_open_fault
    try simp -implicitDefEqProofs only [avl, reduceCtorEq, ↓reduceIte, sevalprocAttr, h1, h2, h3, not_false_eq_true, not_true_eq_false]
    repeat' (first | (refine (hκ _).mpr ?_; clear hκ) | refine kn1 ?_ | refine kr1 ?_ | refine ke1 ?_ | refine kn2 ?_ | refine kr2 ?_ | refine kx2 ?_ | refine ke2 rfl ?_ | refine kn3 ?_ | refine kr3 ?_ | refine ke3 ?_ | refine kn4 ?_ | refine kr4 ?_ | refine ke4 ?_ | refine w_seq ?_ | refine w_block ?_ | (refine aw_regk fun κ hκ => ?_; simp -implicitDefEqProofs only [avl, reduceCtorEq, ↓reduceIte, sevalprocAttr, h1, h2, h3, not_false_eq_true, not_true_eq_false]) | refine aw_exit ?_ | refine aw_ret ?_ | refine aw_skip ?_ | refine aw_label ?_ | refine condc_t ?_ | refine condc_f ?_ | (refine aw_cond2 (by simp -implicitDefEqProofs only [avl, reduceCtorEq, ↓reduceIte, sevalprocAttr, h1, h2, h3, not_false_eq_true, not_true_eq_false]; rfl) ?_) | ((first | refine gkc_fork ?_ ?_ | refine gkc_split ?_ ?_) <;> intro hq <;> simp -implicitDefEqProofs only [hq, avl, reduceCtorEq, ↓reduceIte, sevalprocAttr, h1, h2, h3, not_false_eq_true, not_true_eq_false]) | ((first | refine condc_fork ?_ ?_ | refine condc_bool ?_ ?_) <;> intro hq))
    try simp -implicitDefEqProofs only [List.append_assoc, avl, reduceCtorEq, ↓reduceIte, sevalprocAttr]
    first | refine retLt (by first | exact .inr rfl | exact .inl rfl) (by rfl) ?_ | refine retL1 (by first | exact .inr rfl | exact .inl rfl) (by rfl) ?_
    repeat' (first | exact trivial | apply And.intro)
    all_goals first
      | exact .same _ rfl
      | (refine .same _ ?_; (focus (simp [purs]; done)))
      | (refine .imm _ _ _ ?_; (focus (simp [purs]; done)))
      | (refine .le _ _ ?_ ?_; (focus (repeat' (first | exact trivial | exact le_same _ | exact le_imm (.inl rfl) | exact le_imm (.inr rfl) | (refine le_agg ?_) | apply And.intro))); (focus (simp [purs]; done)))
      | skip
  by_cases h4 : two = sa
  rotate_left
  · rw [if_pos (.inr (.inr h4))]
    refine act_of p_open_fault (by simp [c_open_fault]) ?_
    show AW _ b_open_fault (RetOk [.cell 10 (some 3)] _ _) { n := 45, tm := [(0, _), (1, _), (2, _), (3, _), (4, _)], box := [], fr := [] }
    unfold b_open_fault
    try simp -implicitDefEqProofs only [avl, reduceCtorEq, ↓reduceIte, sevalprocAttr, h1, h2, (eq_true h3), not_false_eq_true, not_true_eq_false]
    repeat' (first | (refine (hκ _).mpr ?_; clear hκ) | refine kn1 ?_ | refine kr1 ?_ | refine ke1 ?_ | refine kn2 ?_ | refine kr2 ?_ | refine kx2 ?_ | refine ke2 rfl ?_ | refine kn3 ?_ | refine kr3 ?_ | refine ke3 ?_ | refine kn4 ?_ | refine kr4 ?_ | refine ke4 ?_ | refine w_seq ?_ | refine w_block ?_ | (refine aw_regk fun κ hκ => ?_; simp -implicitDefEqProofs only [avl, reduceCtorEq, ↓reduceIte, sevalprocAttr, h1, h2, (eq_true h3), not_false_eq_true, not_true_eq_false]) | refine aw_exit ?_ | refine aw_ret ?_ | refine aw_skip ?_ | refine aw_label ?_ | refine condc_t ?_ | refine condc_f ?_ | (refine aw_cond2 (by simp -implicitDefEqProofs only [avl, reduceCtorEq, ↓reduceIte, sevalprocAttr, h1, h2, (eq_true h3), not_false_eq_true, not_true_eq_false]; rfl) ?_) | ((first | refine gkc_fork ?_ ?_ | refine gkc_split ?_ ?_) <;> intro hq <;> simp -implicitDefEqProofs only [hq, avl, reduceCtorEq, ↓reduceIte, sevalprocAttr, h1, h2, (eq_true h3), not_false_eq_true, not_true_eq_false]) | ((first | refine condc_fork ?_ ?_ | refine condc_bool ?_ ?_) <;> intro hq))
    first | refine callsc (hs) ?_ ?_ | refine callc (hs) ?_ ?_ | ((first | refine callsc (act_le (hs) ?_) ?_ ?_ | refine callc (act_le (hs) ?_) ?_ ?_); (focus (repeat' (first | exact trivial | exact le_same _ | exact le_imm (.inl rfl) | exact le_imm (.inr rfl) | (refine le_agg ?_) | apply And.intro))))
    (focus (simp [purs]; done))
    try simp -implicitDefEqProofs only [avl, reduceCtorEq, ↓reduceIte, sevalprocAttr, sh, sh1, h4, not_false_eq_true, not_true_eq_false]
    repeat' (first | (refine (hκ _).mpr ?_; clear hκ) | refine kn1 ?_ | refine kr1 ?_ | refine ke1 ?_ | refine kn2 ?_ | refine kr2 ?_ | refine kx2 ?_ | refine ke2 rfl ?_ | refine kn3 ?_ | refine kr3 ?_ | refine ke3 ?_ | refine kn4 ?_ | refine kr4 ?_ | refine ke4 ?_ | refine w_seq ?_ | refine w_block ?_ | (refine aw_regk fun κ hκ => ?_; simp -implicitDefEqProofs only [avl, reduceCtorEq, ↓reduceIte, sevalprocAttr, sh, sh1, h4, not_false_eq_true, not_true_eq_false]) | refine aw_exit ?_ | refine aw_ret ?_ | refine aw_skip ?_ | refine aw_label ?_ | refine condc_t ?_ | refine condc_f ?_ | (refine aw_cond2 (by simp -implicitDefEqProofs only [avl, reduceCtorEq, ↓reduceIte, sevalprocAttr, sh, sh1, h4, not_false_eq_true, not_true_eq_false]; rfl) ?_) | ((first | refine gkc_fork ?_ ?_ | refine gkc_split ?_ ?_) <;> intro hq <;> simp -implicitDefEqProofs only [hq, avl, reduceCtorEq, ↓reduceIte, sevalprocAttr, sh, sh1, h4, not_false_eq_true, not_true_eq_false]) | ((first | refine condc_fork ?_ ?_ | refine condc_bool ?_ ?_) <;> intro hq))
    try simp -implicitDefEqProofs only [List.append_assoc, avl, reduceCtorEq, ↓reduceIte, sevalprocAttr]
    first | refine retLt (by first | exact .inr rfl | exact .inl rfl) (by rfl) ?_ | refine retL1 (by first | exact .inr rfl | exact .inl rfl) (by rfl) ?_
    repeat' (first | exact trivial | apply And.intro)
    all_goals first
      | exact .same _ rfl
      | (refine .same _ ?_; (focus (simp [purs]; done)))
      | (refine .imm _ _ _ ?_; (focus (simp [purs]; done)))
      | (refine .le _ _ ?_ ?_; (focus (repeat' (first | exact trivial | exact le_same _ | exact le_imm (.inl rfl) | exact le_imm (.inr rfl) | (refine le_agg ?_) | apply And.intro))); (focus (simp [purs]; done)))
      | skip
  rw [if_neg (by omega)]
  cases hb
  · rw [if_pos rfl]
    refine act_of p_open_fault (by simp [c_open_fault]) ?_
    show AW _ b_open_fault (RetOk [.cell 10 (some 3)] _ _) { n := 45, tm := [(0, _), (1, _), (2, _), (3, _), (4, _)], box := [], fr := [] }
    unfold b_open_fault
    try simp -implicitDefEqProofs only [avl, reduceCtorEq, ↓reduceIte, sevalprocAttr, h1, h2, (eq_true h3), not_false_eq_true, not_true_eq_false]
    repeat' (first | (refine (hκ _).mpr ?_; clear hκ) | refine kn1 ?_ | refine kr1 ?_ | refine ke1 ?_ | refine kn2 ?_ | refine kr2 ?_ | refine kx2 ?_ | refine ke2 rfl ?_ | refine kn3 ?_ | refine kr3 ?_ | refine ke3 ?_ | refine kn4 ?_ | refine kr4 ?_ | refine ke4 ?_ | refine w_seq ?_ | refine w_block ?_ | (refine aw_regk fun κ hκ => ?_; simp -implicitDefEqProofs only [avl, reduceCtorEq, ↓reduceIte, sevalprocAttr, h1, h2, (eq_true h3), not_false_eq_true, not_true_eq_false]) | refine aw_exit ?_ | refine aw_ret ?_ | refine aw_skip ?_ | refine aw_label ?_ | refine condc_t ?_ | refine condc_f ?_ | (refine aw_cond2 (by simp -implicitDefEqProofs only [avl, reduceCtorEq, ↓reduceIte, sevalprocAttr, h1, h2, (eq_true h3), not_false_eq_true, not_true_eq_false]; rfl) ?_) | ((first | refine gkc_fork ?_ ?_ | refine gkc_split ?_ ?_) <;> intro hq <;> simp -implicitDefEqProofs only [hq, avl, reduceCtorEq, ↓reduceIte, sevalprocAttr, h1, h2, (eq_true h3), not_false_eq_true, not_true_eq_false]) | ((first | refine condc_fork ?_ ?_ | refine condc_bool ?_ ?_) <;> intro hq))
    first | refine callsc (hs) ?_ ?_ | refine callc (hs) ?_ ?_ | ((first | refine callsc (act_le (hs) ?_) ?_ ?_ | refine callc (act_le (hs) ?_) ?_ ?_); (focus (repeat' (first | exact trivial | exact le_same _ | exact le_imm (.inl rfl) | exact le_imm (.inr rfl) | (refine le_agg ?_) | apply And.intro))))
    (focus (simp [purs]; done))
    try simp -implicitDefEqProofs only [avl, reduceCtorEq, ↓reduceIte, sevalprocAttr, sh, sh1, (eq_true h4), not_false_eq_true, not_true_eq_false]
    repeat' (first | (refine (hκ _).mpr ?_; clear hκ) | refine kn1 ?_ | refine kr1 ?_ | refine ke1 ?_ | refine kn2 ?_ | refine kr2 ?_ | refine kx2 ?_ | refine ke2 rfl ?_ | refine kn3 ?_ | refine kr3 ?_ | refine ke3 ?_ | refine kn4 ?_ | refine kr4 ?_ | refine ke4 ?_ | refine w_seq ?_ | refine w_block ?_ | (refine aw_regk fun κ hκ => ?_; simp -implicitDefEqProofs only [avl, reduceCtorEq, ↓reduceIte, sevalprocAttr, sh, sh1, (eq_true h4), not_false_eq_true, not_true_eq_false]) | refine aw_exit ?_ | refine aw_ret ?_ | refine aw_skip ?_ | refine aw_label ?_ | refine condc_t ?_ | refine condc_f ?_ | (refine aw_cond2 (by simp -implicitDefEqProofs only [avl, reduceCtorEq, ↓reduceIte, sevalprocAttr, sh, sh1, (eq_true h4), not_false_eq_true, not_true_eq_false]; rfl) ?_) | ((first | refine gkc_fork ?_ ?_ | refine gkc_split ?_ ?_) <;> intro hq <;> simp -implicitDefEqProofs only [hq, avl, reduceCtorEq, ↓reduceIte, sevalprocAttr, sh, sh1, (eq_true h4), not_false_eq_true, not_true_eq_false]) | ((first | refine condc_fork ?_ ?_ | refine condc_bool ?_ ?_) <;> intro hq))
    first | refine callsc (hh) ?_ ?_ | refine callc (hh) ?_ ?_ | ((first | refine callsc (act_le (hh) ?_) ?_ ?_ | refine callc (act_le (hh) ?_) ?_ ?_); (focus (repeat' (first | exact trivial | exact le_same _ | exact le_imm (.inl rfl) | exact le_imm (.inr rfl) | (refine le_agg ?_) | apply And.intro))))
    (focus (simp [purs]; done))
    try simp -implicitDefEqProofs only [avl, reduceCtorEq, ↓reduceIte, sevalprocAttr, sh, sh1, Bool.not_false, Bool.not_true]
    repeat' (first | (refine (hκ _).mpr ?_; clear hκ) | refine kn1 ?_ | refine kr1 ?_ | refine ke1 ?_ | refine kn2 ?_ | refine kr2 ?_ | refine kx2 ?_ | refine ke2 rfl ?_ | refine kn3 ?_ | refine kr3 ?_ | refine ke3 ?_ | refine kn4 ?_ | refine kr4 ?_ | refine ke4 ?_ | refine w_seq ?_ | refine w_block ?_ | (refine aw_regk fun κ hκ => ?_; simp -implicitDefEqProofs only [avl, reduceCtorEq, ↓reduceIte, sevalprocAttr, sh, sh1, Bool.not_false, Bool.not_true]) | refine aw_exit ?_ | refine aw_ret ?_ | refine aw_skip ?_ | refine aw_label ?_ | refine condc_t ?_ | refine condc_f ?_ | (refine aw_cond2 (by simp -implicitDefEqProofs only [avl, reduceCtorEq, ↓reduceIte, sevalprocAttr, sh, sh1, Bool.not_false, Bool.not_true]; rfl) ?_) | ((first | refine gkc_fork ?_ ?_ | refine gkc_split ?_ ?_) <;> intro hq <;> simp -implicitDefEqProofs only [hq, avl, reduceCtorEq, ↓reduceIte, sevalprocAttr, sh, sh1, Bool.not_false, Bool.not_true]) | ((first | refine condc_fork ?_ ?_ | refine condc_bool ?_ ?_) <;> intro hq))
    try simp -implicitDefEqProofs only [List.append_assoc, avl, reduceCtorEq, ↓reduceIte, sevalprocAttr]
    first | refine retLt (by first | exact .inr rfl | exact .inl rfl) (by rfl) ?_ | refine retL1 (by first | exact .inr rfl | exact .inl rfl) (by rfl) ?_
    repeat' (first | exact trivial | apply And.intro)
    all_goals first
      | exact .same _ rfl
      | (refine .same _ ?_; (focus (simp [purs]; done)))
      | (refine .imm _ _ _ ?_; (focus (simp [purs]; done)))
      | (refine .le _ _ ?_ ?_; (focus (repeat' (first | exact trivial | exact le_same _ | exact le_imm (.inl rfl) | exact le_imm (.inr rfl) | (refine le_agg ?_) | apply And.intro))); (focus (simp [purs]; done)))
      | skip
  rw [if_neg (by simp)]
  by_cases h5 : id = 0
  · rw [if_pos h5]
    refine act_of p_open_fault (by simp [c_open_fault]) ?_
    show AW _ b_open_fault (RetOk [.cell 10 (some 3)] _ _) { n := 45, tm := [(0, _), (1, _), (2, _), (3, _), (4, _)], box := [], fr := [] }
    unfold b_open_fault
    try simp -implicitDefEqProofs only [avl, reduceCtorEq, ↓reduceIte, sevalprocAttr, h1, h2, (eq_true h3), not_false_eq_true, not_true_eq_false]
    repeat' (first | (refine (hκ _).mpr ?_; clear hκ) | refine kn1 ?_ | refine kr1 ?_ | refine ke1 ?_ | refine kn2 ?_ | refine kr2 ?_ | refine kx2 ?_ | refine ke2 rfl ?_ | refine kn3 ?_ | refine kr3 ?_ | refine ke3 ?_ | refine kn4 ?_ | refine kr4 ?_ | refine ke4 ?_ | refine w_seq ?_ | refine w_block ?_ | (refine aw_regk fun κ hκ => ?_; simp -implicitDefEqProofs only [avl, reduceCtorEq, ↓reduceIte, sevalprocAttr, h1, h2, (eq_true h3), not_false_eq_true, not_true_eq_false]) | refine aw_exit ?_ | refine aw_ret ?_ | refine aw_skip ?_ | refine aw_label ?_ | refine condc_t ?_ | refine condc_f ?_ | (refine aw_cond2 (by simp -implicitDefEqProofs only [avl, reduceCtorEq, ↓reduceIte, sevalprocAttr, h1, h2, (eq_true h3), not_false_eq_true, not_true_eq_false]; rfl) ?_) | ((first | refine gkc_fork ?_ ?_ | refine gkc_split ?_ ?_) <;> intro hq <;> simp -implicitDefEqProofs only [hq, avl, reduceCtorEq, ↓reduceIte, sevalprocAttr, h1, h2, (eq_true h3), not_false_eq_true, not_true_eq_false]) | ((first | refine condc_fork ?_ ?_ | refine condc_bool ?_ ?_) <;> intro hq))
    first | refine callsc (hs) ?_ ?_ | refine callc (hs) ?_ ?_ | ((first | refine callsc (act_le (hs) ?_) ?_ ?_ | refine callc (act_le (hs) ?_) ?_ ?_); (focus (repeat' (first | exact trivial | exact le_same _ | exact le_imm (.inl rfl) | exact le_imm (.inr rfl) | (refine le_agg ?_) | apply And.intro))))
    (focus (simp [purs]; done))
    try simp -implicitDefEqProofs only [avl, reduceCtorEq, ↓reduceIte, sevalprocAttr, sh, sh1, (eq_true h4), not_false_eq_true, not_true_eq_false]
    repeat' (first | (refine (hκ _).mpr ?_; clear hκ) | refine kn1 ?_ | refine kr1 ?_ | refine ke1 ?_ | refine kn2 ?_ | refine kr2 ?_ | refine kx2 ?_ | refine ke2 rfl ?_ | refine kn3 ?_ | refine kr3 ?_ | refine ke3 ?_ | refine kn4 ?_ | refine kr4 ?_ | refine ke4 ?_ | refine w_seq ?_ | refine w_block ?_ | (refine aw_regk fun κ hκ => ?_; simp -implicitDefEqProofs only [avl, reduceCtorEq, ↓reduceIte, sevalprocAttr, sh, sh1, (eq_true h4), not_false_eq_true, not_true_eq_false]) | refine aw_exit ?_ | refine aw_ret ?_ | refine aw_skip ?_ | refine aw_label ?_ | refine condc_t ?_ | refine condc_f ?_ | (refine aw_cond2 (by simp -implicitDefEqProofs only [avl, reduceCtorEq, ↓reduceIte, sevalprocAttr, sh, sh1, (eq_true h4), not_false_eq_true, not_true_eq_false]; rfl) ?_) | ((first | refine gkc_fork ?_ ?_ | refine gkc_split ?_ ?_) <;> intro hq <;> simp -implicitDefEqProofs only [hq, avl, reduceCtorEq, ↓reduceIte, sevalprocAttr, sh, sh1, (eq_true h4), not_false_eq_true, not_true_eq_false]) | ((first | refine condc_fork ?_ ?_ | refine condc_bool ?_ ?_) <;> intro hq))
    first | refine callsc (hh) ?_ ?_ | refine callc (hh) ?_ ?_ | ((first | refine callsc (act_le (hh) ?_) ?_ ?_ | refine callc (act_le (hh) ?_) ?_ ?_); (focus (repeat' (first | exact trivial | exact le_same _ | exact le_imm (.inl rfl) | exact le_imm (.inr rfl) | (refine le_agg ?_) | apply And.intro))))
    (focus (simp [purs]; done))
    try simp -implicitDefEqProofs only [avl, reduceCtorEq, ↓reduceIte, sevalprocAttr, sh, sh1, Bool.not_false, Bool.not_true, (eq_true h5)]
    repeat' (first | (refine (hκ _).mpr ?_; clear hκ) | refine kn1 ?_ | refine kr1 ?_ | refine ke1 ?_ | refine kn2 ?_ | refine kr2 ?_ | refine kx2 ?_ | refine ke2 rfl ?_ | refine kn3 ?_ | refine kr3 ?_ | refine ke3 ?_ | refine kn4 ?_ | refine kr4 ?_ | refine ke4 ?_ | refine w_seq ?_ | refine w_block ?_ | (refine aw_regk fun κ hκ => ?_; simp -implicitDefEqProofs only [avl, reduceCtorEq, ↓reduceIte, sevalprocAttr, sh, sh1, Bool.not_false, Bool.not_true, (eq_true h5)]) | refine aw_exit ?_ | refine aw_ret ?_ | refine aw_skip ?_ | refine aw_label ?_ | refine condc_t ?_ | refine condc_f ?_ | (refine aw_cond2 (by simp -implicitDefEqProofs only [avl, reduceCtorEq, ↓reduceIte, sevalprocAttr, sh, sh1, Bool.not_false, Bool.not_true, (eq_true h5)]; rfl) ?_) | ((first | refine gkc_fork ?_ ?_ | refine gkc_split ?_ ?_) <;> intro hq <;> simp -implicitDefEqProofs only [hq, avl, reduceCtorEq, ↓reduceIte, sevalprocAttr, sh, sh1, Bool.not_false, Bool.not_true, (eq_true h5)]) | ((first | refine condc_fork ?_ ?_ | refine condc_bool ?_ ?_) <;> intro hq))
    try simp -implicitDefEqProofs only [List.append_assoc, avl, reduceCtorEq, ↓reduceIte, sevalprocAttr]
    first | refine retLt (by first | exact .inr rfl | exact .inl rfl) (by rfl) ?_ | refine retL1 (by first | exact .inr rfl | exact .inl rfl) (by rfl) ?_
    repeat' (first | exact trivial | apply And.intro)
    all_goals first
      | exact .same _ rfl
      | (refine .same _ ?_; (focus (simp [purs]; done)))
      | (refine .imm _ _ _ ?_; (focus (simp [purs]; done)))
      | (refine .le _ _ ?_ ?_; (focus (repeat' (first | exact trivial | exact le_same _ | exact le_imm (.inl rfl) | exact le_imm (.inr rfl) | (refine le_agg ?_) | apply And.intro))); (focus (simp [purs]; done)))
      | skip
  rw [if_neg h5]
  refine act_of p_open_fault (by simp [c_open_fault]) ?_
  show AW _ b_open_fault (RetOk [.cell 10 (some 3)] _ _) { n := 45, tm := [(0, _), (1, _), (2, _), (3, _), (4, _)], box := [], fr := [] }
  unfold b_open_fault
  try simp -implicitDefEqProofs only [avl, reduceCtorEq, ↓reduceIte, sevalprocAttr, h1, h2, (eq_true h3), not_false_eq_true, not_true_eq_false]
  repeat' (first | (refine (hκ _).mpr ?_; clear hκ) | refine kn1 ?_ | refine kr1 ?_ | refine ke1 ?_ | refine kn2 ?_ | refine kr2 ?_ | refine kx2 ?_ | refine ke2 rfl ?_ | refine kn3 ?_ | refine kr3 ?_ | refine ke3 ?_ | refine kn4 ?_ | refine kr4 ?_ | refine ke4 ?_ | refine w_seq ?_ | refine w_block ?_ | (refine aw_regk fun κ hκ => ?_; simp -implicitDefEqProofs only [avl, reduceCtorEq, ↓reduceIte, sevalprocAttr, h1, h2, (eq_true h3), not_false_eq_true, not_true_eq_false]) | refine aw_exit ?_ | refine aw_ret ?_ | refine aw_skip ?_ | refine aw_label ?_ | refine condc_t ?_ | refine condc_f ?_ | (refine aw_cond2 (by simp -implicitDefEqProofs only [avl, reduceCtorEq, ↓reduceIte, sevalprocAttr, h1, h2, (eq_true h3), not_false_eq_true, not_true_eq_false]; rfl) ?_) | ((first | refine gkc_fork ?_ ?_ | refine gkc_split ?_ ?_) <;> intro hq <;> simp -implicitDefEqProofs only [hq, avl, reduceCtorEq, ↓reduceIte, sevalprocAttr, h1, h2, (eq_true h3), not_false_eq_true, not_true_eq_false]) | ((first | refine condc_fork ?_ ?_ | refine condc_bool ?_ ?_) <;> intro hq))
  first | refine callsc (hs) ?_ ?_ | refine callc (hs) ?_ ?_ | ((first | refine callsc (act_le (hs) ?_) ?_ ?_ | refine callc (act_le (hs) ?_) ?_ ?_); (focus (repeat' (first | exact trivial | exact le_same _ | exact le_imm (.inl rfl) | exact le_imm (.inr rfl) | (refine le_agg ?_) | apply And.intro))))
  (focus (simp [purs]; done))
  try simp -implicitDefEqProofs only [avl, reduceCtorEq, ↓reduceIte, sevalprocAttr, sh, sh1, (eq_true h4), not_false_eq_true, not_true_eq_false]
  repeat' (first | (refine (hκ _).mpr ?_; clear hκ) | refine kn1 ?_ | refine kr1 ?_ | refine ke1 ?_ | refine kn2 ?_ | refine kr2 ?_ | refine kx2 ?_ | refine ke2 rfl ?_ | refine kn3 ?_ | refine kr3 ?_ | refine ke3 ?_ | refine kn4 ?_ | refine kr4 ?_ | refine ke4 ?_ | refine w_seq ?_ | refine w_block ?_ | (refine aw_regk fun κ hκ => ?_; simp -implicitDefEqProofs only [avl, reduceCtorEq, ↓reduceIte, sevalprocAttr, sh, sh1, (eq_true h4), not_false_eq_true, not_true_eq_false]) | refine aw_exit ?_ | refine aw_ret ?_ | refine aw_skip ?_ | refine aw_label ?_ | refine condc_t ?_ | refine condc_f ?_ | (refine aw_cond2 (by simp -implicitDefEqProofs only [avl, reduceCtorEq, ↓reduceIte, sevalprocAttr, sh, sh1, (eq_true h4), not_false_eq_true, not_true_eq_false]; rfl) ?_) | ((first | refine gkc_fork ?_ ?_ | refine gkc_split ?_ ?_) <;> intro hq <;> simp -implicitDefEqProofs only [hq, avl, reduceCtorEq, ↓reduceIte, sevalprocAttr, sh, sh1, (eq_true h4), not_false_eq_true, not_true_eq_false]) | ((first | refine condc_fork ?_ ?_ | refine condc_bool ?_ ?_) <;> intro hq))
  first | refine callsc (hh) ?_ ?_ | refine callc (hh) ?_ ?_ | ((first | refine callsc (act_le (hh) ?_) ?_ ?_ | refine callc (act_le (hh) ?_) ?_ ?_); (focus (repeat' (first | exact trivial | exact le_same _ | exact le_imm (.inl rfl) | exact le_imm (.inr rfl) | (refine le_agg ?_) | apply And.intro))))
  (focus (simp [purs]; done))
  try simp -implicitDefEqProofs only [avl, reduceCtorEq, ↓reduceIte, sevalprocAttr, sh, sh1, Bool.not_false, Bool.not_true, h5]
  repeat' (first | (refine (hκ _).mpr ?_; clear hκ) | refine kn1 ?_ | refine kr1 ?_ | refine ke1 ?_ | refine kn2 ?_ | refine kr2 ?_ | refine kx2 ?_ | refine ke2 rfl ?_ | refine kn3 ?_ | refine kr3 ?_ | refine ke3 ?_ | refine kn4 ?_ | refine kr4 ?_ | refine ke4 ?_ | refine w_seq ?_ | refine w_block ?_ | (refine aw_regk fun κ hκ => ?_; simp -implicitDefEqProofs only [avl, reduceCtorEq, ↓reduceIte, sevalprocAttr, sh, sh1, Bool.not_false, Bool.not_true, h5]) | refine aw_exit ?_ | refine aw_ret ?_ | refine aw_skip ?_ | refine aw_label ?_ | refine condc_t ?_ | refine condc_f ?_ | (refine aw_cond2 (by simp -implicitDefEqProofs only [avl, reduceCtorEq, ↓reduceIte, sevalprocAttr, sh, sh1, Bool.not_false, Bool.not_true, h5]; rfl) ?_) | ((first | refine gkc_fork ?_ ?_ | refine gkc_split ?_ ?_) <;> intro hq <;> simp -implicitDefEqProofs only [hq, avl, reduceCtorEq, ↓reduceIte, sevalprocAttr, sh, sh1, Bool.not_false, Bool.not_true, h5]) | ((first | refine condc_fork ?_ ?_ | refine condc_bool ?_ ?_) <;> intro hq))
  try simp -implicitDefEqProofs only [List.append_assoc, avl, reduceCtorEq, ↓reduceIte, sevalprocAttr]
  first | refine retLt (by first | exact .inr rfl | exact .inl rfl) (by rfl) ?_ | refine retL1 (by first | exact .inr rfl | exact .inl rfl) (by rfl) ?_
  repeat' (first | exact trivial | apply And.intro)
  all_goals first
    | exact .same _ rfl
    | (refine .same _ ?_; (focus (simp [purs]; done)))
    | (refine .imm _ _ _ ?_; (focus (simp [purs]; done)))
    | (refine .le _ _ ?_ ?_; (focus (repeat' (first | exact trivial | exact le_same _ | exact le_imm (.inl rfl) | exact le_imm (.inr rfl) | (refine le_agg ?_) | apply And.intro))); (focus (simp [purs]; done)))
    | skip
end Go.Proofs.Ytgakgilaikgboaa
