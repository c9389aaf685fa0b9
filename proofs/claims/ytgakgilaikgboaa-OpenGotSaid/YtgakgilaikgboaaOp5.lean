/- Opening: what is put, and what is got. -/
import Derived.Test.YtgakgilaikgboaaOp4
namespace Go.Proofs.Ytgakgilaikgboaa
open Go.RowKit
set_option maxHeartbeats 4000000
set_option maxRecDepth 100000
set_option linter.unusedSimpArgs false
set_option linter.unusedVariables false

def tailO (h : Hl) : List UInt8 := [2, 6, 65, 4] ++ putL h.asn 4 ++ (if 0 ≤ h.role then [2, 3, 9, 1, octAt h.role 0] else [])
def bodyO (h : Hl) : List UInt8 := [4] ++ putL (shortI h.asn) 2 ++ putL h.hold 2 ++ putL h.id 4 ++ [octAt (tailO h).length 0] ++ tailO h
def putO (h : Hl) : Int × List UInt8 := if hlB h then (1, bodyO h) else (0, [])
theorem labL_len (k : Int) (l : List UInt8) : (labL k l).length = l.length + 2 := by simp [labL]
theorem putL_1 (v : Int) : putL v 1 = [octAt v 0] := by simp [putL]
theorem o2 : octAt 2 0 = 2 := by decide
theorem o4 : octAt 4 0 = 4 := by decide
theorem o65 : octAt 65 0 = 65 := by decide
theorem o6 : octAt 6 0 = 6 := by decide
theorem o9 : octAt 9 0 = 9 := by decide
theorem o1 : octAt 1 0 = 1 := by decide
theorem o3 : octAt 3 0 = 3 := by decide
theorem oput_ac (h : Hl) : ACt Try.prog 22 [hlA h] (mA (putO h).1 (putO h).2) [] := by
  have hs := hsane_ac h
  unfold putO
  cases hb : hlB h
  · rw [hb] at hs
    unfold hlA at hs
    simp only [Bool.false_eq_true, if_false]
    unfold mA
    refine act_of p_open_Put (by simp [c_open_Put]) ?_
    show AW _ b_open_Put (RetOk [.cell 2 (some 2)] _ _) { n := 46, tm := [(0, _)], box := [], fr := [] }
    unfold b_open_Put
    unfold hlA
    try simp -implicitDefEqProofs only [avl, reduceCtorEq, ↓reduceIte, sevalprocAttr]
    repeat' (first | (refine (hκ _).mpr ?_; clear hκ) | refine kn1 ?_ | refine kr1 ?_ | refine ke1 ?_ | refine kn2 ?_ | refine kr2 ?_ | refine kx2 ?_ | refine ke2 rfl ?_ | refine kn3 ?_ | refine kr3 ?_ | refine ke3 ?_ | refine kn4 ?_ | refine kr4 ?_ | refine ke4 ?_ | refine w_seq ?_ | refine w_block ?_ | (refine aw_regk fun κ hκ => ?_; simp -implicitDefEqProofs only [avl, reduceCtorEq, ↓reduceIte, sevalprocAttr]) | refine aw_exit ?_ | refine aw_ret ?_ | refine aw_skip ?_ | refine aw_label ?_ | refine condc_t ?_ | refine condc_f ?_ | (refine aw_cond2 (by simp -implicitDefEqProofs only [avl, reduceCtorEq, ↓reduceIte, sevalprocAttr]; rfl) ?_) | ((first | refine gkc_fork ?_ ?_ | refine gkc_split ?_ ?_) <;> intro hq <;> simp -implicitDefEqProofs only [hq, avl, reduceCtorEq, ↓reduceIte, sevalprocAttr]) | ((first | refine condc_fork ?_ ?_ | refine condc_bool ?_ ?_) <;> intro hq))
    first | refine callsc (hs) ?_ ?_ | refine callc (hs) ?_ ?_ | ((first | refine callsc (act_le (hs) ?_) ?_ ?_ | refine callc (act_le (hs) ?_) ?_ ?_); (focus (repeat' (first | exact trivial | exact le_same _ | exact le_imm (.inl rfl) | exact le_imm (.inr rfl) | (refine le_agg ?_) | apply And.intro))))
    (focus (simp [purs]; done))
    try simp -implicitDefEqProofs only [avl, reduceCtorEq, ↓reduceIte, sevalprocAttr, sh, sh1, Bool.not_false]
    repeat' (first | (refine (hκ _).mpr ?_; clear hκ) | refine kn1 ?_ | refine kr1 ?_ | refine ke1 ?_ | refine kn2 ?_ | refine kr2 ?_ | refine kx2 ?_ | refine ke2 rfl ?_ | refine kn3 ?_ | refine kr3 ?_ | refine ke3 ?_ | refine kn4 ?_ | refine kr4 ?_ | refine ke4 ?_ | refine w_seq ?_ | refine w_block ?_ | (refine aw_regk fun κ hκ => ?_; simp -implicitDefEqProofs only [avl, reduceCtorEq, ↓reduceIte, sevalprocAttr, sh, sh1, Bool.not_false]) | refine aw_exit ?_ | refine aw_ret ?_ | refine aw_skip ?_ | refine aw_label ?_ | refine condc_t ?_ | refine condc_f ?_ | (refine aw_cond2 (by simp -implicitDefEqProofs only [avl, reduceCtorEq, ↓reduceIte, sevalprocAttr, sh, sh1, Bool.not_false]; rfl) ?_) | ((first | refine gkc_fork ?_ ?_ | refine gkc_split ?_ ?_) <;> intro hq <;> simp -implicitDefEqProofs only [hq, avl, reduceCtorEq, ↓reduceIte, sevalprocAttr, sh, sh1, Bool.not_false]) | ((first | refine condc_fork ?_ ?_ | refine condc_bool ?_ ?_) <;> intro hq))
    try simp -implicitDefEqProofs only [List.append_assoc, avl, reduceCtorEq, ↓reduceIte, sevalprocAttr]
    first | refine retLt (by first | exact .inr rfl | exact .inl rfl) (by rfl) ?_ | refine retL1 (by first | exact .inr rfl | exact .inl rfl) (by rfl) ?_
    repeat' (first | exact trivial | apply And.intro)
    all_goals first
      | exact .same _ rfl
      | (refine .same _ ?_; (focus (simp [purs]; done)))
      | (refine .imm _ _ _ ?_; (focus (simp [purs]; done)))
      | (refine .le _ _ ?_ ?_; (focus (repeat' (first | exact trivial | exact le_same _ | exact le_imm (.inl rfl) | exact le_imm (.inr rfl) | (refine le_agg ?_) | apply And.intro))); (focus (simp [purs]; done)))
      | skip
  rw [hb] at hs
  unfold hlA at hs
  simp only [if_true]
  have p1 := octPut_ac [] h.asn 4 (by omega) (by omega) (by simp)
  have p2 := octPut_ac [] 4 1 (by omega) (by omega) (by simp)
  have hsh := short_ac h.asn
  have l1 := labelled_ac 65 (putL h.asn 4) (by rw [putL_length]; omega)
  have l2 := labelled_ac 2 (labL 65 (putL h.asn 4)) (by rw [labL_len, putL_length]; omega)
  have p3 := octPut_ac (putL 4 1) (shortI h.asn) 2 (by omega) (by omega) (by rw [putL_length]; omega)
  have p4 := octPut_ac (putL 4 1 ++ putL (shortI h.asn) 2) h.hold 2 (by omega) (by omega) (by simp [putL_length])
  have p5 := octPut_ac (putL 4 1 ++ putL (shortI h.asn) 2 ++ putL h.hold 2) h.id 4 (by omega) (by omega) (by simp [putL_length])
  simp only [List.nil_append, List.length_nil, Nat.zero_add] at p1 p2
  simp only [List.length_append, putL_length, Nat.reduceAdd] at p3 p4 p5
  by_cases hr : h.role = -1
  · have hr' : ¬ 0 ≤ h.role := by omega
    have p6 := octPut_ac (putL 4 1 ++ putL (shortI h.asn) 2 ++ putL h.hold 2 ++ putL h.id 4) 8 1 (by omega) (by omega) (by simp [putL_length])
    simp only [List.length_append, putL_length, Nat.reduceAdd] at p6
    have hbody : bodyO h = putL 4 1 ++ putL (shortI h.asn) 2 ++ putL h.hold 2 ++ putL h.id 4 ++ putL 8 1 ++ labL 2 (labL 65 (putL h.asn 4)) := by
      unfold bodyO tailO labL
      rw [if_neg hr']
      simp only [putL_1, List.length_append, List.length_cons, List.length_nil, putL_length, Nat.reduceAdd, List.append_nil, List.cons_append, List.nil_append, o2, o4, o65]
      simp [o6]
      rfl
    rw [hbody]
    unfold mA
    refine act_of p_open_Put (by simp [c_open_Put]) ?_
    show AW _ b_open_Put (RetOk [.cell 2 (some 2)] _ _) { n := 46, tm := [(0, _)], box := [], fr := [] }
    unfold b_open_Put
    unfold hlA
    try simp -implicitDefEqProofs only [avl, reduceCtorEq, ↓reduceIte, sevalprocAttr]
    repeat' (first | (refine (hκ _).mpr ?_; clear hκ) | refine kn1 ?_ | refine kr1 ?_ | refine ke1 ?_ | refine kn2 ?_ | refine kr2 ?_ | refine kx2 ?_ | refine ke2 rfl ?_ | refine kn3 ?_ | refine kr3 ?_ | refine ke3 ?_ | refine kn4 ?_ | refine kr4 ?_ | refine ke4 ?_ | refine w_seq ?_ | refine w_block ?_ | (refine aw_regk fun κ hκ => ?_; simp -implicitDefEqProofs only [avl, reduceCtorEq, ↓reduceIte, sevalprocAttr]) | refine aw_exit ?_ | refine aw_ret ?_ | refine aw_skip ?_ | refine aw_label ?_ | refine condc_t ?_ | refine condc_f ?_ | (refine aw_cond2 (by simp -implicitDefEqProofs only [avl, reduceCtorEq, ↓reduceIte, sevalprocAttr]; rfl) ?_) | ((first | refine gkc_fork ?_ ?_ | refine gkc_split ?_ ?_) <;> intro hq <;> simp -implicitDefEqProofs only [hq, avl, reduceCtorEq, ↓reduceIte, sevalprocAttr]) | ((first | refine condc_fork ?_ ?_ | refine condc_bool ?_ ?_) <;> intro hq))
    first | refine callsc (hs) ?_ ?_ | refine callc (hs) ?_ ?_ | ((first | refine callsc (act_le (hs) ?_) ?_ ?_ | refine callc (act_le (hs) ?_) ?_ ?_); (focus (repeat' (first | exact trivial | exact le_same _ | exact le_imm (.inl rfl) | exact le_imm (.inr rfl) | (refine le_agg ?_) | apply And.intro))))
    (focus (simp [purs]; done))
    try simp -implicitDefEqProofs only [avl, reduceCtorEq, ↓reduceIte, sevalprocAttr, sh, sh1, Bool.not_true]
    repeat' (first | (refine (hκ _).mpr ?_; clear hκ) | refine kn1 ?_ | refine kr1 ?_ | refine ke1 ?_ | refine kn2 ?_ | refine kr2 ?_ | refine kx2 ?_ | refine ke2 rfl ?_ | refine kn3 ?_ | refine kr3 ?_ | refine ke3 ?_ | refine kn4 ?_ | refine kr4 ?_ | refine ke4 ?_ | refine w_seq ?_ | refine w_block ?_ | (refine aw_regk fun κ hκ => ?_; simp -implicitDefEqProofs only [avl, reduceCtorEq, ↓reduceIte, sevalprocAttr, sh, sh1, Bool.not_true]) | refine aw_exit ?_ | refine aw_ret ?_ | refine aw_skip ?_ | refine aw_label ?_ | refine condc_t ?_ | refine condc_f ?_ | (refine aw_cond2 (by simp -implicitDefEqProofs only [avl, reduceCtorEq, ↓reduceIte, sevalprocAttr, sh, sh1, Bool.not_true]; rfl) ?_) | ((first | refine gkc_fork ?_ ?_ | refine gkc_split ?_ ?_) <;> intro hq <;> simp -implicitDefEqProofs only [hq, avl, reduceCtorEq, ↓reduceIte, sevalprocAttr, sh, sh1, Bool.not_true]) | ((first | refine condc_fork ?_ ?_ | refine condc_bool ?_ ?_) <;> intro hq))
    first | refine callsc (p1) ?_ ?_ | refine callc (p1) ?_ ?_ | ((first | refine callsc (act_le (p1) ?_) ?_ ?_ | refine callc (act_le (p1) ?_) ?_ ?_); (focus (repeat' (first | exact trivial | exact le_same _ | exact le_imm (.inl rfl) | exact le_imm (.inr rfl) | (refine le_agg ?_) | apply And.intro))))
    (focus (simp [purs]; done))
    try simp -implicitDefEqProofs only [avl, reduceCtorEq, ↓reduceIte, sevalprocAttr, sh, sh1]
    repeat' (first | (refine (hκ _).mpr ?_; clear hκ) | refine kn1 ?_ | refine kr1 ?_ | refine ke1 ?_ | refine kn2 ?_ | refine kr2 ?_ | refine kx2 ?_ | refine ke2 rfl ?_ | refine kn3 ?_ | refine kr3 ?_ | refine ke3 ?_ | refine kn4 ?_ | refine kr4 ?_ | refine ke4 ?_ | refine w_seq ?_ | refine w_block ?_ | (refine aw_regk fun κ hκ => ?_; simp -implicitDefEqProofs only [avl, reduceCtorEq, ↓reduceIte, sevalprocAttr, sh, sh1]) | refine aw_exit ?_ | refine aw_ret ?_ | refine aw_skip ?_ | refine aw_label ?_ | refine condc_t ?_ | refine condc_f ?_ | (refine aw_cond2 (by simp -implicitDefEqProofs only [avl, reduceCtorEq, ↓reduceIte, sevalprocAttr, sh, sh1]; rfl) ?_) | ((first | refine gkc_fork ?_ ?_ | refine gkc_split ?_ ?_) <;> intro hq <;> simp -implicitDefEqProofs only [hq, avl, reduceCtorEq, ↓reduceIte, sevalprocAttr, sh, sh1]) | ((first | refine condc_fork ?_ ?_ | refine condc_bool ?_ ?_) <;> intro hq))
    first | refine callsc (l1) ?_ ?_ | refine callc (l1) ?_ ?_ | ((first | refine callsc (act_le (l1) ?_) ?_ ?_ | refine callc (act_le (l1) ?_) ?_ ?_); (focus (repeat' (first | exact trivial | exact le_same _ | exact le_imm (.inl rfl) | exact le_imm (.inr rfl) | (refine le_agg ?_) | apply And.intro))))
    (focus (simp [purs]; done))
    try simp -implicitDefEqProofs only [avl, reduceCtorEq, ↓reduceIte, sevalprocAttr, sh, sh1]
    repeat' (first | (refine (hκ _).mpr ?_; clear hκ) | refine kn1 ?_ | refine kr1 ?_ | refine ke1 ?_ | refine kn2 ?_ | refine kr2 ?_ | refine kx2 ?_ | refine ke2 rfl ?_ | refine kn3 ?_ | refine kr3 ?_ | refine ke3 ?_ | refine kn4 ?_ | refine kr4 ?_ | refine ke4 ?_ | refine w_seq ?_ | refine w_block ?_ | (refine aw_regk fun κ hκ => ?_; simp -implicitDefEqProofs only [avl, reduceCtorEq, ↓reduceIte, sevalprocAttr, sh, sh1]) | refine aw_exit ?_ | refine aw_ret ?_ | refine aw_skip ?_ | refine aw_label ?_ | refine condc_t ?_ | refine condc_f ?_ | (refine aw_cond2 (by simp -implicitDefEqProofs only [avl, reduceCtorEq, ↓reduceIte, sevalprocAttr, sh, sh1]; rfl) ?_) | ((first | refine gkc_fork ?_ ?_ | refine gkc_split ?_ ?_) <;> intro hq <;> simp -implicitDefEqProofs only [hq, avl, reduceCtorEq, ↓reduceIte, sevalprocAttr, sh, sh1]) | ((first | refine condc_fork ?_ ?_ | refine condc_bool ?_ ?_) <;> intro hq))
    first | refine callsc (l2) ?_ ?_ | refine callc (l2) ?_ ?_ | ((first | refine callsc (act_le (l2) ?_) ?_ ?_ | refine callc (act_le (l2) ?_) ?_ ?_); (focus (repeat' (first | exact trivial | exact le_same _ | exact le_imm (.inl rfl) | exact le_imm (.inr rfl) | (refine le_agg ?_) | apply And.intro))))
    (focus (simp [purs]; done))
    try simp -implicitDefEqProofs only [avl, reduceCtorEq, ↓reduceIte, sevalprocAttr, sh, sh1, (eq_true hr), not_true_eq_false]
    repeat' (first | (refine (hκ _).mpr ?_; clear hκ) | refine kn1 ?_ | refine kr1 ?_ | refine ke1 ?_ | refine kn2 ?_ | refine kr2 ?_ | refine kx2 ?_ | refine ke2 rfl ?_ | refine kn3 ?_ | refine kr3 ?_ | refine ke3 ?_ | refine kn4 ?_ | refine kr4 ?_ | refine ke4 ?_ | refine w_seq ?_ | refine w_block ?_ | (refine aw_regk fun κ hκ => ?_; simp -implicitDefEqProofs only [avl, reduceCtorEq, ↓reduceIte, sevalprocAttr, sh, sh1, (eq_true hr), not_true_eq_false]) | refine aw_exit ?_ | refine aw_ret ?_ | refine aw_skip ?_ | refine aw_label ?_ | refine condc_t ?_ | refine condc_f ?_ | (refine aw_cond2 (by simp -implicitDefEqProofs only [avl, reduceCtorEq, ↓reduceIte, sevalprocAttr, sh, sh1, (eq_true hr), not_true_eq_false]; rfl) ?_) | ((first | refine gkc_fork ?_ ?_ | refine gkc_split ?_ ?_) <;> intro hq <;> simp -implicitDefEqProofs only [hq, avl, reduceCtorEq, ↓reduceIte, sevalprocAttr, sh, sh1, (eq_true hr), not_true_eq_false]) | ((first | refine condc_fork ?_ ?_ | refine condc_bool ?_ ?_) <;> intro hq))
    first | refine callsc (p2) ?_ ?_ | refine callc (p2) ?_ ?_ | ((first | refine callsc (act_le (p2) ?_) ?_ ?_ | refine callc (act_le (p2) ?_) ?_ ?_); (focus (repeat' (first | exact trivial | exact le_same _ | exact le_imm (.inl rfl) | exact le_imm (.inr rfl) | (refine le_agg ?_) | apply And.intro))))
    (focus (simp [purs]; done))
    try simp -implicitDefEqProofs only [avl, reduceCtorEq, ↓reduceIte, sevalprocAttr, sh, sh1]
    repeat' (first | (refine (hκ _).mpr ?_; clear hκ) | refine kn1 ?_ | refine kr1 ?_ | refine ke1 ?_ | refine kn2 ?_ | refine kr2 ?_ | refine kx2 ?_ | refine ke2 rfl ?_ | refine kn3 ?_ | refine kr3 ?_ | refine ke3 ?_ | refine kn4 ?_ | refine kr4 ?_ | refine ke4 ?_ | refine w_seq ?_ | refine w_block ?_ | (refine aw_regk fun κ hκ => ?_; simp -implicitDefEqProofs only [avl, reduceCtorEq, ↓reduceIte, sevalprocAttr, sh, sh1]) | refine aw_exit ?_ | refine aw_ret ?_ | refine aw_skip ?_ | refine aw_label ?_ | refine condc_t ?_ | refine condc_f ?_ | (refine aw_cond2 (by simp -implicitDefEqProofs only [avl, reduceCtorEq, ↓reduceIte, sevalprocAttr, sh, sh1]; rfl) ?_) | ((first | refine gkc_fork ?_ ?_ | refine gkc_split ?_ ?_) <;> intro hq <;> simp -implicitDefEqProofs only [hq, avl, reduceCtorEq, ↓reduceIte, sevalprocAttr, sh, sh1]) | ((first | refine condc_fork ?_ ?_ | refine condc_bool ?_ ?_) <;> intro hq))
    first | refine callsc (hsh) ?_ ?_ | refine callc (hsh) ?_ ?_ | ((first | refine callsc (act_le (hsh) ?_) ?_ ?_ | refine callc (act_le (hsh) ?_) ?_ ?_); (focus (repeat' (first | exact trivial | exact le_same _ | exact le_imm (.inl rfl) | exact le_imm (.inr rfl) | (refine le_agg ?_) | apply And.intro))))
    (focus (simp [purs]; done))
    try simp -implicitDefEqProofs only [avl, reduceCtorEq, ↓reduceIte, sevalprocAttr, sh, sh1]
    repeat' (first | (refine (hκ _).mpr ?_; clear hκ) | refine kn1 ?_ | refine kr1 ?_ | refine ke1 ?_ | refine kn2 ?_ | refine kr2 ?_ | refine kx2 ?_ | refine ke2 rfl ?_ | refine kn3 ?_ | refine kr3 ?_ | refine ke3 ?_ | refine kn4 ?_ | refine kr4 ?_ | refine ke4 ?_ | refine w_seq ?_ | refine w_block ?_ | (refine aw_regk fun κ hκ => ?_; simp -implicitDefEqProofs only [avl, reduceCtorEq, ↓reduceIte, sevalprocAttr, sh, sh1]) | refine aw_exit ?_ | refine aw_ret ?_ | refine aw_skip ?_ | refine aw_label ?_ | refine condc_t ?_ | refine condc_f ?_ | (refine aw_cond2 (by simp -implicitDefEqProofs only [avl, reduceCtorEq, ↓reduceIte, sevalprocAttr, sh, sh1]; rfl) ?_) | ((first | refine gkc_fork ?_ ?_ | refine gkc_split ?_ ?_) <;> intro hq <;> simp -implicitDefEqProofs only [hq, avl, reduceCtorEq, ↓reduceIte, sevalprocAttr, sh, sh1]) | ((first | refine condc_fork ?_ ?_ | refine condc_bool ?_ ?_) <;> intro hq))
    first | refine callsc (p3) ?_ ?_ | refine callc (p3) ?_ ?_ | ((first | refine callsc (act_le (p3) ?_) ?_ ?_ | refine callc (act_le (p3) ?_) ?_ ?_); (focus (repeat' (first | exact trivial | exact le_same _ | exact le_imm (.inl rfl) | exact le_imm (.inr rfl) | (refine le_agg ?_) | apply And.intro))))
    (focus (simp [purs]; done))
    try simp -implicitDefEqProofs only [avl, reduceCtorEq, ↓reduceIte, sevalprocAttr, sh, sh1]
    repeat' (first | (refine (hκ _).mpr ?_; clear hκ) | refine kn1 ?_ | refine kr1 ?_ | refine ke1 ?_ | refine kn2 ?_ | refine kr2 ?_ | refine kx2 ?_ | refine ke2 rfl ?_ | refine kn3 ?_ | refine kr3 ?_ | refine ke3 ?_ | refine kn4 ?_ | refine kr4 ?_ | refine ke4 ?_ | refine w_seq ?_ | refine w_block ?_ | (refine aw_regk fun κ hκ => ?_; simp -implicitDefEqProofs only [avl, reduceCtorEq, ↓reduceIte, sevalprocAttr, sh, sh1]) | refine aw_exit ?_ | refine aw_ret ?_ | refine aw_skip ?_ | refine aw_label ?_ | refine condc_t ?_ | refine condc_f ?_ | (refine aw_cond2 (by simp -implicitDefEqProofs only [avl, reduceCtorEq, ↓reduceIte, sevalprocAttr, sh, sh1]; rfl) ?_) | ((first | refine gkc_fork ?_ ?_ | refine gkc_split ?_ ?_) <;> intro hq <;> simp -implicitDefEqProofs only [hq, avl, reduceCtorEq, ↓reduceIte, sevalprocAttr, sh, sh1]) | ((first | refine condc_fork ?_ ?_ | refine condc_bool ?_ ?_) <;> intro hq))
    first | refine callsc (p4) ?_ ?_ | refine callc (p4) ?_ ?_ | ((first | refine callsc (act_le (p4) ?_) ?_ ?_ | refine callc (act_le (p4) ?_) ?_ ?_); (focus (repeat' (first | exact trivial | exact le_same _ | exact le_imm (.inl rfl) | exact le_imm (.inr rfl) | (refine le_agg ?_) | apply And.intro))))
    (focus (simp [purs]; done))
    try simp -implicitDefEqProofs only [avl, reduceCtorEq, ↓reduceIte, sevalprocAttr, sh, sh1]
    repeat' (first | (refine (hκ _).mpr ?_; clear hκ) | refine kn1 ?_ | refine kr1 ?_ | refine ke1 ?_ | refine kn2 ?_ | refine kr2 ?_ | refine kx2 ?_ | refine ke2 rfl ?_ | refine kn3 ?_ | refine kr3 ?_ | refine ke3 ?_ | refine kn4 ?_ | refine kr4 ?_ | refine ke4 ?_ | refine w_seq ?_ | refine w_block ?_ | (refine aw_regk fun κ hκ => ?_; simp -implicitDefEqProofs only [avl, reduceCtorEq, ↓reduceIte, sevalprocAttr, sh, sh1]) | refine aw_exit ?_ | refine aw_ret ?_ | refine aw_skip ?_ | refine aw_label ?_ | refine condc_t ?_ | refine condc_f ?_ | (refine aw_cond2 (by simp -implicitDefEqProofs only [avl, reduceCtorEq, ↓reduceIte, sevalprocAttr, sh, sh1]; rfl) ?_) | ((first | refine gkc_fork ?_ ?_ | refine gkc_split ?_ ?_) <;> intro hq <;> simp -implicitDefEqProofs only [hq, avl, reduceCtorEq, ↓reduceIte, sevalprocAttr, sh, sh1]) | ((first | refine condc_fork ?_ ?_ | refine condc_bool ?_ ?_) <;> intro hq))
    first | refine callsc (p5) ?_ ?_ | refine callc (p5) ?_ ?_ | ((first | refine callsc (act_le (p5) ?_) ?_ ?_ | refine callc (act_le (p5) ?_) ?_ ?_); (focus (repeat' (first | exact trivial | exact le_same _ | exact le_imm (.inl rfl) | exact le_imm (.inr rfl) | (refine le_agg ?_) | apply And.intro))))
    (focus (simp [purs]; done))
    try simp -implicitDefEqProofs only [avl, reduceCtorEq, ↓reduceIte, sevalprocAttr, sh, sh1, labL_len, putL_length]
    repeat' (first | (refine (hκ _).mpr ?_; clear hκ) | refine kn1 ?_ | refine kr1 ?_ | refine ke1 ?_ | refine kn2 ?_ | refine kr2 ?_ | refine kx2 ?_ | refine ke2 rfl ?_ | refine kn3 ?_ | refine kr3 ?_ | refine ke3 ?_ | refine kn4 ?_ | refine kr4 ?_ | refine ke4 ?_ | refine w_seq ?_ | refine w_block ?_ | (refine aw_regk fun κ hκ => ?_; simp -implicitDefEqProofs only [avl, reduceCtorEq, ↓reduceIte, sevalprocAttr, sh, sh1, labL_len, putL_length]) | refine aw_exit ?_ | refine aw_ret ?_ | refine aw_skip ?_ | refine aw_label ?_ | refine condc_t ?_ | refine condc_f ?_ | (refine aw_cond2 (by simp -implicitDefEqProofs only [avl, reduceCtorEq, ↓reduceIte, sevalprocAttr, sh, sh1, labL_len, putL_length]; rfl) ?_) | ((first | refine gkc_fork ?_ ?_ | refine gkc_split ?_ ?_) <;> intro hq <;> simp -implicitDefEqProofs only [hq, avl, reduceCtorEq, ↓reduceIte, sevalprocAttr, sh, sh1, labL_len, putL_length]) | ((first | refine condc_fork ?_ ?_ | refine condc_bool ?_ ?_) <;> intro hq))
    first | refine callsc (p6) ?_ ?_ | refine callc (p6) ?_ ?_ | ((first | refine callsc (act_le (p6) ?_) ?_ ?_ | refine callc (act_le (p6) ?_) ?_ ?_); (focus (repeat' (first | exact trivial | exact le_same _ | exact le_imm (.inl rfl) | exact le_imm (.inr rfl) | (refine le_agg ?_) | apply And.intro))))
    (focus (simp [purs]; done))
    try simp -implicitDefEqProofs only [avl, reduceCtorEq, ↓reduceIte, sevalprocAttr, sh, sh1, labL_len, putL_length, Nat.mul_one, (show 13 ≤ maxLen by decide), (show 18 ≤ maxLen by decide)]
    repeat' (first | (refine (hκ _).mpr ?_; clear hκ) | refine kn1 ?_ | refine kr1 ?_ | refine ke1 ?_ | refine kn2 ?_ | refine kr2 ?_ | refine kx2 ?_ | refine ke2 rfl ?_ | refine kn3 ?_ | refine kr3 ?_ | refine ke3 ?_ | refine kn4 ?_ | refine kr4 ?_ | refine ke4 ?_ | refine w_seq ?_ | refine w_block ?_ | (refine aw_regk fun κ hκ => ?_; simp -implicitDefEqProofs only [avl, reduceCtorEq, ↓reduceIte, sevalprocAttr, sh, sh1, labL_len, putL_length, Nat.mul_one, (show 13 ≤ maxLen by decide), (show 18 ≤ maxLen by decide)]) | refine aw_exit ?_ | refine aw_ret ?_ | refine aw_skip ?_ | refine aw_label ?_ | refine condc_t ?_ | refine condc_f ?_ | (refine aw_cond2 (by simp -implicitDefEqProofs only [avl, reduceCtorEq, ↓reduceIte, sevalprocAttr, sh, sh1, labL_len, putL_length, Nat.mul_one, (show 13 ≤ maxLen by decide), (show 18 ≤ maxLen by decide)]; rfl) ?_) | ((first | refine gkc_fork ?_ ?_ | refine gkc_split ?_ ?_) <;> intro hq <;> simp -implicitDefEqProofs only [hq, avl, reduceCtorEq, ↓reduceIte, sevalprocAttr, sh, sh1, labL_len, putL_length, Nat.mul_one, (show 13 ≤ maxLen by decide), (show 18 ≤ maxLen by decide)]) | ((first | refine condc_fork ?_ ?_ | refine condc_bool ?_ ?_) <;> intro hq))
    try simp -implicitDefEqProofs only [List.append_assoc, avl, reduceCtorEq, ↓reduceIte, sevalprocAttr]
    first | refine retLt (by first | exact .inr rfl | exact .inl rfl) (by rfl) ?_ | refine retL1 (by first | exact .inr rfl | exact .inl rfl) (by rfl) ?_
    repeat' (first | exact trivial | apply And.intro)
    all_goals first
      | exact .same _ rfl
      | (refine .same _ ?_; (focus (simp [purs]; done)))
      | (refine .imm _ _ _ ?_; (focus (simp [purs]; done)))
      | (refine .le _ _ ?_ ?_; (focus (repeat' (first | exact trivial | exact le_same _ | exact le_imm (.inl rfl) | exact le_imm (.inr rfl) | (refine le_agg ?_) | apply And.intro))); (focus (simp [purs]; done)))
      | skip
  · have hr' : 0 ≤ h.role := by
      unfold hlB at hb
      simp only [Bool.and_eq_true, decide_eq_true_eq] at hb
      omega
    have q1 := octPut_ac [] h.role 1 (by omega) (by omega) (by simp)
    simp only [List.nil_append, List.length_nil, Nat.zero_add] at q1
    have m1 := labelled_ac 9 (putL h.role 1) (by rw [putL_length]; omega)
    have m2 := labelled_ac 2 (labL 9 (putL h.role 1)) (by rw [labL_len, putL_length]; omega)
    have p6 := octPut_ac (putL 4 1 ++ putL (shortI h.asn) 2 ++ putL h.hold 2 ++ putL h.id 4) 13 1 (by omega) (by omega) (by simp [putL_length])
    simp only [List.length_append, putL_length, Nat.reduceAdd] at p6
    have hbody : bodyO h = putL 4 1 ++ putL (shortI h.asn) 2 ++ putL h.hold 2 ++ putL h.id 4 ++ putL 13 1 ++ (labL 2 (labL 65 (putL h.asn 4)) ++ labL 2 (labL 9 (putL h.role 1))) := by
      unfold bodyO tailO labL
      rw [if_pos hr']
      simp only [putL_1, List.length_append, List.length_cons, List.length_nil, putL_length, Nat.reduceAdd, List.append_nil, List.cons_append, List.nil_append, o2, o4, o65, o9]
      simp [o6, o1, o3]
      rfl
    rw [hbody]
    unfold mA
    refine act_of p_open_Put (by simp [c_open_Put]) ?_
    show AW _ b_open_Put (RetOk [.cell 2 (some 2)] _ _) { n := 46, tm := [(0, _)], box := [], fr := [] }
    unfold b_open_Put
    unfold hlA
    try simp -implicitDefEqProofs only [avl, reduceCtorEq, ↓reduceIte, sevalprocAttr]
    repeat' (first | (refine (hκ _).mpr ?_; clear hκ) | refine kn1 ?_ | refine kr1 ?_ | refine ke1 ?_ | refine kn2 ?_ | refine kr2 ?_ | refine kx2 ?_ | refine ke2 rfl ?_ | refine kn3 ?_ | refine kr3 ?_ | refine ke3 ?_ | refine kn4 ?_ | refine kr4 ?_ | refine ke4 ?_ | refine w_seq ?_ | refine w_block ?_ | (refine aw_regk fun κ hκ => ?_; simp -implicitDefEqProofs only [avl, reduceCtorEq, ↓reduceIte, sevalprocAttr]) | refine aw_exit ?_ | refine aw_ret ?_ | refine aw_skip ?_ | refine aw_label ?_ | refine condc_t ?_ | refine condc_f ?_ | (refine aw_cond2 (by simp -implicitDefEqProofs only [avl, reduceCtorEq, ↓reduceIte, sevalprocAttr]; rfl) ?_) | ((first | refine gkc_fork ?_ ?_ | refine gkc_split ?_ ?_) <;> intro hq <;> simp -implicitDefEqProofs only [hq, avl, reduceCtorEq, ↓reduceIte, sevalprocAttr]) | ((first | refine condc_fork ?_ ?_ | refine condc_bool ?_ ?_) <;> intro hq))
    first | refine callsc (hs) ?_ ?_ | refine callc (hs) ?_ ?_ | ((first | refine callsc (act_le (hs) ?_) ?_ ?_ | refine callc (act_le (hs) ?_) ?_ ?_); (focus (repeat' (first | exact trivial | exact le_same _ | exact le_imm (.inl rfl) | exact le_imm (.inr rfl) | (refine le_agg ?_) | apply And.intro))))
    (focus (simp [purs]; done))
    try simp -implicitDefEqProofs only [avl, reduceCtorEq, ↓reduceIte, sevalprocAttr, sh, sh1, Bool.not_true]
    repeat' (first | (refine (hκ _).mpr ?_; clear hκ) | refine kn1 ?_ | refine kr1 ?_ | refine ke1 ?_ | refine kn2 ?_ | refine kr2 ?_ | refine kx2 ?_ | refine ke2 rfl ?_ | refine kn3 ?_ | refine kr3 ?_ | refine ke3 ?_ | refine kn4 ?_ | refine kr4 ?_ | refine ke4 ?_ | refine w_seq ?_ | refine w_block ?_ | (refine aw_regk fun κ hκ => ?_; simp -implicitDefEqProofs only [avl, reduceCtorEq, ↓reduceIte, sevalprocAttr, sh, sh1, Bool.not_true]) | refine aw_exit ?_ | refine aw_ret ?_ | refine aw_skip ?_ | refine aw_label ?_ | refine condc_t ?_ | refine condc_f ?_ | (refine aw_cond2 (by simp -implicitDefEqProofs only [avl, reduceCtorEq, ↓reduceIte, sevalprocAttr, sh, sh1, Bool.not_true]; rfl) ?_) | ((first | refine gkc_fork ?_ ?_ | refine gkc_split ?_ ?_) <;> intro hq <;> simp -implicitDefEqProofs only [hq, avl, reduceCtorEq, ↓reduceIte, sevalprocAttr, sh, sh1, Bool.not_true]) | ((first | refine condc_fork ?_ ?_ | refine condc_bool ?_ ?_) <;> intro hq))
    first | refine callsc (p1) ?_ ?_ | refine callc (p1) ?_ ?_ | ((first | refine callsc (act_le (p1) ?_) ?_ ?_ | refine callc (act_le (p1) ?_) ?_ ?_); (focus (repeat' (first | exact trivial | exact le_same _ | exact le_imm (.inl rfl) | exact le_imm (.inr rfl) | (refine le_agg ?_) | apply And.intro))))
    (focus (simp [purs]; done))
    try simp -implicitDefEqProofs only [avl, reduceCtorEq, ↓reduceIte, sevalprocAttr, sh, sh1]
    repeat' (first | (refine (hκ _).mpr ?_; clear hκ) | refine kn1 ?_ | refine kr1 ?_ | refine ke1 ?_ | refine kn2 ?_ | refine kr2 ?_ | refine kx2 ?_ | refine ke2 rfl ?_ | refine kn3 ?_ | refine kr3 ?_ | refine ke3 ?_ | refine kn4 ?_ | refine kr4 ?_ | refine ke4 ?_ | refine w_seq ?_ | refine w_block ?_ | (refine aw_regk fun κ hκ => ?_; simp -implicitDefEqProofs only [avl, reduceCtorEq, ↓reduceIte, sevalprocAttr, sh, sh1]) | refine aw_exit ?_ | refine aw_ret ?_ | refine aw_skip ?_ | refine aw_label ?_ | refine condc_t ?_ | refine condc_f ?_ | (refine aw_cond2 (by simp -implicitDefEqProofs only [avl, reduceCtorEq, ↓reduceIte, sevalprocAttr, sh, sh1]; rfl) ?_) | ((first | refine gkc_fork ?_ ?_ | refine gkc_split ?_ ?_) <;> intro hq <;> simp -implicitDefEqProofs only [hq, avl, reduceCtorEq, ↓reduceIte, sevalprocAttr, sh, sh1]) | ((first | refine condc_fork ?_ ?_ | refine condc_bool ?_ ?_) <;> intro hq))
    first | refine callsc (l1) ?_ ?_ | refine callc (l1) ?_ ?_ | ((first | refine callsc (act_le (l1) ?_) ?_ ?_ | refine callc (act_le (l1) ?_) ?_ ?_); (focus (repeat' (first | exact trivial | exact le_same _ | exact le_imm (.inl rfl) | exact le_imm (.inr rfl) | (refine le_agg ?_) | apply And.intro))))
    (focus (simp [purs]; done))
    try simp -implicitDefEqProofs only [avl, reduceCtorEq, ↓reduceIte, sevalprocAttr, sh, sh1]
    repeat' (first | (refine (hκ _).mpr ?_; clear hκ) | refine kn1 ?_ | refine kr1 ?_ | refine ke1 ?_ | refine kn2 ?_ | refine kr2 ?_ | refine kx2 ?_ | refine ke2 rfl ?_ | refine kn3 ?_ | refine kr3 ?_ | refine ke3 ?_ | refine kn4 ?_ | refine kr4 ?_ | refine ke4 ?_ | refine w_seq ?_ | refine w_block ?_ | (refine aw_regk fun κ hκ => ?_; simp -implicitDefEqProofs only [avl, reduceCtorEq, ↓reduceIte, sevalprocAttr, sh, sh1]) | refine aw_exit ?_ | refine aw_ret ?_ | refine aw_skip ?_ | refine aw_label ?_ | refine condc_t ?_ | refine condc_f ?_ | (refine aw_cond2 (by simp -implicitDefEqProofs only [avl, reduceCtorEq, ↓reduceIte, sevalprocAttr, sh, sh1]; rfl) ?_) | ((first | refine gkc_fork ?_ ?_ | refine gkc_split ?_ ?_) <;> intro hq <;> simp -implicitDefEqProofs only [hq, avl, reduceCtorEq, ↓reduceIte, sevalprocAttr, sh, sh1]) | ((first | refine condc_fork ?_ ?_ | refine condc_bool ?_ ?_) <;> intro hq))
    first | refine callsc (l2) ?_ ?_ | refine callc (l2) ?_ ?_ | ((first | refine callsc (act_le (l2) ?_) ?_ ?_ | refine callc (act_le (l2) ?_) ?_ ?_); (focus (repeat' (first | exact trivial | exact le_same _ | exact le_imm (.inl rfl) | exact le_imm (.inr rfl) | (refine le_agg ?_) | apply And.intro))))
    (focus (simp [purs]; done))
    try simp -implicitDefEqProofs only [avl, reduceCtorEq, ↓reduceIte, sevalprocAttr, sh, sh1, hr, not_false_eq_true]
    repeat' (first | (refine (hκ _).mpr ?_; clear hκ) | refine kn1 ?_ | refine kr1 ?_ | refine ke1 ?_ | refine kn2 ?_ | refine kr2 ?_ | refine kx2 ?_ | refine ke2 rfl ?_ | refine kn3 ?_ | refine kr3 ?_ | refine ke3 ?_ | refine kn4 ?_ | refine kr4 ?_ | refine ke4 ?_ | refine w_seq ?_ | refine w_block ?_ | (refine aw_regk fun κ hκ => ?_; simp -implicitDefEqProofs only [avl, reduceCtorEq, ↓reduceIte, sevalprocAttr, sh, sh1, hr, not_false_eq_true]) | refine aw_exit ?_ | refine aw_ret ?_ | refine aw_skip ?_ | refine aw_label ?_ | refine condc_t ?_ | refine condc_f ?_ | (refine aw_cond2 (by simp -implicitDefEqProofs only [avl, reduceCtorEq, ↓reduceIte, sevalprocAttr, sh, sh1, hr, not_false_eq_true]; rfl) ?_) | ((first | refine gkc_fork ?_ ?_ | refine gkc_split ?_ ?_) <;> intro hq <;> simp -implicitDefEqProofs only [hq, avl, reduceCtorEq, ↓reduceIte, sevalprocAttr, sh, sh1, hr, not_false_eq_true]) | ((first | refine condc_fork ?_ ?_ | refine condc_bool ?_ ?_) <;> intro hq))
    first | refine callsc (q1) ?_ ?_ | refine callc (q1) ?_ ?_ | ((first | refine callsc (act_le (q1) ?_) ?_ ?_ | refine callc (act_le (q1) ?_) ?_ ?_); (focus (repeat' (first | exact trivial | exact le_same _ | exact le_imm (.inl rfl) | exact le_imm (.inr rfl) | (refine le_agg ?_) | apply And.intro))))
    (focus (simp [purs]; done))
    try simp -implicitDefEqProofs only [avl, reduceCtorEq, ↓reduceIte, sevalprocAttr, sh, sh1]
    repeat' (first | (refine (hκ _).mpr ?_; clear hκ) | refine kn1 ?_ | refine kr1 ?_ | refine ke1 ?_ | refine kn2 ?_ | refine kr2 ?_ | refine kx2 ?_ | refine ke2 rfl ?_ | refine kn3 ?_ | refine kr3 ?_ | refine ke3 ?_ | refine kn4 ?_ | refine kr4 ?_ | refine ke4 ?_ | refine w_seq ?_ | refine w_block ?_ | (refine aw_regk fun κ hκ => ?_; simp -implicitDefEqProofs only [avl, reduceCtorEq, ↓reduceIte, sevalprocAttr, sh, sh1]) | refine aw_exit ?_ | refine aw_ret ?_ | refine aw_skip ?_ | refine aw_label ?_ | refine condc_t ?_ | refine condc_f ?_ | (refine aw_cond2 (by simp -implicitDefEqProofs only [avl, reduceCtorEq, ↓reduceIte, sevalprocAttr, sh, sh1]; rfl) ?_) | ((first | refine gkc_fork ?_ ?_ | refine gkc_split ?_ ?_) <;> intro hq <;> simp -implicitDefEqProofs only [hq, avl, reduceCtorEq, ↓reduceIte, sevalprocAttr, sh, sh1]) | ((first | refine condc_fork ?_ ?_ | refine condc_bool ?_ ?_) <;> intro hq))
    first | refine callsc (m1) ?_ ?_ | refine callc (m1) ?_ ?_ | ((first | refine callsc (act_le (m1) ?_) ?_ ?_ | refine callc (act_le (m1) ?_) ?_ ?_); (focus (repeat' (first | exact trivial | exact le_same _ | exact le_imm (.inl rfl) | exact le_imm (.inr rfl) | (refine le_agg ?_) | apply And.intro))))
    (focus (simp [purs]; done))
    try simp -implicitDefEqProofs only [avl, reduceCtorEq, ↓reduceIte, sevalprocAttr, sh, sh1]
    repeat' (first | (refine (hκ _).mpr ?_; clear hκ) | refine kn1 ?_ | refine kr1 ?_ | refine ke1 ?_ | refine kn2 ?_ | refine kr2 ?_ | refine kx2 ?_ | refine ke2 rfl ?_ | refine kn3 ?_ | refine kr3 ?_ | refine ke3 ?_ | refine kn4 ?_ | refine kr4 ?_ | refine ke4 ?_ | refine w_seq ?_ | refine w_block ?_ | (refine aw_regk fun κ hκ => ?_; simp -implicitDefEqProofs only [avl, reduceCtorEq, ↓reduceIte, sevalprocAttr, sh, sh1]) | refine aw_exit ?_ | refine aw_ret ?_ | refine aw_skip ?_ | refine aw_label ?_ | refine condc_t ?_ | refine condc_f ?_ | (refine aw_cond2 (by simp -implicitDefEqProofs only [avl, reduceCtorEq, ↓reduceIte, sevalprocAttr, sh, sh1]; rfl) ?_) | ((first | refine gkc_fork ?_ ?_ | refine gkc_split ?_ ?_) <;> intro hq <;> simp -implicitDefEqProofs only [hq, avl, reduceCtorEq, ↓reduceIte, sevalprocAttr, sh, sh1]) | ((first | refine condc_fork ?_ ?_ | refine condc_bool ?_ ?_) <;> intro hq))
    first | refine callsc (m2) ?_ ?_ | refine callc (m2) ?_ ?_ | ((first | refine callsc (act_le (m2) ?_) ?_ ?_ | refine callc (act_le (m2) ?_) ?_ ?_); (focus (repeat' (first | exact trivial | exact le_same _ | exact le_imm (.inl rfl) | exact le_imm (.inr rfl) | (refine le_agg ?_) | apply And.intro))))
    (focus (simp [purs]; done))
    try simp -implicitDefEqProofs only [avl, reduceCtorEq, ↓reduceIte, sevalprocAttr, sh, sh1, labL_len, putL_length, Nat.mul_one, (show 13 ≤ maxLen by decide), (show 18 ≤ maxLen by decide)]
    repeat' (first | (refine (hκ _).mpr ?_; clear hκ) | refine kn1 ?_ | refine kr1 ?_ | refine ke1 ?_ | refine kn2 ?_ | refine kr2 ?_ | refine kx2 ?_ | refine ke2 rfl ?_ | refine kn3 ?_ | refine kr3 ?_ | refine ke3 ?_ | refine kn4 ?_ | refine kr4 ?_ | refine ke4 ?_ | refine w_seq ?_ | refine w_block ?_ | (refine aw_regk fun κ hκ => ?_; simp -implicitDefEqProofs only [avl, reduceCtorEq, ↓reduceIte, sevalprocAttr, sh, sh1, labL_len, putL_length, Nat.mul_one, (show 13 ≤ maxLen by decide), (show 18 ≤ maxLen by decide)]) | refine aw_exit ?_ | refine aw_ret ?_ | refine aw_skip ?_ | refine aw_label ?_ | refine condc_t ?_ | refine condc_f ?_ | (refine aw_cond2 (by simp -implicitDefEqProofs only [avl, reduceCtorEq, ↓reduceIte, sevalprocAttr, sh, sh1, labL_len, putL_length, Nat.mul_one, (show 13 ≤ maxLen by decide), (show 18 ≤ maxLen by decide)]; rfl) ?_) | ((first | refine gkc_fork ?_ ?_ | refine gkc_split ?_ ?_) <;> intro hq <;> simp -implicitDefEqProofs only [hq, avl, reduceCtorEq, ↓reduceIte, sevalprocAttr, sh, sh1, labL_len, putL_length, Nat.mul_one, (show 13 ≤ maxLen by decide), (show 18 ≤ maxLen by decide)]) | ((first | refine condc_fork ?_ ?_ | refine condc_bool ?_ ?_) <;> intro hq))
    first | refine callsc (p2) ?_ ?_ | refine callc (p2) ?_ ?_ | ((first | refine callsc (act_le (p2) ?_) ?_ ?_ | refine callc (act_le (p2) ?_) ?_ ?_); (focus (repeat' (first | exact trivial | exact le_same _ | exact le_imm (.inl rfl) | exact le_imm (.inr rfl) | (refine le_agg ?_) | apply And.intro))))
    (focus (simp [purs]; done))
    try simp -implicitDefEqProofs only [avl, reduceCtorEq, ↓reduceIte, sevalprocAttr, sh, sh1]
    repeat' (first | (refine (hκ _).mpr ?_; clear hκ) | refine kn1 ?_ | refine kr1 ?_ | refine ke1 ?_ | refine kn2 ?_ | refine kr2 ?_ | refine kx2 ?_ | refine ke2 rfl ?_ | refine kn3 ?_ | refine kr3 ?_ | refine ke3 ?_ | refine kn4 ?_ | refine kr4 ?_ | refine ke4 ?_ | refine w_seq ?_ | refine w_block ?_ | (refine aw_regk fun κ hκ => ?_; simp -implicitDefEqProofs only [avl, reduceCtorEq, ↓reduceIte, sevalprocAttr, sh, sh1]) | refine aw_exit ?_ | refine aw_ret ?_ | refine aw_skip ?_ | refine aw_label ?_ | refine condc_t ?_ | refine condc_f ?_ | (refine aw_cond2 (by simp -implicitDefEqProofs only [avl, reduceCtorEq, ↓reduceIte, sevalprocAttr, sh, sh1]; rfl) ?_) | ((first | refine gkc_fork ?_ ?_ | refine gkc_split ?_ ?_) <;> intro hq <;> simp -implicitDefEqProofs only [hq, avl, reduceCtorEq, ↓reduceIte, sevalprocAttr, sh, sh1]) | ((first | refine condc_fork ?_ ?_ | refine condc_bool ?_ ?_) <;> intro hq))
    first | refine callsc (hsh) ?_ ?_ | refine callc (hsh) ?_ ?_ | ((first | refine callsc (act_le (hsh) ?_) ?_ ?_ | refine callc (act_le (hsh) ?_) ?_ ?_); (focus (repeat' (first | exact trivial | exact le_same _ | exact le_imm (.inl rfl) | exact le_imm (.inr rfl) | (refine le_agg ?_) | apply And.intro))))
    (focus (simp [purs]; done))
    try simp -implicitDefEqProofs only [avl, reduceCtorEq, ↓reduceIte, sevalprocAttr, sh, sh1]
    repeat' (first | (refine (hκ _).mpr ?_; clear hκ) | refine kn1 ?_ | refine kr1 ?_ | refine ke1 ?_ | refine kn2 ?_ | refine kr2 ?_ | refine kx2 ?_ | refine ke2 rfl ?_ | refine kn3 ?_ | refine kr3 ?_ | refine ke3 ?_ | refine kn4 ?_ | refine kr4 ?_ | refine ke4 ?_ | refine w_seq ?_ | refine w_block ?_ | (refine aw_regk fun κ hκ => ?_; simp -implicitDefEqProofs only [avl, reduceCtorEq, ↓reduceIte, sevalprocAttr, sh, sh1]) | refine aw_exit ?_ | refine aw_ret ?_ | refine aw_skip ?_ | refine aw_label ?_ | refine condc_t ?_ | refine condc_f ?_ | (refine aw_cond2 (by simp -implicitDefEqProofs only [avl, reduceCtorEq, ↓reduceIte, sevalprocAttr, sh, sh1]; rfl) ?_) | ((first | refine gkc_fork ?_ ?_ | refine gkc_split ?_ ?_) <;> intro hq <;> simp -implicitDefEqProofs only [hq, avl, reduceCtorEq, ↓reduceIte, sevalprocAttr, sh, sh1]) | ((first | refine condc_fork ?_ ?_ | refine condc_bool ?_ ?_) <;> intro hq))
    first | refine callsc (p3) ?_ ?_ | refine callc (p3) ?_ ?_ | ((first | refine callsc (act_le (p3) ?_) ?_ ?_ | refine callc (act_le (p3) ?_) ?_ ?_); (focus (repeat' (first | exact trivial | exact le_same _ | exact le_imm (.inl rfl) | exact le_imm (.inr rfl) | (refine le_agg ?_) | apply And.intro))))
    (focus (simp [purs]; done))
    try simp -implicitDefEqProofs only [avl, reduceCtorEq, ↓reduceIte, sevalprocAttr, sh, sh1]
    repeat' (first | (refine (hκ _).mpr ?_; clear hκ) | refine kn1 ?_ | refine kr1 ?_ | refine ke1 ?_ | refine kn2 ?_ | refine kr2 ?_ | refine kx2 ?_ | refine ke2 rfl ?_ | refine kn3 ?_ | refine kr3 ?_ | refine ke3 ?_ | refine kn4 ?_ | refine kr4 ?_ | refine ke4 ?_ | refine w_seq ?_ | refine w_block ?_ | (refine aw_regk fun κ hκ => ?_; simp -implicitDefEqProofs only [avl, reduceCtorEq, ↓reduceIte, sevalprocAttr, sh, sh1]) | refine aw_exit ?_ | refine aw_ret ?_ | refine aw_skip ?_ | refine aw_label ?_ | refine condc_t ?_ | refine condc_f ?_ | (refine aw_cond2 (by simp -implicitDefEqProofs only [avl, reduceCtorEq, ↓reduceIte, sevalprocAttr, sh, sh1]; rfl) ?_) | ((first | refine gkc_fork ?_ ?_ | refine gkc_split ?_ ?_) <;> intro hq <;> simp -implicitDefEqProofs only [hq, avl, reduceCtorEq, ↓reduceIte, sevalprocAttr, sh, sh1]) | ((first | refine condc_fork ?_ ?_ | refine condc_bool ?_ ?_) <;> intro hq))
    first | refine callsc (p4) ?_ ?_ | refine callc (p4) ?_ ?_ | ((first | refine callsc (act_le (p4) ?_) ?_ ?_ | refine callc (act_le (p4) ?_) ?_ ?_); (focus (repeat' (first | exact trivial | exact le_same _ | exact le_imm (.inl rfl) | exact le_imm (.inr rfl) | (refine le_agg ?_) | apply And.intro))))
    (focus (simp [purs]; done))
    try simp -implicitDefEqProofs only [avl, reduceCtorEq, ↓reduceIte, sevalprocAttr, sh, sh1]
    repeat' (first | (refine (hκ _).mpr ?_; clear hκ) | refine kn1 ?_ | refine kr1 ?_ | refine ke1 ?_ | refine kn2 ?_ | refine kr2 ?_ | refine kx2 ?_ | refine ke2 rfl ?_ | refine kn3 ?_ | refine kr3 ?_ | refine ke3 ?_ | refine kn4 ?_ | refine kr4 ?_ | refine ke4 ?_ | refine w_seq ?_ | refine w_block ?_ | (refine aw_regk fun κ hκ => ?_; simp -implicitDefEqProofs only [avl, reduceCtorEq, ↓reduceIte, sevalprocAttr, sh, sh1]) | refine aw_exit ?_ | refine aw_ret ?_ | refine aw_skip ?_ | refine aw_label ?_ | refine condc_t ?_ | refine condc_f ?_ | (refine aw_cond2 (by simp -implicitDefEqProofs only [avl, reduceCtorEq, ↓reduceIte, sevalprocAttr, sh, sh1]; rfl) ?_) | ((first | refine gkc_fork ?_ ?_ | refine gkc_split ?_ ?_) <;> intro hq <;> simp -implicitDefEqProofs only [hq, avl, reduceCtorEq, ↓reduceIte, sevalprocAttr, sh, sh1]) | ((first | refine condc_fork ?_ ?_ | refine condc_bool ?_ ?_) <;> intro hq))
    first | refine callsc (p5) ?_ ?_ | refine callc (p5) ?_ ?_ | ((first | refine callsc (act_le (p5) ?_) ?_ ?_ | refine callc (act_le (p5) ?_) ?_ ?_); (focus (repeat' (first | exact trivial | exact le_same _ | exact le_imm (.inl rfl) | exact le_imm (.inr rfl) | (refine le_agg ?_) | apply And.intro))))
    (focus (simp [purs]; done))
    try simp -implicitDefEqProofs only [avl, reduceCtorEq, ↓reduceIte, sevalprocAttr, sh, sh1, labL_len, putL_length]
    repeat' (first | (refine (hκ _).mpr ?_; clear hκ) | refine kn1 ?_ | refine kr1 ?_ | refine ke1 ?_ | refine kn2 ?_ | refine kr2 ?_ | refine kx2 ?_ | refine ke2 rfl ?_ | refine kn3 ?_ | refine kr3 ?_ | refine ke3 ?_ | refine kn4 ?_ | refine kr4 ?_ | refine ke4 ?_ | refine w_seq ?_ | refine w_block ?_ | (refine aw_regk fun κ hκ => ?_; simp -implicitDefEqProofs only [avl, reduceCtorEq, ↓reduceIte, sevalprocAttr, sh, sh1, labL_len, putL_length]) | refine aw_exit ?_ | refine aw_ret ?_ | refine aw_skip ?_ | refine aw_label ?_ | refine condc_t ?_ | refine condc_f ?_ | (refine aw_cond2 (by simp -implicitDefEqProofs only [avl, reduceCtorEq, ↓reduceIte, sevalprocAttr, sh, sh1, labL_len, putL_length]; rfl) ?_) | ((first | refine gkc_fork ?_ ?_ | refine gkc_split ?_ ?_) <;> intro hq <;> simp -implicitDefEqProofs only [hq, avl, reduceCtorEq, ↓reduceIte, sevalprocAttr, sh, sh1, labL_len, putL_length]) | ((first | refine condc_fork ?_ ?_ | refine condc_bool ?_ ?_) <;> intro hq))
    first | refine callsc (p6) ?_ ?_ | refine callc (p6) ?_ ?_ | ((first | refine callsc (act_le (p6) ?_) ?_ ?_ | refine callc (act_le (p6) ?_) ?_ ?_); (focus (repeat' (first | exact trivial | exact le_same _ | exact le_imm (.inl rfl) | exact le_imm (.inr rfl) | (refine le_agg ?_) | apply And.intro))))
    (focus (simp [purs]; done))
    try simp -implicitDefEqProofs only [avl, reduceCtorEq, ↓reduceIte, sevalprocAttr, sh, sh1, labL_len, putL_length, Nat.mul_one, (show 13 ≤ maxLen by decide), (show 23 ≤ maxLen by decide)]
    repeat' (first | (refine (hκ _).mpr ?_; clear hκ) | refine kn1 ?_ | refine kr1 ?_ | refine ke1 ?_ | refine kn2 ?_ | refine kr2 ?_ | refine kx2 ?_ | refine ke2 rfl ?_ | refine kn3 ?_ | refine kr3 ?_ | refine ke3 ?_ | refine kn4 ?_ | refine kr4 ?_ | refine ke4 ?_ | refine w_seq ?_ | refine w_block ?_ | (refine aw_regk fun κ hκ => ?_; simp -implicitDefEqProofs only [avl, reduceCtorEq, ↓reduceIte, sevalprocAttr, sh, sh1, labL_len, putL_length, Nat.mul_one, (show 13 ≤ maxLen by decide), (show 23 ≤ maxLen by decide)]) | refine aw_exit ?_ | refine aw_ret ?_ | refine aw_skip ?_ | refine aw_label ?_ | refine condc_t ?_ | refine condc_f ?_ | (refine aw_cond2 (by simp -implicitDefEqProofs only [avl, reduceCtorEq, ↓reduceIte, sevalprocAttr, sh, sh1, labL_len, putL_length, Nat.mul_one, (show 13 ≤ maxLen by decide), (show 23 ≤ maxLen by decide)]; rfl) ?_) | ((first | refine gkc_fork ?_ ?_ | refine gkc_split ?_ ?_) <;> intro hq <;> simp -implicitDefEqProofs only [hq, avl, reduceCtorEq, ↓reduceIte, sevalprocAttr, sh, sh1, labL_len, putL_length, Nat.mul_one, (show 13 ≤ maxLen by decide), (show 23 ≤ maxLen by decide)]) | ((first | refine condc_fork ?_ ?_ | refine condc_bool ?_ ?_) <;> intro hq))
    try simp -implicitDefEqProofs only [List.append_assoc, avl, reduceCtorEq, ↓reduceIte, sevalprocAttr]
    first | refine retLt (by first | exact .inr rfl | exact .inl rfl) (by rfl) ?_ | refine retL1 (by first | exact .inr rfl | exact .inl rfl) (by rfl) ?_
    repeat' (first | exact trivial | apply And.intro)
    all_goals first
      | exact .same _ rfl
      | (refine .same _ ?_; (focus (simp [purs]; done)))
      | (refine .imm _ _ _ ?_; (focus (simp [purs]; done)))
      | (refine .le _ _ ?_ ?_; (focus (repeat' (first | exact trivial | exact le_same _ | exact le_imm (.inl rfl) | exact le_imm (.inr rfl) | (refine le_agg ?_) | apply And.intro))); (focus (simp [purs]; done)))
      | skip
theorem orput_ac (h : Hl) : ACt Try.prog 23 [hlA h] (mA (putO h).1 (putO h).2) [] := by
  have hs := hrsane_ac h
  unfold putO
  cases hb : hlB h
  · rw [hb] at hs
    unfold hlA at hs
    simp only [Bool.false_eq_true, if_false]
    unfold mA
    refine act_of p_ridgewayref06_Put (by simp [c_ridgewayref06_Put]) ?_
    show AW _ b_ridgewayref06_Put (RetOk [.cell 2 (some 2)] _ _) { n := 48, tm := [(0, _)], box := [], fr := [] }
    unfold b_ridgewayref06_Put
    unfold hlA
    try simp -implicitDefEqProofs only [avl, reduceCtorEq, ↓reduceIte, sevalprocAttr]
    repeat' (first | (refine (hκ _).mpr ?_; clear hκ) | refine kn1 ?_ | refine kr1 ?_ | refine ke1 ?_ | refine kn2 ?_ | refine kr2 ?_ | refine kx2 ?_ | refine ke2 rfl ?_ | refine kn3 ?_ | refine kr3 ?_ | refine ke3 ?_ | refine kn4 ?_ | refine kr4 ?_ | refine ke4 ?_ | refine w_seq ?_ | refine w_block ?_ | (refine aw_regk fun κ hκ => ?_; simp -implicitDefEqProofs only [avl, reduceCtorEq, ↓reduceIte, sevalprocAttr]) | refine aw_exit ?_ | refine aw_ret ?_ | refine aw_skip ?_ | refine aw_label ?_ | refine condc_t ?_ | refine condc_f ?_ | (refine aw_cond2 (by simp -implicitDefEqProofs only [avl, reduceCtorEq, ↓reduceIte, sevalprocAttr]; rfl) ?_) | ((first | refine gkc_fork ?_ ?_ | refine gkc_split ?_ ?_) <;> intro hq <;> simp -implicitDefEqProofs only [hq, avl, reduceCtorEq, ↓reduceIte, sevalprocAttr]) | ((first | refine condc_fork ?_ ?_ | refine condc_bool ?_ ?_) <;> intro hq))
    first | refine callsc (hs) ?_ ?_ | refine callc (hs) ?_ ?_ | ((first | refine callsc (act_le (hs) ?_) ?_ ?_ | refine callc (act_le (hs) ?_) ?_ ?_); (focus (repeat' (first | exact trivial | exact le_same _ | exact le_imm (.inl rfl) | exact le_imm (.inr rfl) | (refine le_agg ?_) | apply And.intro))))
    (focus (simp [purs]; done))
    try simp -implicitDefEqProofs only [avl, reduceCtorEq, ↓reduceIte, sevalprocAttr, sh, sh1, Bool.not_false]
    repeat' (first | (refine (hκ _).mpr ?_; clear hκ) | refine kn1 ?_ | refine kr1 ?_ | refine ke1 ?_ | refine kn2 ?_ | refine kr2 ?_ | refine kx2 ?_ | refine ke2 rfl ?_ | refine kn3 ?_ | refine kr3 ?_ | refine ke3 ?_ | refine kn4 ?_ | refine kr4 ?_ | refine ke4 ?_ | refine w_seq ?_ | refine w_block ?_ | (refine aw_regk fun κ hκ => ?_; simp -implicitDefEqProofs only [avl, reduceCtorEq, ↓reduceIte, sevalprocAttr, sh, sh1, Bool.not_false]) | refine aw_exit ?_ | refine aw_ret ?_ | refine aw_skip ?_ | refine aw_label ?_ | refine condc_t ?_ | refine condc_f ?_ | (refine aw_cond2 (by simp -implicitDefEqProofs only [avl, reduceCtorEq, ↓reduceIte, sevalprocAttr, sh, sh1, Bool.not_false]; rfl) ?_) | ((first | refine gkc_fork ?_ ?_ | refine gkc_split ?_ ?_) <;> intro hq <;> simp -implicitDefEqProofs only [hq, avl, reduceCtorEq, ↓reduceIte, sevalprocAttr, sh, sh1, Bool.not_false]) | ((first | refine condc_fork ?_ ?_ | refine condc_bool ?_ ?_) <;> intro hq))
    try simp -implicitDefEqProofs only [List.append_assoc, avl, reduceCtorEq, ↓reduceIte, sevalprocAttr]
    first | refine retLt (by first | exact .inr rfl | exact .inl rfl) (by rfl) ?_ | refine retL1 (by first | exact .inr rfl | exact .inl rfl) (by rfl) ?_
    repeat' (first | exact trivial | apply And.intro)
    all_goals first
      | exact .same _ rfl
      | (refine .same _ ?_; (focus (simp [purs]; done)))
      | (refine .imm _ _ _ ?_; (focus (simp [purs]; done)))
      | (refine .le _ _ ?_ ?_; (focus (repeat' (first | exact trivial | exact le_same _ | exact le_imm (.inl rfl) | exact le_imm (.inr rfl) | (refine le_agg ?_) | apply And.intro))); (focus (simp [purs]; done)))
      | skip
  rw [hb] at hs
  unfold hlA at hs
  simp only [if_true]
  have hsh := two_ac h.asn
  have p1 := refPut_ac [4] (shortI h.asn) 2 (by omega) (by omega) (by simp)
  have p2 := refPut_ac ([4] ++ putL (shortI h.asn) 2) h.hold 2 (by omega) (by omega) (by simp [putL_length])
  have p3 := refPut_ac ([4] ++ putL (shortI h.asn) 2 ++ putL h.hold 2) h.id 4 (by omega) (by omega) (by simp [putL_length])
  have p4 := refPut_ac [2, 6, 65, 4] h.asn 4 (by omega) (by omega) (by simp)
  simp only [List.length_append, putL_length, List.length_cons, List.length_nil, Nat.reduceAdd] at p1 p2 p3 p4
  have v4 : bA 4 = .int .u8 4 := rfl
  by_cases hr : 0 ≤ h.role
  · have hbody : bodyO h = [4] ++ putL (shortI h.asn) 2 ++ putL h.hold 2 ++ putL h.id 4 ++ [octAt 13 0] ++ ([2, 6, 65, 4] ++ putL h.asn 4 ++ [2, 3, 9, 1, octAt h.role 0]) := by
      unfold bodyO tailO
      rw [if_pos hr]
      simp only [List.length_append, List.length_cons, List.length_nil, putL_length, Nat.reduceAdd]
      rfl
    have hr' : h.role ≥ 0 := hr
    rw [hbody]
    unfold mA
    refine act_of p_ridgewayref06_Put (by simp [c_ridgewayref06_Put]) ?_
    show AW _ b_ridgewayref06_Put (RetOk [.cell 2 (some 2)] _ _) { n := 48, tm := [(0, _)], box := [], fr := [] }
    unfold b_ridgewayref06_Put
    unfold hlA
    try simp -implicitDefEqProofs only [avl, reduceCtorEq, ↓reduceIte, sevalprocAttr]
    repeat' (first | (refine (hκ _).mpr ?_; clear hκ) | refine kn1 ?_ | refine kr1 ?_ | refine ke1 ?_ | refine kn2 ?_ | refine kr2 ?_ | refine kx2 ?_ | refine ke2 rfl ?_ | refine kn3 ?_ | refine kr3 ?_ | refine ke3 ?_ | refine kn4 ?_ | refine kr4 ?_ | refine ke4 ?_ | refine w_seq ?_ | refine w_block ?_ | (refine aw_regk fun κ hκ => ?_; simp -implicitDefEqProofs only [avl, reduceCtorEq, ↓reduceIte, sevalprocAttr]) | refine aw_exit ?_ | refine aw_ret ?_ | refine aw_skip ?_ | refine aw_label ?_ | refine condc_t ?_ | refine condc_f ?_ | (refine aw_cond2 (by simp -implicitDefEqProofs only [avl, reduceCtorEq, ↓reduceIte, sevalprocAttr]; rfl) ?_) | ((first | refine gkc_fork ?_ ?_ | refine gkc_split ?_ ?_) <;> intro hq <;> simp -implicitDefEqProofs only [hq, avl, reduceCtorEq, ↓reduceIte, sevalprocAttr]) | ((first | refine condc_fork ?_ ?_ | refine condc_bool ?_ ?_) <;> intro hq))
    first | refine callsc (hs) ?_ ?_ | refine callc (hs) ?_ ?_ | ((first | refine callsc (act_le (hs) ?_) ?_ ?_ | refine callc (act_le (hs) ?_) ?_ ?_); (focus (repeat' (first | exact trivial | exact le_same _ | exact le_imm (.inl rfl) | exact le_imm (.inr rfl) | (refine le_agg ?_) | apply And.intro))))
    (focus (simp [purs]; done))
    try simp -implicitDefEqProofs only [avl, reduceCtorEq, ↓reduceIte, sevalprocAttr, sh, sh1, Bool.not_true]
    repeat' (first | (refine (hκ _).mpr ?_; clear hκ) | refine kn1 ?_ | refine kr1 ?_ | refine ke1 ?_ | refine kn2 ?_ | refine kr2 ?_ | refine kx2 ?_ | refine ke2 rfl ?_ | refine kn3 ?_ | refine kr3 ?_ | refine ke3 ?_ | refine kn4 ?_ | refine kr4 ?_ | refine ke4 ?_ | refine w_seq ?_ | refine w_block ?_ | (refine aw_regk fun κ hκ => ?_; simp -implicitDefEqProofs only [avl, reduceCtorEq, ↓reduceIte, sevalprocAttr, sh, sh1, Bool.not_true]) | refine aw_exit ?_ | refine aw_ret ?_ | refine aw_skip ?_ | refine aw_label ?_ | refine condc_t ?_ | refine condc_f ?_ | (refine aw_cond2 (by simp -implicitDefEqProofs only [avl, reduceCtorEq, ↓reduceIte, sevalprocAttr, sh, sh1, Bool.not_true]; rfl) ?_) | ((first | refine gkc_fork ?_ ?_ | refine gkc_split ?_ ?_) <;> intro hq <;> simp -implicitDefEqProofs only [hq, avl, reduceCtorEq, ↓reduceIte, sevalprocAttr, sh, sh1, Bool.not_true]) | ((first | refine condc_fork ?_ ?_ | refine condc_bool ?_ ?_) <;> intro hq))
    first | refine callsc (hsh) ?_ ?_ | refine callc (hsh) ?_ ?_ | ((first | refine callsc (act_le (hsh) ?_) ?_ ?_ | refine callc (act_le (hsh) ?_) ?_ ?_); (focus (repeat' (first | exact trivial | exact le_same _ | exact le_imm (.inl rfl) | exact le_imm (.inr rfl) | (refine le_agg ?_) | apply And.intro))))
    (focus (simp [purs]; done))
    try simp -implicitDefEqProofs only [avl, reduceCtorEq, ↓reduceIte, sevalprocAttr, sh, sh1]
    repeat' (first | (refine (hκ _).mpr ?_; clear hκ) | refine kn1 ?_ | refine kr1 ?_ | refine ke1 ?_ | refine kn2 ?_ | refine kr2 ?_ | refine kx2 ?_ | refine ke2 rfl ?_ | refine kn3 ?_ | refine kr3 ?_ | refine ke3 ?_ | refine kn4 ?_ | refine kr4 ?_ | refine ke4 ?_ | refine w_seq ?_ | refine w_block ?_ | (refine aw_regk fun κ hκ => ?_; simp -implicitDefEqProofs only [avl, reduceCtorEq, ↓reduceIte, sevalprocAttr, sh, sh1]) | refine aw_exit ?_ | refine aw_ret ?_ | refine aw_skip ?_ | refine aw_label ?_ | refine condc_t ?_ | refine condc_f ?_ | (refine aw_cond2 (by simp -implicitDefEqProofs only [avl, reduceCtorEq, ↓reduceIte, sevalprocAttr, sh, sh1]; rfl) ?_) | ((first | refine gkc_fork ?_ ?_ | refine gkc_split ?_ ?_) <;> intro hq <;> simp -implicitDefEqProofs only [hq, avl, reduceCtorEq, ↓reduceIte, sevalprocAttr, sh, sh1]) | ((first | refine condc_fork ?_ ?_ | refine condc_bool ?_ ?_) <;> intro hq))
    first | refine callsc (p1) ?_ ?_ | refine callc (p1) ?_ ?_ | ((first | refine callsc (act_le (p1) ?_) ?_ ?_ | refine callc (act_le (p1) ?_) ?_ ?_); (focus (repeat' (first | exact trivial | exact le_same _ | exact le_imm (.inl rfl) | exact le_imm (.inr rfl) | (refine le_agg ?_) | apply And.intro))))
    (focus (simp [purs]; done))
    try simp -implicitDefEqProofs only [avl, reduceCtorEq, ↓reduceIte, sevalprocAttr, sh, sh1]
    repeat' (first | (refine (hκ _).mpr ?_; clear hκ) | refine kn1 ?_ | refine kr1 ?_ | refine ke1 ?_ | refine kn2 ?_ | refine kr2 ?_ | refine kx2 ?_ | refine ke2 rfl ?_ | refine kn3 ?_ | refine kr3 ?_ | refine ke3 ?_ | refine kn4 ?_ | refine kr4 ?_ | refine ke4 ?_ | refine w_seq ?_ | refine w_block ?_ | (refine aw_regk fun κ hκ => ?_; simp -implicitDefEqProofs only [avl, reduceCtorEq, ↓reduceIte, sevalprocAttr, sh, sh1]) | refine aw_exit ?_ | refine aw_ret ?_ | refine aw_skip ?_ | refine aw_label ?_ | refine condc_t ?_ | refine condc_f ?_ | (refine aw_cond2 (by simp -implicitDefEqProofs only [avl, reduceCtorEq, ↓reduceIte, sevalprocAttr, sh, sh1]; rfl) ?_) | ((first | refine gkc_fork ?_ ?_ | refine gkc_split ?_ ?_) <;> intro hq <;> simp -implicitDefEqProofs only [hq, avl, reduceCtorEq, ↓reduceIte, sevalprocAttr, sh, sh1]) | ((first | refine condc_fork ?_ ?_ | refine condc_bool ?_ ?_) <;> intro hq))
    first | refine callsc (p2) ?_ ?_ | refine callc (p2) ?_ ?_ | ((first | refine callsc (act_le (p2) ?_) ?_ ?_ | refine callc (act_le (p2) ?_) ?_ ?_); (focus (repeat' (first | exact trivial | exact le_same _ | exact le_imm (.inl rfl) | exact le_imm (.inr rfl) | (refine le_agg ?_) | apply And.intro))))
    (focus (simp [purs]; done))
    try simp -implicitDefEqProofs only [avl, reduceCtorEq, ↓reduceIte, sevalprocAttr, sh, sh1]
    repeat' (first | (refine (hκ _).mpr ?_; clear hκ) | refine kn1 ?_ | refine kr1 ?_ | refine ke1 ?_ | refine kn2 ?_ | refine kr2 ?_ | refine kx2 ?_ | refine ke2 rfl ?_ | refine kn3 ?_ | refine kr3 ?_ | refine ke3 ?_ | refine kn4 ?_ | refine kr4 ?_ | refine ke4 ?_ | refine w_seq ?_ | refine w_block ?_ | (refine aw_regk fun κ hκ => ?_; simp -implicitDefEqProofs only [avl, reduceCtorEq, ↓reduceIte, sevalprocAttr, sh, sh1]) | refine aw_exit ?_ | refine aw_ret ?_ | refine aw_skip ?_ | refine aw_label ?_ | refine condc_t ?_ | refine condc_f ?_ | (refine aw_cond2 (by simp -implicitDefEqProofs only [avl, reduceCtorEq, ↓reduceIte, sevalprocAttr, sh, sh1]; rfl) ?_) | ((first | refine gkc_fork ?_ ?_ | refine gkc_split ?_ ?_) <;> intro hq <;> simp -implicitDefEqProofs only [hq, avl, reduceCtorEq, ↓reduceIte, sevalprocAttr, sh, sh1]) | ((first | refine condc_fork ?_ ?_ | refine condc_bool ?_ ?_) <;> intro hq))
    first | refine callsc (p3) ?_ ?_ | refine callc (p3) ?_ ?_ | ((first | refine callsc (act_le (p3) ?_) ?_ ?_ | refine callc (act_le (p3) ?_) ?_ ?_); (focus (repeat' (first | exact trivial | exact le_same _ | exact le_imm (.inl rfl) | exact le_imm (.inr rfl) | (refine le_agg ?_) | apply And.intro))))
    (focus (simp [purs]; done))
    try simp -implicitDefEqProofs only [avl, reduceCtorEq, ↓reduceIte, sevalprocAttr, sh, sh1]
    repeat' (first | (refine (hκ _).mpr ?_; clear hκ) | refine kn1 ?_ | refine kr1 ?_ | refine ke1 ?_ | refine kn2 ?_ | refine kr2 ?_ | refine kx2 ?_ | refine ke2 rfl ?_ | refine kn3 ?_ | refine kr3 ?_ | refine ke3 ?_ | refine kn4 ?_ | refine kr4 ?_ | refine ke4 ?_ | refine w_seq ?_ | refine w_block ?_ | (refine aw_regk fun κ hκ => ?_; simp -implicitDefEqProofs only [avl, reduceCtorEq, ↓reduceIte, sevalprocAttr, sh, sh1]) | refine aw_exit ?_ | refine aw_ret ?_ | refine aw_skip ?_ | refine aw_label ?_ | refine condc_t ?_ | refine condc_f ?_ | (refine aw_cond2 (by simp -implicitDefEqProofs only [avl, reduceCtorEq, ↓reduceIte, sevalprocAttr, sh, sh1]; rfl) ?_) | ((first | refine gkc_fork ?_ ?_ | refine gkc_split ?_ ?_) <;> intro hq <;> simp -implicitDefEqProofs only [hq, avl, reduceCtorEq, ↓reduceIte, sevalprocAttr, sh, sh1]) | ((first | refine condc_fork ?_ ?_ | refine condc_bool ?_ ?_) <;> intro hq))
    first | refine callsc (p4) ?_ ?_ | refine callc (p4) ?_ ?_ | ((first | refine callsc (act_le (p4) ?_) ?_ ?_ | refine callc (act_le (p4) ?_) ?_ ?_); (focus (repeat' (first | exact trivial | exact le_same _ | exact le_imm (.inl rfl) | exact le_imm (.inr rfl) | (refine le_agg ?_) | apply And.intro))))
    (focus (simp [purs]; done))
    try simp -implicitDefEqProofs only [avl, reduceCtorEq, ↓reduceIte, sevalprocAttr, sh, sh1, (eq_true hr'), u8_b, putL_length, Nat.mul_one, (show 13 ≤ maxLen by decide), (show 10 ≤ maxLen by decide), (show 23 ≤ maxLen by decide)]
    repeat' (first | (refine (hκ _).mpr ?_; clear hκ) | refine kn1 ?_ | refine kr1 ?_ | refine ke1 ?_ | refine kn2 ?_ | refine kr2 ?_ | refine kx2 ?_ | refine ke2 rfl ?_ | refine kn3 ?_ | refine kr3 ?_ | refine ke3 ?_ | refine kn4 ?_ | refine kr4 ?_ | refine ke4 ?_ | refine w_seq ?_ | refine w_block ?_ | (refine aw_regk fun κ hκ => ?_; simp -implicitDefEqProofs only [avl, reduceCtorEq, ↓reduceIte, sevalprocAttr, sh, sh1, (eq_true hr'), u8_b, putL_length, Nat.mul_one, (show 13 ≤ maxLen by decide), (show 10 ≤ maxLen by decide), (show 23 ≤ maxLen by decide)]) | refine aw_exit ?_ | refine aw_ret ?_ | refine aw_skip ?_ | refine aw_label ?_ | refine condc_t ?_ | refine condc_f ?_ | (refine aw_cond2 (by simp -implicitDefEqProofs only [avl, reduceCtorEq, ↓reduceIte, sevalprocAttr, sh, sh1, (eq_true hr'), u8_b, putL_length, Nat.mul_one, (show 13 ≤ maxLen by decide), (show 10 ≤ maxLen by decide), (show 23 ≤ maxLen by decide)]; rfl) ?_) | ((first | refine gkc_fork ?_ ?_ | refine gkc_split ?_ ?_) <;> intro hq <;> simp -implicitDefEqProofs only [hq, avl, reduceCtorEq, ↓reduceIte, sevalprocAttr, sh, sh1, (eq_true hr'), u8_b, putL_length, Nat.mul_one, (show 13 ≤ maxLen by decide), (show 10 ≤ maxLen by decide), (show 23 ≤ maxLen by decide)]) | ((first | refine condc_fork ?_ ?_ | refine condc_bool ?_ ?_) <;> intro hq))
    try simp -implicitDefEqProofs only [List.append_assoc, avl, reduceCtorEq, ↓reduceIte, sevalprocAttr, bA]
    first | refine retLt (by first | exact .inr rfl | exact .inl rfl) (by rfl) ?_ | refine retL1 (by first | exact .inr rfl | exact .inl rfl) (by rfl) ?_
    repeat' (first | exact trivial | apply And.intro)
    all_goals first
      | exact .same _ rfl
      | (refine .same _ ?_; (focus (simp [purs]; done)))
      | (refine .imm _ _ _ ?_; (focus (simp [purs]; done)))
      | (refine .le _ _ ?_ ?_; (focus (repeat' (first | exact trivial | exact le_same _ | exact le_imm (.inl rfl) | exact le_imm (.inr rfl) | (refine le_agg ?_) | apply And.intro))); (focus (simp [purs]; done)))
      | skip
  · have hbody : bodyO h = [4] ++ putL (shortI h.asn) 2 ++ putL h.hold 2 ++ putL h.id 4 ++ [octAt 8 0] ++ ([2, 6, 65, 4] ++ putL h.asn 4) := by
      unfold bodyO tailO
      rw [if_neg hr]
      simp only [List.length_append, List.length_cons, List.length_nil, putL_length, Nat.reduceAdd, List.append_nil]
      rfl
    have hr' : ¬ h.role ≥ 0 := hr
    rw [hbody]
    unfold mA
    refine act_of p_ridgewayref06_Put (by simp [c_ridgewayref06_Put]) ?_
    show AW _ b_ridgewayref06_Put (RetOk [.cell 2 (some 2)] _ _) { n := 48, tm := [(0, _)], box := [], fr := [] }
    unfold b_ridgewayref06_Put
    unfold hlA
    try simp -implicitDefEqProofs only [avl, reduceCtorEq, ↓reduceIte, sevalprocAttr]
    repeat' (first | (refine (hκ _).mpr ?_; clear hκ) | refine kn1 ?_ | refine kr1 ?_ | refine ke1 ?_ | refine kn2 ?_ | refine kr2 ?_ | refine kx2 ?_ | refine ke2 rfl ?_ | refine kn3 ?_ | refine kr3 ?_ | refine ke3 ?_ | refine kn4 ?_ | refine kr4 ?_ | refine ke4 ?_ | refine w_seq ?_ | refine w_block ?_ | (refine aw_regk fun κ hκ => ?_; simp -implicitDefEqProofs only [avl, reduceCtorEq, ↓reduceIte, sevalprocAttr]) | refine aw_exit ?_ | refine aw_ret ?_ | refine aw_skip ?_ | refine aw_label ?_ | refine condc_t ?_ | refine condc_f ?_ | (refine aw_cond2 (by simp -implicitDefEqProofs only [avl, reduceCtorEq, ↓reduceIte, sevalprocAttr]; rfl) ?_) | ((first | refine gkc_fork ?_ ?_ | refine gkc_split ?_ ?_) <;> intro hq <;> simp -implicitDefEqProofs only [hq, avl, reduceCtorEq, ↓reduceIte, sevalprocAttr]) | ((first | refine condc_fork ?_ ?_ | refine condc_bool ?_ ?_) <;> intro hq))
    first | refine callsc (hs) ?_ ?_ | refine callc (hs) ?_ ?_ | ((first | refine callsc (act_le (hs) ?_) ?_ ?_ | refine callc (act_le (hs) ?_) ?_ ?_); (focus (repeat' (first | exact trivial | exact le_same _ | exact le_imm (.inl rfl) | exact le_imm (.inr rfl) | (refine le_agg ?_) | apply And.intro))))
    (focus (simp [purs]; done))
    try simp -implicitDefEqProofs only [avl, reduceCtorEq, ↓reduceIte, sevalprocAttr, sh, sh1, Bool.not_true]
    repeat' (first | (refine (hκ _).mpr ?_; clear hκ) | refine kn1 ?_ | refine kr1 ?_ | refine ke1 ?_ | refine kn2 ?_ | refine kr2 ?_ | refine kx2 ?_ | refine ke2 rfl ?_ | refine kn3 ?_ | refine kr3 ?_ | refine ke3 ?_ | refine kn4 ?_ | refine kr4 ?_ | refine ke4 ?_ | refine w_seq ?_ | refine w_block ?_ | (refine aw_regk fun κ hκ => ?_; simp -implicitDefEqProofs only [avl, reduceCtorEq, ↓reduceIte, sevalprocAttr, sh, sh1, Bool.not_true]) | refine aw_exit ?_ | refine aw_ret ?_ | refine aw_skip ?_ | refine aw_label ?_ | refine condc_t ?_ | refine condc_f ?_ | (refine aw_cond2 (by simp -implicitDefEqProofs only [avl, reduceCtorEq, ↓reduceIte, sevalprocAttr, sh, sh1, Bool.not_true]; rfl) ?_) | ((first | refine gkc_fork ?_ ?_ | refine gkc_split ?_ ?_) <;> intro hq <;> simp -implicitDefEqProofs only [hq, avl, reduceCtorEq, ↓reduceIte, sevalprocAttr, sh, sh1, Bool.not_true]) | ((first | refine condc_fork ?_ ?_ | refine condc_bool ?_ ?_) <;> intro hq))
    first | refine callsc (hsh) ?_ ?_ | refine callc (hsh) ?_ ?_ | ((first | refine callsc (act_le (hsh) ?_) ?_ ?_ | refine callc (act_le (hsh) ?_) ?_ ?_); (focus (repeat' (first | exact trivial | exact le_same _ | exact le_imm (.inl rfl) | exact le_imm (.inr rfl) | (refine le_agg ?_) | apply And.intro))))
    (focus (simp [purs]; done))
    try simp -implicitDefEqProofs only [avl, reduceCtorEq, ↓reduceIte, sevalprocAttr, sh, sh1]
    repeat' (first | (refine (hκ _).mpr ?_; clear hκ) | refine kn1 ?_ | refine kr1 ?_ | refine ke1 ?_ | refine kn2 ?_ | refine kr2 ?_ | refine kx2 ?_ | refine ke2 rfl ?_ | refine kn3 ?_ | refine kr3 ?_ | refine ke3 ?_ | refine kn4 ?_ | refine kr4 ?_ | refine ke4 ?_ | refine w_seq ?_ | refine w_block ?_ | (refine aw_regk fun κ hκ => ?_; simp -implicitDefEqProofs only [avl, reduceCtorEq, ↓reduceIte, sevalprocAttr, sh, sh1]) | refine aw_exit ?_ | refine aw_ret ?_ | refine aw_skip ?_ | refine aw_label ?_ | refine condc_t ?_ | refine condc_f ?_ | (refine aw_cond2 (by simp -implicitDefEqProofs only [avl, reduceCtorEq, ↓reduceIte, sevalprocAttr, sh, sh1]; rfl) ?_) | ((first | refine gkc_fork ?_ ?_ | refine gkc_split ?_ ?_) <;> intro hq <;> simp -implicitDefEqProofs only [hq, avl, reduceCtorEq, ↓reduceIte, sevalprocAttr, sh, sh1]) | ((first | refine condc_fork ?_ ?_ | refine condc_bool ?_ ?_) <;> intro hq))
    first | refine callsc (p1) ?_ ?_ | refine callc (p1) ?_ ?_ | ((first | refine callsc (act_le (p1) ?_) ?_ ?_ | refine callc (act_le (p1) ?_) ?_ ?_); (focus (repeat' (first | exact trivial | exact le_same _ | exact le_imm (.inl rfl) | exact le_imm (.inr rfl) | (refine le_agg ?_) | apply And.intro))))
    (focus (simp [purs]; done))
    try simp -implicitDefEqProofs only [avl, reduceCtorEq, ↓reduceIte, sevalprocAttr, sh, sh1]
    repeat' (first | (refine (hκ _).mpr ?_; clear hκ) | refine kn1 ?_ | refine kr1 ?_ | refine ke1 ?_ | refine kn2 ?_ | refine kr2 ?_ | refine kx2 ?_ | refine ke2 rfl ?_ | refine kn3 ?_ | refine kr3 ?_ | refine ke3 ?_ | refine kn4 ?_ | refine kr4 ?_ | refine ke4 ?_ | refine w_seq ?_ | refine w_block ?_ | (refine aw_regk fun κ hκ => ?_; simp -implicitDefEqProofs only [avl, reduceCtorEq, ↓reduceIte, sevalprocAttr, sh, sh1]) | refine aw_exit ?_ | refine aw_ret ?_ | refine aw_skip ?_ | refine aw_label ?_ | refine condc_t ?_ | refine condc_f ?_ | (refine aw_cond2 (by simp -implicitDefEqProofs only [avl, reduceCtorEq, ↓reduceIte, sevalprocAttr, sh, sh1]; rfl) ?_) | ((first | refine gkc_fork ?_ ?_ | refine gkc_split ?_ ?_) <;> intro hq <;> simp -implicitDefEqProofs only [hq, avl, reduceCtorEq, ↓reduceIte, sevalprocAttr, sh, sh1]) | ((first | refine condc_fork ?_ ?_ | refine condc_bool ?_ ?_) <;> intro hq))
    first | refine callsc (p2) ?_ ?_ | refine callc (p2) ?_ ?_ | ((first | refine callsc (act_le (p2) ?_) ?_ ?_ | refine callc (act_le (p2) ?_) ?_ ?_); (focus (repeat' (first | exact trivial | exact le_same _ | exact le_imm (.inl rfl) | exact le_imm (.inr rfl) | (refine le_agg ?_) | apply And.intro))))
    (focus (simp [purs]; done))
    try simp -implicitDefEqProofs only [avl, reduceCtorEq, ↓reduceIte, sevalprocAttr, sh, sh1]
    repeat' (first | (refine (hκ _).mpr ?_; clear hκ) | refine kn1 ?_ | refine kr1 ?_ | refine ke1 ?_ | refine kn2 ?_ | refine kr2 ?_ | refine kx2 ?_ | refine ke2 rfl ?_ | refine kn3 ?_ | refine kr3 ?_ | refine ke3 ?_ | refine kn4 ?_ | refine kr4 ?_ | refine ke4 ?_ | refine w_seq ?_ | refine w_block ?_ | (refine aw_regk fun κ hκ => ?_; simp -implicitDefEqProofs only [avl, reduceCtorEq, ↓reduceIte, sevalprocAttr, sh, sh1]) | refine aw_exit ?_ | refine aw_ret ?_ | refine aw_skip ?_ | refine aw_label ?_ | refine condc_t ?_ | refine condc_f ?_ | (refine aw_cond2 (by simp -implicitDefEqProofs only [avl, reduceCtorEq, ↓reduceIte, sevalprocAttr, sh, sh1]; rfl) ?_) | ((first | refine gkc_fork ?_ ?_ | refine gkc_split ?_ ?_) <;> intro hq <;> simp -implicitDefEqProofs only [hq, avl, reduceCtorEq, ↓reduceIte, sevalprocAttr, sh, sh1]) | ((first | refine condc_fork ?_ ?_ | refine condc_bool ?_ ?_) <;> intro hq))
    first | refine callsc (p3) ?_ ?_ | refine callc (p3) ?_ ?_ | ((first | refine callsc (act_le (p3) ?_) ?_ ?_ | refine callc (act_le (p3) ?_) ?_ ?_); (focus (repeat' (first | exact trivial | exact le_same _ | exact le_imm (.inl rfl) | exact le_imm (.inr rfl) | (refine le_agg ?_) | apply And.intro))))
    (focus (simp [purs]; done))
    try simp -implicitDefEqProofs only [avl, reduceCtorEq, ↓reduceIte, sevalprocAttr, sh, sh1]
    repeat' (first | (refine (hκ _).mpr ?_; clear hκ) | refine kn1 ?_ | refine kr1 ?_ | refine ke1 ?_ | refine kn2 ?_ | refine kr2 ?_ | refine kx2 ?_ | refine ke2 rfl ?_ | refine kn3 ?_ | refine kr3 ?_ | refine ke3 ?_ | refine kn4 ?_ | refine kr4 ?_ | refine ke4 ?_ | refine w_seq ?_ | refine w_block ?_ | (refine aw_regk fun κ hκ => ?_; simp -implicitDefEqProofs only [avl, reduceCtorEq, ↓reduceIte, sevalprocAttr, sh, sh1]) | refine aw_exit ?_ | refine aw_ret ?_ | refine aw_skip ?_ | refine aw_label ?_ | refine condc_t ?_ | refine condc_f ?_ | (refine aw_cond2 (by simp -implicitDefEqProofs only [avl, reduceCtorEq, ↓reduceIte, sevalprocAttr, sh, sh1]; rfl) ?_) | ((first | refine gkc_fork ?_ ?_ | refine gkc_split ?_ ?_) <;> intro hq <;> simp -implicitDefEqProofs only [hq, avl, reduceCtorEq, ↓reduceIte, sevalprocAttr, sh, sh1]) | ((first | refine condc_fork ?_ ?_ | refine condc_bool ?_ ?_) <;> intro hq))
    first | refine callsc (p4) ?_ ?_ | refine callc (p4) ?_ ?_ | ((first | refine callsc (act_le (p4) ?_) ?_ ?_ | refine callc (act_le (p4) ?_) ?_ ?_); (focus (repeat' (first | exact trivial | exact le_same _ | exact le_imm (.inl rfl) | exact le_imm (.inr rfl) | (refine le_agg ?_) | apply And.intro))))
    (focus (simp [purs]; done))
    try simp -implicitDefEqProofs only [avl, reduceCtorEq, ↓reduceIte, sevalprocAttr, sh, sh1, hr', u8_b, putL_length, Nat.mul_one, (show 10 ≤ maxLen by decide), (show 18 ≤ maxLen by decide)]
    repeat' (first | (refine (hκ _).mpr ?_; clear hκ) | refine kn1 ?_ | refine kr1 ?_ | refine ke1 ?_ | refine kn2 ?_ | refine kr2 ?_ | refine kx2 ?_ | refine ke2 rfl ?_ | refine kn3 ?_ | refine kr3 ?_ | refine ke3 ?_ | refine kn4 ?_ | refine kr4 ?_ | refine ke4 ?_ | refine w_seq ?_ | refine w_block ?_ | (refine aw_regk fun κ hκ => ?_; simp -implicitDefEqProofs only [avl, reduceCtorEq, ↓reduceIte, sevalprocAttr, sh, sh1, hr', u8_b, putL_length, Nat.mul_one, (show 10 ≤ maxLen by decide), (show 18 ≤ maxLen by decide)]) | refine aw_exit ?_ | refine aw_ret ?_ | refine aw_skip ?_ | refine aw_label ?_ | refine condc_t ?_ | refine condc_f ?_ | (refine aw_cond2 (by simp -implicitDefEqProofs only [avl, reduceCtorEq, ↓reduceIte, sevalprocAttr, sh, sh1, hr', u8_b, putL_length, Nat.mul_one, (show 10 ≤ maxLen by decide), (show 18 ≤ maxLen by decide)]; rfl) ?_) | ((first | refine gkc_fork ?_ ?_ | refine gkc_split ?_ ?_) <;> intro hq <;> simp -implicitDefEqProofs only [hq, avl, reduceCtorEq, ↓reduceIte, sevalprocAttr, sh, sh1, hr', u8_b, putL_length, Nat.mul_one, (show 10 ≤ maxLen by decide), (show 18 ≤ maxLen by decide)]) | ((first | refine condc_fork ?_ ?_ | refine condc_bool ?_ ?_) <;> intro hq))
    try simp -implicitDefEqProofs only [List.append_assoc, avl, reduceCtorEq, ↓reduceIte, sevalprocAttr, bA]
    first | refine retLt (by first | exact .inr rfl | exact .inl rfl) (by rfl) ?_ | refine retL1 (by first | exact .inr rfl | exact .inl rfl) (by rfl) ?_
    repeat' (first | exact trivial | apply And.intro)
    all_goals first
      | exact .same _ rfl
      | (refine .same _ ?_; (focus (simp [purs]; done)))
      | (refine .imm _ _ _ ?_; (focus (simp [purs]; done)))
      | (refine .le _ _ ?_ ?_; (focus (repeat' (first | exact trivial | exact le_same _ | exact le_imm (.inl rfl) | exact le_imm (.inr rfl) | (refine le_agg ?_) | apply And.intro))); (focus (simp [purs]; done)))
      | skip

def zH : Hl := ⟨0, 0, 0, 0⟩
/-- What is got. -/
def getO (t : Int) (b : List UInt8) (asn : Int) : Hl × Int × Int × List UInt8 :=
  if ¬ t = 1 ∨ fitB t (b.length + 19) = false then (zH, 2, 0, [])
  else if ¬ b.headD 0 = 4 then (zH, 2, 1, [0, 4])
  else if ¬ ((b.drop 9).headD 0).toNat = (b.drop 10).length then (zH, 2, 0, [])
  else match (readS (b.drop 10)).2.2 with
    | some e => (zH, 2, e, [])
    | none =>
      if (faultS (readS (b.drop 10)).1 asn (num ((b.drop 1).take 2)) (num ((b.drop 3).take 2)) (num ((b.drop 5).take 4))).1 = 0
      then (⟨(readS (b.drop 10)).1, num ((b.drop 3).take 2), num ((b.drop 5).take 4), (readS (b.drop 10)).2.1⟩, 0, 0, [])
      else (zH, faultS (readS (b.drop 10)).1 asn (num ((b.drop 1).take 2)) (num ((b.drop 3).take 2)) (num ((b.drop 5).take 4)))
def getA (q : Hl × Int × Int × List UInt8) : AV := .tup [hlA q.1, ntA q.2.1 q.2.2.1 q.2.2.2]
theorem get2 (x y : UInt8) (t : List UInt8) : getR (x :: y :: t) 2 = [.int .i64 (num [x, y] : Nat), .slice .imm 1 (t.map bA), .bool true] := by
  unfold getR
  rw [if_pos (by simp)]
  rfl
theorem get4 (x y z u : UInt8) (t : List UInt8) : getR (x :: y :: z :: u :: t) 4 = [.int .i64 (num [x, y, z, u] : Nat), .slice .imm 1 (t.map bA), .bool true] := by
  unfold getR
  rw [if_pos (by simp)]
  rfl
theorem num1 (x : UInt8) : num [x] = x.toNat := by simp [num]
theorem fit_len {b : List UInt8} (h : fitB 1 (b.length + 19) = true) : 10 ≤ b.length := by
  unfold fitB leastI at h
  simp only [if_true, Bool.and_eq_true, decide_eq_true_eq] at h
  omega
theorem fit_max {b : List UInt8} {t : Int} (h : fitB t (b.length + 19) = true) : b.length ≤ 4077 := by
  unfold fitB at h
  simp only [Bool.and_eq_true, decide_eq_true_eq] at h
  omega
theorem ten {b : List UInt8} (h : 10 ≤ b.length) : ∃ x0 x1 x2 x3 x4 x5 x6 x7 x8 x9 t, b = x0 :: x1 :: x2 :: x3 :: x4 :: x5 :: x6 :: x7 :: x8 :: x9 :: t := by
  match b, h with
  | x0 :: x1 :: x2 :: x3 :: x4 :: x5 :: x6 :: x7 :: x8 :: x9 :: t, _ => exact ⟨_, _, _, _, _, _, _, _, _, _, _, rfl⟩
theorem oget_ac (t : Int) (b : List UInt8) (asn : Int) (hl : b.length ≤ 1000000) : ACt Try.prog 16 [mA t b, .int .i64 asn] (getA (getO t b asn)) [] := by
  have hs := msane_ac t b hl
  by_cases h1 : t = 1
  rotate_left
  · have e : getO t b asn = (zH, 2, 0, []) := by unfold getO; rw [if_pos (.inl h1)]
    rw [e]
    unfold getA hlA ntA zH
    refine act_of p_open_Get (by simp [c_open_Get]) ?_
    show AW _ b_open_Get (RetOk [.cell 4 (some 4), .cell 5 (some 3)] _ _) { n := 98, tm := [(0, _), (1, _)], box := [], fr := [] }
    unfold b_open_Get
    unfold mA
    try simp -implicitDefEqProofs only [avl, reduceCtorEq, ↓reduceIte, sevalprocAttr, h1, not_false_eq_true]
    repeat' (first | (refine (hκ _).mpr ?_; clear hκ) | refine kn1 ?_ | refine kr1 ?_ | refine ke1 ?_ | refine kn2 ?_ | refine kr2 ?_ | refine kx2 ?_ | refine ke2 rfl ?_ | refine kn3 ?_ | refine kr3 ?_ | refine ke3 ?_ | refine kn4 ?_ | refine kr4 ?_ | refine ke4 ?_ | refine w_seq ?_ | refine w_block ?_ | (refine aw_regk fun κ hκ => ?_; simp -implicitDefEqProofs only [avl, reduceCtorEq, ↓reduceIte, sevalprocAttr, h1, not_false_eq_true]) | refine aw_exit ?_ | refine aw_ret ?_ | refine aw_skip ?_ | refine aw_label ?_ | refine condc_t ?_ | refine condc_f ?_ | (refine aw_cond2 (by simp -implicitDefEqProofs only [avl, reduceCtorEq, ↓reduceIte, sevalprocAttr, h1, not_false_eq_true]; rfl) ?_) | ((first | refine gkc_fork ?_ ?_ | refine gkc_split ?_ ?_) <;> intro hq <;> simp -implicitDefEqProofs only [hq, avl, reduceCtorEq, ↓reduceIte, sevalprocAttr, h1, not_false_eq_true]) | ((first | refine condc_fork ?_ ?_ | refine condc_bool ?_ ?_) <;> intro hq))
    try simp -implicitDefEqProofs only [List.append_assoc, avl, reduceCtorEq, ↓reduceIte, sevalprocAttr]
    first | refine retLt (by first | exact .inr rfl | exact .inl rfl) (by rfl) ?_ | refine retL1 (by first | exact .inr rfl | exact .inl rfl) (by rfl) ?_
    repeat' (first | exact trivial | apply And.intro)
    all_goals first
      | exact .same _ rfl
      | (refine .same _ ?_; (focus (simp [purs]; done)))
      | (refine .imm _ _ _ ?_; (focus (simp [purs]; done)))
      | (refine .le _ _ ?_ ?_; (focus (repeat' (first | exact trivial | exact le_same _ | exact le_imm (.inl rfl) | exact le_imm (.inr rfl) | (refine le_agg ?_) | apply And.intro))); (focus (simp [purs]; done)))
      | skip
  cases hf : fitB t (b.length + 19)
  · have e : getO t b asn = (zH, 2, 0, []) := by unfold getO; rw [if_pos (.inr hf)]
    rw [e]
    rw [hf] at hs
    unfold getA hlA ntA zH
    unfold mA at hs ⊢
    refine act_of p_open_Get (by simp [c_open_Get]) ?_
    show AW _ b_open_Get (RetOk [.cell 4 (some 4), .cell 5 (some 3)] _ _) { n := 98, tm := [(0, _), (1, _)], box := [], fr := [] }
    unfold b_open_Get
    try simp -implicitDefEqProofs only [avl, reduceCtorEq, ↓reduceIte, sevalprocAttr, (eq_true h1), not_true_eq_false]
    repeat' (first | (refine (hκ _).mpr ?_; clear hκ) | refine kn1 ?_ | refine kr1 ?_ | refine ke1 ?_ | refine kn2 ?_ | refine kr2 ?_ | refine kx2 ?_ | refine ke2 rfl ?_ | refine kn3 ?_ | refine kr3 ?_ | refine ke3 ?_ | refine kn4 ?_ | refine kr4 ?_ | refine ke4 ?_ | refine w_seq ?_ | refine w_block ?_ | (refine aw_regk fun κ hκ => ?_; simp -implicitDefEqProofs only [avl, reduceCtorEq, ↓reduceIte, sevalprocAttr, (eq_true h1), not_true_eq_false]) | refine aw_exit ?_ | refine aw_ret ?_ | refine aw_skip ?_ | refine aw_label ?_ | refine condc_t ?_ | refine condc_f ?_ | (refine aw_cond2 (by simp -implicitDefEqProofs only [avl, reduceCtorEq, ↓reduceIte, sevalprocAttr, (eq_true h1), not_true_eq_false]; rfl) ?_) | ((first | refine gkc_fork ?_ ?_ | refine gkc_split ?_ ?_) <;> intro hq <;> simp -implicitDefEqProofs only [hq, avl, reduceCtorEq, ↓reduceIte, sevalprocAttr, (eq_true h1), not_true_eq_false]) | ((first | refine condc_fork ?_ ?_ | refine condc_bool ?_ ?_) <;> intro hq))
    first | refine callsc (hs) ?_ ?_ | refine callc (hs) ?_ ?_ | ((first | refine callsc (act_le (hs) ?_) ?_ ?_ | refine callc (act_le (hs) ?_) ?_ ?_); (focus (repeat' (first | exact trivial | exact le_same _ | exact le_imm (.inl rfl) | exact le_imm (.inr rfl) | (refine le_agg ?_) | apply And.intro))))
    (focus (simp [purs]; done))
    try simp -implicitDefEqProofs only [avl, reduceCtorEq, ↓reduceIte, sevalprocAttr, sh, sh1, Bool.not_false]
    repeat' (first | (refine (hκ _).mpr ?_; clear hκ) | refine kn1 ?_ | refine kr1 ?_ | refine ke1 ?_ | refine kn2 ?_ | refine kr2 ?_ | refine kx2 ?_ | refine ke2 rfl ?_ | refine kn3 ?_ | refine kr3 ?_ | refine ke3 ?_ | refine kn4 ?_ | refine kr4 ?_ | refine ke4 ?_ | refine w_seq ?_ | refine w_block ?_ | (refine aw_regk fun κ hκ => ?_; simp -implicitDefEqProofs only [avl, reduceCtorEq, ↓reduceIte, sevalprocAttr, sh, sh1, Bool.not_false]) | refine aw_exit ?_ | refine aw_ret ?_ | refine aw_skip ?_ | refine aw_label ?_ | refine condc_t ?_ | refine condc_f ?_ | (refine aw_cond2 (by simp -implicitDefEqProofs only [avl, reduceCtorEq, ↓reduceIte, sevalprocAttr, sh, sh1, Bool.not_false]; rfl) ?_) | ((first | refine gkc_fork ?_ ?_ | refine gkc_split ?_ ?_) <;> intro hq <;> simp -implicitDefEqProofs only [hq, avl, reduceCtorEq, ↓reduceIte, sevalprocAttr, sh, sh1, Bool.not_false]) | ((first | refine condc_fork ?_ ?_ | refine condc_bool ?_ ?_) <;> intro hq))
    try simp -implicitDefEqProofs only [List.append_assoc, avl, reduceCtorEq, ↓reduceIte, sevalprocAttr]
    first | refine retLt (by first | exact .inr rfl | exact .inl rfl) (by rfl) ?_ | refine retL1 (by first | exact .inr rfl | exact .inl rfl) (by rfl) ?_
    repeat' (first | exact trivial | apply And.intro)
    all_goals first
      | exact .same _ rfl
      | (refine .same _ ?_; (focus (simp [purs]; done)))
      | (refine .imm _ _ _ ?_; (focus (simp [purs]; done)))
      | (refine .le _ _ ?_ ?_; (focus (repeat' (first | exact trivial | exact le_same _ | exact le_imm (.inl rfl) | exact le_imm (.inr rfl) | (refine le_agg ?_) | apply And.intro))); (focus (simp [purs]; done)))
      | skip
  rw [hf] at hs
  subst h1
  obtain ⟨x0, x1, x2, x3, x4, x5, x6, x7, x8, x9, t, rfl⟩ := ten (fit_len hf)
  have hmx := fit_max hf
  have g0 := octGet_ac (x0 :: x1 :: x2 :: x3 :: x4 :: x5 :: x6 :: x7 :: x8 :: x9 :: t) 1 (by omega) (by omega)
  rw [get1] at g0
  have g1 := octGet_ac (x1 :: x2 :: x3 :: x4 :: x5 :: x6 :: x7 :: x8 :: x9 :: t) 2 (by omega) (by omega)
  rw [get2] at g1
  have g2 := octGet_ac (x3 :: x4 :: x5 :: x6 :: x7 :: x8 :: x9 :: t) 2 (by omega) (by omega)
  rw [get2] at g2
  have g3 := octGet_ac (x5 :: x6 :: x7 :: x8 :: x9 :: t) 4 (by omega) (by omega)
  rw [get4] at g3
  have g4 := octGet_ac (x9 :: t) 1 (by omega) (by omega)
  rw [get1] at g4
  have hrd := read_ac t
  have hft := fault_ac (readS t).1 (readS t).2.1 asn (num [x1, x2] : Nat) (num [x3, x4] : Nat) (num [x5, x6, x7, x8] : Nat)
  have hgo : getO 1 (x0 :: x1 :: x2 :: x3 :: x4 :: x5 :: x6 :: x7 :: x8 :: x9 :: t) asn = if ¬ x0 = 4 then (zH, 2, 1, [0, 4]) else if ¬ x9.toNat = t.length then (zH, 2, 0, []) else match (readS t).2.2 with
      | some e => (zH, 2, e, [])
      | none =>
        if (faultS (readS t).1 asn (num [x1, x2] : Nat) (num [x3, x4] : Nat) (num [x5, x6, x7, x8] : Nat)).1 = 0
        then (⟨(readS t).1, (num [x3, x4] : Nat), (num [x5, x6, x7, x8] : Nat), (readS t).2.1⟩, 0, 0, [])
        else (zH, faultS (readS t).1 asn (num [x1, x2] : Nat) (num [x3, x4] : Nat) (num [x5, x6, x7, x8] : Nat)) := by
    unfold getO
    rw [if_neg (by rw [hf]; simp)]
    rfl
  rw [hgo]
  clear hgo
  unfold mA at hs ⊢
  by_cases hv : x0 = 4
  rotate_left
  · have hv' : ¬ (x0.toNat : Int) = 4 := fun e => hv (by apply UInt8.toNat_inj.1; show x0.toNat = 4; omega)
    have p := octPut_ac [] 4 2 (by omega) (by omega) (by simp)
    rw [List.nil_append, show putL 4 2 = [0, 4] by decide] at p
    rw [if_pos hv]
    unfold getA hlA ntA zH
    refine act_of p_open_Get (by simp [c_open_Get]) ?_
    show AW _ b_open_Get (RetOk [.cell 4 (some 4), .cell 5 (some 3)] _ _) { n := 98, tm := [(0, _), (1, _)], box := [], fr := [] }
    unfold b_open_Get
    try simp -implicitDefEqProofs only [avl, reduceCtorEq, ↓reduceIte, sevalprocAttr, not_true_eq_false]
    repeat' (first | (refine (hκ _).mpr ?_; clear hκ) | refine kn1 ?_ | refine kr1 ?_ | refine ke1 ?_ | refine kn2 ?_ | refine kr2 ?_ | refine kx2 ?_ | refine ke2 rfl ?_ | refine kn3 ?_ | refine kr3 ?_ | refine ke3 ?_ | refine kn4 ?_ | refine kr4 ?_ | refine ke4 ?_ | refine w_seq ?_ | refine w_block ?_ | (refine aw_regk fun κ hκ => ?_; simp -implicitDefEqProofs only [avl, reduceCtorEq, ↓reduceIte, sevalprocAttr, not_true_eq_false]) | refine aw_exit ?_ | refine aw_ret ?_ | refine aw_skip ?_ | refine aw_label ?_ | refine condc_t ?_ | refine condc_f ?_ | (refine aw_cond2 (by simp -implicitDefEqProofs only [avl, reduceCtorEq, ↓reduceIte, sevalprocAttr, not_true_eq_false]; rfl) ?_) | ((first | refine gkc_fork ?_ ?_ | refine gkc_split ?_ ?_) <;> intro hq <;> simp -implicitDefEqProofs only [hq, avl, reduceCtorEq, ↓reduceIte, sevalprocAttr, not_true_eq_false]) | ((first | refine condc_fork ?_ ?_ | refine condc_bool ?_ ?_) <;> intro hq))
    first | refine callsc (hs) ?_ ?_ | refine callc (hs) ?_ ?_ | ((first | refine callsc (act_le (hs) ?_) ?_ ?_ | refine callc (act_le (hs) ?_) ?_ ?_); (focus (repeat' (first | exact trivial | exact le_same _ | exact le_imm (.inl rfl) | exact le_imm (.inr rfl) | (refine le_agg ?_) | apply And.intro))))
    (focus (simp [purs]; done))
    try simp -implicitDefEqProofs only [avl, reduceCtorEq, ↓reduceIte, sevalprocAttr, sh, sh1, Bool.not_true]
    repeat' (first | (refine (hκ _).mpr ?_; clear hκ) | refine kn1 ?_ | refine kr1 ?_ | refine ke1 ?_ | refine kn2 ?_ | refine kr2 ?_ | refine kx2 ?_ | refine ke2 rfl ?_ | refine kn3 ?_ | refine kr3 ?_ | refine ke3 ?_ | refine kn4 ?_ | refine kr4 ?_ | refine ke4 ?_ | refine w_seq ?_ | refine w_block ?_ | (refine aw_regk fun κ hκ => ?_; simp -implicitDefEqProofs only [avl, reduceCtorEq, ↓reduceIte, sevalprocAttr, sh, sh1, Bool.not_true]) | refine aw_exit ?_ | refine aw_ret ?_ | refine aw_skip ?_ | refine aw_label ?_ | refine condc_t ?_ | refine condc_f ?_ | (refine aw_cond2 (by simp -implicitDefEqProofs only [avl, reduceCtorEq, ↓reduceIte, sevalprocAttr, sh, sh1, Bool.not_true]; rfl) ?_) | ((first | refine gkc_fork ?_ ?_ | refine gkc_split ?_ ?_) <;> intro hq <;> simp -implicitDefEqProofs only [hq, avl, reduceCtorEq, ↓reduceIte, sevalprocAttr, sh, sh1, Bool.not_true]) | ((first | refine condc_fork ?_ ?_ | refine condc_bool ?_ ?_) <;> intro hq))
    first | refine callsc (g0) ?_ ?_ | refine callc (g0) ?_ ?_ | ((first | refine callsc (act_le (g0) ?_) ?_ ?_ | refine callc (act_le (g0) ?_) ?_ ?_); (focus (repeat' (first | exact trivial | exact le_same _ | exact le_imm (.inl rfl) | exact le_imm (.inr rfl) | (refine le_agg ?_) | apply And.intro))))
    (focus (simp [purs]; done))
    try simp -implicitDefEqProofs only [avl, reduceCtorEq, ↓reduceIte, sevalprocAttr, sh, sh1]
    repeat' (first | (refine (hκ _).mpr ?_; clear hκ) | refine kn1 ?_ | refine kr1 ?_ | refine ke1 ?_ | refine kn2 ?_ | refine kr2 ?_ | refine kx2 ?_ | refine ke2 rfl ?_ | refine kn3 ?_ | refine kr3 ?_ | refine ke3 ?_ | refine kn4 ?_ | refine kr4 ?_ | refine ke4 ?_ | refine w_seq ?_ | refine w_block ?_ | (refine aw_regk fun κ hκ => ?_; simp -implicitDefEqProofs only [avl, reduceCtorEq, ↓reduceIte, sevalprocAttr, sh, sh1]) | refine aw_exit ?_ | refine aw_ret ?_ | refine aw_skip ?_ | refine aw_label ?_ | refine condc_t ?_ | refine condc_f ?_ | (refine aw_cond2 (by simp -implicitDefEqProofs only [avl, reduceCtorEq, ↓reduceIte, sevalprocAttr, sh, sh1]; rfl) ?_) | ((first | refine gkc_fork ?_ ?_ | refine gkc_split ?_ ?_) <;> intro hq <;> simp -implicitDefEqProofs only [hq, avl, reduceCtorEq, ↓reduceIte, sevalprocAttr, sh, sh1]) | ((first | refine condc_fork ?_ ?_ | refine condc_bool ?_ ?_) <;> intro hq))
    first | refine callsc (g1) ?_ ?_ | refine callc (g1) ?_ ?_ | ((first | refine callsc (act_le (g1) ?_) ?_ ?_ | refine callc (act_le (g1) ?_) ?_ ?_); (focus (repeat' (first | exact trivial | exact le_same _ | exact le_imm (.inl rfl) | exact le_imm (.inr rfl) | (refine le_agg ?_) | apply And.intro))))
    (focus (simp [purs]; done))
    try simp -implicitDefEqProofs only [avl, reduceCtorEq, ↓reduceIte, sevalprocAttr, sh, sh1]
    repeat' (first | (refine (hκ _).mpr ?_; clear hκ) | refine kn1 ?_ | refine kr1 ?_ | refine ke1 ?_ | refine kn2 ?_ | refine kr2 ?_ | refine kx2 ?_ | refine ke2 rfl ?_ | refine kn3 ?_ | refine kr3 ?_ | refine ke3 ?_ | refine kn4 ?_ | refine kr4 ?_ | refine ke4 ?_ | refine w_seq ?_ | refine w_block ?_ | (refine aw_regk fun κ hκ => ?_; simp -implicitDefEqProofs only [avl, reduceCtorEq, ↓reduceIte, sevalprocAttr, sh, sh1]) | refine aw_exit ?_ | refine aw_ret ?_ | refine aw_skip ?_ | refine aw_label ?_ | refine condc_t ?_ | refine condc_f ?_ | (refine aw_cond2 (by simp -implicitDefEqProofs only [avl, reduceCtorEq, ↓reduceIte, sevalprocAttr, sh, sh1]; rfl) ?_) | ((first | refine gkc_fork ?_ ?_ | refine gkc_split ?_ ?_) <;> intro hq <;> simp -implicitDefEqProofs only [hq, avl, reduceCtorEq, ↓reduceIte, sevalprocAttr, sh, sh1]) | ((first | refine condc_fork ?_ ?_ | refine condc_bool ?_ ?_) <;> intro hq))
    first | refine callsc (g2) ?_ ?_ | refine callc (g2) ?_ ?_ | ((first | refine callsc (act_le (g2) ?_) ?_ ?_ | refine callc (act_le (g2) ?_) ?_ ?_); (focus (repeat' (first | exact trivial | exact le_same _ | exact le_imm (.inl rfl) | exact le_imm (.inr rfl) | (refine le_agg ?_) | apply And.intro))))
    (focus (simp [purs]; done))
    try simp -implicitDefEqProofs only [avl, reduceCtorEq, ↓reduceIte, sevalprocAttr, sh, sh1]
    repeat' (first | (refine (hκ _).mpr ?_; clear hκ) | refine kn1 ?_ | refine kr1 ?_ | refine ke1 ?_ | refine kn2 ?_ | refine kr2 ?_ | refine kx2 ?_ | refine ke2 rfl ?_ | refine kn3 ?_ | refine kr3 ?_ | refine ke3 ?_ | refine kn4 ?_ | refine kr4 ?_ | refine ke4 ?_ | refine w_seq ?_ | refine w_block ?_ | (refine aw_regk fun κ hκ => ?_; simp -implicitDefEqProofs only [avl, reduceCtorEq, ↓reduceIte, sevalprocAttr, sh, sh1]) | refine aw_exit ?_ | refine aw_ret ?_ | refine aw_skip ?_ | refine aw_label ?_ | refine condc_t ?_ | refine condc_f ?_ | (refine aw_cond2 (by simp -implicitDefEqProofs only [avl, reduceCtorEq, ↓reduceIte, sevalprocAttr, sh, sh1]; rfl) ?_) | ((first | refine gkc_fork ?_ ?_ | refine gkc_split ?_ ?_) <;> intro hq <;> simp -implicitDefEqProofs only [hq, avl, reduceCtorEq, ↓reduceIte, sevalprocAttr, sh, sh1]) | ((first | refine condc_fork ?_ ?_ | refine condc_bool ?_ ?_) <;> intro hq))
    first | refine callsc (g3) ?_ ?_ | refine callc (g3) ?_ ?_ | ((first | refine callsc (act_le (g3) ?_) ?_ ?_ | refine callc (act_le (g3) ?_) ?_ ?_); (focus (repeat' (first | exact trivial | exact le_same _ | exact le_imm (.inl rfl) | exact le_imm (.inr rfl) | (refine le_agg ?_) | apply And.intro))))
    (focus (simp [purs]; done))
    try simp -implicitDefEqProofs only [avl, reduceCtorEq, ↓reduceIte, sevalprocAttr, sh, sh1]
    repeat' (first | (refine (hκ _).mpr ?_; clear hκ) | refine kn1 ?_ | refine kr1 ?_ | refine ke1 ?_ | refine kn2 ?_ | refine kr2 ?_ | refine kx2 ?_ | refine ke2 rfl ?_ | refine kn3 ?_ | refine kr3 ?_ | refine ke3 ?_ | refine kn4 ?_ | refine kr4 ?_ | refine ke4 ?_ | refine w_seq ?_ | refine w_block ?_ | (refine aw_regk fun κ hκ => ?_; simp -implicitDefEqProofs only [avl, reduceCtorEq, ↓reduceIte, sevalprocAttr, sh, sh1]) | refine aw_exit ?_ | refine aw_ret ?_ | refine aw_skip ?_ | refine aw_label ?_ | refine condc_t ?_ | refine condc_f ?_ | (refine aw_cond2 (by simp -implicitDefEqProofs only [avl, reduceCtorEq, ↓reduceIte, sevalprocAttr, sh, sh1]; rfl) ?_) | ((first | refine gkc_fork ?_ ?_ | refine gkc_split ?_ ?_) <;> intro hq <;> simp -implicitDefEqProofs only [hq, avl, reduceCtorEq, ↓reduceIte, sevalprocAttr, sh, sh1]) | ((first | refine condc_fork ?_ ?_ | refine condc_bool ?_ ?_) <;> intro hq))
    first | refine callsc (g4) ?_ ?_ | refine callc (g4) ?_ ?_ | ((first | refine callsc (act_le (g4) ?_) ?_ ?_ | refine callc (act_le (g4) ?_) ?_ ?_); (focus (repeat' (first | exact trivial | exact le_same _ | exact le_imm (.inl rfl) | exact le_imm (.inr rfl) | (refine le_agg ?_) | apply And.intro))))
    (focus (simp [purs]; done))
    try simp -implicitDefEqProofs only [avl, reduceCtorEq, ↓reduceIte, sevalprocAttr, sh, sh1, hv', not_false_eq_true]
    repeat' (first | (refine (hκ _).mpr ?_; clear hκ) | refine kn1 ?_ | refine kr1 ?_ | refine ke1 ?_ | refine kn2 ?_ | refine kr2 ?_ | refine kx2 ?_ | refine ke2 rfl ?_ | refine kn3 ?_ | refine kr3 ?_ | refine ke3 ?_ | refine kn4 ?_ | refine kr4 ?_ | refine ke4 ?_ | refine w_seq ?_ | refine w_block ?_ | (refine aw_regk fun κ hκ => ?_; simp -implicitDefEqProofs only [avl, reduceCtorEq, ↓reduceIte, sevalprocAttr, sh, sh1, hv', not_false_eq_true]) | refine aw_exit ?_ | refine aw_ret ?_ | refine aw_skip ?_ | refine aw_label ?_ | refine condc_t ?_ | refine condc_f ?_ | (refine aw_cond2 (by simp -implicitDefEqProofs only [avl, reduceCtorEq, ↓reduceIte, sevalprocAttr, sh, sh1, hv', not_false_eq_true]; rfl) ?_) | ((first | refine gkc_fork ?_ ?_ | refine gkc_split ?_ ?_) <;> intro hq <;> simp -implicitDefEqProofs only [hq, avl, reduceCtorEq, ↓reduceIte, sevalprocAttr, sh, sh1, hv', not_false_eq_true]) | ((first | refine condc_fork ?_ ?_ | refine condc_bool ?_ ?_) <;> intro hq))
    first | refine callsc (p) ?_ ?_ | refine callc (p) ?_ ?_ | ((first | refine callsc (act_le (p) ?_) ?_ ?_ | refine callc (act_le (p) ?_) ?_ ?_); (focus (repeat' (first | exact trivial | exact le_same _ | exact le_imm (.inl rfl) | exact le_imm (.inr rfl) | (refine le_agg ?_) | apply And.intro))))
    (focus (simp [purs]; done))
    try simp -implicitDefEqProofs only [avl, reduceCtorEq, ↓reduceIte, sevalprocAttr, sh, sh1, eqk_same]
    repeat' (first | (refine (hκ _).mpr ?_; clear hκ) | refine kn1 ?_ | refine kr1 ?_ | refine ke1 ?_ | refine kn2 ?_ | refine kr2 ?_ | refine kx2 ?_ | refine ke2 rfl ?_ | refine kn3 ?_ | refine kr3 ?_ | refine ke3 ?_ | refine kn4 ?_ | refine kr4 ?_ | refine ke4 ?_ | refine w_seq ?_ | refine w_block ?_ | (refine aw_regk fun κ hκ => ?_; simp -implicitDefEqProofs only [avl, reduceCtorEq, ↓reduceIte, sevalprocAttr, sh, sh1, eqk_same]) | refine aw_exit ?_ | refine aw_ret ?_ | refine aw_skip ?_ | refine aw_label ?_ | refine condc_t ?_ | refine condc_f ?_ | (refine aw_cond2 (by simp -implicitDefEqProofs only [avl, reduceCtorEq, ↓reduceIte, sevalprocAttr, sh, sh1, eqk_same]; rfl) ?_) | ((first | refine gkc_fork ?_ ?_ | refine gkc_split ?_ ?_) <;> intro hq <;> simp -implicitDefEqProofs only [hq, avl, reduceCtorEq, ↓reduceIte, sevalprocAttr, sh, sh1, eqk_same]) | ((first | refine condc_fork ?_ ?_ | refine condc_bool ?_ ?_) <;> intro hq))
    try simp -implicitDefEqProofs only [List.append_assoc, avl, reduceCtorEq, ↓reduceIte, sevalprocAttr]
    first | refine retLt (by first | exact .inr rfl | exact .inl rfl) (by rfl) ?_ | refine retL1 (by first | exact .inr rfl | exact .inl rfl) (by rfl) ?_
    repeat' (first | exact trivial | apply And.intro)
    all_goals first
      | exact .same _ rfl
      | (refine .same _ ?_; (focus (simp [purs]; done)))
      | (refine .imm _ _ _ ?_; (focus (simp [purs]; done)))
      | (refine .le _ _ ?_ ?_; (focus (repeat' (first | exact trivial | exact le_same _ | exact le_imm (.inl rfl) | exact le_imm (.inr rfl) | (refine le_agg ?_) | apply And.intro))); (focus (simp [purs]; done)))
      | skip
  rw [if_neg (by simp [hv])]
  subst hv
  have hv' : (((4 : UInt8).toNat : Nat) : Int) = 4 := rfl
  by_cases hz : x9.toNat = t.length
  rotate_left
  · have hz' : ¬ (x9.toNat : Int) = t.length := by omega
    rw [if_pos hz]
    unfold getA hlA ntA zH
    refine act_of p_open_Get (by simp [c_open_Get]) ?_
    show AW _ b_open_Get (RetOk [.cell 4 (some 4), .cell 5 (some 3)] _ _) { n := 98, tm := [(0, _), (1, _)], box := [], fr := [] }
    unfold b_open_Get
    try simp -implicitDefEqProofs only [avl, reduceCtorEq, ↓reduceIte, sevalprocAttr, not_true_eq_false]
    repeat' (first | (refine (hκ _).mpr ?_; clear hκ) | refine kn1 ?_ | refine kr1 ?_ | refine ke1 ?_ | refine kn2 ?_ | refine kr2 ?_ | refine kx2 ?_ | refine ke2 rfl ?_ | refine kn3 ?_ | refine kr3 ?_ | refine ke3 ?_ | refine kn4 ?_ | refine kr4 ?_ | refine ke4 ?_ | refine w_seq ?_ | refine w_block ?_ | (refine aw_regk fun κ hκ => ?_; simp -implicitDefEqProofs only [avl, reduceCtorEq, ↓reduceIte, sevalprocAttr, not_true_eq_false]) | refine aw_exit ?_ | refine aw_ret ?_ | refine aw_skip ?_ | refine aw_label ?_ | refine condc_t ?_ | refine condc_f ?_ | (refine aw_cond2 (by simp -implicitDefEqProofs only [avl, reduceCtorEq, ↓reduceIte, sevalprocAttr, not_true_eq_false]; rfl) ?_) | ((first | refine gkc_fork ?_ ?_ | refine gkc_split ?_ ?_) <;> intro hq <;> simp -implicitDefEqProofs only [hq, avl, reduceCtorEq, ↓reduceIte, sevalprocAttr, not_true_eq_false]) | ((first | refine condc_fork ?_ ?_ | refine condc_bool ?_ ?_) <;> intro hq))
    first | refine callsc (hs) ?_ ?_ | refine callc (hs) ?_ ?_ | ((first | refine callsc (act_le (hs) ?_) ?_ ?_ | refine callc (act_le (hs) ?_) ?_ ?_); (focus (repeat' (first | exact trivial | exact le_same _ | exact le_imm (.inl rfl) | exact le_imm (.inr rfl) | (refine le_agg ?_) | apply And.intro))))
    (focus (simp [purs]; done))
    try simp -implicitDefEqProofs only [avl, reduceCtorEq, ↓reduceIte, sevalprocAttr, sh, sh1, Bool.not_true]
    repeat' (first | (refine (hκ _).mpr ?_; clear hκ) | refine kn1 ?_ | refine kr1 ?_ | refine ke1 ?_ | refine kn2 ?_ | refine kr2 ?_ | refine kx2 ?_ | refine ke2 rfl ?_ | refine kn3 ?_ | refine kr3 ?_ | refine ke3 ?_ | refine kn4 ?_ | refine kr4 ?_ | refine ke4 ?_ | refine w_seq ?_ | refine w_block ?_ | (refine aw_regk fun κ hκ => ?_; simp -implicitDefEqProofs only [avl, reduceCtorEq, ↓reduceIte, sevalprocAttr, sh, sh1, Bool.not_true]) | refine aw_exit ?_ | refine aw_ret ?_ | refine aw_skip ?_ | refine aw_label ?_ | refine condc_t ?_ | refine condc_f ?_ | (refine aw_cond2 (by simp -implicitDefEqProofs only [avl, reduceCtorEq, ↓reduceIte, sevalprocAttr, sh, sh1, Bool.not_true]; rfl) ?_) | ((first | refine gkc_fork ?_ ?_ | refine gkc_split ?_ ?_) <;> intro hq <;> simp -implicitDefEqProofs only [hq, avl, reduceCtorEq, ↓reduceIte, sevalprocAttr, sh, sh1, Bool.not_true]) | ((first | refine condc_fork ?_ ?_ | refine condc_bool ?_ ?_) <;> intro hq))
    first | refine callsc (g0) ?_ ?_ | refine callc (g0) ?_ ?_ | ((first | refine callsc (act_le (g0) ?_) ?_ ?_ | refine callc (act_le (g0) ?_) ?_ ?_); (focus (repeat' (first | exact trivial | exact le_same _ | exact le_imm (.inl rfl) | exact le_imm (.inr rfl) | (refine le_agg ?_) | apply And.intro))))
    (focus (simp [purs]; done))
    try simp -implicitDefEqProofs only [avl, reduceCtorEq, ↓reduceIte, sevalprocAttr, sh, sh1]
    repeat' (first | (refine (hκ _).mpr ?_; clear hκ) | refine kn1 ?_ | refine kr1 ?_ | refine ke1 ?_ | refine kn2 ?_ | refine kr2 ?_ | refine kx2 ?_ | refine ke2 rfl ?_ | refine kn3 ?_ | refine kr3 ?_ | refine ke3 ?_ | refine kn4 ?_ | refine kr4 ?_ | refine ke4 ?_ | refine w_seq ?_ | refine w_block ?_ | (refine aw_regk fun κ hκ => ?_; simp -implicitDefEqProofs only [avl, reduceCtorEq, ↓reduceIte, sevalprocAttr, sh, sh1]) | refine aw_exit ?_ | refine aw_ret ?_ | refine aw_skip ?_ | refine aw_label ?_ | refine condc_t ?_ | refine condc_f ?_ | (refine aw_cond2 (by simp -implicitDefEqProofs only [avl, reduceCtorEq, ↓reduceIte, sevalprocAttr, sh, sh1]; rfl) ?_) | ((first | refine gkc_fork ?_ ?_ | refine gkc_split ?_ ?_) <;> intro hq <;> simp -implicitDefEqProofs only [hq, avl, reduceCtorEq, ↓reduceIte, sevalprocAttr, sh, sh1]) | ((first | refine condc_fork ?_ ?_ | refine condc_bool ?_ ?_) <;> intro hq))
    first | refine callsc (g1) ?_ ?_ | refine callc (g1) ?_ ?_ | ((first | refine callsc (act_le (g1) ?_) ?_ ?_ | refine callc (act_le (g1) ?_) ?_ ?_); (focus (repeat' (first | exact trivial | exact le_same _ | exact le_imm (.inl rfl) | exact le_imm (.inr rfl) | (refine le_agg ?_) | apply And.intro))))
    (focus (simp [purs]; done))
    try simp -implicitDefEqProofs only [avl, reduceCtorEq, ↓reduceIte, sevalprocAttr, sh, sh1]
    repeat' (first | (refine (hκ _).mpr ?_; clear hκ) | refine kn1 ?_ | refine kr1 ?_ | refine ke1 ?_ | refine kn2 ?_ | refine kr2 ?_ | refine kx2 ?_ | refine ke2 rfl ?_ | refine kn3 ?_ | refine kr3 ?_ | refine ke3 ?_ | refine kn4 ?_ | refine kr4 ?_ | refine ke4 ?_ | refine w_seq ?_ | refine w_block ?_ | (refine aw_regk fun κ hκ => ?_; simp -implicitDefEqProofs only [avl, reduceCtorEq, ↓reduceIte, sevalprocAttr, sh, sh1]) | refine aw_exit ?_ | refine aw_ret ?_ | refine aw_skip ?_ | refine aw_label ?_ | refine condc_t ?_ | refine condc_f ?_ | (refine aw_cond2 (by simp -implicitDefEqProofs only [avl, reduceCtorEq, ↓reduceIte, sevalprocAttr, sh, sh1]; rfl) ?_) | ((first | refine gkc_fork ?_ ?_ | refine gkc_split ?_ ?_) <;> intro hq <;> simp -implicitDefEqProofs only [hq, avl, reduceCtorEq, ↓reduceIte, sevalprocAttr, sh, sh1]) | ((first | refine condc_fork ?_ ?_ | refine condc_bool ?_ ?_) <;> intro hq))
    first | refine callsc (g2) ?_ ?_ | refine callc (g2) ?_ ?_ | ((first | refine callsc (act_le (g2) ?_) ?_ ?_ | refine callc (act_le (g2) ?_) ?_ ?_); (focus (repeat' (first | exact trivial | exact le_same _ | exact le_imm (.inl rfl) | exact le_imm (.inr rfl) | (refine le_agg ?_) | apply And.intro))))
    (focus (simp [purs]; done))
    try simp -implicitDefEqProofs only [avl, reduceCtorEq, ↓reduceIte, sevalprocAttr, sh, sh1]
    repeat' (first | (refine (hκ _).mpr ?_; clear hκ) | refine kn1 ?_ | refine kr1 ?_ | refine ke1 ?_ | refine kn2 ?_ | refine kr2 ?_ | refine kx2 ?_ | refine ke2 rfl ?_ | refine kn3 ?_ | refine kr3 ?_ | refine ke3 ?_ | refine kn4 ?_ | refine kr4 ?_ | refine ke4 ?_ | refine w_seq ?_ | refine w_block ?_ | (refine aw_regk fun κ hκ => ?_; simp -implicitDefEqProofs only [avl, reduceCtorEq, ↓reduceIte, sevalprocAttr, sh, sh1]) | refine aw_exit ?_ | refine aw_ret ?_ | refine aw_skip ?_ | refine aw_label ?_ | refine condc_t ?_ | refine condc_f ?_ | (refine aw_cond2 (by simp -implicitDefEqProofs only [avl, reduceCtorEq, ↓reduceIte, sevalprocAttr, sh, sh1]; rfl) ?_) | ((first | refine gkc_fork ?_ ?_ | refine gkc_split ?_ ?_) <;> intro hq <;> simp -implicitDefEqProofs only [hq, avl, reduceCtorEq, ↓reduceIte, sevalprocAttr, sh, sh1]) | ((first | refine condc_fork ?_ ?_ | refine condc_bool ?_ ?_) <;> intro hq))
    first | refine callsc (g3) ?_ ?_ | refine callc (g3) ?_ ?_ | ((first | refine callsc (act_le (g3) ?_) ?_ ?_ | refine callc (act_le (g3) ?_) ?_ ?_); (focus (repeat' (first | exact trivial | exact le_same _ | exact le_imm (.inl rfl) | exact le_imm (.inr rfl) | (refine le_agg ?_) | apply And.intro))))
    (focus (simp [purs]; done))
    try simp -implicitDefEqProofs only [avl, reduceCtorEq, ↓reduceIte, sevalprocAttr, sh, sh1]
    repeat' (first | (refine (hκ _).mpr ?_; clear hκ) | refine kn1 ?_ | refine kr1 ?_ | refine ke1 ?_ | refine kn2 ?_ | refine kr2 ?_ | refine kx2 ?_ | refine ke2 rfl ?_ | refine kn3 ?_ | refine kr3 ?_ | refine ke3 ?_ | refine kn4 ?_ | refine kr4 ?_ | refine ke4 ?_ | refine w_seq ?_ | refine w_block ?_ | (refine aw_regk fun κ hκ => ?_; simp -implicitDefEqProofs only [avl, reduceCtorEq, ↓reduceIte, sevalprocAttr, sh, sh1]) | refine aw_exit ?_ | refine aw_ret ?_ | refine aw_skip ?_ | refine aw_label ?_ | refine condc_t ?_ | refine condc_f ?_ | (refine aw_cond2 (by simp -implicitDefEqProofs only [avl, reduceCtorEq, ↓reduceIte, sevalprocAttr, sh, sh1]; rfl) ?_) | ((first | refine gkc_fork ?_ ?_ | refine gkc_split ?_ ?_) <;> intro hq <;> simp -implicitDefEqProofs only [hq, avl, reduceCtorEq, ↓reduceIte, sevalprocAttr, sh, sh1]) | ((first | refine condc_fork ?_ ?_ | refine condc_bool ?_ ?_) <;> intro hq))
    first | refine callsc (g4) ?_ ?_ | refine callc (g4) ?_ ?_ | ((first | refine callsc (act_le (g4) ?_) ?_ ?_ | refine callc (act_le (g4) ?_) ?_ ?_); (focus (repeat' (first | exact trivial | exact le_same _ | exact le_imm (.inl rfl) | exact le_imm (.inr rfl) | (refine le_agg ?_) | apply And.intro))))
    (focus (simp [purs]; done))
    try simp -implicitDefEqProofs only [avl, reduceCtorEq, ↓reduceIte, sevalprocAttr, sh, sh1, hv', hz', not_false_eq_true, not_true_eq_false]
    repeat' (first | (refine (hκ _).mpr ?_; clear hκ) | refine kn1 ?_ | refine kr1 ?_ | refine ke1 ?_ | refine kn2 ?_ | refine kr2 ?_ | refine kx2 ?_ | refine ke2 rfl ?_ | refine kn3 ?_ | refine kr3 ?_ | refine ke3 ?_ | refine kn4 ?_ | refine kr4 ?_ | refine ke4 ?_ | refine w_seq ?_ | refine w_block ?_ | (refine aw_regk fun κ hκ => ?_; simp -implicitDefEqProofs only [avl, reduceCtorEq, ↓reduceIte, sevalprocAttr, sh, sh1, hv', hz', not_false_eq_true, not_true_eq_false]) | refine aw_exit ?_ | refine aw_ret ?_ | refine aw_skip ?_ | refine aw_label ?_ | refine condc_t ?_ | refine condc_f ?_ | (refine aw_cond2 (by simp -implicitDefEqProofs only [avl, reduceCtorEq, ↓reduceIte, sevalprocAttr, sh, sh1, hv', hz', not_false_eq_true, not_true_eq_false]; rfl) ?_) | ((first | refine gkc_fork ?_ ?_ | refine gkc_split ?_ ?_) <;> intro hq <;> simp -implicitDefEqProofs only [hq, avl, reduceCtorEq, ↓reduceIte, sevalprocAttr, sh, sh1, hv', hz', not_false_eq_true, not_true_eq_false]) | ((first | refine condc_fork ?_ ?_ | refine condc_bool ?_ ?_) <;> intro hq))
    try simp -implicitDefEqProofs only [List.append_assoc, avl, reduceCtorEq, ↓reduceIte, sevalprocAttr]
    first | refine retLt (by first | exact .inr rfl | exact .inl rfl) (by rfl) ?_ | refine retL1 (by first | exact .inr rfl | exact .inl rfl) (by rfl) ?_
    repeat' (first | exact trivial | apply And.intro)
    all_goals first
      | exact .same _ rfl
      | (refine .same _ ?_; (focus (simp [purs]; done)))
      | (refine .imm _ _ _ ?_; (focus (simp [purs]; done)))
      | (refine .le _ _ ?_ ?_; (focus (repeat' (first | exact trivial | exact le_same _ | exact le_imm (.inl rfl) | exact le_imm (.inr rfl) | (refine le_agg ?_) | apply And.intro))); (focus (simp [purs]; done)))
      | skip
  have hz' : (x9.toNat : Int) = t.length := by omega
  rw [if_neg (by simp [hz])]
  rcases hq : readS t with ⟨a, r, _ | e⟩
  · rw [hq] at hrd hft
    simp only at hrd hft ⊢
    generalize faultS a asn (num [x1, x2] : Nat) (num [x3, x4] : Nat) (num [x5, x6, x7, x8] : Nat) = q at hft ⊢
    obtain ⟨c, s, d⟩ := q
    simp only at hft ⊢
    unfold ntA at hft
    unfold sC nA nC at hrd
    by_cases hc : c = 0
    · rw [if_pos hc]
      subst hc
      unfold getA hlA ntA
      refine act_of p_open_Get (by simp [c_open_Get]) ?_
      show AW _ b_open_Get (RetOk [.cell 4 (some 4), .cell 5 (some 3)] _ _) { n := 98, tm := [(0, _), (1, _)], box := [], fr := [] }
      unfold b_open_Get
      try simp -implicitDefEqProofs only [avl, reduceCtorEq, ↓reduceIte, sevalprocAttr, not_true_eq_false]
      repeat' (first | (refine (hκ _).mpr ?_; clear hκ) | refine kn1 ?_ | refine kr1 ?_ | refine ke1 ?_ | refine kn2 ?_ | refine kr2 ?_ | refine kx2 ?_ | refine ke2 rfl ?_ | refine kn3 ?_ | refine kr3 ?_ | refine ke3 ?_ | refine kn4 ?_ | refine kr4 ?_ | refine ke4 ?_ | refine w_seq ?_ | refine w_block ?_ | (refine aw_regk fun κ hκ => ?_; simp -implicitDefEqProofs only [avl, reduceCtorEq, ↓reduceIte, sevalprocAttr, not_true_eq_false]) | refine aw_exit ?_ | refine aw_ret ?_ | refine aw_skip ?_ | refine aw_label ?_ | refine condc_t ?_ | refine condc_f ?_ | (refine aw_cond2 (by simp -implicitDefEqProofs only [avl, reduceCtorEq, ↓reduceIte, sevalprocAttr, not_true_eq_false]; rfl) ?_) | ((first | refine gkc_fork ?_ ?_ | refine gkc_split ?_ ?_) <;> intro hq <;> simp -implicitDefEqProofs only [hq, avl, reduceCtorEq, ↓reduceIte, sevalprocAttr, not_true_eq_false]) | ((first | refine condc_fork ?_ ?_ | refine condc_bool ?_ ?_) <;> intro hq))
      first | refine callsc (hs) ?_ ?_ | refine callc (hs) ?_ ?_ | ((first | refine callsc (act_le (hs) ?_) ?_ ?_ | refine callc (act_le (hs) ?_) ?_ ?_); (focus (repeat' (first | exact trivial | exact le_same _ | exact le_imm (.inl rfl) | exact le_imm (.inr rfl) | (refine le_agg ?_) | apply And.intro))))
      (focus (simp [purs]; done))
      try simp -implicitDefEqProofs only [avl, reduceCtorEq, ↓reduceIte, sevalprocAttr, sh, sh1, Bool.not_true]
      repeat' (first | (refine (hκ _).mpr ?_; clear hκ) | refine kn1 ?_ | refine kr1 ?_ | refine ke1 ?_ | refine kn2 ?_ | refine kr2 ?_ | refine kx2 ?_ | refine ke2 rfl ?_ | refine kn3 ?_ | refine kr3 ?_ | refine ke3 ?_ | refine kn4 ?_ | refine kr4 ?_ | refine ke4 ?_ | refine w_seq ?_ | refine w_block ?_ | (refine aw_regk fun κ hκ => ?_; simp -implicitDefEqProofs only [avl, reduceCtorEq, ↓reduceIte, sevalprocAttr, sh, sh1, Bool.not_true]) | refine aw_exit ?_ | refine aw_ret ?_ | refine aw_skip ?_ | refine aw_label ?_ | refine condc_t ?_ | refine condc_f ?_ | (refine aw_cond2 (by simp -implicitDefEqProofs only [avl, reduceCtorEq, ↓reduceIte, sevalprocAttr, sh, sh1, Bool.not_true]; rfl) ?_) | ((first | refine gkc_fork ?_ ?_ | refine gkc_split ?_ ?_) <;> intro hq <;> simp -implicitDefEqProofs only [hq, avl, reduceCtorEq, ↓reduceIte, sevalprocAttr, sh, sh1, Bool.not_true]) | ((first | refine condc_fork ?_ ?_ | refine condc_bool ?_ ?_) <;> intro hq))
      first | refine callsc (g0) ?_ ?_ | refine callc (g0) ?_ ?_ | ((first | refine callsc (act_le (g0) ?_) ?_ ?_ | refine callc (act_le (g0) ?_) ?_ ?_); (focus (repeat' (first | exact trivial | exact le_same _ | exact le_imm (.inl rfl) | exact le_imm (.inr rfl) | (refine le_agg ?_) | apply And.intro))))
      (focus (simp [purs]; done))
      try simp -implicitDefEqProofs only [avl, reduceCtorEq, ↓reduceIte, sevalprocAttr, sh, sh1]
      repeat' (first | (refine (hκ _).mpr ?_; clear hκ) | refine kn1 ?_ | refine kr1 ?_ | refine ke1 ?_ | refine kn2 ?_ | refine kr2 ?_ | refine kx2 ?_ | refine ke2 rfl ?_ | refine kn3 ?_ | refine kr3 ?_ | refine ke3 ?_ | refine kn4 ?_ | refine kr4 ?_ | refine ke4 ?_ | refine w_seq ?_ | refine w_block ?_ | (refine aw_regk fun κ hκ => ?_; simp -implicitDefEqProofs only [avl, reduceCtorEq, ↓reduceIte, sevalprocAttr, sh, sh1]) | refine aw_exit ?_ | refine aw_ret ?_ | refine aw_skip ?_ | refine aw_label ?_ | refine condc_t ?_ | refine condc_f ?_ | (refine aw_cond2 (by simp -implicitDefEqProofs only [avl, reduceCtorEq, ↓reduceIte, sevalprocAttr, sh, sh1]; rfl) ?_) | ((first | refine gkc_fork ?_ ?_ | refine gkc_split ?_ ?_) <;> intro hq <;> simp -implicitDefEqProofs only [hq, avl, reduceCtorEq, ↓reduceIte, sevalprocAttr, sh, sh1]) | ((first | refine condc_fork ?_ ?_ | refine condc_bool ?_ ?_) <;> intro hq))
      first | refine callsc (g1) ?_ ?_ | refine callc (g1) ?_ ?_ | ((first | refine callsc (act_le (g1) ?_) ?_ ?_ | refine callc (act_le (g1) ?_) ?_ ?_); (focus (repeat' (first | exact trivial | exact le_same _ | exact le_imm (.inl rfl) | exact le_imm (.inr rfl) | (refine le_agg ?_) | apply And.intro))))
      (focus (simp [purs]; done))
      try simp -implicitDefEqProofs only [avl, reduceCtorEq, ↓reduceIte, sevalprocAttr, sh, sh1]
      repeat' (first | (refine (hκ _).mpr ?_; clear hκ) | refine kn1 ?_ | refine kr1 ?_ | refine ke1 ?_ | refine kn2 ?_ | refine kr2 ?_ | refine kx2 ?_ | refine ke2 rfl ?_ | refine kn3 ?_ | refine kr3 ?_ | refine ke3 ?_ | refine kn4 ?_ | refine kr4 ?_ | refine ke4 ?_ | refine w_seq ?_ | refine w_block ?_ | (refine aw_regk fun κ hκ => ?_; simp -implicitDefEqProofs only [avl, reduceCtorEq, ↓reduceIte, sevalprocAttr, sh, sh1]) | refine aw_exit ?_ | refine aw_ret ?_ | refine aw_skip ?_ | refine aw_label ?_ | refine condc_t ?_ | refine condc_f ?_ | (refine aw_cond2 (by simp -implicitDefEqProofs only [avl, reduceCtorEq, ↓reduceIte, sevalprocAttr, sh, sh1]; rfl) ?_) | ((first | refine gkc_fork ?_ ?_ | refine gkc_split ?_ ?_) <;> intro hq <;> simp -implicitDefEqProofs only [hq, avl, reduceCtorEq, ↓reduceIte, sevalprocAttr, sh, sh1]) | ((first | refine condc_fork ?_ ?_ | refine condc_bool ?_ ?_) <;> intro hq))
      first | refine callsc (g2) ?_ ?_ | refine callc (g2) ?_ ?_ | ((first | refine callsc (act_le (g2) ?_) ?_ ?_ | refine callc (act_le (g2) ?_) ?_ ?_); (focus (repeat' (first | exact trivial | exact le_same _ | exact le_imm (.inl rfl) | exact le_imm (.inr rfl) | (refine le_agg ?_) | apply And.intro))))
      (focus (simp [purs]; done))
      try simp -implicitDefEqProofs only [avl, reduceCtorEq, ↓reduceIte, sevalprocAttr, sh, sh1]
      repeat' (first | (refine (hκ _).mpr ?_; clear hκ) | refine kn1 ?_ | refine kr1 ?_ | refine ke1 ?_ | refine kn2 ?_ | refine kr2 ?_ | refine kx2 ?_ | refine ke2 rfl ?_ | refine kn3 ?_ | refine kr3 ?_ | refine ke3 ?_ | refine kn4 ?_ | refine kr4 ?_ | refine ke4 ?_ | refine w_seq ?_ | refine w_block ?_ | (refine aw_regk fun κ hκ => ?_; simp -implicitDefEqProofs only [avl, reduceCtorEq, ↓reduceIte, sevalprocAttr, sh, sh1]) | refine aw_exit ?_ | refine aw_ret ?_ | refine aw_skip ?_ | refine aw_label ?_ | refine condc_t ?_ | refine condc_f ?_ | (refine aw_cond2 (by simp -implicitDefEqProofs only [avl, reduceCtorEq, ↓reduceIte, sevalprocAttr, sh, sh1]; rfl) ?_) | ((first | refine gkc_fork ?_ ?_ | refine gkc_split ?_ ?_) <;> intro hq <;> simp -implicitDefEqProofs only [hq, avl, reduceCtorEq, ↓reduceIte, sevalprocAttr, sh, sh1]) | ((first | refine condc_fork ?_ ?_ | refine condc_bool ?_ ?_) <;> intro hq))
      first | refine callsc (g3) ?_ ?_ | refine callc (g3) ?_ ?_ | ((first | refine callsc (act_le (g3) ?_) ?_ ?_ | refine callc (act_le (g3) ?_) ?_ ?_); (focus (repeat' (first | exact trivial | exact le_same _ | exact le_imm (.inl rfl) | exact le_imm (.inr rfl) | (refine le_agg ?_) | apply And.intro))))
      (focus (simp [purs]; done))
      try simp -implicitDefEqProofs only [avl, reduceCtorEq, ↓reduceIte, sevalprocAttr, sh, sh1]
      repeat' (first | (refine (hκ _).mpr ?_; clear hκ) | refine kn1 ?_ | refine kr1 ?_ | refine ke1 ?_ | refine kn2 ?_ | refine kr2 ?_ | refine kx2 ?_ | refine ke2 rfl ?_ | refine kn3 ?_ | refine kr3 ?_ | refine ke3 ?_ | refine kn4 ?_ | refine kr4 ?_ | refine ke4 ?_ | refine w_seq ?_ | refine w_block ?_ | (refine aw_regk fun κ hκ => ?_; simp -implicitDefEqProofs only [avl, reduceCtorEq, ↓reduceIte, sevalprocAttr, sh, sh1]) | refine aw_exit ?_ | refine aw_ret ?_ | refine aw_skip ?_ | refine aw_label ?_ | refine condc_t ?_ | refine condc_f ?_ | (refine aw_cond2 (by simp -implicitDefEqProofs only [avl, reduceCtorEq, ↓reduceIte, sevalprocAttr, sh, sh1]; rfl) ?_) | ((first | refine gkc_fork ?_ ?_ | refine gkc_split ?_ ?_) <;> intro hq <;> simp -implicitDefEqProofs only [hq, avl, reduceCtorEq, ↓reduceIte, sevalprocAttr, sh, sh1]) | ((first | refine condc_fork ?_ ?_ | refine condc_bool ?_ ?_) <;> intro hq))
      first | refine callsc (g4) ?_ ?_ | refine callc (g4) ?_ ?_ | ((first | refine callsc (act_le (g4) ?_) ?_ ?_ | refine callc (act_le (g4) ?_) ?_ ?_); (focus (repeat' (first | exact trivial | exact le_same _ | exact le_imm (.inl rfl) | exact le_imm (.inr rfl) | (refine le_agg ?_) | apply And.intro))))
      (focus (simp [purs]; done))
      try simp -implicitDefEqProofs only [avl, reduceCtorEq, ↓reduceIte, sevalprocAttr, sh, sh1, hv', (eq_true hz'), not_false_eq_true, not_true_eq_false]
      repeat' (first | (refine (hκ _).mpr ?_; clear hκ) | refine kn1 ?_ | refine kr1 ?_ | refine ke1 ?_ | refine kn2 ?_ | refine kr2 ?_ | refine kx2 ?_ | refine ke2 rfl ?_ | refine kn3 ?_ | refine kr3 ?_ | refine ke3 ?_ | refine kn4 ?_ | refine kr4 ?_ | refine ke4 ?_ | refine w_seq ?_ | refine w_block ?_ | (refine aw_regk fun κ hκ => ?_; simp -implicitDefEqProofs only [avl, reduceCtorEq, ↓reduceIte, sevalprocAttr, sh, sh1, hv', (eq_true hz'), not_false_eq_true, not_true_eq_false]) | refine aw_exit ?_ | refine aw_ret ?_ | refine aw_skip ?_ | refine aw_label ?_ | refine condc_t ?_ | refine condc_f ?_ | (refine aw_cond2 (by simp -implicitDefEqProofs only [avl, reduceCtorEq, ↓reduceIte, sevalprocAttr, sh, sh1, hv', (eq_true hz'), not_false_eq_true, not_true_eq_false]; rfl) ?_) | ((first | refine gkc_fork ?_ ?_ | refine gkc_split ?_ ?_) <;> intro hq <;> simp -implicitDefEqProofs only [hq, avl, reduceCtorEq, ↓reduceIte, sevalprocAttr, sh, sh1, hv', (eq_true hz'), not_false_eq_true, not_true_eq_false]) | ((first | refine condc_fork ?_ ?_ | refine condc_bool ?_ ?_) <;> intro hq))
      first | refine callsc (hrd) ?_ ?_ | refine callc (hrd) ?_ ?_ | ((first | refine callsc (act_le (hrd) ?_) ?_ ?_ | refine callc (act_le (hrd) ?_) ?_ ?_); (focus (repeat' (first | exact trivial | exact le_same _ | exact le_imm (.inl rfl) | exact le_imm (.inr rfl) | (refine le_agg ?_) | apply And.intro))))
      (focus (simp [purs]; done))
      try simp -implicitDefEqProofs only [avl, reduceCtorEq, ↓reduceIte, sevalprocAttr, sh, sh1]
      repeat' (first | (refine (hκ _).mpr ?_; clear hκ) | refine kn1 ?_ | refine kr1 ?_ | refine ke1 ?_ | refine kn2 ?_ | refine kr2 ?_ | refine kx2 ?_ | refine ke2 rfl ?_ | refine kn3 ?_ | refine kr3 ?_ | refine ke3 ?_ | refine kn4 ?_ | refine kr4 ?_ | refine ke4 ?_ | refine w_seq ?_ | refine w_block ?_ | (refine aw_regk fun κ hκ => ?_; simp -implicitDefEqProofs only [avl, reduceCtorEq, ↓reduceIte, sevalprocAttr, sh, sh1]) | refine aw_exit ?_ | refine aw_ret ?_ | refine aw_skip ?_ | refine aw_label ?_ | refine condc_t ?_ | refine condc_f ?_ | (refine aw_cond2 (by simp -implicitDefEqProofs only [avl, reduceCtorEq, ↓reduceIte, sevalprocAttr, sh, sh1]; rfl) ?_) | ((first | refine gkc_fork ?_ ?_ | refine gkc_split ?_ ?_) <;> intro hq <;> simp -implicitDefEqProofs only [hq, avl, reduceCtorEq, ↓reduceIte, sevalprocAttr, sh, sh1]) | ((first | refine condc_fork ?_ ?_ | refine condc_bool ?_ ?_) <;> intro hq))
      first | refine callsc (hft) ?_ ?_ | refine callc (hft) ?_ ?_ | ((first | refine callsc (act_le (hft) ?_) ?_ ?_ | refine callc (act_le (hft) ?_) ?_ ?_); (focus (repeat' (first | exact trivial | exact le_same _ | exact le_imm (.inl rfl) | exact le_imm (.inr rfl) | (refine le_agg ?_) | apply And.intro))))
      (focus (simp [purs]; done))
      try simp -implicitDefEqProofs only [avl, reduceCtorEq, ↓reduceIte, sevalprocAttr, sh, sh1, not_true_eq_false]
      repeat' (first | (refine (hκ _).mpr ?_; clear hκ) | refine kn1 ?_ | refine kr1 ?_ | refine ke1 ?_ | refine kn2 ?_ | refine kr2 ?_ | refine kx2 ?_ | refine ke2 rfl ?_ | refine kn3 ?_ | refine kr3 ?_ | refine ke3 ?_ | refine kn4 ?_ | refine kr4 ?_ | refine ke4 ?_ | refine w_seq ?_ | refine w_block ?_ | (refine aw_regk fun κ hκ => ?_; simp -implicitDefEqProofs only [avl, reduceCtorEq, ↓reduceIte, sevalprocAttr, sh, sh1, not_true_eq_false]) | refine aw_exit ?_ | refine aw_ret ?_ | refine aw_skip ?_ | refine aw_label ?_ | refine condc_t ?_ | refine condc_f ?_ | (refine aw_cond2 (by simp -implicitDefEqProofs only [avl, reduceCtorEq, ↓reduceIte, sevalprocAttr, sh, sh1, not_true_eq_false]; rfl) ?_) | ((first | refine gkc_fork ?_ ?_ | refine gkc_split ?_ ?_) <;> intro hq <;> simp -implicitDefEqProofs only [hq, avl, reduceCtorEq, ↓reduceIte, sevalprocAttr, sh, sh1, not_true_eq_false]) | ((first | refine condc_fork ?_ ?_ | refine condc_bool ?_ ?_) <;> intro hq))
      try simp -implicitDefEqProofs only [List.append_assoc, avl, reduceCtorEq, ↓reduceIte, sevalprocAttr]
      first | refine retLt (by first | exact .inr rfl | exact .inl rfl) (by rfl) ?_ | refine retL1 (by first | exact .inr rfl | exact .inl rfl) (by rfl) ?_
      repeat' (first | exact trivial | apply And.intro)
      all_goals first
        | exact .same _ rfl
        | (refine .same _ ?_; (focus (simp [purs]; done)))
        | (refine .imm _ _ _ ?_; (focus (simp [purs]; done)))
        | (refine .le _ _ ?_ ?_; (focus (repeat' (first | exact trivial | exact le_same _ | exact le_imm (.inl rfl) | exact le_imm (.inr rfl) | (refine le_agg ?_) | apply And.intro))); (focus (simp [purs]; done)))
        | skip
    · rw [if_neg hc]
      unfold getA hlA ntA zH
      refine act_of p_open_Get (by simp [c_open_Get]) ?_
      show AW _ b_open_Get (RetOk [.cell 4 (some 4), .cell 5 (some 3)] _ _) { n := 98, tm := [(0, _), (1, _)], box := [], fr := [] }
      unfold b_open_Get
      try simp -implicitDefEqProofs only [avl, reduceCtorEq, ↓reduceIte, sevalprocAttr, not_true_eq_false]
      repeat' (first | (refine (hκ _).mpr ?_; clear hκ) | refine kn1 ?_ | refine kr1 ?_ | refine ke1 ?_ | refine kn2 ?_ | refine kr2 ?_ | refine kx2 ?_ | refine ke2 rfl ?_ | refine kn3 ?_ | refine kr3 ?_ | refine ke3 ?_ | refine kn4 ?_ | refine kr4 ?_ | refine ke4 ?_ | refine w_seq ?_ | refine w_block ?_ | (refine aw_regk fun κ hκ => ?_; simp -implicitDefEqProofs only [avl, reduceCtorEq, ↓reduceIte, sevalprocAttr, not_true_eq_false]) | refine aw_exit ?_ | refine aw_ret ?_ | refine aw_skip ?_ | refine aw_label ?_ | refine condc_t ?_ | refine condc_f ?_ | (refine aw_cond2 (by simp -implicitDefEqProofs only [avl, reduceCtorEq, ↓reduceIte, sevalprocAttr, not_true_eq_false]; rfl) ?_) | ((first | refine gkc_fork ?_ ?_ | refine gkc_split ?_ ?_) <;> intro hq <;> simp -implicitDefEqProofs only [hq, avl, reduceCtorEq, ↓reduceIte, sevalprocAttr, not_true_eq_false]) | ((first | refine condc_fork ?_ ?_ | refine condc_bool ?_ ?_) <;> intro hq))
      first | refine callsc (hs) ?_ ?_ | refine callc (hs) ?_ ?_ | ((first | refine callsc (act_le (hs) ?_) ?_ ?_ | refine callc (act_le (hs) ?_) ?_ ?_); (focus (repeat' (first | exact trivial | exact le_same _ | exact le_imm (.inl rfl) | exact le_imm (.inr rfl) | (refine le_agg ?_) | apply And.intro))))
      (focus (simp [purs]; done))
      try simp -implicitDefEqProofs only [avl, reduceCtorEq, ↓reduceIte, sevalprocAttr, sh, sh1, Bool.not_true]
      repeat' (first | (refine (hκ _).mpr ?_; clear hκ) | refine kn1 ?_ | refine kr1 ?_ | refine ke1 ?_ | refine kn2 ?_ | refine kr2 ?_ | refine kx2 ?_ | refine ke2 rfl ?_ | refine kn3 ?_ | refine kr3 ?_ | refine ke3 ?_ | refine kn4 ?_ | refine kr4 ?_ | refine ke4 ?_ | refine w_seq ?_ | refine w_block ?_ | (refine aw_regk fun κ hκ => ?_; simp -implicitDefEqProofs only [avl, reduceCtorEq, ↓reduceIte, sevalprocAttr, sh, sh1, Bool.not_true]) | refine aw_exit ?_ | refine aw_ret ?_ | refine aw_skip ?_ | refine aw_label ?_ | refine condc_t ?_ | refine condc_f ?_ | (refine aw_cond2 (by simp -implicitDefEqProofs only [avl, reduceCtorEq, ↓reduceIte, sevalprocAttr, sh, sh1, Bool.not_true]; rfl) ?_) | ((first | refine gkc_fork ?_ ?_ | refine gkc_split ?_ ?_) <;> intro hq <;> simp -implicitDefEqProofs only [hq, avl, reduceCtorEq, ↓reduceIte, sevalprocAttr, sh, sh1, Bool.not_true]) | ((first | refine condc_fork ?_ ?_ | refine condc_bool ?_ ?_) <;> intro hq))
      first | refine callsc (g0) ?_ ?_ | refine callc (g0) ?_ ?_ | ((first | refine callsc (act_le (g0) ?_) ?_ ?_ | refine callc (act_le (g0) ?_) ?_ ?_); (focus (repeat' (first | exact trivial | exact le_same _ | exact le_imm (.inl rfl) | exact le_imm (.inr rfl) | (refine le_agg ?_) | apply And.intro))))
      (focus (simp [purs]; done))
      try simp -implicitDefEqProofs only [avl, reduceCtorEq, ↓reduceIte, sevalprocAttr, sh, sh1]
      repeat' (first | (refine (hκ _).mpr ?_; clear hκ) | refine kn1 ?_ | refine kr1 ?_ | refine ke1 ?_ | refine kn2 ?_ | refine kr2 ?_ | refine kx2 ?_ | refine ke2 rfl ?_ | refine kn3 ?_ | refine kr3 ?_ | refine ke3 ?_ | refine kn4 ?_ | refine kr4 ?_ | refine ke4 ?_ | refine w_seq ?_ | refine w_block ?_ | (refine aw_regk fun κ hκ => ?_; simp -implicitDefEqProofs only [avl, reduceCtorEq, ↓reduceIte, sevalprocAttr, sh, sh1]) | refine aw_exit ?_ | refine aw_ret ?_ | refine aw_skip ?_ | refine aw_label ?_ | refine condc_t ?_ | refine condc_f ?_ | (refine aw_cond2 (by simp -implicitDefEqProofs only [avl, reduceCtorEq, ↓reduceIte, sevalprocAttr, sh, sh1]; rfl) ?_) | ((first | refine gkc_fork ?_ ?_ | refine gkc_split ?_ ?_) <;> intro hq <;> simp -implicitDefEqProofs only [hq, avl, reduceCtorEq, ↓reduceIte, sevalprocAttr, sh, sh1]) | ((first | refine condc_fork ?_ ?_ | refine condc_bool ?_ ?_) <;> intro hq))
      first | refine callsc (g1) ?_ ?_ | refine callc (g1) ?_ ?_ | ((first | refine callsc (act_le (g1) ?_) ?_ ?_ | refine callc (act_le (g1) ?_) ?_ ?_); (focus (repeat' (first | exact trivial | exact le_same _ | exact le_imm (.inl rfl) | exact le_imm (.inr rfl) | (refine le_agg ?_) | apply And.intro))))
      (focus (simp [purs]; done))
      try simp -implicitDefEqProofs only [avl, reduceCtorEq, ↓reduceIte, sevalprocAttr, sh, sh1]
      repeat' (first | (refine (hκ _).mpr ?_; clear hκ) | refine kn1 ?_ | refine kr1 ?_ | refine ke1 ?_ | refine kn2 ?_ | refine kr2 ?_ | refine kx2 ?_ | refine ke2 rfl ?_ | refine kn3 ?_ | refine kr3 ?_ | refine ke3 ?_ | refine kn4 ?_ | refine kr4 ?_ | refine ke4 ?_ | refine w_seq ?_ | refine w_block ?_ | (refine aw_regk fun κ hκ => ?_; simp -implicitDefEqProofs only [avl, reduceCtorEq, ↓reduceIte, sevalprocAttr, sh, sh1]) | refine aw_exit ?_ | refine aw_ret ?_ | refine aw_skip ?_ | refine aw_label ?_ | refine condc_t ?_ | refine condc_f ?_ | (refine aw_cond2 (by simp -implicitDefEqProofs only [avl, reduceCtorEq, ↓reduceIte, sevalprocAttr, sh, sh1]; rfl) ?_) | ((first | refine gkc_fork ?_ ?_ | refine gkc_split ?_ ?_) <;> intro hq <;> simp -implicitDefEqProofs only [hq, avl, reduceCtorEq, ↓reduceIte, sevalprocAttr, sh, sh1]) | ((first | refine condc_fork ?_ ?_ | refine condc_bool ?_ ?_) <;> intro hq))
      first | refine callsc (g2) ?_ ?_ | refine callc (g2) ?_ ?_ | ((first | refine callsc (act_le (g2) ?_) ?_ ?_ | refine callc (act_le (g2) ?_) ?_ ?_); (focus (repeat' (first | exact trivial | exact le_same _ | exact le_imm (.inl rfl) | exact le_imm (.inr rfl) | (refine le_agg ?_) | apply And.intro))))
      (focus (simp [purs]; done))
      try simp -implicitDefEqProofs only [avl, reduceCtorEq, ↓reduceIte, sevalprocAttr, sh, sh1]
      repeat' (first | (refine (hκ _).mpr ?_; clear hκ) | refine kn1 ?_ | refine kr1 ?_ | refine ke1 ?_ | refine kn2 ?_ | refine kr2 ?_ | refine kx2 ?_ | refine ke2 rfl ?_ | refine kn3 ?_ | refine kr3 ?_ | refine ke3 ?_ | refine kn4 ?_ | refine kr4 ?_ | refine ke4 ?_ | refine w_seq ?_ | refine w_block ?_ | (refine aw_regk fun κ hκ => ?_; simp -implicitDefEqProofs only [avl, reduceCtorEq, ↓reduceIte, sevalprocAttr, sh, sh1]) | refine aw_exit ?_ | refine aw_ret ?_ | refine aw_skip ?_ | refine aw_label ?_ | refine condc_t ?_ | refine condc_f ?_ | (refine aw_cond2 (by simp -implicitDefEqProofs only [avl, reduceCtorEq, ↓reduceIte, sevalprocAttr, sh, sh1]; rfl) ?_) | ((first | refine gkc_fork ?_ ?_ | refine gkc_split ?_ ?_) <;> intro hq <;> simp -implicitDefEqProofs only [hq, avl, reduceCtorEq, ↓reduceIte, sevalprocAttr, sh, sh1]) | ((first | refine condc_fork ?_ ?_ | refine condc_bool ?_ ?_) <;> intro hq))
      first | refine callsc (g3) ?_ ?_ | refine callc (g3) ?_ ?_ | ((first | refine callsc (act_le (g3) ?_) ?_ ?_ | refine callc (act_le (g3) ?_) ?_ ?_); (focus (repeat' (first | exact trivial | exact le_same _ | exact le_imm (.inl rfl) | exact le_imm (.inr rfl) | (refine le_agg ?_) | apply And.intro))))
      (focus (simp [purs]; done))
      try simp -implicitDefEqProofs only [avl, reduceCtorEq, ↓reduceIte, sevalprocAttr, sh, sh1]
      repeat' (first | (refine (hκ _).mpr ?_; clear hκ) | refine kn1 ?_ | refine kr1 ?_ | refine ke1 ?_ | refine kn2 ?_ | refine kr2 ?_ | refine kx2 ?_ | refine ke2 rfl ?_ | refine kn3 ?_ | refine kr3 ?_ | refine ke3 ?_ | refine kn4 ?_ | refine kr4 ?_ | refine ke4 ?_ | refine w_seq ?_ | refine w_block ?_ | (refine aw_regk fun κ hκ => ?_; simp -implicitDefEqProofs only [avl, reduceCtorEq, ↓reduceIte, sevalprocAttr, sh, sh1]) | refine aw_exit ?_ | refine aw_ret ?_ | refine aw_skip ?_ | refine aw_label ?_ | refine condc_t ?_ | refine condc_f ?_ | (refine aw_cond2 (by simp -implicitDefEqProofs only [avl, reduceCtorEq, ↓reduceIte, sevalprocAttr, sh, sh1]; rfl) ?_) | ((first | refine gkc_fork ?_ ?_ | refine gkc_split ?_ ?_) <;> intro hq <;> simp -implicitDefEqProofs only [hq, avl, reduceCtorEq, ↓reduceIte, sevalprocAttr, sh, sh1]) | ((first | refine condc_fork ?_ ?_ | refine condc_bool ?_ ?_) <;> intro hq))
      first | refine callsc (g4) ?_ ?_ | refine callc (g4) ?_ ?_ | ((first | refine callsc (act_le (g4) ?_) ?_ ?_ | refine callc (act_le (g4) ?_) ?_ ?_); (focus (repeat' (first | exact trivial | exact le_same _ | exact le_imm (.inl rfl) | exact le_imm (.inr rfl) | (refine le_agg ?_) | apply And.intro))))
      (focus (simp [purs]; done))
      try simp -implicitDefEqProofs only [avl, reduceCtorEq, ↓reduceIte, sevalprocAttr, sh, sh1, hv', (eq_true hz'), not_false_eq_true, not_true_eq_false]
      repeat' (first | (refine (hκ _).mpr ?_; clear hκ) | refine kn1 ?_ | refine kr1 ?_ | refine ke1 ?_ | refine kn2 ?_ | refine kr2 ?_ | refine kx2 ?_ | refine ke2 rfl ?_ | refine kn3 ?_ | refine kr3 ?_ | refine ke3 ?_ | refine kn4 ?_ | refine kr4 ?_ | refine ke4 ?_ | refine w_seq ?_ | refine w_block ?_ | (refine aw_regk fun κ hκ => ?_; simp -implicitDefEqProofs only [avl, reduceCtorEq, ↓reduceIte, sevalprocAttr, sh, sh1, hv', (eq_true hz'), not_false_eq_true, not_true_eq_false]) | refine aw_exit ?_ | refine aw_ret ?_ | refine aw_skip ?_ | refine aw_label ?_ | refine condc_t ?_ | refine condc_f ?_ | (refine aw_cond2 (by simp -implicitDefEqProofs only [avl, reduceCtorEq, ↓reduceIte, sevalprocAttr, sh, sh1, hv', (eq_true hz'), not_false_eq_true, not_true_eq_false]; rfl) ?_) | ((first | refine gkc_fork ?_ ?_ | refine gkc_split ?_ ?_) <;> intro hq <;> simp -implicitDefEqProofs only [hq, avl, reduceCtorEq, ↓reduceIte, sevalprocAttr, sh, sh1, hv', (eq_true hz'), not_false_eq_true, not_true_eq_false]) | ((first | refine condc_fork ?_ ?_ | refine condc_bool ?_ ?_) <;> intro hq))
      first | refine callsc (hrd) ?_ ?_ | refine callc (hrd) ?_ ?_ | ((first | refine callsc (act_le (hrd) ?_) ?_ ?_ | refine callc (act_le (hrd) ?_) ?_ ?_); (focus (repeat' (first | exact trivial | exact le_same _ | exact le_imm (.inl rfl) | exact le_imm (.inr rfl) | (refine le_agg ?_) | apply And.intro))))
      (focus (simp [purs]; done))
      try simp -implicitDefEqProofs only [avl, reduceCtorEq, ↓reduceIte, sevalprocAttr, sh, sh1]
      repeat' (first | (refine (hκ _).mpr ?_; clear hκ) | refine kn1 ?_ | refine kr1 ?_ | refine ke1 ?_ | refine kn2 ?_ | refine kr2 ?_ | refine kx2 ?_ | refine ke2 rfl ?_ | refine kn3 ?_ | refine kr3 ?_ | refine ke3 ?_ | refine kn4 ?_ | refine kr4 ?_ | refine ke4 ?_ | refine w_seq ?_ | refine w_block ?_ | (refine aw_regk fun κ hκ => ?_; simp -implicitDefEqProofs only [avl, reduceCtorEq, ↓reduceIte, sevalprocAttr, sh, sh1]) | refine aw_exit ?_ | refine aw_ret ?_ | refine aw_skip ?_ | refine aw_label ?_ | refine condc_t ?_ | refine condc_f ?_ | (refine aw_cond2 (by simp -implicitDefEqProofs only [avl, reduceCtorEq, ↓reduceIte, sevalprocAttr, sh, sh1]; rfl) ?_) | ((first | refine gkc_fork ?_ ?_ | refine gkc_split ?_ ?_) <;> intro hq <;> simp -implicitDefEqProofs only [hq, avl, reduceCtorEq, ↓reduceIte, sevalprocAttr, sh, sh1]) | ((first | refine condc_fork ?_ ?_ | refine condc_bool ?_ ?_) <;> intro hq))
      first | refine callsc (hft) ?_ ?_ | refine callc (hft) ?_ ?_ | ((first | refine callsc (act_le (hft) ?_) ?_ ?_ | refine callc (act_le (hft) ?_) ?_ ?_); (focus (repeat' (first | exact trivial | exact le_same _ | exact le_imm (.inl rfl) | exact le_imm (.inr rfl) | (refine le_agg ?_) | apply And.intro))))
      (focus (simp [purs]; done))
      try simp -implicitDefEqProofs only [avl, reduceCtorEq, ↓reduceIte, sevalprocAttr, sh, sh1, hc, not_false_eq_true]
      repeat' (first | (refine (hκ _).mpr ?_; clear hκ) | refine kn1 ?_ | refine kr1 ?_ | refine ke1 ?_ | refine kn2 ?_ | refine kr2 ?_ | refine kx2 ?_ | refine ke2 rfl ?_ | refine kn3 ?_ | refine kr3 ?_ | refine ke3 ?_ | refine kn4 ?_ | refine kr4 ?_ | refine ke4 ?_ | refine w_seq ?_ | refine w_block ?_ | (refine aw_regk fun κ hκ => ?_; simp -implicitDefEqProofs only [avl, reduceCtorEq, ↓reduceIte, sevalprocAttr, sh, sh1, hc, not_false_eq_true]) | refine aw_exit ?_ | refine aw_ret ?_ | refine aw_skip ?_ | refine aw_label ?_ | refine condc_t ?_ | refine condc_f ?_ | (refine aw_cond2 (by simp -implicitDefEqProofs only [avl, reduceCtorEq, ↓reduceIte, sevalprocAttr, sh, sh1, hc, not_false_eq_true]; rfl) ?_) | ((first | refine gkc_fork ?_ ?_ | refine gkc_split ?_ ?_) <;> intro hq <;> simp -implicitDefEqProofs only [hq, avl, reduceCtorEq, ↓reduceIte, sevalprocAttr, sh, sh1, hc, not_false_eq_true]) | ((first | refine condc_fork ?_ ?_ | refine condc_bool ?_ ?_) <;> intro hq))
      try simp -implicitDefEqProofs only [List.append_assoc, avl, reduceCtorEq, ↓reduceIte, sevalprocAttr]
      first | refine retLt (by first | exact .inr rfl | exact .inl rfl) (by rfl) ?_ | refine retL1 (by first | exact .inr rfl | exact .inl rfl) (by rfl) ?_
      repeat' (first | exact trivial | apply And.intro)
      all_goals first
        | exact .same _ rfl
        | (refine .same _ ?_; (focus (simp [purs]; done)))
        | (refine .imm _ _ _ ?_; (focus (simp [purs]; done)))
        | (refine .le _ _ ?_ ?_; (focus (repeat' (first | exact trivial | exact le_same _ | exact le_imm (.inl rfl) | exact le_imm (.inr rfl) | (refine le_agg ?_) | apply And.intro))); (focus (simp [purs]; done)))
        | skip
  · rw [hq] at hrd
    simp only at hrd ⊢
    unfold sC nA nC at hrd
    unfold getA hlA ntA zH
    refine act_of p_open_Get (by simp [c_open_Get]) ?_
    show AW _ b_open_Get (RetOk [.cell 4 (some 4), .cell 5 (some 3)] _ _) { n := 98, tm := [(0, _), (1, _)], box := [], fr := [] }
    unfold b_open_Get
    try simp -implicitDefEqProofs only [avl, reduceCtorEq, ↓reduceIte, sevalprocAttr, not_true_eq_false]
    repeat' (first | (refine (hκ _).mpr ?_; clear hκ) | refine kn1 ?_ | refine kr1 ?_ | refine ke1 ?_ | refine kn2 ?_ | refine kr2 ?_ | refine kx2 ?_ | refine ke2 rfl ?_ | refine kn3 ?_ | refine kr3 ?_ | refine ke3 ?_ | refine kn4 ?_ | refine kr4 ?_ | refine ke4 ?_ | refine w_seq ?_ | refine w_block ?_ | (refine aw_regk fun κ hκ => ?_; simp -implicitDefEqProofs only [avl, reduceCtorEq, ↓reduceIte, sevalprocAttr, not_true_eq_false]) | refine aw_exit ?_ | refine aw_ret ?_ | refine aw_skip ?_ | refine aw_label ?_ | refine condc_t ?_ | refine condc_f ?_ | (refine aw_cond2 (by simp -implicitDefEqProofs only [avl, reduceCtorEq, ↓reduceIte, sevalprocAttr, not_true_eq_false]; rfl) ?_) | ((first | refine gkc_fork ?_ ?_ | refine gkc_split ?_ ?_) <;> intro hq <;> simp -implicitDefEqProofs only [hq, avl, reduceCtorEq, ↓reduceIte, sevalprocAttr, not_true_eq_false]) | ((first | refine condc_fork ?_ ?_ | refine condc_bool ?_ ?_) <;> intro hq))
    first | refine callsc (hs) ?_ ?_ | refine callc (hs) ?_ ?_ | ((first | refine callsc (act_le (hs) ?_) ?_ ?_ | refine callc (act_le (hs) ?_) ?_ ?_); (focus (repeat' (first | exact trivial | exact le_same _ | exact le_imm (.inl rfl) | exact le_imm (.inr rfl) | (refine le_agg ?_) | apply And.intro))))
    (focus (simp [purs]; done))
    try simp -implicitDefEqProofs only [avl, reduceCtorEq, ↓reduceIte, sevalprocAttr, sh, sh1, Bool.not_true]
    repeat' (first | (refine (hκ _).mpr ?_; clear hκ) | refine kn1 ?_ | refine kr1 ?_ | refine ke1 ?_ | refine kn2 ?_ | refine kr2 ?_ | refine kx2 ?_ | refine ke2 rfl ?_ | refine kn3 ?_ | refine kr3 ?_ | refine ke3 ?_ | refine kn4 ?_ | refine kr4 ?_ | refine ke4 ?_ | refine w_seq ?_ | refine w_block ?_ | (refine aw_regk fun κ hκ => ?_; simp -implicitDefEqProofs only [avl, reduceCtorEq, ↓reduceIte, sevalprocAttr, sh, sh1, Bool.not_true]) | refine aw_exit ?_ | refine aw_ret ?_ | refine aw_skip ?_ | refine aw_label ?_ | refine condc_t ?_ | refine condc_f ?_ | (refine aw_cond2 (by simp -implicitDefEqProofs only [avl, reduceCtorEq, ↓reduceIte, sevalprocAttr, sh, sh1, Bool.not_true]; rfl) ?_) | ((first | refine gkc_fork ?_ ?_ | refine gkc_split ?_ ?_) <;> intro hq <;> simp -implicitDefEqProofs only [hq, avl, reduceCtorEq, ↓reduceIte, sevalprocAttr, sh, sh1, Bool.not_true]) | ((first | refine condc_fork ?_ ?_ | refine condc_bool ?_ ?_) <;> intro hq))
    first | refine callsc (g0) ?_ ?_ | refine callc (g0) ?_ ?_ | ((first | refine callsc (act_le (g0) ?_) ?_ ?_ | refine callc (act_le (g0) ?_) ?_ ?_); (focus (repeat' (first | exact trivial | exact le_same _ | exact le_imm (.inl rfl) | exact le_imm (.inr rfl) | (refine le_agg ?_) | apply And.intro))))
    (focus (simp [purs]; done))
    try simp -implicitDefEqProofs only [avl, reduceCtorEq, ↓reduceIte, sevalprocAttr, sh, sh1]
    repeat' (first | (refine (hκ _).mpr ?_; clear hκ) | refine kn1 ?_ | refine kr1 ?_ | refine ke1 ?_ | refine kn2 ?_ | refine kr2 ?_ | refine kx2 ?_ | refine ke2 rfl ?_ | refine kn3 ?_ | refine kr3 ?_ | refine ke3 ?_ | refine kn4 ?_ | refine kr4 ?_ | refine ke4 ?_ | refine w_seq ?_ | refine w_block ?_ | (refine aw_regk fun κ hκ => ?_; simp -implicitDefEqProofs only [avl, reduceCtorEq, ↓reduceIte, sevalprocAttr, sh, sh1]) | refine aw_exit ?_ | refine aw_ret ?_ | refine aw_skip ?_ | refine aw_label ?_ | refine condc_t ?_ | refine condc_f ?_ | (refine aw_cond2 (by simp -implicitDefEqProofs only [avl, reduceCtorEq, ↓reduceIte, sevalprocAttr, sh, sh1]; rfl) ?_) | ((first | refine gkc_fork ?_ ?_ | refine gkc_split ?_ ?_) <;> intro hq <;> simp -implicitDefEqProofs only [hq, avl, reduceCtorEq, ↓reduceIte, sevalprocAttr, sh, sh1]) | ((first | refine condc_fork ?_ ?_ | refine condc_bool ?_ ?_) <;> intro hq))
    first | refine callsc (g1) ?_ ?_ | refine callc (g1) ?_ ?_ | ((first | refine callsc (act_le (g1) ?_) ?_ ?_ | refine callc (act_le (g1) ?_) ?_ ?_); (focus (repeat' (first | exact trivial | exact le_same _ | exact le_imm (.inl rfl) | exact le_imm (.inr rfl) | (refine le_agg ?_) | apply And.intro))))
    (focus (simp [purs]; done))
    try simp -implicitDefEqProofs only [avl, reduceCtorEq, ↓reduceIte, sevalprocAttr, sh, sh1]
    repeat' (first | (refine (hκ _).mpr ?_; clear hκ) | refine kn1 ?_ | refine kr1 ?_ | refine ke1 ?_ | refine kn2 ?_ | refine kr2 ?_ | refine kx2 ?_ | refine ke2 rfl ?_ | refine kn3 ?_ | refine kr3 ?_ | refine ke3 ?_ | refine kn4 ?_ | refine kr4 ?_ | refine ke4 ?_ | refine w_seq ?_ | refine w_block ?_ | (refine aw_regk fun κ hκ => ?_; simp -implicitDefEqProofs only [avl, reduceCtorEq, ↓reduceIte, sevalprocAttr, sh, sh1]) | refine aw_exit ?_ | refine aw_ret ?_ | refine aw_skip ?_ | refine aw_label ?_ | refine condc_t ?_ | refine condc_f ?_ | (refine aw_cond2 (by simp -implicitDefEqProofs only [avl, reduceCtorEq, ↓reduceIte, sevalprocAttr, sh, sh1]; rfl) ?_) | ((first | refine gkc_fork ?_ ?_ | refine gkc_split ?_ ?_) <;> intro hq <;> simp -implicitDefEqProofs only [hq, avl, reduceCtorEq, ↓reduceIte, sevalprocAttr, sh, sh1]) | ((first | refine condc_fork ?_ ?_ | refine condc_bool ?_ ?_) <;> intro hq))
    first | refine callsc (g2) ?_ ?_ | refine callc (g2) ?_ ?_ | ((first | refine callsc (act_le (g2) ?_) ?_ ?_ | refine callc (act_le (g2) ?_) ?_ ?_); (focus (repeat' (first | exact trivial | exact le_same _ | exact le_imm (.inl rfl) | exact le_imm (.inr rfl) | (refine le_agg ?_) | apply And.intro))))
    (focus (simp [purs]; done))
    try simp -implicitDefEqProofs only [avl, reduceCtorEq, ↓reduceIte, sevalprocAttr, sh, sh1]
    repeat' (first | (refine (hκ _).mpr ?_; clear hκ) | refine kn1 ?_ | refine kr1 ?_ | refine ke1 ?_ | refine kn2 ?_ | refine kr2 ?_ | refine kx2 ?_ | refine ke2 rfl ?_ | refine kn3 ?_ | refine kr3 ?_ | refine ke3 ?_ | refine kn4 ?_ | refine kr4 ?_ | refine ke4 ?_ | refine w_seq ?_ | refine w_block ?_ | (refine aw_regk fun κ hκ => ?_; simp -implicitDefEqProofs only [avl, reduceCtorEq, ↓reduceIte, sevalprocAttr, sh, sh1]) | refine aw_exit ?_ | refine aw_ret ?_ | refine aw_skip ?_ | refine aw_label ?_ | refine condc_t ?_ | refine condc_f ?_ | (refine aw_cond2 (by simp -implicitDefEqProofs only [avl, reduceCtorEq, ↓reduceIte, sevalprocAttr, sh, sh1]; rfl) ?_) | ((first | refine gkc_fork ?_ ?_ | refine gkc_split ?_ ?_) <;> intro hq <;> simp -implicitDefEqProofs only [hq, avl, reduceCtorEq, ↓reduceIte, sevalprocAttr, sh, sh1]) | ((first | refine condc_fork ?_ ?_ | refine condc_bool ?_ ?_) <;> intro hq))
    first | refine callsc (g3) ?_ ?_ | refine callc (g3) ?_ ?_ | ((first | refine callsc (act_le (g3) ?_) ?_ ?_ | refine callc (act_le (g3) ?_) ?_ ?_); (focus (repeat' (first | exact trivial | exact le_same _ | exact le_imm (.inl rfl) | exact le_imm (.inr rfl) | (refine le_agg ?_) | apply And.intro))))
    (focus (simp [purs]; done))
    try simp -implicitDefEqProofs only [avl, reduceCtorEq, ↓reduceIte, sevalprocAttr, sh, sh1]
    repeat' (first | (refine (hκ _).mpr ?_; clear hκ) | refine kn1 ?_ | refine kr1 ?_ | refine ke1 ?_ | refine kn2 ?_ | refine kr2 ?_ | refine kx2 ?_ | refine ke2 rfl ?_ | refine kn3 ?_ | refine kr3 ?_ | refine ke3 ?_ | refine kn4 ?_ | refine kr4 ?_ | refine ke4 ?_ | refine w_seq ?_ | refine w_block ?_ | (refine aw_regk fun κ hκ => ?_; simp -implicitDefEqProofs only [avl, reduceCtorEq, ↓reduceIte, sevalprocAttr, sh, sh1]) | refine aw_exit ?_ | refine aw_ret ?_ | refine aw_skip ?_ | refine aw_label ?_ | refine condc_t ?_ | refine condc_f ?_ | (refine aw_cond2 (by simp -implicitDefEqProofs only [avl, reduceCtorEq, ↓reduceIte, sevalprocAttr, sh, sh1]; rfl) ?_) | ((first | refine gkc_fork ?_ ?_ | refine gkc_split ?_ ?_) <;> intro hq <;> simp -implicitDefEqProofs only [hq, avl, reduceCtorEq, ↓reduceIte, sevalprocAttr, sh, sh1]) | ((first | refine condc_fork ?_ ?_ | refine condc_bool ?_ ?_) <;> intro hq))
    first | refine callsc (g4) ?_ ?_ | refine callc (g4) ?_ ?_ | ((first | refine callsc (act_le (g4) ?_) ?_ ?_ | refine callc (act_le (g4) ?_) ?_ ?_); (focus (repeat' (first | exact trivial | exact le_same _ | exact le_imm (.inl rfl) | exact le_imm (.inr rfl) | (refine le_agg ?_) | apply And.intro))))
    (focus (simp [purs]; done))
    try simp -implicitDefEqProofs only [avl, reduceCtorEq, ↓reduceIte, sevalprocAttr, sh, sh1, hv', (eq_true hz'), not_false_eq_true, not_true_eq_false]
    repeat' (first | (refine (hκ _).mpr ?_; clear hκ) | refine kn1 ?_ | refine kr1 ?_ | refine ke1 ?_ | refine kn2 ?_ | refine kr2 ?_ | refine kx2 ?_ | refine ke2 rfl ?_ | refine kn3 ?_ | refine kr3 ?_ | refine ke3 ?_ | refine kn4 ?_ | refine kr4 ?_ | refine ke4 ?_ | refine w_seq ?_ | refine w_block ?_ | (refine aw_regk fun κ hκ => ?_; simp -implicitDefEqProofs only [avl, reduceCtorEq, ↓reduceIte, sevalprocAttr, sh, sh1, hv', (eq_true hz'), not_false_eq_true, not_true_eq_false]) | refine aw_exit ?_ | refine aw_ret ?_ | refine aw_skip ?_ | refine aw_label ?_ | refine condc_t ?_ | refine condc_f ?_ | (refine aw_cond2 (by simp -implicitDefEqProofs only [avl, reduceCtorEq, ↓reduceIte, sevalprocAttr, sh, sh1, hv', (eq_true hz'), not_false_eq_true, not_true_eq_false]; rfl) ?_) | ((first | refine gkc_fork ?_ ?_ | refine gkc_split ?_ ?_) <;> intro hq <;> simp -implicitDefEqProofs only [hq, avl, reduceCtorEq, ↓reduceIte, sevalprocAttr, sh, sh1, hv', (eq_true hz'), not_false_eq_true, not_true_eq_false]) | ((first | refine condc_fork ?_ ?_ | refine condc_bool ?_ ?_) <;> intro hq))
    first | refine callsc (hrd) ?_ ?_ | refine callc (hrd) ?_ ?_ | ((first | refine callsc (act_le (hrd) ?_) ?_ ?_ | refine callc (act_le (hrd) ?_) ?_ ?_); (focus (repeat' (first | exact trivial | exact le_same _ | exact le_imm (.inl rfl) | exact le_imm (.inr rfl) | (refine le_agg ?_) | apply And.intro))))
    (focus (simp [purs]; done))
    try simp -implicitDefEqProofs only [avl, reduceCtorEq, ↓reduceIte, sevalprocAttr, sh, sh1, (show ¬ (2 : Int) = 0 by decide), not_false_eq_true]
    repeat' (first | (refine (hκ _).mpr ?_; clear hκ) | refine kn1 ?_ | refine kr1 ?_ | refine ke1 ?_ | refine kn2 ?_ | refine kr2 ?_ | refine kx2 ?_ | refine ke2 rfl ?_ | refine kn3 ?_ | refine kr3 ?_ | refine ke3 ?_ | refine kn4 ?_ | refine kr4 ?_ | refine ke4 ?_ | refine w_seq ?_ | refine w_block ?_ | (refine aw_regk fun κ hκ => ?_; simp -implicitDefEqProofs only [avl, reduceCtorEq, ↓reduceIte, sevalprocAttr, sh, sh1, (show ¬ (2 : Int) = 0 by decide), not_false_eq_true]) | refine aw_exit ?_ | refine aw_ret ?_ | refine aw_skip ?_ | refine aw_label ?_ | refine condc_t ?_ | refine condc_f ?_ | (refine aw_cond2 (by simp -implicitDefEqProofs only [avl, reduceCtorEq, ↓reduceIte, sevalprocAttr, sh, sh1, (show ¬ (2 : Int) = 0 by decide), not_false_eq_true]; rfl) ?_) | ((first | refine gkc_fork ?_ ?_ | refine gkc_split ?_ ?_) <;> intro hq <;> simp -implicitDefEqProofs only [hq, avl, reduceCtorEq, ↓reduceIte, sevalprocAttr, sh, sh1, (show ¬ (2 : Int) = 0 by decide), not_false_eq_true]) | ((first | refine condc_fork ?_ ?_ | refine condc_bool ?_ ?_) <;> intro hq))
    try simp -implicitDefEqProofs only [List.append_assoc, avl, reduceCtorEq, ↓reduceIte, sevalprocAttr]
    first | refine retLt (by first | exact .inr rfl | exact .inl rfl) (by rfl) ?_ | refine retL1 (by first | exact .inr rfl | exact .inl rfl) (by rfl) ?_
    repeat' (first | exact trivial | apply And.intro)
    all_goals first
      | exact .same _ rfl
      | (refine .same _ ?_; (focus (simp [purs]; done)))
      | (refine .imm _ _ _ ?_; (focus (simp [purs]; done)))
      | (refine .le _ _ ?_ ?_; (focus (repeat' (first | exact trivial | exact le_same _ | exact le_imm (.inl rfl) | exact le_imm (.inr rfl) | (refine le_agg ?_) | apply And.intro))); (focus (simp [purs]; done)))
      | skip
end Go.Proofs.Ytgakgilaikgboaa
