/- Octets, over plain values. -/
import Derived.Test.YtgakgilaikgboaaOctL
import Derived.Test.YtgakgilaikgboaaAc
namespace Go.Proofs.Ytgakgilaikgboaa
open Go.RowKit
set_option maxHeartbeats 4000000
set_option maxRecDepth 100000
set_option linter.unusedSimpArgs false
set_option linter.unusedVariables false

theorem take_all {α β : Type} (f : α → β) (l : List α) : List.take l.length (List.map f l) = List.map f l := List.take_of_length_le (by simp)
theorem u8_fdiv (v : Int) (j : Nat) (h : j ≤ 3) : IntKind.u8.wrap (v.fdiv (2 ^ (min (8 * j) 64))) = ((octAt v j).toNat : Int) := by
  have e : (bv (octAt v j)) = .int .u8 (v / (2 : Int) ^ (8 * j) % 256) := bv_octAt v j
  unfold bv at e
  injection e with _ e
  rw [e, Nat.min_eq_left (by omega)]
  have : v.fdiv (2 ^ (8 * j)) = v / 2 ^ (8 * j) := by
    rw [Int.fdiv_eq_ediv_of_nonneg]
    exact Int.le_of_lt (Int.pow_pos (by decide))
  rw [this]
  simp only [IntKind.wrap, IntKind.signed, IntKind.bits, Bool.false_and, Bool.false_eq_true, if_false]
  rfl
theorem octPut_ac (l : List UInt8) (v : Int) (k : Nat) (h1 : 1 ≤ k) (h4 : k ≤ 4) (hn : l.length ≤ 1000000) :
    ACt Try.prog 42 [.slice .imm 1 (l.map bA), .int .i64 v, .int .i64 (k : Int)] (.slice (.app 0) 1 ((l ++ putL v k).map bA)) [(5, l.length + k)] := by
  refine act_of p_octet_Put (by simp [c_octet_Put]) ?_
  show AW _ b_octet_Put (RetOk [.tmp 6] _ _) { n := 39, tm := [(0, _), (1, _), (2, _)], box := [], fr := [] }
  unfold b_octet_Put
  have c1 : ¬ ((k : Int) < 1) := by omega
  have c2 : ¬ ((k : Int) > 4) := by omega
  try simp -implicitDefEqProofs only [avl, reduceCtorEq, ↓reduceIte, sevalprocAttr, c1, c2]
  repeat' (first | (refine (hκ _).mpr ?_; clear hκ) | refine kn1 ?_ | refine kr1 ?_ | refine ke1 ?_ | refine kn2 ?_ | refine kr2 ?_ | refine kx2 ?_ | refine ke2 rfl ?_ | refine kn3 ?_ | refine kr3 ?_ | refine ke3 ?_ | refine kn4 ?_ | refine kr4 ?_ | refine ke4 ?_ | refine w_seq ?_ | refine w_block ?_ | (refine aw_regk fun κ hκ => ?_; simp -implicitDefEqProofs only [avl, reduceCtorEq, ↓reduceIte, sevalprocAttr, c1, c2]) | refine aw_exit ?_ | refine aw_ret ?_ | refine aw_skip ?_ | refine aw_label ?_ | refine condc_t ?_ | refine condc_f ?_ | (refine aw_cond2 (by simp -implicitDefEqProofs only [avl, reduceCtorEq, ↓reduceIte, sevalprocAttr, c1, c2]; rfl) ?_) | ((first | refine gkc_fork ?_ ?_ | refine gkc_split ?_ ?_) <;> intro hq <;> simp -implicitDefEqProofs only [hq, avl, reduceCtorEq, ↓reduceIte, sevalprocAttr, c1, c2]) | ((first | refine condc_fork ?_ ?_ | refine condc_bool ?_ ?_) <;> intro hq))
  refine w_loop (fun (j : Nat) => j ≤ k) (fun (j : Nat) => { n := 39, tm := [(1, .int .i64 v), (2, .int .i64 k), (7, .slice (.app 0) 1 ((l ++ (putL v k).take j).map bA)), (22, .int .i64 k), (23, .int .i64 j)], box := [], fr := [(5, l.length + j)] }) (fun j => k - j) 0 (Nat.zero_le _) ?_ ?_
  · refine wk_of 0 [(5, l.length + 0)] ?_ ?_ rfl rfl ?_ ?_ ?_
    rotate_left 3
    rotate_left 2
    focus (first | rfl | (simp; done) | (simp; omega))
    focus (first | rfl | (simp; done) | (simp; omega) | exact Nat.zero_le _)
    focus (first | exact ⟨Nat.zero_le _, Nat.zero_le _⟩ | (simp; done) | (simp; omega))
    all_goals (repeat' (first | exact trivial | apply And.intro))
    all_goals first
      | exact rfl
      | exact .same _ rfl
      | exact .und _
      | (refine .same _ ?_; (focus (simp [okB, okBL]; done)))
      | (refine .same _ (okB_pur ?_); (focus (simp [purs]; done)))
      | (refine .same _ (ok_app ?_ ?_); (focus (simp; done)); (focus (simp [purs]; done)))
      | (simp -implicitDefEqProofs only [List.append_assoc, avl, reduceCtorEq, ↓reduceIte, sevalprocAttr, take_all, List.take_zero, List.append_nil]; first | exact .same _ rfl | (refine .same _ ?_; (focus (simp [okB, okBL]; done))) | (refine .same _ (okB_pur ?_); (focus (simp [purs]; done))) | (refine .same _ (ok_app ?_ ?_); (focus (simp; done)); (focus (simp [purs]; done))) | (refine .tag _ _ _ _ _ ?_ ?_ (fr_at rfl ?_) (okBL_pur ?_); (focus (first | exact .inl rfl | (simp [take_all, List.take_zero, List.append_nil]; done))); (focus (simp; done)); (focus (first | rfl | (simp; done) | (simp; omega))); (focus (simp [purs]; done))) | (refine .imm _ _ _ _ ?_ (okBL_pur ?_); (focus (first | exact .inl rfl | (simp [take_all, List.take_zero, List.append_nil]; done))); (focus (simp [purs]; done))) | skip)
      | skip
  · intro j hj
    by_cases hlt : j < k
    · have e1 : IntKind.i64.wrap ((k : Int) - 1) = ((k - 1 : Nat) : Int) := by rw [wrap64 (by omega) (by omega)]; omega
      have e2 : IntKind.i64.wrap (((k - 1 : Nat) : Int) - (j : Int)) = ((k - 1 - j : Nat) : Int) := by rw [wrap64 (by omega) (by omega)]; omega
      have e3 : IntKind.i64.wrap (8 * ((k - 1 - j : Nat) : Int)) = ((8 * (k - 1 - j) : Nat) : Int) := by rw [wrap64 (by omega) (by omega)]; omega
      have e4 : ¬ (((8 * (k - 1 - j) : Nat) : Int) < 0) := by omega
      have e5 := u8_fdiv v (k - 1 - j) (by omega)
      have e6 : IntKind.i64.wrap ((j : Int) + 1) = ((j + 1 : Nat) : Int) := by rw [wrap64 (by omega) (by omega)]; omega
      have e7 : min j (putL v k).length = j := by rw [putL_length]; omega
      have e8 : l.length + j + 1 ≤ 140737488355328 := by omega
      have e9 : l.length + j + 1 ≤ maxLen := by unfold maxLen; omega
      try simp -implicitDefEqProofs only [avl, reduceCtorEq, ↓reduceIte, sevalprocAttr, hlt, e1, e2, e3, e4, e5, e6, e7, e8, e9, List.length_take, Nat.mul_one, (show IntKind.i64.bits = 64 from rfl)]
      repeat' (first | (refine (hκ _).mpr ?_; clear hκ) | refine kn1 ?_ | refine kr1 ?_ | refine ke1 ?_ | refine kn2 ?_ | refine kr2 ?_ | refine kx2 ?_ | refine ke2 rfl ?_ | refine kn3 ?_ | refine kr3 ?_ | refine ke3 ?_ | refine kn4 ?_ | refine kr4 ?_ | refine ke4 ?_ | refine w_seq ?_ | refine w_block ?_ | (refine aw_regk fun κ hκ => ?_; simp -implicitDefEqProofs only [avl, reduceCtorEq, ↓reduceIte, sevalprocAttr, hlt, e1, e2, e3, e4, e5, e6, e7, e8, e9, List.length_take, Nat.mul_one, (show IntKind.i64.bits = 64 from rfl)]) | refine aw_exit ?_ | refine aw_ret ?_ | refine aw_skip ?_ | refine aw_label ?_ | refine condc_t ?_ | refine condc_f ?_ | (refine aw_cond2 (by simp -implicitDefEqProofs only [avl, reduceCtorEq, ↓reduceIte, sevalprocAttr, hlt, e1, e2, e3, e4, e5, e6, e7, e8, e9, List.length_take, Nat.mul_one, (show IntKind.i64.bits = 64 from rfl)]; rfl) ?_) | ((first | refine gkc_fork ?_ ?_ | refine gkc_split ?_ ?_) <;> intro hq <;> simp -implicitDefEqProofs only [hq, avl, reduceCtorEq, ↓reduceIte, sevalprocAttr, hlt, e1, e2, e3, e4, e5, e6, e7, e8, e9, List.length_take, Nat.mul_one, (show IntKind.i64.bits = 64 from rfl)]) | ((first | refine condc_fork ?_ ?_ | refine condc_bool ?_ ?_) <;> intro hq))
      refine ⟨j + 1, hlt, ?_, by show k - (j + 1) < k - j; omega⟩
      rw [putL_step v k j hlt]
      refine wk_of 1 [] ?_ ?_ rfl rfl ?_ ?_ ?_
      rotate_left 3
      rotate_left 2
      focus (first | rfl | (simp; done) | (simp; omega))
      focus (first | rfl | (simp; done) | (simp; omega) | exact Nat.zero_le _)
      focus (first | exact ⟨Nat.zero_le _, Nat.zero_le _⟩ | (simp; done) | (simp; omega))
      all_goals (repeat' (first | exact trivial | apply And.intro))
      all_goals first
        | exact rfl
        | exact .same _ rfl
        | exact .und _
        | (refine .same _ ?_; (focus (simp [okB, okBL]; done)))
        | (refine .same _ (okB_pur ?_); (focus (simp [purs]; done)))
        | (refine .same _ (ok_app ?_ ?_); (focus (simp; done)); (focus (simp [purs]; done)))
        | (simp -implicitDefEqProofs only [List.append_assoc, avl, reduceCtorEq, ↓reduceIte, sevalprocAttr, bA]; first | exact .same _ rfl | (refine .same _ ?_; (focus (simp [okB, okBL]; done))) | (refine .same _ (okB_pur ?_); (focus (simp [purs]; done))) | (refine .same _ (ok_app ?_ ?_); (focus (simp; done)); (focus (simp [purs]; done))) | (refine .tag _ _ _ _ _ ?_ ?_ (fr_at rfl ?_) (okBL_pur ?_); (focus (first | exact .inl rfl | (simp [bA]; done))); (focus (simp; done)); (focus (first | rfl | (simp; done) | (simp; omega))); (focus (simp [purs]; done))) | (refine .imm _ _ _ _ ?_ (okBL_pur ?_); (focus (first | exact .inl rfl | (simp [bA]; done))); (focus (simp [purs]; done))) | skip)
        | skip
    · obtain rfl : j = k := by have hj : j ≤ k := hj; omega
      have e7 : List.take j (putL v j) = putL v j := List.take_of_length_le (by rw [putL_length]; exact Nat.le_refl _)
      try simp -implicitDefEqProofs only [avl, reduceCtorEq, ↓reduceIte, sevalprocAttr, Nat.lt_irrefl, e7]
      repeat' (first | (refine (hκ _).mpr ?_; clear hκ) | refine kn1 ?_ | refine kr1 ?_ | refine ke1 ?_ | refine kn2 ?_ | refine kr2 ?_ | refine kx2 ?_ | refine ke2 rfl ?_ | refine kn3 ?_ | refine kr3 ?_ | refine ke3 ?_ | refine kn4 ?_ | refine kr4 ?_ | refine ke4 ?_ | refine w_seq ?_ | refine w_block ?_ | (refine aw_regk fun κ hκ => ?_; simp -implicitDefEqProofs only [avl, reduceCtorEq, ↓reduceIte, sevalprocAttr, Nat.lt_irrefl, e7]) | refine aw_exit ?_ | refine aw_ret ?_ | refine aw_skip ?_ | refine aw_label ?_ | refine condc_t ?_ | refine condc_f ?_ | (refine aw_cond2 (by simp -implicitDefEqProofs only [avl, reduceCtorEq, ↓reduceIte, sevalprocAttr, Nat.lt_irrefl, e7]; rfl) ?_) | ((first | refine gkc_fork ?_ ?_ | refine gkc_split ?_ ?_) <;> intro hq <;> simp -implicitDefEqProofs only [hq, avl, reduceCtorEq, ↓reduceIte, sevalprocAttr, Nat.lt_irrefl, e7]) | ((first | refine condc_fork ?_ ?_ | refine condc_bool ?_ ?_) <;> intro hq))
      exact ret_app rfl rfl (by simp [purL, purL_map_eq, purL_append, pur, bA])

/-- The number of k octets, and what is behind. -/
theorem octTake_ac (l : List UInt8) (n : Int) :
    ACt Try.prog 57 [.slice .imm 1 (l.map bA), .int .i64 n] (.tup (if 0 ≤ n ∧ n ≤ l.length then [.slice .imm 1 ((l.take n.toNat).map bA), .slice .imm 1 ((l.drop n.toNat).map bA), .bool true] else [.slice .full 0 [], .slice .full 0 [], .bool false])) [] := by
  refine act_of p_octet_Take (by simp [c_octet_Take]) ?_
  show AW _ b_octet_Take (RetOk [.tmp 4, .tmp 5, .tmp 6] _ _) { n := 22, tm := [(0, _), (1, _)], box := [], fr := [] }
  unfold b_octet_Take
  by_cases hn : 0 ≤ n ∧ n ≤ l.length
  · have c1 : ¬ n < 0 := by omega
    have c2 : ¬ n > (l.length : Int) := by omega
    have c3 : n.toNat ≤ l.length := by omega
    rw [if_pos hn]
    try simp -implicitDefEqProofs only [avl, reduceCtorEq, ↓reduceIte, sevalprocAttr, c1, c2, c3, hn.1]
    repeat' (first | (refine (hκ _).mpr ?_; clear hκ) | refine kn1 ?_ | refine kr1 ?_ | refine ke1 ?_ | refine kn2 ?_ | refine kr2 ?_ | refine kx2 ?_ | refine ke2 rfl ?_ | refine kn3 ?_ | refine kr3 ?_ | refine ke3 ?_ | refine kn4 ?_ | refine kr4 ?_ | refine ke4 ?_ | refine w_seq ?_ | refine w_block ?_ | (refine aw_regk fun κ hκ => ?_; simp -implicitDefEqProofs only [avl, reduceCtorEq, ↓reduceIte, sevalprocAttr, c1, c2, c3, hn.1]) | refine aw_exit ?_ | refine aw_ret ?_ | refine aw_skip ?_ | refine aw_label ?_ | refine condc_t ?_ | refine condc_f ?_ | (refine aw_cond2 (by simp -implicitDefEqProofs only [avl, reduceCtorEq, ↓reduceIte, sevalprocAttr, c1, c2, c3, hn.1]; rfl) ?_) | ((first | refine gkc_fork ?_ ?_ | refine gkc_split ?_ ?_) <;> intro hq <;> simp -implicitDefEqProofs only [hq, avl, reduceCtorEq, ↓reduceIte, sevalprocAttr, c1, c2, c3, hn.1]) | ((first | refine condc_fork ?_ ?_ | refine condc_bool ?_ ?_) <;> intro hq))
    try simp -implicitDefEqProofs only [List.append_assoc, avl, reduceCtorEq, ↓reduceIte, sevalprocAttr, take_all, List.map_take, List.map_drop]
    first | refine retLt (by first | exact .inr rfl | exact .inl rfl) (by rfl) ?_ | refine retL1 (by first | exact .inr rfl | exact .inl rfl) (by rfl) ?_
    repeat' (first | exact trivial | apply And.intro)
    all_goals first
      | exact .same _ rfl
      | (refine .same _ ?_; (focus (simp [purs]; done)))
      | (refine .imm _ _ _ ?_; (focus (simp [purs]; done)))
      | (refine .le _ _ ?_ ?_; (focus (repeat' (first | exact trivial | exact le_same _ | exact le_imm (.inl rfl) | exact le_imm (.inr rfl) | (refine le_agg ?_) | apply And.intro))); (focus (simp [purs]; done)))
      | skip
  · rw [if_neg hn]
    by_cases c1 : n < 0
    · try simp -implicitDefEqProofs only [avl, reduceCtorEq, ↓reduceIte, sevalprocAttr, c1]
      repeat' (first | (refine (hκ _).mpr ?_; clear hκ) | refine kn1 ?_ | refine kr1 ?_ | refine ke1 ?_ | refine kn2 ?_ | refine kr2 ?_ | refine kx2 ?_ | refine ke2 rfl ?_ | refine kn3 ?_ | refine kr3 ?_ | refine ke3 ?_ | refine kn4 ?_ | refine kr4 ?_ | refine ke4 ?_ | refine w_seq ?_ | refine w_block ?_ | (refine aw_regk fun κ hκ => ?_; simp -implicitDefEqProofs only [avl, reduceCtorEq, ↓reduceIte, sevalprocAttr, c1]) | refine aw_exit ?_ | refine aw_ret ?_ | refine aw_skip ?_ | refine aw_label ?_ | refine condc_t ?_ | refine condc_f ?_ | (refine aw_cond2 (by simp -implicitDefEqProofs only [avl, reduceCtorEq, ↓reduceIte, sevalprocAttr, c1]; rfl) ?_) | ((first | refine gkc_fork ?_ ?_ | refine gkc_split ?_ ?_) <;> intro hq <;> simp -implicitDefEqProofs only [hq, avl, reduceCtorEq, ↓reduceIte, sevalprocAttr, c1]) | ((first | refine condc_fork ?_ ?_ | refine condc_bool ?_ ?_) <;> intro hq))
      try simp -implicitDefEqProofs only [List.append_assoc, avl, reduceCtorEq, ↓reduceIte, sevalprocAttr]
      first | refine retLt (by first | exact .inr rfl | exact .inl rfl) (by rfl) ?_ | refine retL1 (by first | exact .inr rfl | exact .inl rfl) (by rfl) ?_
      repeat' (first | exact trivial | apply And.intro)
      all_goals first
        | exact .same _ rfl
        | (refine .same _ ?_; (focus (simp [purs]; done)))
        | (refine .imm _ _ _ ?_; (focus (simp [purs]; done)))
        | (refine .le _ _ ?_ ?_; (focus (repeat' (first | exact trivial | exact le_same _ | exact le_imm (.inl rfl) | exact le_imm (.inr rfl) | (refine le_agg ?_) | apply And.intro))); (focus (simp [purs]; done)))
        | skip
    · have c2 : n > (l.length : Int) := by omega
      try simp -implicitDefEqProofs only [avl, reduceCtorEq, ↓reduceIte, sevalprocAttr, c1, c2]
      repeat' (first | (refine (hκ _).mpr ?_; clear hκ) | refine kn1 ?_ | refine kr1 ?_ | refine ke1 ?_ | refine kn2 ?_ | refine kr2 ?_ | refine kx2 ?_ | refine ke2 rfl ?_ | refine kn3 ?_ | refine kr3 ?_ | refine ke3 ?_ | refine kn4 ?_ | refine kr4 ?_ | refine ke4 ?_ | refine w_seq ?_ | refine w_block ?_ | (refine aw_regk fun κ hκ => ?_; simp -implicitDefEqProofs only [avl, reduceCtorEq, ↓reduceIte, sevalprocAttr, c1, c2]) | refine aw_exit ?_ | refine aw_ret ?_ | refine aw_skip ?_ | refine aw_label ?_ | refine condc_t ?_ | refine condc_f ?_ | (refine aw_cond2 (by simp -implicitDefEqProofs only [avl, reduceCtorEq, ↓reduceIte, sevalprocAttr, c1, c2]; rfl) ?_) | ((first | refine gkc_fork ?_ ?_ | refine gkc_split ?_ ?_) <;> intro hq <;> simp -implicitDefEqProofs only [hq, avl, reduceCtorEq, ↓reduceIte, sevalprocAttr, c1, c2]) | ((first | refine condc_fork ?_ ?_ | refine condc_bool ?_ ?_) <;> intro hq))
      try simp -implicitDefEqProofs only [List.append_assoc, avl, reduceCtorEq, ↓reduceIte, sevalprocAttr]
      first | refine retLt (by first | exact .inr rfl | exact .inl rfl) (by rfl) ?_ | refine retL1 (by first | exact .inr rfl | exact .inl rfl) (by rfl) ?_
      repeat' (first | exact trivial | apply And.intro)
      all_goals first
        | exact .same _ rfl
        | (refine .same _ ?_; (focus (simp [purs]; done)))
        | (refine .imm _ _ _ ?_; (focus (simp [purs]; done)))
        | (refine .le _ _ ?_ ?_; (focus (repeat' (first | exact trivial | exact le_same _ | exact le_imm (.inl rfl) | exact le_imm (.inr rfl) | (refine le_agg ?_) | apply And.intro))); (focus (simp [purs]; done)))
        | skip

def getR (l : List UInt8) (k : Nat) : List AV := if k ≤ l.length then [.int .i64 (num (l.take k) : Nat), .slice .imm 1 ((l.drop k).map bA), .bool true] else [.int .i64 0, .slice .full 0 [], .bool false]
theorem octGet_ac (l : List UInt8) (k : Nat) (h1 : 1 ≤ k) (h4 : k ≤ 4) :
    ACt Try.prog 41 [.slice .imm 1 (l.map bA), .int .i64 (k : Int)] (.tup (getR l k)) [] := by
  refine act_of p_octet_Get (by simp [c_octet_Get]) ?_
  show AW _ b_octet_Get (RetOk [.tmp 4, .tmp 5, .tmp 6] _ _) { n := 41, tm := [(0, _), (1, _)], box := [], fr := [] }
  unfold b_octet_Get getR
  have c1 : ¬ ((k : Int) < 1) := by omega
  have c2 : ¬ ((k : Int) > 4) := by omega
  have ht := octTake_ac l (k : Int)
  by_cases hk : k ≤ l.length
  · rw [if_pos (by omega), Int.toNat_natCast] at ht
    rw [if_pos hk]
    have hm : min k l.length = k := by omega
    try simp -implicitDefEqProofs only [avl, reduceCtorEq, ↓reduceIte, sevalprocAttr, c1, c2]
    repeat' (first | (refine (hκ _).mpr ?_; clear hκ) | refine kn1 ?_ | refine kr1 ?_ | refine ke1 ?_ | refine kn2 ?_ | refine kr2 ?_ | refine kx2 ?_ | refine ke2 rfl ?_ | refine kn3 ?_ | refine kr3 ?_ | refine ke3 ?_ | refine kn4 ?_ | refine kr4 ?_ | refine ke4 ?_ | refine w_seq ?_ | refine w_block ?_ | (refine aw_regk fun κ hκ => ?_; simp -implicitDefEqProofs only [avl, reduceCtorEq, ↓reduceIte, sevalprocAttr, c1, c2]) | refine aw_exit ?_ | refine aw_ret ?_ | refine aw_skip ?_ | refine aw_label ?_ | refine condc_t ?_ | refine condc_f ?_ | (refine aw_cond2 (by simp -implicitDefEqProofs only [avl, reduceCtorEq, ↓reduceIte, sevalprocAttr, c1, c2]; rfl) ?_) | ((first | refine gkc_fork ?_ ?_ | refine gkc_split ?_ ?_) <;> intro hq <;> simp -implicitDefEqProofs only [hq, avl, reduceCtorEq, ↓reduceIte, sevalprocAttr, c1, c2]) | ((first | refine condc_fork ?_ ?_ | refine condc_bool ?_ ?_) <;> intro hq))
    first | refine callsc (ht) ?_ ?_ | refine callc (ht) ?_ ?_ | ((first | refine callsc (act_le (ht) ?_) ?_ ?_ | refine callc (act_le (ht) ?_) ?_ ?_); (focus (repeat' (first | exact trivial | exact le_same _ | exact le_imm (.inl rfl) | exact le_imm (.inr rfl) | (refine le_agg ?_) | apply And.intro))))
    (focus (simp [purs]; done))
    try simp -implicitDefEqProofs only [avl, reduceCtorEq, ↓reduceIte, sevalprocAttr, sh, sh1, List.length_take, hm]
    repeat' (first | (refine (hκ _).mpr ?_; clear hκ) | refine kn1 ?_ | refine kr1 ?_ | refine ke1 ?_ | refine kn2 ?_ | refine kr2 ?_ | refine kx2 ?_ | refine ke2 rfl ?_ | refine kn3 ?_ | refine kr3 ?_ | refine ke3 ?_ | refine kn4 ?_ | refine kr4 ?_ | refine ke4 ?_ | refine w_seq ?_ | refine w_block ?_ | (refine aw_regk fun κ hκ => ?_; simp -implicitDefEqProofs only [avl, reduceCtorEq, ↓reduceIte, sevalprocAttr, sh, sh1, List.length_take, hm]) | refine aw_exit ?_ | refine aw_ret ?_ | refine aw_skip ?_ | refine aw_label ?_ | refine condc_t ?_ | refine condc_f ?_ | (refine aw_cond2 (by simp -implicitDefEqProofs only [avl, reduceCtorEq, ↓reduceIte, sevalprocAttr, sh, sh1, List.length_take, hm]; rfl) ?_) | ((first | refine gkc_fork ?_ ?_ | refine gkc_split ?_ ?_) <;> intro hq <;> simp -implicitDefEqProofs only [hq, avl, reduceCtorEq, ↓reduceIte, sevalprocAttr, sh, sh1, List.length_take, hm]) | ((first | refine condc_fork ?_ ?_ | refine condc_bool ?_ ?_) <;> intro hq))
    refine w_loop (fun (j : Nat) => j ≤ k) (fun (j : Nat) => { n := 41, tm := [(8, .slice .imm 1 ((l.drop k).map bA)), (9, .bool true), (10, .int .i64 (num (l.take j) : Nat)), (26, .slice .imm 1 ((l.take k).map bA)), (27, .int .i64 k), (28, .int .i64 j)], box := [], fr := [] }) (fun j => k - j) 0 (Nat.zero_le _) ?_ ?_
    · refine wk_of 0 [] ?_ ?_ rfl rfl ?_ ?_ ?_
      rotate_left 3
      rotate_left 2
      focus (first | rfl | (simp; done) | (simp; omega))
      focus (first | rfl | (simp; done) | (simp; omega) | exact Nat.zero_le _)
      focus (first | exact ⟨Nat.zero_le _, Nat.zero_le _⟩ | (simp; done) | (simp; omega))
      all_goals (repeat' (first | exact trivial | apply And.intro))
      all_goals first
        | exact rfl
        | exact .same _ rfl
        | exact .und _
        | (refine .same _ ?_; (focus (simp [okB, okBL]; done)))
        | (refine .same _ (okB_pur ?_); (focus (simp [purs]; done)))
        | (refine .same _ (ok_app ?_ ?_); (focus (simp; done)); (focus (simp [purs]; done)))
        | (simp -implicitDefEqProofs only [List.append_assoc, avl, reduceCtorEq, ↓reduceIte, sevalprocAttr, hm, List.length_take]; first | exact .same _ rfl | (refine .same _ ?_; (focus (simp [okB, okBL]; done))) | (refine .same _ (okB_pur ?_); (focus (simp [purs]; done))) | (refine .same _ (ok_app ?_ ?_); (focus (simp; done)); (focus (simp [purs]; done))) | (refine .tag _ _ _ _ _ ?_ ?_ (fr_at rfl ?_) (okBL_pur ?_); (focus (first | exact .inl rfl | (simp [hm, List.length_take]; done))); (focus (simp; done)); (focus (first | rfl | (simp; done) | (simp; omega))); (focus (simp [purs]; done))) | (refine .imm _ _ _ _ ?_ (okBL_pur ?_); (focus (first | exact .inl rfl | (simp [hm, List.length_take]; done))); (focus (simp [purs]; done))) | skip)
        | skip
    · intro j hj
      by_cases hlt : j < k
      · have hx : l[j]? = some l[j] := List.getElem?_eq_getElem (by omega)
        have hx2 : (l.take k)[j]? = some l[j] := by rw [List.getElem?_take_of_lt hlt]; exact hx
        have e6 : IntKind.i64.wrap ((j : Int) + 1) = ((j + 1 : Nat) : Int) := by rw [wrap64 (by omega) (by omega)]; omega
        have hnl : num (l.take j) < 16777216 := by
          have := num_lt (l.take j)
          have : 256 ^ (l.take j).length ≤ 256 ^ 3 := Nat.pow_le_pow_right (by omega) (by rw [List.length_take]; omega)
          omega
        have hb : l[j].toNat < 256 := l[j].toNat_lt
        have e1 : IntKind.i64.wrap ((num (l.take j) : Nat) * 256 : Int) = (num (l.take j) : Nat) * 256 := by rw [wrap64 (by omega) (by omega)]
        have e2 : IntKind.i64.wrap (l[j].toNat : Int) = l[j].toNat := by rw [wrap64 (by omega) (by omega)]
        have e3 := or_byte (num (l.take j)) l[j].toNat hb hnl
        have e4 := num_step l j (by omega)
        have hjl : j < min k l.length := by omega
        simp only [bits] at e3
        try simp -implicitDefEqProofs only [avl, reduceCtorEq, ↓reduceIte, sevalprocAttr, hlt, hx, hx2, e1, e2, e3, e6, hm, List.length_take, bA, (show min 8 64 = 8 from rfl), (show (2 : Int) ^ 8 = 256 from rfl)]
        repeat' (first | (refine (hκ _).mpr ?_; clear hκ) | refine kn1 ?_ | refine kr1 ?_ | refine ke1 ?_ | refine kn2 ?_ | refine kr2 ?_ | refine kx2 ?_ | refine ke2 rfl ?_ | refine kn3 ?_ | refine kr3 ?_ | refine ke3 ?_ | refine kn4 ?_ | refine kr4 ?_ | refine ke4 ?_ | refine w_seq ?_ | refine w_block ?_ | (refine aw_regk fun κ hκ => ?_; simp -implicitDefEqProofs only [avl, reduceCtorEq, ↓reduceIte, sevalprocAttr, hlt, hx, hx2, e1, e2, e3, e6, hm, List.length_take, bA, (show min 8 64 = 8 from rfl), (show (2 : Int) ^ 8 = 256 from rfl)]) | refine aw_exit ?_ | refine aw_ret ?_ | refine aw_skip ?_ | refine aw_label ?_ | refine condc_t ?_ | refine condc_f ?_ | (refine aw_cond2 (by simp -implicitDefEqProofs only [avl, reduceCtorEq, ↓reduceIte, sevalprocAttr, hlt, hx, hx2, e1, e2, e3, e6, hm, List.length_take, bA, (show min 8 64 = 8 from rfl), (show (2 : Int) ^ 8 = 256 from rfl)]; rfl) ?_) | ((first | refine gkc_fork ?_ ?_ | refine gkc_split ?_ ?_) <;> intro hq <;> simp -implicitDefEqProofs only [hq, avl, reduceCtorEq, ↓reduceIte, sevalprocAttr, hlt, hx, hx2, e1, e2, e3, e6, hm, List.length_take, bA, (show min 8 64 = 8 from rfl), (show (2 : Int) ^ 8 = 256 from rfl)]) | ((first | refine condc_fork ?_ ?_ | refine condc_bool ?_ ?_) <;> intro hq))
        refine ⟨j + 1, hlt, ?_, by show k - (j + 1) < k - j; omega⟩
        rw [e4]
        refine wk_of 0 [] ?_ ?_ rfl rfl ?_ ?_ ?_
        rotate_left 3
        rotate_left 2
        focus (first | rfl | (simp; done) | (simp; omega))
        focus (first | rfl | (simp; done) | (simp; omega) | exact Nat.zero_le _)
        focus (first | exact ⟨Nat.zero_le _, Nat.zero_le _⟩ | (simp; done) | (simp; omega))
        all_goals (repeat' (first | exact trivial | apply And.intro))
        all_goals first
          | exact rfl
          | exact .same _ rfl
          | exact .und _
          | (refine .same _ ?_; (focus (simp [okB, okBL]; done)))
          | (refine .same _ (okB_pur ?_); (focus (simp [purs]; done)))
          | (refine .same _ (ok_app ?_ ?_); (focus (simp; done)); (focus (simp [purs]; done)))
          | (simp -implicitDefEqProofs only [List.append_assoc, avl, reduceCtorEq, ↓reduceIte, sevalprocAttr, bA]; first | exact .same _ rfl | (refine .same _ ?_; (focus (simp [okB, okBL]; done))) | (refine .same _ (okB_pur ?_); (focus (simp [purs]; done))) | (refine .same _ (ok_app ?_ ?_); (focus (simp; done)); (focus (simp [purs]; done))) | (refine .tag _ _ _ _ _ ?_ ?_ (fr_at rfl ?_) (okBL_pur ?_); (focus (first | exact .inl rfl | (simp [bA]; done))); (focus (simp; done)); (focus (first | rfl | (simp; done) | (simp; omega))); (focus (simp [purs]; done))) | (refine .imm _ _ _ _ ?_ (okBL_pur ?_); (focus (first | exact .inl rfl | (simp [bA]; done))); (focus (simp [purs]; done))) | skip)
          | skip
      · obtain rfl : j = k := by have hj : j ≤ k := hj; omega
        try simp -implicitDefEqProofs only [avl, reduceCtorEq, ↓reduceIte, sevalprocAttr, Nat.lt_irrefl]
        repeat' (first | (refine (hκ _).mpr ?_; clear hκ) | refine kn1 ?_ | refine kr1 ?_ | refine ke1 ?_ | refine kn2 ?_ | refine kr2 ?_ | refine kx2 ?_ | refine ke2 rfl ?_ | refine kn3 ?_ | refine kr3 ?_ | refine ke3 ?_ | refine kn4 ?_ | refine kr4 ?_ | refine ke4 ?_ | refine w_seq ?_ | refine w_block ?_ | (refine aw_regk fun κ hκ => ?_; simp -implicitDefEqProofs only [avl, reduceCtorEq, ↓reduceIte, sevalprocAttr, Nat.lt_irrefl]) | refine aw_exit ?_ | refine aw_ret ?_ | refine aw_skip ?_ | refine aw_label ?_ | refine condc_t ?_ | refine condc_f ?_ | (refine aw_cond2 (by simp -implicitDefEqProofs only [avl, reduceCtorEq, ↓reduceIte, sevalprocAttr, Nat.lt_irrefl]; rfl) ?_) | ((first | refine gkc_fork ?_ ?_ | refine gkc_split ?_ ?_) <;> intro hq <;> simp -implicitDefEqProofs only [hq, avl, reduceCtorEq, ↓reduceIte, sevalprocAttr, Nat.lt_irrefl]) | ((first | refine condc_fork ?_ ?_ | refine condc_bool ?_ ?_) <;> intro hq))
        try simp -implicitDefEqProofs only [List.append_assoc, avl, reduceCtorEq, ↓reduceIte, sevalprocAttr]
        first | refine retLt (by first | exact .inr rfl | exact .inl rfl) (by rfl) ?_ | refine retL1 (by first | exact .inr rfl | exact .inl rfl) (by rfl) ?_
        repeat' (first | exact trivial | apply And.intro)
        all_goals first
          | exact .same _ rfl
          | (refine .same _ ?_; (focus (simp [purs]; done)))
          | (refine .imm _ _ _ ?_; (focus (simp [purs]; done)))
          | (refine .le _ _ ?_ ?_; (focus (repeat' (first | exact trivial | exact le_same _ | exact le_imm (.inl rfl) | exact le_imm (.inr rfl) | (refine le_agg ?_) | apply And.intro))); (focus (simp [purs]; done)))
          | skip
  · rw [if_neg (by omega)] at ht
    rw [if_neg hk]
    try simp -implicitDefEqProofs only [avl, reduceCtorEq, ↓reduceIte, sevalprocAttr, c1, c2]
    repeat' (first | (refine (hκ _).mpr ?_; clear hκ) | refine kn1 ?_ | refine kr1 ?_ | refine ke1 ?_ | refine kn2 ?_ | refine kr2 ?_ | refine kx2 ?_ | refine ke2 rfl ?_ | refine kn3 ?_ | refine kr3 ?_ | refine ke3 ?_ | refine kn4 ?_ | refine kr4 ?_ | refine ke4 ?_ | refine w_seq ?_ | refine w_block ?_ | (refine aw_regk fun κ hκ => ?_; simp -implicitDefEqProofs only [avl, reduceCtorEq, ↓reduceIte, sevalprocAttr, c1, c2]) | refine aw_exit ?_ | refine aw_ret ?_ | refine aw_skip ?_ | refine aw_label ?_ | refine condc_t ?_ | refine condc_f ?_ | (refine aw_cond2 (by simp -implicitDefEqProofs only [avl, reduceCtorEq, ↓reduceIte, sevalprocAttr, c1, c2]; rfl) ?_) | ((first | refine gkc_fork ?_ ?_ | refine gkc_split ?_ ?_) <;> intro hq <;> simp -implicitDefEqProofs only [hq, avl, reduceCtorEq, ↓reduceIte, sevalprocAttr, c1, c2]) | ((first | refine condc_fork ?_ ?_ | refine condc_bool ?_ ?_) <;> intro hq))
    first | refine callsc (ht) ?_ ?_ | refine callc (ht) ?_ ?_ | ((first | refine callsc (act_le (ht) ?_) ?_ ?_ | refine callc (act_le (ht) ?_) ?_ ?_); (focus (repeat' (first | exact trivial | exact le_same _ | exact le_imm (.inl rfl) | exact le_imm (.inr rfl) | (refine le_agg ?_) | apply And.intro))))
    (focus (simp [purs]; done))
    try simp -implicitDefEqProofs only [avl, reduceCtorEq, ↓reduceIte, sevalprocAttr, sh, sh1]
    repeat' (first | (refine (hκ _).mpr ?_; clear hκ) | refine kn1 ?_ | refine kr1 ?_ | refine ke1 ?_ | refine kn2 ?_ | refine kr2 ?_ | refine kx2 ?_ | refine ke2 rfl ?_ | refine kn3 ?_ | refine kr3 ?_ | refine ke3 ?_ | refine kn4 ?_ | refine kr4 ?_ | refine ke4 ?_ | refine w_seq ?_ | refine w_block ?_ | (refine aw_regk fun κ hκ => ?_; simp -implicitDefEqProofs only [avl, reduceCtorEq, ↓reduceIte, sevalprocAttr, sh, sh1]) | refine aw_exit ?_ | refine aw_ret ?_ | refine aw_skip ?_ | refine aw_label ?_ | refine condc_t ?_ | refine condc_f ?_ | (refine aw_cond2 (by simp -implicitDefEqProofs only [avl, reduceCtorEq, ↓reduceIte, sevalprocAttr, sh, sh1]; rfl) ?_) | ((first | refine gkc_fork ?_ ?_ | refine gkc_split ?_ ?_) <;> intro hq <;> simp -implicitDefEqProofs only [hq, avl, reduceCtorEq, ↓reduceIte, sevalprocAttr, sh, sh1]) | ((first | refine condc_fork ?_ ?_ | refine condc_bool ?_ ?_) <;> intro hq))
    refine w_unroll ?_
    try simp -implicitDefEqProofs only [avl, reduceCtorEq, ↓reduceIte, sevalprocAttr, (show ((0 : Nat) : Int) = 0 from rfl), Int.lt_irrefl]
    repeat' (first | (refine (hκ _).mpr ?_; clear hκ) | refine kn1 ?_ | refine kr1 ?_ | refine ke1 ?_ | refine kn2 ?_ | refine kr2 ?_ | refine kx2 ?_ | refine ke2 rfl ?_ | refine kn3 ?_ | refine kr3 ?_ | refine ke3 ?_ | refine kn4 ?_ | refine kr4 ?_ | refine ke4 ?_ | refine w_seq ?_ | refine w_block ?_ | (refine aw_regk fun κ hκ => ?_; simp -implicitDefEqProofs only [avl, reduceCtorEq, ↓reduceIte, sevalprocAttr, (show ((0 : Nat) : Int) = 0 from rfl), Int.lt_irrefl]) | refine aw_exit ?_ | refine aw_ret ?_ | refine aw_skip ?_ | refine aw_label ?_ | refine condc_t ?_ | refine condc_f ?_ | (refine aw_cond2 (by simp -implicitDefEqProofs only [avl, reduceCtorEq, ↓reduceIte, sevalprocAttr, (show ((0 : Nat) : Int) = 0 from rfl), Int.lt_irrefl]; rfl) ?_) | ((first | refine gkc_fork ?_ ?_ | refine gkc_split ?_ ?_) <;> intro hq <;> simp -implicitDefEqProofs only [hq, avl, reduceCtorEq, ↓reduceIte, sevalprocAttr, (show ((0 : Nat) : Int) = 0 from rfl), Int.lt_irrefl]) | ((first | refine condc_fork ?_ ?_ | refine condc_bool ?_ ?_) <;> intro hq))
    try simp -implicitDefEqProofs only [List.append_assoc, avl, reduceCtorEq, ↓reduceIte, sevalprocAttr]
    first | refine retLt (by first | exact .inr rfl | exact .inl rfl) (by rfl) ?_ | refine retL1 (by first | exact .inr rfl | exact .inl rfl) (by rfl) ?_
    repeat' (first | exact trivial | apply And.intro)
    all_goals first
      | exact .same _ rfl
      | (refine .same _ ?_; (focus (simp [purs]; done)))
      | (refine .imm _ _ _ ?_; (focus (simp [purs]; done)))
      | (refine .le _ _ ?_ ?_; (focus (repeat' (first | exact trivial | exact le_same _ | exact le_imm (.inl rfl) | exact le_imm (.inr rfl) | (refine le_agg ?_) | apply And.intro))); (focus (simp [purs]; done)))
      | skip

theorem refPut_ac (l : List UInt8) (v : Int) (k : Nat) (h1 : 1 ≤ k) (h4 : k ≤ 4) (hn : l.length ≤ 1000000) :
    ACt Try.prog 54 [.slice .imm 1 (l.map bA), .int .i64 v, .int .i64 (k : Int)] (.slice (.app 0) 1 ((l ++ putL v k).map bA)) [(5, l.length + k)] := by
  refine act_of p_ridgewayref01_Put (by simp [c_ridgewayref01_Put]) ?_
  show AW _ b_ridgewayref01_Put (RetOk [.tmp 6] _ _) { n := 35, tm := [(0, _), (1, _), (2, _)], box := [], fr := [] }
  unfold b_ridgewayref01_Put
  have c1 : ¬ ((k : Int) < 1) := by omega
  have c2 : ¬ ((k : Int) > 4) := by omega
  have c3 : l.length ≤ 140737488355328 := by omega
  have c4 : l.length ≤ maxLen := by unfold maxLen; omega
  have c5 : IntKind.i64.wrap ((k : Int) - 1) = (k : Int) - ((0 : Nat) : Int) - 1 := by rw [wrap64 (by omega) (by omega)]; omega
  try simp -implicitDefEqProofs only [avl, reduceCtorEq, ↓reduceIte, sevalprocAttr, c1, c2, c3, c4, c5, Nat.mul_one]
  repeat' (first | (refine (hκ _).mpr ?_; clear hκ) | refine kn1 ?_ | refine kr1 ?_ | refine ke1 ?_ | refine kn2 ?_ | refine kr2 ?_ | refine kx2 ?_ | refine ke2 rfl ?_ | refine kn3 ?_ | refine kr3 ?_ | refine ke3 ?_ | refine kn4 ?_ | refine kr4 ?_ | refine ke4 ?_ | refine w_seq ?_ | refine w_block ?_ | (refine aw_regk fun κ hκ => ?_; simp -implicitDefEqProofs only [avl, reduceCtorEq, ↓reduceIte, sevalprocAttr, c1, c2, c3, c4, c5, Nat.mul_one]) | refine aw_exit ?_ | refine aw_ret ?_ | refine aw_skip ?_ | refine aw_label ?_ | refine condc_t ?_ | refine condc_f ?_ | (refine aw_cond2 (by simp -implicitDefEqProofs only [avl, reduceCtorEq, ↓reduceIte, sevalprocAttr, c1, c2, c3, c4, c5, Nat.mul_one]; rfl) ?_) | ((first | refine gkc_fork ?_ ?_ | refine gkc_split ?_ ?_) <;> intro hq <;> simp -implicitDefEqProofs only [hq, avl, reduceCtorEq, ↓reduceIte, sevalprocAttr, c1, c2, c3, c4, c5, Nat.mul_one]) | ((first | refine condc_fork ?_ ?_ | refine condc_bool ?_ ?_) <;> intro hq))
  refine w_loop (fun (j : Nat) => j ≤ k) (fun (j : Nat) => { n := 35, tm := [(1, .int .i64 v), (7, .slice (.app 0) 1 ((l ++ (putL v k).take j).map bA)), (8, .int .i64 ((k : Int) - j - 1))], box := [], fr := [(5, l.length + j)] }) (fun j => k - j) 0 (Nat.zero_le _) ?_ ?_
  · refine wk_of 1 [] ?_ ?_ rfl rfl ?_ ?_ ?_
    rotate_left 3
    rotate_left 2
    focus (first | rfl | (simp; done) | (simp; omega))
    focus (first | rfl | (simp; done) | (simp; omega) | exact Nat.zero_le _)
    focus (first | exact ⟨Nat.zero_le _, Nat.zero_le _⟩ | (simp; done) | (simp; omega))
    all_goals (repeat' (first | exact trivial | apply And.intro))
    all_goals first
      | exact rfl
      | exact .same _ rfl
      | exact .und _
      | (refine .same _ ?_; (focus (simp [okB, okBL]; done)))
      | (refine .same _ (okB_pur ?_); (focus (simp [purs]; done)))
      | (refine .same _ (ok_app ?_ ?_); (focus (simp; done)); (focus (simp [purs]; done)))
      | (simp -implicitDefEqProofs only [List.append_assoc, avl, reduceCtorEq, ↓reduceIte, sevalprocAttr, List.take_zero, List.append_nil]; first | exact .same _ rfl | (refine .same _ ?_; (focus (simp [okB, okBL]; done))) | (refine .same _ (okB_pur ?_); (focus (simp [purs]; done))) | (refine .same _ (ok_app ?_ ?_); (focus (simp; done)); (focus (simp [purs]; done))) | (refine .tag _ _ _ _ _ ?_ ?_ (fr_at rfl ?_) (okBL_pur ?_); (focus (first | exact .inl rfl | (simp [List.take_zero, List.append_nil]; done))); (focus (simp; done)); (focus (first | rfl | (simp; done) | (simp; omega))); (focus (simp [purs]; done))) | (refine .imm _ _ _ _ ?_ (okBL_pur ?_); (focus (first | exact .inl rfl | (simp [List.take_zero, List.append_nil]; done))); (focus (simp [purs]; done))) | skip)
      | skip
  · intro j hj
    by_cases hlt : j < k
    · have e1 : (k : Int) - j - 1 ≥ 0 := by omega
      have e2 : IntKind.i64.wrap (8 * ((k : Int) - j - 1)) = ((8 * (k - 1 - j) : Nat) : Int) := by rw [wrap64 (by omega) (by omega)]; omega
      have e3 : IntKind.u64.wrap ((8 * (k - 1 - j) : Nat) : Int) = ((8 * (k - 1 - j) : Nat) : Int) := by
        simp only [IntKind.wrap, IntKind.signed, IntKind.bits, Bool.false_and, Bool.false_eq_true, if_false]
        omega
      have e4 : ¬ (((8 * (k - 1 - j) : Nat) : Int) < 0) := by omega
      have e5 := u8_fdiv v (k - 1 - j) (by omega)
      have e6 : IntKind.i64.wrap ((k : Int) - j - 1 - 1) = (k : Int) - ((j + 1 : Nat) : Int) - 1 := by rw [wrap64 (by omega) (by omega)]; omega
      have e7 : min j (putL v k).length = j := by rw [putL_length]; omega
      have e8 : l.length + j + 1 ≤ 140737488355328 := by omega
      have e9 : l.length + j + 1 ≤ maxLen := by unfold maxLen; omega
      try simp -implicitDefEqProofs only [avl, reduceCtorEq, ↓reduceIte, sevalprocAttr, e1, e2, e3, e4, e5, e6, e7, e8, e9, List.length_take, Nat.mul_one]
      repeat' (first | (refine (hκ _).mpr ?_; clear hκ) | refine kn1 ?_ | refine kr1 ?_ | refine ke1 ?_ | refine kn2 ?_ | refine kr2 ?_ | refine kx2 ?_ | refine ke2 rfl ?_ | refine kn3 ?_ | refine kr3 ?_ | refine ke3 ?_ | refine kn4 ?_ | refine kr4 ?_ | refine ke4 ?_ | refine w_seq ?_ | refine w_block ?_ | (refine aw_regk fun κ hκ => ?_; simp -implicitDefEqProofs only [avl, reduceCtorEq, ↓reduceIte, sevalprocAttr, e1, e2, e3, e4, e5, e6, e7, e8, e9, List.length_take, Nat.mul_one]) | refine aw_exit ?_ | refine aw_ret ?_ | refine aw_skip ?_ | refine aw_label ?_ | refine condc_t ?_ | refine condc_f ?_ | (refine aw_cond2 (by simp -implicitDefEqProofs only [avl, reduceCtorEq, ↓reduceIte, sevalprocAttr, e1, e2, e3, e4, e5, e6, e7, e8, e9, List.length_take, Nat.mul_one]; rfl) ?_) | ((first | refine gkc_fork ?_ ?_ | refine gkc_split ?_ ?_) <;> intro hq <;> simp -implicitDefEqProofs only [hq, avl, reduceCtorEq, ↓reduceIte, sevalprocAttr, e1, e2, e3, e4, e5, e6, e7, e8, e9, List.length_take, Nat.mul_one]) | ((first | refine condc_fork ?_ ?_ | refine condc_bool ?_ ?_) <;> intro hq))
      refine ⟨j + 1, hlt, ?_, by show k - (j + 1) < k - j; omega⟩
      rw [putL_step v k j hlt]
      refine wk_of 1 [] ?_ ?_ rfl rfl ?_ ?_ ?_
      rotate_left 3
      rotate_left 2
      focus (first | rfl | (simp; done) | (simp; omega))
      focus (first | rfl | (simp; done) | (simp; omega) | exact Nat.zero_le _)
      focus (first | exact ⟨Nat.zero_le _, Nat.zero_le _⟩ | (simp; done) | (simp; omega))
      all_goals (repeat' (first | exact trivial | apply And.intro))
      all_goals first
        | exact rfl
        | exact .same _ rfl
        | exact .und _
        | (refine .same _ ?_; (focus (simp [okB, okBL]; done)))
        | (refine .same _ (okB_pur ?_); (focus (simp [purs]; done)))
        | (refine .same _ (ok_app ?_ ?_); (focus (simp; done)); (focus (simp [purs]; done)))
        | (simp -implicitDefEqProofs only [List.append_assoc, avl, reduceCtorEq, ↓reduceIte, sevalprocAttr, bA]; first | exact .same _ rfl | (refine .same _ ?_; (focus (simp [okB, okBL]; done))) | (refine .same _ (okB_pur ?_); (focus (simp [purs]; done))) | (refine .same _ (ok_app ?_ ?_); (focus (simp; done)); (focus (simp [purs]; done))) | (refine .tag _ _ _ _ _ ?_ ?_ (fr_at rfl ?_) (okBL_pur ?_); (focus (first | exact .inl rfl | (simp [bA]; done))); (focus (simp; done)); (focus (first | rfl | (simp; done) | (simp; omega))); (focus (simp [purs]; done))) | (refine .imm _ _ _ _ ?_ (okBL_pur ?_); (focus (first | exact .inl rfl | (simp [bA]; done))); (focus (simp [purs]; done))) | skip)
        | skip
    · obtain rfl : j = k := by have hj : j ≤ k := hj; omega
      have e1 : ¬ ((j : Int) - j - 1 ≥ 0) := by omega
      have e7 : List.take j (putL v j) = putL v j := List.take_of_length_le (by rw [putL_length]; exact Nat.le_refl _)
      try simp -implicitDefEqProofs only [avl, reduceCtorEq, ↓reduceIte, sevalprocAttr, e1, e7]
      repeat' (first | (refine (hκ _).mpr ?_; clear hκ) | refine kn1 ?_ | refine kr1 ?_ | refine ke1 ?_ | refine kn2 ?_ | refine kr2 ?_ | refine kx2 ?_ | refine ke2 rfl ?_ | refine kn3 ?_ | refine kr3 ?_ | refine ke3 ?_ | refine kn4 ?_ | refine kr4 ?_ | refine ke4 ?_ | refine w_seq ?_ | refine w_block ?_ | (refine aw_regk fun κ hκ => ?_; simp -implicitDefEqProofs only [avl, reduceCtorEq, ↓reduceIte, sevalprocAttr, e1, e7]) | refine aw_exit ?_ | refine aw_ret ?_ | refine aw_skip ?_ | refine aw_label ?_ | refine condc_t ?_ | refine condc_f ?_ | (refine aw_cond2 (by simp -implicitDefEqProofs only [avl, reduceCtorEq, ↓reduceIte, sevalprocAttr, e1, e7]; rfl) ?_) | ((first | refine gkc_fork ?_ ?_ | refine gkc_split ?_ ?_) <;> intro hq <;> simp -implicitDefEqProofs only [hq, avl, reduceCtorEq, ↓reduceIte, sevalprocAttr, e1, e7]) | ((first | refine condc_fork ?_ ?_ | refine condc_bool ?_ ?_) <;> intro hq))
      exact ret_app rfl rfl (by simp [purL, purL_map_eq, purL_append, pur, bA])
theorem refGet_ac (l : List UInt8) (k : Nat) (h1 : 1 ≤ k) (h4 : k ≤ 4) :
    ACt Try.prog 48 [.slice .imm 1 (l.map bA), .int .i64 (k : Int)] (.tup (getR l k)) [] := by
  refine act_of p_ridgewayref01_Get (by simp [c_ridgewayref01_Get]) ?_
  show AW _ b_ridgewayref01_Get (RetOk [.tmp 4, .tmp 5, .tmp 6] _ _) { n := 38, tm := [(0, _), (1, _)], box := [], fr := [] }
  unfold b_ridgewayref01_Get getR
  have c1 : ¬ ((k : Int) < 1) := by omega
  have c2 : ¬ ((k : Int) > 4) := by omega
  by_cases hk : k ≤ l.length
  · rw [if_pos hk]
    have c3 : ¬ (l.length : Int) < k := by omega
    try simp -implicitDefEqProofs only [avl, reduceCtorEq, ↓reduceIte, sevalprocAttr, c1, c2, c3]
    repeat' (first | (refine (hκ _).mpr ?_; clear hκ) | refine kn1 ?_ | refine kr1 ?_ | refine ke1 ?_ | refine kn2 ?_ | refine kr2 ?_ | refine kx2 ?_ | refine ke2 rfl ?_ | refine kn3 ?_ | refine kr3 ?_ | refine ke3 ?_ | refine kn4 ?_ | refine kr4 ?_ | refine ke4 ?_ | refine w_seq ?_ | refine w_block ?_ | (refine aw_regk fun κ hκ => ?_; simp -implicitDefEqProofs only [avl, reduceCtorEq, ↓reduceIte, sevalprocAttr, c1, c2, c3]) | refine aw_exit ?_ | refine aw_ret ?_ | refine aw_skip ?_ | refine aw_label ?_ | refine condc_t ?_ | refine condc_f ?_ | (refine aw_cond2 (by simp -implicitDefEqProofs only [avl, reduceCtorEq, ↓reduceIte, sevalprocAttr, c1, c2, c3]; rfl) ?_) | ((first | refine gkc_fork ?_ ?_ | refine gkc_split ?_ ?_) <;> intro hq <;> simp -implicitDefEqProofs only [hq, avl, reduceCtorEq, ↓reduceIte, sevalprocAttr, c1, c2, c3]) | ((first | refine condc_fork ?_ ?_ | refine condc_bool ?_ ?_) <;> intro hq))
    refine w_loop (fun (j : Nat) => j ≤ k) (fun (j : Nat) => { n := 38, tm := [(0, .slice .imm 1 (l.map bA)), (1, .int .i64 k), (7, .int .i64 (num (l.take j) : Nat)), (8, .int .i64 j)], box := [], fr := [] }) (fun j => k - j) 0 (Nat.zero_le _) ?_ ?_
    · refine wk_of 0 [] ?_ ?_ rfl rfl ?_ ?_ ?_
      rotate_left 3
      rotate_left 2
      focus (first | rfl | (simp; done) | (simp; omega))
      focus (first | rfl | (simp; done) | (simp; omega) | exact Nat.zero_le _)
      focus (first | exact ⟨Nat.zero_le _, Nat.zero_le _⟩ | (simp; done) | (simp; omega))
      all_goals (repeat' (first | exact trivial | apply And.intro))
      all_goals first
        | exact rfl
        | exact .same _ rfl
        | exact .und _
        | (refine .same _ ?_; (focus (simp [okB, okBL]; done)))
        | (refine .same _ (okB_pur ?_); (focus (simp [purs]; done)))
        | (refine .same _ (ok_app ?_ ?_); (focus (simp; done)); (focus (simp [purs]; done)))
        | (simp -implicitDefEqProofs only [List.append_assoc, avl, reduceCtorEq, ↓reduceIte, sevalprocAttr]; first | exact .same _ rfl | (refine .same _ ?_; (focus (simp [okB, okBL]; done))) | (refine .same _ (okB_pur ?_); (focus (simp [purs]; done))) | (refine .same _ (ok_app ?_ ?_); (focus (simp; done)); (focus (simp [purs]; done))) | (refine .tag _ _ _ _ _ ?_ ?_ (fr_at rfl ?_) (okBL_pur ?_); (focus (first | exact .inl rfl | (simp; done))); (focus (simp; done)); (focus (first | rfl | (simp; done) | (simp; omega))); (focus (simp [purs]; done))) | (refine .imm _ _ _ _ ?_ (okBL_pur ?_); (focus (first | exact .inl rfl | (simp; done))); (focus (simp [purs]; done))) | skip)
        | skip
    · intro j hj
      by_cases hlt : j < k
      · have hx : l[j]? = some l[j] := List.getElem?_eq_getElem (by omega)
        have e6 : IntKind.i64.wrap ((j : Int) + 1) = ((j + 1 : Nat) : Int) := by rw [wrap64 (by omega) (by omega)]; omega
        have hnl : num (l.take j) < 16777216 := by
          have := num_lt (l.take j)
          have : 256 ^ (l.take j).length ≤ 256 ^ 3 := Nat.pow_le_pow_right (by omega) (by rw [List.length_take]; omega)
          omega
        have hb : l[j].toNat < 256 := l[j].toNat_lt
        have e1 : IntKind.i64.wrap ((num (l.take j) : Nat) * 256 : Int) = ((num (l.take j) * 256 : Nat) : Int) := by rw [wrap64 (by omega) (by omega)]; omega
        have e2 : IntKind.i64.wrap (l[j].toNat : Int) = l[j].toNat := by rw [wrap64 (by omega) (by omega)]
        have e3 : IntKind.i64.wrap (((num (l.take j) * 256 : Nat) : Int) + (l[j].toNat : Int)) = ((num (l.take j) * 256 + l[j].toNat : Nat) : Int) := by rw [wrap64 (by omega) (by omega)]; omega
        have e4 := num_step l j (by omega)
        have hjl : j < l.length := by omega
        try simp -implicitDefEqProofs only [avl, reduceCtorEq, ↓reduceIte, sevalprocAttr, hlt, hx, e1, e2, e3, e6, hjl, bA]
        repeat' (first | (refine (hκ _).mpr ?_; clear hκ) | refine kn1 ?_ | refine kr1 ?_ | refine ke1 ?_ | refine kn2 ?_ | refine kr2 ?_ | refine kx2 ?_ | refine ke2 rfl ?_ | refine kn3 ?_ | refine kr3 ?_ | refine ke3 ?_ | refine kn4 ?_ | refine kr4 ?_ | refine ke4 ?_ | refine w_seq ?_ | refine w_block ?_ | (refine aw_regk fun κ hκ => ?_; simp -implicitDefEqProofs only [avl, reduceCtorEq, ↓reduceIte, sevalprocAttr, hlt, hx, e1, e2, e3, e6, hjl, bA]) | refine aw_exit ?_ | refine aw_ret ?_ | refine aw_skip ?_ | refine aw_label ?_ | refine condc_t ?_ | refine condc_f ?_ | (refine aw_cond2 (by simp -implicitDefEqProofs only [avl, reduceCtorEq, ↓reduceIte, sevalprocAttr, hlt, hx, e1, e2, e3, e6, hjl, bA]; rfl) ?_) | ((first | refine gkc_fork ?_ ?_ | refine gkc_split ?_ ?_) <;> intro hq <;> simp -implicitDefEqProofs only [hq, avl, reduceCtorEq, ↓reduceIte, sevalprocAttr, hlt, hx, e1, e2, e3, e6, hjl, bA]) | ((first | refine condc_fork ?_ ?_ | refine condc_bool ?_ ?_) <;> intro hq))
        refine ⟨j + 1, hlt, ?_, by show k - (j + 1) < k - j; omega⟩
        rw [e4]
        refine wk_of 0 [] ?_ ?_ rfl rfl ?_ ?_ ?_
        rotate_left 3
        rotate_left 2
        focus (first | rfl | (simp; done) | (simp; omega))
        focus (first | rfl | (simp; done) | (simp; omega) | exact Nat.zero_le _)
        focus (first | exact ⟨Nat.zero_le _, Nat.zero_le _⟩ | (simp; done) | (simp; omega))
        all_goals (repeat' (first | exact trivial | apply And.intro))
        all_goals first
          | exact rfl
          | exact .same _ rfl
          | exact .und _
          | (refine .same _ ?_; (focus (simp [okB, okBL]; done)))
          | (refine .same _ (okB_pur ?_); (focus (simp [purs]; done)))
          | (refine .same _ (ok_app ?_ ?_); (focus (simp; done)); (focus (simp [purs]; done)))
          | (simp -implicitDefEqProofs only [List.append_assoc, avl, reduceCtorEq, ↓reduceIte, sevalprocAttr, bA]; first | exact .same _ rfl | (refine .same _ ?_; (focus (simp [okB, okBL]; done))) | (refine .same _ (okB_pur ?_); (focus (simp [purs]; done))) | (refine .same _ (ok_app ?_ ?_); (focus (simp; done)); (focus (simp [purs]; done))) | (refine .tag _ _ _ _ _ ?_ ?_ (fr_at rfl ?_) (okBL_pur ?_); (focus (first | exact .inl rfl | (simp [bA]; done))); (focus (simp; done)); (focus (first | rfl | (simp; done) | (simp; omega))); (focus (simp [purs]; done))) | (refine .imm _ _ _ _ ?_ (okBL_pur ?_); (focus (first | exact .inl rfl | (simp [bA]; done))); (focus (simp [purs]; done))) | skip)
          | skip
      · obtain rfl : j = k := by have hj : j ≤ k := hj; omega
        try simp -implicitDefEqProofs only [avl, reduceCtorEq, ↓reduceIte, sevalprocAttr, Nat.lt_irrefl, hk]
        repeat' (first | (refine (hκ _).mpr ?_; clear hκ) | refine kn1 ?_ | refine kr1 ?_ | refine ke1 ?_ | refine kn2 ?_ | refine kr2 ?_ | refine kx2 ?_ | refine ke2 rfl ?_ | refine kn3 ?_ | refine kr3 ?_ | refine ke3 ?_ | refine kn4 ?_ | refine kr4 ?_ | refine ke4 ?_ | refine w_seq ?_ | refine w_block ?_ | (refine aw_regk fun κ hκ => ?_; simp -implicitDefEqProofs only [avl, reduceCtorEq, ↓reduceIte, sevalprocAttr, Nat.lt_irrefl, hk]) | refine aw_exit ?_ | refine aw_ret ?_ | refine aw_skip ?_ | refine aw_label ?_ | refine condc_t ?_ | refine condc_f ?_ | (refine aw_cond2 (by simp -implicitDefEqProofs only [avl, reduceCtorEq, ↓reduceIte, sevalprocAttr, Nat.lt_irrefl, hk]; rfl) ?_) | ((first | refine gkc_fork ?_ ?_ | refine gkc_split ?_ ?_) <;> intro hq <;> simp -implicitDefEqProofs only [hq, avl, reduceCtorEq, ↓reduceIte, sevalprocAttr, Nat.lt_irrefl, hk]) | ((first | refine condc_fork ?_ ?_ | refine condc_bool ?_ ?_) <;> intro hq))
        try simp -implicitDefEqProofs only [List.append_assoc, avl, reduceCtorEq, ↓reduceIte, sevalprocAttr, take_all, List.map_drop]
        first | refine retLt (by first | exact .inr rfl | exact .inl rfl) (by rfl) ?_ | refine retL1 (by first | exact .inr rfl | exact .inl rfl) (by rfl) ?_
        repeat' (first | exact trivial | apply And.intro)
        all_goals first
          | exact .same _ rfl
          | (refine .same _ ?_; (focus (simp [purs]; done)))
          | (refine .imm _ _ _ ?_; (focus (simp [purs]; done)))
          | (refine .le _ _ ?_ ?_; (focus (repeat' (first | exact trivial | exact le_same _ | exact le_imm (.inl rfl) | exact le_imm (.inr rfl) | (refine le_agg ?_) | apply And.intro))); (focus (simp [purs]; done)))
          | skip
  · rw [if_neg hk]
    have c3 : (l.length : Int) < k := by omega
    try simp -implicitDefEqProofs only [avl, reduceCtorEq, ↓reduceIte, sevalprocAttr, c1, c2, c3]
    repeat' (first | (refine (hκ _).mpr ?_; clear hκ) | refine kn1 ?_ | refine kr1 ?_ | refine ke1 ?_ | refine kn2 ?_ | refine kr2 ?_ | refine kx2 ?_ | refine ke2 rfl ?_ | refine kn3 ?_ | refine kr3 ?_ | refine ke3 ?_ | refine kn4 ?_ | refine kr4 ?_ | refine ke4 ?_ | refine w_seq ?_ | refine w_block ?_ | (refine aw_regk fun κ hκ => ?_; simp -implicitDefEqProofs only [avl, reduceCtorEq, ↓reduceIte, sevalprocAttr, c1, c2, c3]) | refine aw_exit ?_ | refine aw_ret ?_ | refine aw_skip ?_ | refine aw_label ?_ | refine condc_t ?_ | refine condc_f ?_ | (refine aw_cond2 (by simp -implicitDefEqProofs only [avl, reduceCtorEq, ↓reduceIte, sevalprocAttr, c1, c2, c3]; rfl) ?_) | ((first | refine gkc_fork ?_ ?_ | refine gkc_split ?_ ?_) <;> intro hq <;> simp -implicitDefEqProofs only [hq, avl, reduceCtorEq, ↓reduceIte, sevalprocAttr, c1, c2, c3]) | ((first | refine condc_fork ?_ ?_ | refine condc_bool ?_ ?_) <;> intro hq))
    try simp -implicitDefEqProofs only [List.append_assoc, avl, reduceCtorEq, ↓reduceIte, sevalprocAttr]
    first | refine retLt (by first | exact .inr rfl | exact .inl rfl) (by rfl) ?_ | refine retL1 (by first | exact .inr rfl | exact .inl rfl) (by rfl) ?_
    repeat' (first | exact trivial | apply And.intro)
    all_goals first
      | exact .same _ rfl
      | (refine .same _ ?_; (focus (simp [purs]; done)))
      | (refine .imm _ _ _ ?_; (focus (simp [purs]; done)))
      | (refine .le _ _ ?_ ?_; (focus (repeat' (first | exact trivial | exact le_same _ | exact le_imm (.inl rfl) | exact le_imm (.inr rfl) | (refine le_agg ?_) | apply And.intro))); (focus (simp [purs]; done)))
      | skip
end Go.Proofs.Ytgakgilaikgboaa
