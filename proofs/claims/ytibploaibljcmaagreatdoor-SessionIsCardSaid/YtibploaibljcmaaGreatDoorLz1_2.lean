import Derived.Test.YtibploaibljcmaaGreatDoorLfa
import Derived.Test.YtibploaibljcmaaGreatDoorAcz1
import Derived.Test.YtibploaibljcmaaGreatDoorMz1
import Derived.Test.YtibploaibljcmaaGreatDoorLz1
namespace Go.Proofs.YtibploaibljcmaaGreatDoor
open Go.RowKit
set_option maxHeartbeats 8000000
set_option maxRecDepth 100000
set_option linter.unusedSimpArgs false
set_option linter.unusedVariables false
theorem a_octet_Get {a0 : (List UInt8)} {a1 : Int} {r : (Int × (List UInt8) × Bool)} (h : m_octet_Get a0 a1 = some r) : ACt Tryz.prog 83 [Enc.enc a0, Enc.enc a1] (.tup [Enc.enc r.1, Enc.enc r.2.1, Enc.enc r.2.2]) [] := by
 refine act_of p_octet_Get (by simp [c_octet_Get]) ?_
 show AW _ b_octet_Get (RetOk [.tmp 4, .tmp 5, .tmp 6] _ _) { n := 41, tm := [(0, _), (1, _)], box := [], fr := [] }
 unfold b_octet_Get
 unfold m_octet_Get at h
 try simp -implicitDefEqProofs only [av, reduceCtorEq, ↓reduceIte, sevalprocAttr] at h
 repeat' (first
   | (refine (hκ _).mpr ?_; clear hκ)
   | refine kn1 ?_
   | refine kr1 ?_
   | refine ke1 ?_
   | refine kn2 ?_
   | refine kr2 ?_
   | refine kx2 ?_
   | refine ke2 rfl ?_
   | refine kr5 ?_
   | refine ke5 ?_
   | refine kr6 ?_
   | refine ke6 ?_
   | (refine w_loopm [8, 9, 26, 27] (fun (j : (Int × Int)) => [(10, (.int .i64 j.1)), (28, (.int .i64 j.2))]) (fun (j : (Int × Int)) => []) (fun (j : (Int × Int)) => []) (fun (j : (Int × Int)) => []) (show loopC (s_octet_Get1 _) _ BIG _ = some _ from h) ?_ ?_
      · try simp -implicitDefEqProofs only [pats, av, reduceCtorEq, ↓reduceIte, sevalprocAttr]
        (first
         | (refine wk_m 0 _ rfl ?_ rfl rfl ?_ ?_ ?_ ?_
            iterate 3 exact tk3
            all_goals (repeat' (first | exact trivial | apply And.intro))
            all_goals exact tk1))
      clear h
      intro n st h
      simp -implicitDefEqProofs only [s_octet_Get1.eq_1, pats, av, reduceCtorEq, ↓reduceIte, sevalprocAttr] at h ⊢)
   | refine w_seq ?_
   | refine w_block ?_
   | refine w_scope ?_
   | refine kn7 ?_
   | refine kr7 ?_
   | refine ke7 ?_
   | (refine aw_regk fun κ hκ => ?_; simp -implicitDefEqProofs only [av, reduceCtorEq, ↓reduceIte, sevalprocAttr])
   | refine aw_exit ?_
   | refine aw_ret ?_
   | refine aw_skip ?_
   | refine aw_label ?_
   | refine condc_t ?_
   | refine condc_f ?_
   | (refine aw_cond2 tk4 ?_)
   | ((first | refine gkc_fork ?_ ?_ | refine pkc_fork ?_ ?_ | refine condc_fork ?_ ?_) <;> intro hq <;> (first | contradiction | simp -implicitDefEqProofs only [eq_false hq, Decidable.not_not, av, reduceCtorEq, ↓reduceIte, sevalprocAttr] at h ⊢ | simp -implicitDefEqProofs only [eq_true hq, av, reduceCtorEq, ↓reduceIte, sevalprocAttr] at h ⊢))
   | ((first | refine gkc_split ?_ ?_ | refine pkc_split ?_ ?_ | refine condc_bool ?_ ?_) <;> intro hq <;> (first | exact bcontra (by assumption) hq | exact bcontra hq (by assumption) | simp -implicitDefEqProofs only [hq, av, reduceCtorEq, ↓reduceIte, sevalprocAttr] at h ⊢))
   | (refine bd_go h fun y hy h => ?_; refine ixc hy ?_; simp -implicitDefEqProofs only [av, reduceCtorEq, ↓reduceIte, sevalprocAttr])
   | (refine bd_go h fun y hy h => ?_
      first | refine callsc (a_octet_Take hy) ?_ ?_ | refine callc (a_octet_Take hy) ?_ ?_ | ((first | refine callsc (act_le (a_octet_Take hy) ?_) ?_ ?_ | refine callc (act_le (a_octet_Take hy) ?_) ?_ ?_); (focus (repeat' (first | exact trivial | exact le_same _ | exact le_enc | exact le_nil | exact le_imm (.inl rfl) | exact le_imm (.inr rfl) | (refine le_agg ?_) | apply And.intro | (refine le_eq ?_; simp only [*]; done)))))
      exact tk2
      simp -implicitDefEqProofs only [av, reduceCtorEq, ↓reduceIte, sevalprocAttr])
   | (first | refine kn6 ⟨_, h, ?_⟩ | refine kn5 ⟨_, h, ?_⟩
      try simp -implicitDefEqProofs only [pats, av, reduceCtorEq, ↓reduceIte, sevalprocAttr]
      (first
         | (refine wk_m 0 _ rfl ?_ rfl rfl ?_ ?_ ?_ ?_
            iterate 3 exact tk3
            all_goals (repeat' (first | exact trivial | apply And.intro))
            all_goals exact tk1)))
   | (first | refine kn6 ⟨_, h, ?_⟩ | refine kn5 ⟨_, h, ?_⟩
      try simp -implicitDefEqProofs only [*, pats, av, reduceCtorEq, ↓reduceIte, sevalprocAttr]
      (first
         | (refine wk_m 0 _ rfl ?_ rfl rfl ?_ ?_ ?_ ?_
            iterate 3 exact tk3
            all_goals (repeat' (first | exact trivial | apply And.intro))
            all_goals exact tk1)))
   | (cases h
      try simp -implicitDefEqProofs only [av, reduceCtorEq, ↓reduceIte, sevalprocAttr]
      first | refine retLt tk5 (by rfl) ?_ | refine retL1 tk5 (by rfl) ?_
      repeat' (first | exact trivial | apply And.intro)
      all_goals exact tk0)
   | fail)
theorem a_open_read {a0 : (List UInt8)} {r : (OpenSaid × Note)} (h : m_open_read a0 = some r) : ACt Tryz.prog 84 [Enc.enc a0] (.tup [Enc.enc r.1, Enc.enc r.2]) [] := by
 refine act_of p_open_read (by simp [c_open_read]) ?_
 show AW _ b_open_read (RetOk [.cell 2 (some 2), .cell 3 (some 3)] _ _) { n := 12, tm := [(0, _)], box := [], fr := [] }
 unfold b_open_read
 unfold m_open_read at h
 try simp -implicitDefEqProofs only [av, reduceCtorEq, ↓reduceIte, sevalprocAttr] at h
 repeat' (first
   | (refine (hκ _).mpr ?_; clear hκ)
   | refine kn1 ?_
   | refine kr1 ?_
   | refine ke1 ?_
   | refine kn2 ?_
   | refine kr2 ?_
   | refine kx2 ?_
   | refine ke2 rfl ?_
   | refine kr5 ?_
   | refine ke5 ?_
   | refine kr6 ?_
   | refine ke6 ?_
   | (refine w_cutm (x := (.seq (.reg _) (.cond (.tmp 7) _ _))) [0, 1, 2, 6] (fun (j : (Bool)) => [(7, (.bool j))]) (fun (j : (Bool)) => []) (fun (j : (Bool)) => []) (fun (j : (Bool)) => []) (show jn 1 _ _ = some _ from h) ?_ ?_
      rotate_left
      intro j h
      simp -implicitDefEqProofs only [pats, av, reduceCtorEq, ↓reduceIte, sevalprocAttr] at h ⊢
      rotate_left
      intro k' h
      try simp -implicitDefEqProofs only [av, reduceCtorEq, ↓reduceIte, sevalprocAttr] at h)
   | (refine w_loopm [1, 4] (fun (j : ((List UInt8) × Int × Int)) => [(0, (.slice .imm 1 (List.map Enc.enc j.1)))]) (fun (j : ((List UInt8) × Int × Int)) => [(2, 0, (.int .i64 j.2.1)), (2, 1, (.int .i64 j.2.2))]) (fun (j : ((List UInt8) × Int × Int)) => []) (fun (j : ((List UInt8) × Int × Int)) => []) (show loopC (s_open_read1 _) _ BIG _ = some _ from h) ?_ ?_
      · try simp -implicitDefEqProofs only [pats, av, reduceCtorEq, ↓reduceIte, sevalprocAttr]
        (first
         | (refine wk_m 0 _ rfl ?_ rfl rfl ?_ ?_ ?_ ?_
            iterate 3 exact tk3
            all_goals (repeat' (first | exact trivial | apply And.intro))
            all_goals exact tk1))
      clear h
      intro n st h
      simp -implicitDefEqProofs only [s_open_read1.eq_1, pats, av, reduceCtorEq, ↓reduceIte, sevalprocAttr] at h ⊢)
   | (refine w_loopm [1, 4] (fun (j : ((List UInt8) × Int × Int)) => [(0, (.slice .imm 1 (List.map Enc.enc j.1)))]) (fun (j : ((List UInt8) × Int × Int)) => [(2, 0, (.int .i64 j.2.1)), (2, 1, (.int .i64 j.2.2))]) (fun (j : ((List UInt8) × Int × Int)) => []) (fun (j : ((List UInt8) × Int × Int)) => []) (show loopC (s_open_read2 _) _ BIG _ = some _ from h) ?_ ?_
      · try simp -implicitDefEqProofs only [pats, av, reduceCtorEq, ↓reduceIte, sevalprocAttr]
        (first
         | (refine wk_m 0 _ rfl ?_ rfl rfl ?_ ?_ ?_ ?_
            iterate 3 exact tk3
            all_goals (repeat' (first | exact trivial | apply And.intro))
            all_goals exact tk1))
      clear h
      intro n st h
      simp -implicitDefEqProofs only [s_open_read2.eq_1, pats, av, reduceCtorEq, ↓reduceIte, sevalprocAttr] at h ⊢)
   | refine w_seq ?_
   | refine w_block ?_
   | refine w_scope ?_
   | refine kn7 ?_
   | refine kr7 ?_
   | refine ke7 ?_
   | (refine aw_regk fun κ hκ => ?_; simp -implicitDefEqProofs only [av, reduceCtorEq, ↓reduceIte, sevalprocAttr])
   | refine aw_exit ?_
   | refine aw_ret ?_
   | refine aw_skip ?_
   | refine aw_label ?_
   | refine condc_t ?_
   | refine condc_f ?_
   | (refine aw_cond2 tk4 ?_)
   | ((first | refine gkc_fork ?_ ?_ | refine pkc_fork ?_ ?_ | refine condc_fork ?_ ?_) <;> intro hq <;> (first | contradiction | simp -implicitDefEqProofs only [eq_false hq, Decidable.not_not, av, reduceCtorEq, ↓reduceIte, sevalprocAttr] at h ⊢ | simp -implicitDefEqProofs only [eq_true hq, av, reduceCtorEq, ↓reduceIte, sevalprocAttr] at h ⊢))
   | ((first | refine gkc_split ?_ ?_ | refine pkc_split ?_ ?_ | refine condc_bool ?_ ?_) <;> intro hq <;> (first | exact bcontra (by assumption) hq | exact bcontra hq (by assumption) | simp -implicitDefEqProofs only [hq, av, reduceCtorEq, ↓reduceIte, sevalprocAttr] at h ⊢))
   | (refine stc_plain rfl ?_; simp -implicitDefEqProofs only [putCells.eq_1, av, reduceCtorEq, ↓reduceIte, sevalprocAttr])
   | (refine bd_go h fun y hy h => ?_; refine ixc hy ?_; simp -implicitDefEqProofs only [av, reduceCtorEq, ↓reduceIte, sevalprocAttr])
   | (refine call_cut p_open_each (by simp [c_open_each]) (fun (j : (Int × Int × Int × Int)) => (.agg [(.int .i64 j.1), (.int .i64 j.2.1), (.slice .full 0 [])])) (fun (j : (Int × Int × Int × Int)) => [(2, 0, (.int .i64 j.2.2.1)), (2, 1, (.int .i64 j.2.2.2))]) (fun (j : (Int × Int × Int × Int)) => []) (show jn 101 _ _ = some _ from h) ?_ ?_
      rotate_left
      intro j h
      simp -implicitDefEqProofs only [pats, av, reduceCtorEq, ↓reduceIte, sevalprocAttr] at h ⊢
      rotate_left
      clear h
      intro k' h
      simp -implicitDefEqProofs only [c_open_each, b_open_each, pats, av, reduceCtorEq, ↓reduceIte, sevalprocAttr] at h ⊢)
   | (refine call_cut p_open_read_1 (by simp [c_open_read_1]) (fun (j : (Int × Int × Int × Int)) => (.agg [(.int .i64 j.1), (.int .i64 j.2.1), (.slice .full 0 [])])) (fun (j : (Int × Int × Int × Int)) => [(2, 0, (.int .i64 j.2.2.1)), (2, 1, (.int .i64 j.2.2.2))]) (fun (j : (Int × Int × Int × Int)) => []) (show jn 102 _ _ = some _ from h) ?_ ?_
      rotate_left
      intro j h
      simp -implicitDefEqProofs only [pats, av, reduceCtorEq, ↓reduceIte, sevalprocAttr] at h ⊢
      rotate_left
      clear h
      intro k' h
      simp -implicitDefEqProofs only [c_open_read_1, b_open_read_1, pats, av, reduceCtorEq, ↓reduceIte, sevalprocAttr] at h ⊢)
   | (refine call_cut p_open_each (by simp [c_open_each]) (fun (j : (Int × Int × Int × Int)) => (.agg [(.int .i64 j.1), (.int .i64 j.2.1), (.slice .full 0 [])])) (fun (j : (Int × Int × Int × Int)) => [(2, 0, (.int .i64 j.2.2.1)), (2, 1, (.int .i64 j.2.2.2))]) (fun (j : (Int × Int × Int × Int)) => []) (show jn 103 _ _ = some _ from h) ?_ ?_
      rotate_left
      intro j h
      simp -implicitDefEqProofs only [pats, av, reduceCtorEq, ↓reduceIte, sevalprocAttr] at h ⊢
      rotate_left
      clear h
      intro k' h
      simp -implicitDefEqProofs only [c_open_each, b_open_each, pats, av, reduceCtorEq, ↓reduceIte, sevalprocAttr] at h ⊢)
   | (refine call_cut p_open_said__take (by simp [c_open_said__take]) (fun (j : (Int × Int × Int × Int)) => (.agg [(.int .i64 j.1), (.int .i64 j.2.1), (.slice .full 0 [])])) (fun (j : (Int × Int × Int × Int)) => [(2, 0, (.int .i64 j.2.2.1)), (2, 1, (.int .i64 j.2.2.2))]) (fun (j : (Int × Int × Int × Int)) => []) (show jn 104 _ _ = some _ from h) ?_ ?_
      rotate_left
      intro j h
      simp -implicitDefEqProofs only [pats, av, reduceCtorEq, ↓reduceIte, sevalprocAttr] at h ⊢
      rotate_left
      clear h
      intro k' h
      simp -implicitDefEqProofs only [c_open_said__take, b_open_said__take, pats, av, reduceCtorEq, ↓reduceIte, sevalprocAttr] at h ⊢)
   | (refine call_cut p_open_said__take (by simp [c_open_said__take]) (fun (j : (Int × Int × Int × Int)) => (.agg [(.int .i64 j.1), (.int .i64 j.2.1), (.slice .full 0 [])])) (fun (j : (Int × Int × Int × Int)) => [(2, 0, (.int .i64 j.2.2.1)), (2, 1, (.int .i64 j.2.2.2))]) (fun (j : (Int × Int × Int × Int)) => []) (show jn 105 _ _ = some _ from h) ?_ ?_
      rotate_left
      intro j h
      simp -implicitDefEqProofs only [pats, av, reduceCtorEq, ↓reduceIte, sevalprocAttr] at h ⊢
      rotate_left
      clear h
      intro k' h
      simp -implicitDefEqProofs only [c_open_said__take, b_open_said__take, pats, av, reduceCtorEq, ↓reduceIte, sevalprocAttr] at h ⊢)
   | (refine call_cut p_open_read_1 (by simp [c_open_read_1]) (fun (j : (Int × Int × Int × Int)) => (.agg [(.int .i64 j.1), (.int .i64 j.2.1), (.slice .full 0 [])])) (fun (j : (Int × Int × Int × Int)) => [(2, 0, (.int .i64 j.2.2.1)), (2, 1, (.int .i64 j.2.2.2))]) (fun (j : (Int × Int × Int × Int)) => []) (show jn 106 _ _ = some _ from h) ?_ ?_
      rotate_left
      intro j h
      simp -implicitDefEqProofs only [pats, av, reduceCtorEq, ↓reduceIte, sevalprocAttr] at h ⊢
      rotate_left
      clear h
      intro k' h
      simp -implicitDefEqProofs only [c_open_read_1, b_open_read_1, pats, av, reduceCtorEq, ↓reduceIte, sevalprocAttr] at h ⊢)
   | (refine call_cut p_open_each (by simp [c_open_each]) (fun (j : (Int × Int × Int × Int)) => (.agg [(.int .i64 j.1), (.int .i64 j.2.1), (.slice .full 0 [])])) (fun (j : (Int × Int × Int × Int)) => [(2, 0, (.int .i64 j.2.2.1)), (2, 1, (.int .i64 j.2.2.2))]) (fun (j : (Int × Int × Int × Int)) => []) (show jn 107 _ _ = some _ from h) ?_ ?_
      rotate_left
      intro j h
      simp -implicitDefEqProofs only [pats, av, reduceCtorEq, ↓reduceIte, sevalprocAttr] at h ⊢
      rotate_left
      clear h
      intro k' h
      simp -implicitDefEqProofs only [c_open_each, b_open_each, pats, av, reduceCtorEq, ↓reduceIte, sevalprocAttr] at h ⊢)
   | (refine call_cut p_open_said__take (by simp [c_open_said__take]) (fun (j : (Int × Int × Int × Int)) => (.agg [(.int .i64 j.1), (.int .i64 j.2.1), (.slice .full 0 [])])) (fun (j : (Int × Int × Int × Int)) => [(2, 0, (.int .i64 j.2.2.1)), (2, 1, (.int .i64 j.2.2.2))]) (fun (j : (Int × Int × Int × Int)) => []) (show jn 108 _ _ = some _ from h) ?_ ?_
      rotate_left
      intro j h
      simp -implicitDefEqProofs only [pats, av, reduceCtorEq, ↓reduceIte, sevalprocAttr] at h ⊢
      rotate_left
      clear h
      intro k' h
      simp -implicitDefEqProofs only [c_open_said__take, b_open_said__take, pats, av, reduceCtorEq, ↓reduceIte, sevalprocAttr] at h ⊢)
   | (refine call_cut p_open_said__take (by simp [c_open_said__take]) (fun (j : (Int × Int × Int × Int)) => (.agg [(.int .i64 j.1), (.int .i64 j.2.1), (.slice .full 0 [])])) (fun (j : (Int × Int × Int × Int)) => [(2, 0, (.int .i64 j.2.2.1)), (2, 1, (.int .i64 j.2.2.2))]) (fun (j : (Int × Int × Int × Int)) => []) (show jn 109 _ _ = some _ from h) ?_ ?_
      rotate_left
      intro j h
      simp -implicitDefEqProofs only [pats, av, reduceCtorEq, ↓reduceIte, sevalprocAttr] at h ⊢
      rotate_left
      clear h
      intro k' h
      simp -implicitDefEqProofs only [c_open_said__take, b_open_said__take, pats, av, reduceCtorEq, ↓reduceIte, sevalprocAttr] at h ⊢)
   | (refine bd_go h fun y hy h => ?_
      first | refine callsc (a_octet_Get hy) ?_ ?_ | refine callc (a_octet_Get hy) ?_ ?_ | ((first | refine callsc (act_le (a_octet_Get hy) ?_) ?_ ?_ | refine callc (act_le (a_octet_Get hy) ?_) ?_ ?_); (focus (repeat' (first | exact trivial | exact le_same _ | exact le_enc | exact le_nil | exact le_imm (.inl rfl) | exact le_imm (.inr rfl) | (refine le_agg ?_) | apply And.intro | (refine le_eq ?_; simp only [*]; done)))))
      exact tk2
      simp -implicitDefEqProofs only [av, reduceCtorEq, ↓reduceIte, sevalprocAttr])
   | (refine bd_go h fun y hy h => ?_
      first | refine callsc (a_octet_Take hy) ?_ ?_ | refine callc (a_octet_Take hy) ?_ ?_ | ((first | refine callsc (act_le (a_octet_Take hy) ?_) ?_ ?_ | refine callc (act_le (a_octet_Take hy) ?_) ?_ ?_); (focus (repeat' (first | exact trivial | exact le_same _ | exact le_enc | exact le_nil | exact le_imm (.inl rfl) | exact le_imm (.inr rfl) | (refine le_agg ?_) | apply And.intro | (refine le_eq ?_; simp only [*]; done)))))
      exact tk2
      simp -implicitDefEqProofs only [av, reduceCtorEq, ↓reduceIte, sevalprocAttr])
   | (first | refine kn6 ⟨_, h, ?_⟩ | refine kn5 ⟨_, h, ?_⟩
      try simp -implicitDefEqProofs only [pats, av, reduceCtorEq, ↓reduceIte, sevalprocAttr]
      (first
         | (refine wk_m 0 _ rfl ?_ rfl rfl ?_ ?_ ?_ ?_
            iterate 3 exact tk3
            all_goals (repeat' (first | exact trivial | apply And.intro))
            all_goals exact tk1)))
   | (first | refine kn6 ⟨_, h, ?_⟩ | refine kn5 ⟨_, h, ?_⟩
      try simp -implicitDefEqProofs only [*, pats, av, reduceCtorEq, ↓reduceIte, sevalprocAttr]
      (first
         | (refine wk_m 0 _ rfl ?_ rfl rfl ?_ ?_ ?_ ?_
            iterate 3 exact tk3
            all_goals (repeat' (first | exact trivial | apply And.intro))
            all_goals exact tk1)))
   | (refine rets_in tk5 rfl ?_; simp -implicitDefEqProofs only [av, reduceCtorEq, ↓reduceIte, sevalprocAttr])
   | (refine retj_one 0 tk5 h rfl ?_ ?_ ?_ rfl rfl ?_ ?_
      · first | exact Nat.le_refl _ | exact Nat.zero_le _ | (simp; done)
      · first | exact Nat.zero_le _ | exact Nat.le_refl _ | (simp; done)
      · first | exact Nat.zero_le _ | exact Nat.le_refl _ | (simp; done)
      all_goals (try simp -implicitDefEqProofs only [pats, av, reduceCtorEq, ↓reduceIte, sevalprocAttr])
      all_goals (repeat' (first | exact trivial | apply And.intro))
      all_goals exact tk1)
   | (refine retj_tup 0 tk5 h rfl ?_ ?_ ?_ rfl rfl ?_ ?_
      · first | exact Nat.le_refl _ | exact Nat.zero_le _ | (simp; done)
      · first | exact Nat.zero_le _ | exact Nat.le_refl _ | (simp; done)
      · first | exact Nat.zero_le _ | exact Nat.le_refl _ | (simp; done)
      all_goals (try simp -implicitDefEqProofs only [pats, av, reduceCtorEq, ↓reduceIte, sevalprocAttr])
      all_goals (repeat' (first | exact trivial | apply And.intro))
      all_goals exact tk1)
   | (refine retj_nil 0 tk5 h rfl ?_ ?_ ?_ rfl rfl ?_
      · first | exact Nat.le_refl _ | exact Nat.zero_le _ | (simp; done)
      · first | exact Nat.zero_le _ | exact Nat.le_refl _ | (simp; done)
      · first | exact Nat.zero_le _ | exact Nat.le_refl _ | (simp; done)
      all_goals (try simp -implicitDefEqProofs only [pats, av, reduceCtorEq, ↓reduceIte, sevalprocAttr])
      all_goals (repeat' (first | exact trivial | apply And.intro))
      all_goals exact tk1)
   | (cases h
      try simp -implicitDefEqProofs only [av, reduceCtorEq, ↓reduceIte, sevalprocAttr]
      first | refine retLt tk5 (by rfl) ?_ | refine retL1 tk5 (by rfl) ?_
      repeat' (first | exact trivial | apply And.intro)
      all_goals exact tk0)
   | fail)
theorem a_open_fault {a0 : OpenSaid} {a1 : Int} {a2 : Int} {a3 : Int} {a4 : Int} {r : Note} (h : m_open_fault a0 a1 a2 a3 a4 = some r) : ACt Tryz.prog 85 [Enc.enc a0, Enc.enc a1, Enc.enc a2, Enc.enc a3, Enc.enc a4] (Enc.enc r) [] := by
 refine act_of p_open_fault (by simp [c_open_fault]) ?_
 show AW _ b_open_fault (RetOk [.cell 10 (some 3)] _ _) { n := 45, tm := [(0, _), (1, _), (2, _), (3, _), (4, _)], box := [], fr := [] }
 unfold b_open_fault
 unfold m_open_fault at h
 try simp -implicitDefEqProofs only [av, reduceCtorEq, ↓reduceIte, sevalprocAttr] at h
 repeat' (first
   | (refine (hκ _).mpr ?_; clear hκ)
   | refine kn1 ?_
   | refine kr1 ?_
   | refine ke1 ?_
   | refine kn2 ?_
   | refine kr2 ?_
   | refine kx2 ?_
   | refine ke2 rfl ?_
   | refine kr5 ?_
   | refine ke5 ?_
   | refine kr6 ?_
   | refine ke6 ?_
   | refine w_seq ?_
   | refine w_block ?_
   | refine w_scope ?_
   | refine kn7 ?_
   | refine kr7 ?_
   | refine ke7 ?_
   | (refine aw_regk fun κ hκ => ?_; simp -implicitDefEqProofs only [av, reduceCtorEq, ↓reduceIte, sevalprocAttr])
   | refine aw_exit ?_
   | refine aw_ret ?_
   | refine aw_skip ?_
   | refine aw_label ?_
   | refine condc_t ?_
   | refine condc_f ?_
   | (refine aw_cond2 tk4 ?_)
   | ((first | refine gkc_fork ?_ ?_ | refine pkc_fork ?_ ?_ | refine condc_fork ?_ ?_) <;> intro hq <;> (first | contradiction | simp -implicitDefEqProofs only [eq_false hq, Decidable.not_not, av, reduceCtorEq, ↓reduceIte, sevalprocAttr] at h ⊢ | simp -implicitDefEqProofs only [eq_true hq, av, reduceCtorEq, ↓reduceIte, sevalprocAttr] at h ⊢))
   | ((first | refine gkc_split ?_ ?_ | refine pkc_split ?_ ?_ | refine condc_bool ?_ ?_) <;> intro hq <;> (first | exact bcontra (by assumption) hq | exact bcontra hq (by assumption) | simp -implicitDefEqProofs only [hq, av, reduceCtorEq, ↓reduceIte, sevalprocAttr] at h ⊢))
   | (refine stc_plain rfl ?_; simp -implicitDefEqProofs only [putCells.eq_1, av, reduceCtorEq, ↓reduceIte, sevalprocAttr])
   | (refine bd_go h fun y hy h => ?_
      first | refine callsc (a_open_short hy) ?_ ?_ | refine callc (a_open_short hy) ?_ ?_ | ((first | refine callsc (act_le (a_open_short hy) ?_) ?_ ?_ | refine callc (act_le (a_open_short hy) ?_) ?_ ?_); (focus (repeat' (first | exact trivial | exact le_same _ | exact le_enc | exact le_nil | exact le_imm (.inl rfl) | exact le_imm (.inr rfl) | (refine le_agg ?_) | apply And.intro | (refine le_eq ?_; simp only [*]; done)))))
      exact tk2
      simp -implicitDefEqProofs only [av, reduceCtorEq, ↓reduceIte, sevalprocAttr])
   | (refine bd_go h fun y hy h => ?_
      first | refine callsc (a_open_holds hy) ?_ ?_ | refine callc (a_open_holds hy) ?_ ?_ | ((first | refine callsc (act_le (a_open_holds hy) ?_) ?_ ?_ | refine callc (act_le (a_open_holds hy) ?_) ?_ ?_); (focus (repeat' (first | exact trivial | exact le_same _ | exact le_enc | exact le_nil | exact le_imm (.inl rfl) | exact le_imm (.inr rfl) | (refine le_agg ?_) | apply And.intro | (refine le_eq ?_; simp only [*]; done)))))
      exact tk2
      simp -implicitDefEqProofs only [av, reduceCtorEq, ↓reduceIte, sevalprocAttr])
   | (cases h
      try simp -implicitDefEqProofs only [av, reduceCtorEq, ↓reduceIte, sevalprocAttr]
      first | refine retLt tk5 (by rfl) ?_ | refine retL1 tk5 (by rfl) ?_
      repeat' (first | exact trivial | apply And.intro)
      all_goals exact tk0)
   | fail)
theorem a_open_Get {a0 : Msg} {a1 : Int} {r : (Hello × Note)} (h : m_open_Get a0 a1 = some r) : ACt Tryz.prog 71 [Enc.enc a0, Enc.enc a1] (.tup [Enc.enc r.1, Enc.enc r.2]) [] := by
 refine act_of p_open_Get (by simp [c_open_Get]) ?_
 show AW _ b_open_Get (RetOk [.cell 4 (some 4), .cell 5 (some 3)] _ _) { n := 98, tm := [(0, _), (1, _)], box := [], fr := [] }
 unfold b_open_Get
 unfold m_open_Get at h
 try simp -implicitDefEqProofs only [av, reduceCtorEq, ↓reduceIte, sevalprocAttr] at h
 repeat' (first
   | (refine (hκ _).mpr ?_; clear hκ)
   | refine kn1 ?_
   | refine kr1 ?_
   | refine ke1 ?_
   | refine kn2 ?_
   | refine kr2 ?_
   | refine kx2 ?_
   | refine ke2 rfl ?_
   | refine kr5 ?_
   | refine ke5 ?_
   | refine kr6 ?_
   | refine ke6 ?_
   | (refine w_cutm (x := (.seq (.reg _) (.cond (.tmp 78) _ _))) [4, 5, 11, 13, 17, 18] (fun (j : (Int × Int × (List UInt8))) => []) (fun (j : (Int × Int × (List UInt8))) => [(4, 0, (.int .i64 j.1)), (4, 1, (.int .i64 j.2.1)), (4, 2, (.slice .imm 1 (List.map Enc.enc j.2.2)))]) (fun (j : (Int × Int × (List UInt8))) => []) (fun (j : (Int × Int × (List UInt8))) => []) (show jn 1 _ _ = some _ from h) ?_ ?_
      rotate_left
      intro j h
      simp -implicitDefEqProofs only [pats, av, reduceCtorEq, ↓reduceIte, sevalprocAttr] at h ⊢
      rotate_left
      intro k' h
      try simp -implicitDefEqProofs only [av, reduceCtorEq, ↓reduceIte, sevalprocAttr] at h)
   | refine w_seq ?_
   | refine w_block ?_
   | refine w_scope ?_
   | refine kn7 ?_
   | refine kr7 ?_
   | refine ke7 ?_
   | (refine aw_regk fun κ hκ => ?_; simp -implicitDefEqProofs only [av, reduceCtorEq, ↓reduceIte, sevalprocAttr])
   | refine aw_exit ?_
   | refine aw_ret ?_
   | refine aw_skip ?_
   | refine aw_label ?_
   | refine condc_t ?_
   | refine condc_f ?_
   | (refine aw_cond2 tk4 ?_)
   | ((first | refine gkc_fork ?_ ?_ | refine pkc_fork ?_ ?_ | refine condc_fork ?_ ?_) <;> intro hq <;> (first | contradiction | simp -implicitDefEqProofs only [eq_false hq, Decidable.not_not, av, reduceCtorEq, ↓reduceIte, sevalprocAttr] at h ⊢ | simp -implicitDefEqProofs only [eq_true hq, av, reduceCtorEq, ↓reduceIte, sevalprocAttr] at h ⊢))
   | ((first | refine gkc_split ?_ ?_ | refine pkc_split ?_ ?_ | refine condc_bool ?_ ?_) <;> intro hq <;> (first | exact bcontra (by assumption) hq | exact bcontra hq (by assumption) | simp -implicitDefEqProofs only [hq, av, reduceCtorEq, ↓reduceIte, sevalprocAttr] at h ⊢))
   | (refine stc_plain rfl ?_; simp -implicitDefEqProofs only [putCells.eq_1, av, reduceCtorEq, ↓reduceIte, sevalprocAttr])
   | (refine bd_go h fun y hy h => ?_
      first | refine callsc (a_msg_Sane hy) ?_ ?_ | refine callc (a_msg_Sane hy) ?_ ?_ | ((first | refine callsc (act_le (a_msg_Sane hy) ?_) ?_ ?_ | refine callc (act_le (a_msg_Sane hy) ?_) ?_ ?_); (focus (repeat' (first | exact trivial | exact le_same _ | exact le_enc | exact le_nil | exact le_imm (.inl rfl) | exact le_imm (.inr rfl) | (refine le_agg ?_) | apply And.intro | (refine le_eq ?_; simp only [*]; done)))))
      exact tk2
      simp -implicitDefEqProofs only [av, reduceCtorEq, ↓reduceIte, sevalprocAttr])
   | (refine bd_go h fun y hy h => ?_
      first | refine callsc (a_octet_Get hy) ?_ ?_ | refine callc (a_octet_Get hy) ?_ ?_ | ((first | refine callsc (act_le (a_octet_Get hy) ?_) ?_ ?_ | refine callc (act_le (a_octet_Get hy) ?_) ?_ ?_); (focus (repeat' (first | exact trivial | exact le_same _ | exact le_enc | exact le_nil | exact le_imm (.inl rfl) | exact le_imm (.inr rfl) | (refine le_agg ?_) | apply And.intro | (refine le_eq ?_; simp only [*]; done)))))
      exact tk2
      simp -implicitDefEqProofs only [av, reduceCtorEq, ↓reduceIte, sevalprocAttr])
   | (refine bd_go h fun y hy h => ?_
      first | refine callsc (a_octet_Put_app hy (by decide)) ?_ ?_ | refine callc (a_octet_Put_app hy (by decide)) ?_ ?_ | ((first | refine callsc (act_le (a_octet_Put_app hy (by decide)) ?_) ?_ ?_ | refine callc (act_le (a_octet_Put_app hy (by decide)) ?_) ?_ ?_); (focus (repeat' (first | exact trivial | exact le_same _ | exact le_enc | exact le_nil | exact le_imm (.inl rfl) | exact le_imm (.inr rfl) | (refine le_agg ?_) | apply And.intro | (refine le_eq ?_; simp only [*]; done)))))
      exact tk2
      simp -implicitDefEqProofs only [av, reduceCtorEq, ↓reduceIte, sevalprocAttr])
   | (refine bd_go h fun y hy h => ?_
      first | refine callsc (a_octet_Put hy) ?_ ?_ | refine callc (a_octet_Put hy) ?_ ?_ | ((first | refine callsc (act_le (a_octet_Put hy) ?_) ?_ ?_ | refine callc (act_le (a_octet_Put hy) ?_) ?_ ?_); (focus (repeat' (first | exact trivial | exact le_same _ | exact le_enc | exact le_nil | exact le_imm (.inl rfl) | exact le_imm (.inr rfl) | (refine le_agg ?_) | apply And.intro | (refine le_eq ?_; simp only [*]; done)))))
      exact tk2
      simp -implicitDefEqProofs only [av, reduceCtorEq, ↓reduceIte, sevalprocAttr])
   | (refine bd_go h fun y hy h => ?_
      first | refine callsc (a_open_read hy) ?_ ?_ | refine callc (a_open_read hy) ?_ ?_ | ((first | refine callsc (act_le (a_open_read hy) ?_) ?_ ?_ | refine callc (act_le (a_open_read hy) ?_) ?_ ?_); (focus (repeat' (first | exact trivial | exact le_same _ | exact le_enc | exact le_nil | exact le_imm (.inl rfl) | exact le_imm (.inr rfl) | (refine le_agg ?_) | apply And.intro | (refine le_eq ?_; simp only [*]; done)))))
      exact tk2
      simp -implicitDefEqProofs only [av, reduceCtorEq, ↓reduceIte, sevalprocAttr])
   | (refine bd_go h fun y hy h => ?_
      first | refine callsc (a_open_fault hy) ?_ ?_ | refine callc (a_open_fault hy) ?_ ?_ | ((first | refine callsc (act_le (a_open_fault hy) ?_) ?_ ?_ | refine callc (act_le (a_open_fault hy) ?_) ?_ ?_); (focus (repeat' (first | exact trivial | exact le_same _ | exact le_enc | exact le_nil | exact le_imm (.inl rfl) | exact le_imm (.inr rfl) | (refine le_agg ?_) | apply And.intro | (refine le_eq ?_; simp only [*]; done)))))
      exact tk2
      simp -implicitDefEqProofs only [av, reduceCtorEq, ↓reduceIte, sevalprocAttr])
   | (first | refine kn6 ⟨_, h, ?_⟩ | refine kn5 ⟨_, h, ?_⟩
      try simp -implicitDefEqProofs only [pats, av, reduceCtorEq, ↓reduceIte, sevalprocAttr]
      (first
         | (refine wk_m 0 _ rfl ?_ rfl rfl ?_ ?_ ?_ ?_
            iterate 3 exact tk3
            all_goals (repeat' (first | exact trivial | apply And.intro))
            all_goals exact tk1)))
   | (first | refine kn6 ⟨_, h, ?_⟩ | refine kn5 ⟨_, h, ?_⟩
      try simp -implicitDefEqProofs only [*, pats, av, reduceCtorEq, ↓reduceIte, sevalprocAttr]
      (first
         | (refine wk_m 0 _ rfl ?_ rfl rfl ?_ ?_ ?_ ?_
            iterate 3 exact tk3
            all_goals (repeat' (first | exact trivial | apply And.intro))
            all_goals exact tk1)))
   | (cases h
      try simp -implicitDefEqProofs only [av, reduceCtorEq, ↓reduceIte, sevalprocAttr]
      first | refine retLt tk5 (by rfl) ?_ | refine retL1 tk5 (by rfl) ?_
      repeat' (first | exact trivial | apply And.intro)
      all_goals exact tk0)
   | fail)
theorem a_role_Pairs {a0 : Int} {a1 : Int} {r : Bool} (h : m_role_Pairs a0 a1 = some r) : ACt Tryz.prog 72 [Enc.enc a0, Enc.enc a1] (Enc.enc r) [] := by
 refine act_of p_role_Pairs (by simp [c_role_Pairs]) ?_
 show AW _ b_role_Pairs (RetOk [.tmp 4] _ _) { n := 22, tm := [(0, _), (1, _)], box := [], fr := [] }
 unfold b_role_Pairs
 unfold m_role_Pairs at h
 try simp -implicitDefEqProofs only [av, reduceCtorEq, ↓reduceIte, sevalprocAttr] at h
 repeat' (first
   | (refine (hκ _).mpr ?_; clear hκ)
   | refine kn1 ?_
   | refine kr1 ?_
   | refine ke1 ?_
   | refine kn2 ?_
   | refine kr2 ?_
   | refine kx2 ?_
   | refine ke2 rfl ?_
   | refine kr5 ?_
   | refine ke5 ?_
   | refine kr6 ?_
   | refine ke6 ?_
   | (refine w_loopm [0, 1, 7] (fun (j : (Int)) => [(8, (.int .i64 j))]) (fun (j : (Int)) => []) (fun (j : (Int)) => []) (fun (j : (Int)) => []) (show loopC (s_role_Pairs1 _ _) _ BIG _ = some _ from h) ?_ ?_
      · try simp -implicitDefEqProofs only [pats, av, reduceCtorEq, ↓reduceIte, sevalprocAttr]
        (first
         | (refine wk_m 0 _ rfl ?_ rfl rfl ?_ ?_ ?_ ?_
            iterate 3 exact tk3
            all_goals (repeat' (first | exact trivial | apply And.intro))
            all_goals exact tk1))
      clear h
      intro n st h
      simp -implicitDefEqProofs only [s_role_Pairs1.eq_1, pats, av, reduceCtorEq, ↓reduceIte, sevalprocAttr] at h ⊢)
   | refine w_seq ?_
   | refine w_block ?_
   | refine w_scope ?_
   | refine kn7 ?_
   | refine kr7 ?_
   | refine ke7 ?_
   | (refine aw_regk fun κ hκ => ?_; simp -implicitDefEqProofs only [av, reduceCtorEq, ↓reduceIte, sevalprocAttr])
   | refine aw_exit ?_
   | refine aw_ret ?_
   | refine aw_skip ?_
   | refine aw_label ?_
   | refine condc_t ?_
   | refine condc_f ?_
   | (refine aw_cond2 tk4 ?_)
   | ((first | refine gkc_fork ?_ ?_ | refine pkc_fork ?_ ?_ | refine condc_fork ?_ ?_) <;> intro hq <;> (first | contradiction | simp -implicitDefEqProofs only [eq_false hq, Decidable.not_not, av, reduceCtorEq, ↓reduceIte, sevalprocAttr] at h ⊢ | simp -implicitDefEqProofs only [eq_true hq, av, reduceCtorEq, ↓reduceIte, sevalprocAttr] at h ⊢))
   | ((first | refine gkc_split ?_ ?_ | refine pkc_split ?_ ?_ | refine condc_bool ?_ ?_) <;> intro hq <;> (first | exact bcontra (by assumption) hq | exact bcontra hq (by assumption) | simp -implicitDefEqProofs only [hq, av, reduceCtorEq, ↓reduceIte, sevalprocAttr] at h ⊢))
   | (refine stc_plain rfl ?_; simp -implicitDefEqProofs only [putCells.eq_1, av, reduceCtorEq, ↓reduceIte, sevalprocAttr])
   | (first | refine kn6 ⟨_, h, ?_⟩ | refine kn5 ⟨_, h, ?_⟩
      try simp -implicitDefEqProofs only [pats, av, reduceCtorEq, ↓reduceIte, sevalprocAttr]
      (first
         | (refine wk_m 0 _ rfl ?_ rfl rfl ?_ ?_ ?_ ?_
            iterate 3 exact tk3
            all_goals (repeat' (first | exact trivial | apply And.intro))
            all_goals exact tk1)))
   | (first | refine kn6 ⟨_, h, ?_⟩ | refine kn5 ⟨_, h, ?_⟩
      try simp -implicitDefEqProofs only [*, pats, av, reduceCtorEq, ↓reduceIte, sevalprocAttr]
      (first
         | (refine wk_m 0 _ rfl ?_ rfl rfl ?_ ?_ ?_ ?_
            iterate 3 exact tk3
            all_goals (repeat' (first | exact trivial | apply And.intro))
            all_goals exact tk1)))
   | (cases h
      try simp -implicitDefEqProofs only [av, reduceCtorEq, ↓reduceIte, sevalprocAttr]
      first | refine retLt tk5 (by rfl) ?_ | refine retL1 tk5 (by rfl) ?_
      repeat' (first | exact trivial | apply And.intro)
      all_goals exact tk0)
   | (cases h; done)
   | ((refine sw_fork h (fun hq h => ?_) (fun hq h => ?_)) <;> (first | contradiction | simp -implicitDefEqProofs only [eq_false hq, Decidable.not_not, av, reduceCtorEq, ↓reduceIte, sevalprocAttr] at h ⊢ | simp -implicitDefEqProofs only [hq, av, reduceCtorEq, ↓reduceIte, sevalprocAttr] at h ⊢ | skip))
   | fail)
theorem a_session_turn__sent {a0 : SessionTurn} {r : (Sess × (List Msg) × Bool)} (h : m_session_turn__sent a0 = some r) : ACt Tryz.prog 52 [Enc.enc a0] (.tup [Enc.enc r.1, Enc.enc r.2.1, Enc.enc r.2.2]) [] := by
 refine act_of p_session_turn__sent (by simp [c_session_turn__sent]) ?_
 show AW _ b_session_turn__sent (RetOk [.cell 2 (some 4), .tmp 3, .tmp 4] _ _) { n := 67, tm := [(0, _)], box := [], fr := [] }
 unfold b_session_turn__sent
 unfold m_session_turn__sent at h
 try simp -implicitDefEqProofs only [av, reduceCtorEq, ↓reduceIte, sevalprocAttr] at h
 repeat' (first
   | (refine (hκ _).mpr ?_; clear hκ)
   | refine kn1 ?_
   | refine kr1 ?_
   | refine ke1 ?_
   | refine kn2 ?_
   | refine kr2 ?_
   | refine kx2 ?_
   | refine ke2 rfl ?_
   | refine kr5 ?_
   | refine ke5 ?_
   | refine kr6 ?_
   | refine ke6 ?_
   | refine w_seq ?_
   | refine w_block ?_
   | refine w_scope ?_
   | refine kn7 ?_
   | refine kr7 ?_
   | refine ke7 ?_
   | (refine aw_regk fun κ hκ => ?_; simp -implicitDefEqProofs only [av, reduceCtorEq, ↓reduceIte, sevalprocAttr])
   | refine aw_exit ?_
   | refine aw_ret ?_
   | refine aw_skip ?_
   | refine aw_label ?_
   | refine condc_t ?_
   | refine condc_f ?_
   | (refine aw_cond2 tk4 ?_)
   | ((first | refine gkc_fork ?_ ?_ | refine pkc_fork ?_ ?_ | refine condc_fork ?_ ?_) <;> intro hq <;> (first | contradiction | simp -implicitDefEqProofs only [eq_false hq, Decidable.not_not, av, reduceCtorEq, ↓reduceIte, sevalprocAttr] at h ⊢ | simp -implicitDefEqProofs only [eq_true hq, av, reduceCtorEq, ↓reduceIte, sevalprocAttr] at h ⊢))
   | ((first | refine gkc_split ?_ ?_ | refine pkc_split ?_ ?_ | refine condc_bool ?_ ?_) <;> intro hq <;> (first | exact bcontra (by assumption) hq | exact bcontra hq (by assumption) | simp -implicitDefEqProofs only [hq, av, reduceCtorEq, ↓reduceIte, sevalprocAttr] at h ⊢))
   | (refine stc_plain rfl ?_; simp -implicitDefEqProofs only [putCells.eq_1, av, reduceCtorEq, ↓reduceIte, sevalprocAttr])
   | (refine bd_go h fun y hy h => ?_
      first | refine callsc (a_session_turn__end hy) ?_ ?_ | refine callc (a_session_turn__end hy) ?_ ?_ | ((first | refine callsc (act_le (a_session_turn__end hy) ?_) ?_ ?_ | refine callc (act_le (a_session_turn__end hy) ?_) ?_ ?_); (focus (repeat' (first | exact trivial | exact le_same _ | exact le_enc | exact le_nil | exact le_imm (.inl rfl) | exact le_imm (.inr rfl) | (refine le_agg ?_) | apply And.intro | (refine le_eq ?_; simp only [*]; done)))))
      exact tk2
      simp -implicitDefEqProofs only [av, reduceCtorEq, ↓reduceIte, sevalprocAttr])
   | (refine bd_go h fun y hy h => ?_
      first | refine callsc (a_open_Get hy) ?_ ?_ | refine callc (a_open_Get hy) ?_ ?_ | ((first | refine callsc (act_le (a_open_Get hy) ?_) ?_ ?_ | refine callc (act_le (a_open_Get hy) ?_) ?_ ?_); (focus (repeat' (first | exact trivial | exact le_same _ | exact le_enc | exact le_nil | exact le_imm (.inl rfl) | exact le_imm (.inr rfl) | (refine le_agg ?_) | apply And.intro | (refine le_eq ?_; simp only [*]; done)))))
      exact tk2
      simp -implicitDefEqProofs only [av, reduceCtorEq, ↓reduceIte, sevalprocAttr])
   | (refine bd_go h fun y hy h => ?_
      first | refine callsc (a_role_Mine hy) ?_ ?_ | refine callc (a_role_Mine hy) ?_ ?_ | ((first | refine callsc (act_le (a_role_Mine hy) ?_) ?_ ?_ | refine callc (act_le (a_role_Mine hy) ?_) ?_ ?_); (focus (repeat' (first | exact trivial | exact le_same _ | exact le_enc | exact le_nil | exact le_imm (.inl rfl) | exact le_imm (.inr rfl) | (refine le_agg ?_) | apply And.intro | (refine le_eq ?_; simp only [*]; done)))))
      exact tk2
      simp -implicitDefEqProofs only [av, reduceCtorEq, ↓reduceIte, sevalprocAttr])
   | (refine bd_go h fun y hy h => ?_
      first | refine callsc (a_role_Pairs hy) ?_ ?_ | refine callc (a_role_Pairs hy) ?_ ?_ | ((first | refine callsc (act_le (a_role_Pairs hy) ?_) ?_ ?_ | refine callc (act_le (a_role_Pairs hy) ?_) ?_ ?_); (focus (repeat' (first | exact trivial | exact le_same _ | exact le_enc | exact le_nil | exact le_imm (.inl rfl) | exact le_imm (.inr rfl) | (refine le_agg ?_) | apply And.intro | (refine le_eq ?_; simp only [*]; done)))))
      exact tk2
      simp -implicitDefEqProofs only [av, reduceCtorEq, ↓reduceIte, sevalprocAttr])
   | (refine bd_go h fun y hy h => ?_
      first | refine callsc (a_session_third hy) ?_ ?_ | refine callc (a_session_third hy) ?_ ?_ | ((first | refine callsc (act_le (a_session_third hy) ?_) ?_ ?_ | refine callc (act_le (a_session_third hy) ?_) ?_ ?_); (focus (repeat' (first | exact trivial | exact le_same _ | exact le_enc | exact le_nil | exact le_imm (.inl rfl) | exact le_imm (.inr rfl) | (refine le_agg ?_) | apply And.intro | (refine le_eq ?_; simp only [*]; done)))))
      exact tk2
      simp -implicitDefEqProofs only [av, reduceCtorEq, ↓reduceIte, sevalprocAttr])
   | (refine bd_go h fun y hy h => ?_
      first | refine callsc (a_session_alive hy) ?_ ?_ | refine callc (a_session_alive hy) ?_ ?_ | ((first | refine callsc (act_le (a_session_alive hy) ?_) ?_ ?_ | refine callc (act_le (a_session_alive hy) ?_) ?_ ?_); (focus (repeat' (first | exact trivial | exact le_same _ | exact le_enc | exact le_nil | exact le_imm (.inl rfl) | exact le_imm (.inr rfl) | (refine le_agg ?_) | apply And.intro | (refine le_eq ?_; simp only [*]; done)))))
      exact tk2
      simp -implicitDefEqProofs only [av, reduceCtorEq, ↓reduceIte, sevalprocAttr])
   | (cases h
      try simp -implicitDefEqProofs only [av, reduceCtorEq, ↓reduceIte, sevalprocAttr]
      first | refine retLt tk5 (by rfl) ?_ | refine retL1 tk5 (by rfl) ?_
      repeat' (first | exact trivial | apply And.intro)
      all_goals exact tk0)
   | fail)
theorem a_session_turn__confirm {a0 : SessionTurn} {r : (Sess × (List Msg) × Bool)} (h : m_session_turn__confirm a0 = some r) : ACt Tryz.prog 53 [Enc.enc a0] (.tup [Enc.enc r.1, Enc.enc r.2.1, Enc.enc r.2.2]) [] := by
 refine act_of p_session_turn__confirm (by simp [c_session_turn__confirm]) ?_
 show AW _ b_session_turn__confirm (RetOk [.cell 2 (some 4), .tmp 3, .tmp 4] _ _) { n := 24, tm := [(0, _)], box := [], fr := [] }
 unfold b_session_turn__confirm
 unfold m_session_turn__confirm at h
 try simp -implicitDefEqProofs only [av, reduceCtorEq, ↓reduceIte, sevalprocAttr] at h
 repeat' (first
   | (refine (hκ _).mpr ?_; clear hκ)
   | refine kn1 ?_
   | refine kr1 ?_
   | refine ke1 ?_
   | refine kn2 ?_
   | refine kr2 ?_
   | refine kx2 ?_
   | refine ke2 rfl ?_
   | refine kr5 ?_
   | refine ke5 ?_
   | refine kr6 ?_
   | refine ke6 ?_
   | refine w_seq ?_
   | refine w_block ?_
   | refine w_scope ?_
   | refine kn7 ?_
   | refine kr7 ?_
   | refine ke7 ?_
   | (refine aw_regk fun κ hκ => ?_; simp -implicitDefEqProofs only [av, reduceCtorEq, ↓reduceIte, sevalprocAttr])
   | refine aw_exit ?_
   | refine aw_ret ?_
   | refine aw_skip ?_
   | refine aw_label ?_
   | refine condc_t ?_
   | refine condc_f ?_
   | (refine aw_cond2 tk4 ?_)
   | ((first | refine gkc_fork ?_ ?_ | refine pkc_fork ?_ ?_ | refine condc_fork ?_ ?_) <;> intro hq <;> (first | contradiction | simp -implicitDefEqProofs only [eq_false hq, Decidable.not_not, av, reduceCtorEq, ↓reduceIte, sevalprocAttr] at h ⊢ | simp -implicitDefEqProofs only [eq_true hq, av, reduceCtorEq, ↓reduceIte, sevalprocAttr] at h ⊢))
   | ((first | refine gkc_split ?_ ?_ | refine pkc_split ?_ ?_ | refine condc_bool ?_ ?_) <;> intro hq <;> (first | exact bcontra (by assumption) hq | exact bcontra hq (by assumption) | simp -implicitDefEqProofs only [hq, av, reduceCtorEq, ↓reduceIte, sevalprocAttr] at h ⊢))
   | (refine stc_plain rfl ?_; simp -implicitDefEqProofs only [putCells.eq_1, av, reduceCtorEq, ↓reduceIte, sevalprocAttr])
   | (refine bd_go h fun y hy h => ?_
      first | refine callsc (a_session_turn__end hy) ?_ ?_ | refine callc (a_session_turn__end hy) ?_ ?_ | ((first | refine callsc (act_le (a_session_turn__end hy) ?_) ?_ ?_ | refine callc (act_le (a_session_turn__end hy) ?_) ?_ ?_); (focus (repeat' (first | exact trivial | exact le_same _ | exact le_enc | exact le_nil | exact le_imm (.inl rfl) | exact le_imm (.inr rfl) | (refine le_agg ?_) | apply And.intro | (refine le_eq ?_; simp only [*]; done)))))
      exact tk2
      simp -implicitDefEqProofs only [av, reduceCtorEq, ↓reduceIte, sevalprocAttr])
   | (cases h
      try simp -implicitDefEqProofs only [av, reduceCtorEq, ↓reduceIte, sevalprocAttr]
      first | refine retLt tk5 (by rfl) ?_ | refine retL1 tk5 (by rfl) ?_
      repeat' (first | exact trivial | apply And.intro)
      all_goals exact tk0)
   | fail)
theorem a_session_turn__up {a0 : SessionTurn} {r : (Sess × (List Msg) × Bool)} (h : m_session_turn__up a0 = some r) : ACt Tryz.prog 54 [Enc.enc a0] (.tup [Enc.enc r.1, Enc.enc r.2.1, Enc.enc r.2.2]) [] := by
 refine act_of p_session_turn__up (by simp [c_session_turn__up]) ?_
 show AW _ b_session_turn__up (RetOk [.cell 2 (some 4), .tmp 3, .tmp 4] _ _) { n := 26, tm := [(0, _)], box := [], fr := [] }
 unfold b_session_turn__up
 unfold m_session_turn__up at h
 try simp -implicitDefEqProofs only [av, reduceCtorEq, ↓reduceIte, sevalprocAttr] at h
 repeat' (first
   | (refine (hκ _).mpr ?_; clear hκ)
   | refine kn1 ?_
   | refine kr1 ?_
   | refine ke1 ?_
   | refine kn2 ?_
   | refine kr2 ?_
   | refine kx2 ?_
   | refine ke2 rfl ?_
   | refine kr5 ?_
   | refine ke5 ?_
   | refine kr6 ?_
   | refine ke6 ?_
   | refine w_seq ?_
   | refine w_block ?_
   | refine w_scope ?_
   | refine kn7 ?_
   | refine kr7 ?_
   | refine ke7 ?_
   | (refine aw_regk fun κ hκ => ?_; simp -implicitDefEqProofs only [av, reduceCtorEq, ↓reduceIte, sevalprocAttr])
   | refine aw_exit ?_
   | refine aw_ret ?_
   | refine aw_skip ?_
   | refine aw_label ?_
   | refine condc_t ?_
   | refine condc_f ?_
   | (refine aw_cond2 tk4 ?_)
   | ((first | refine gkc_fork ?_ ?_ | refine pkc_fork ?_ ?_ | refine condc_fork ?_ ?_) <;> intro hq <;> (first | contradiction | simp -implicitDefEqProofs only [eq_false hq, Decidable.not_not, av, reduceCtorEq, ↓reduceIte, sevalprocAttr] at h ⊢ | simp -implicitDefEqProofs only [eq_true hq, av, reduceCtorEq, ↓reduceIte, sevalprocAttr] at h ⊢))
   | ((first | refine gkc_split ?_ ?_ | refine pkc_split ?_ ?_ | refine condc_bool ?_ ?_) <;> intro hq <;> (first | exact bcontra (by assumption) hq | exact bcontra hq (by assumption) | simp -implicitDefEqProofs only [hq, av, reduceCtorEq, ↓reduceIte, sevalprocAttr] at h ⊢))
   | (refine stc_plain rfl ?_; simp -implicitDefEqProofs only [putCells.eq_1, av, reduceCtorEq, ↓reduceIte, sevalprocAttr])
   | (refine bd_go h fun y hy h => ?_
      first | refine callsc (a_session_turn__end hy) ?_ ?_ | refine callc (a_session_turn__end hy) ?_ ?_ | ((first | refine callsc (act_le (a_session_turn__end hy) ?_) ?_ ?_ | refine callc (act_le (a_session_turn__end hy) ?_) ?_ ?_); (focus (repeat' (first | exact trivial | exact le_same _ | exact le_enc | exact le_nil | exact le_imm (.inl rfl) | exact le_imm (.inr rfl) | (refine le_agg ?_) | apply And.intro | (refine le_eq ?_; simp only [*]; done)))))
      exact tk2
      simp -implicitDefEqProofs only [av, reduceCtorEq, ↓reduceIte, sevalprocAttr])
   | (cases h
      try simp -implicitDefEqProofs only [av, reduceCtorEq, ↓reduceIte, sevalprocAttr]
      first | refine retLt tk5 (by rfl) ?_ | refine retL1 tk5 (by rfl) ?_
      repeat' (first | exact trivial | apply And.intro)
      all_goals exact tk0)
   | fail)
theorem a_session_Take {a0 : Sess} {a1 : Conf} {a2 : Int} {a3 : Msg} {r : (Sess × (List Msg) × Bool)} (h : m_session_Take a0 a1 a2 a3 = some r) : ACt Tryz.prog 8 [Enc.enc a0, Enc.enc a1, Enc.enc a2, Enc.enc a3] (.tup [Enc.enc r.1, Enc.enc r.2.1, Enc.enc r.2.2]) [] := by
 refine act_of p_session_Take (by simp [c_session_Take]) ?_
 show AW _ b_session_Take (RetOk [.cell 8 (some 4), .tmp 9, .tmp 10] _ _) { n := 44, tm := [(0, _), (1, _), (2, _), (3, _)], box := [], fr := [] }
 unfold b_session_Take
 unfold m_session_Take at h
 try simp -implicitDefEqProofs only [av, reduceCtorEq, ↓reduceIte, sevalprocAttr] at h
 repeat' (first
   | (refine (hκ _).mpr ?_; clear hκ)
   | refine kn1 ?_
   | refine kr1 ?_
   | refine ke1 ?_
   | refine kn2 ?_
   | refine kr2 ?_
   | refine kx2 ?_
   | refine ke2 rfl ?_
   | refine kr5 ?_
   | refine ke5 ?_
   | refine kr6 ?_
   | refine ke6 ?_
   | refine w_seq ?_
   | refine w_block ?_
   | refine w_scope ?_
   | refine kn7 ?_
   | refine kr7 ?_
   | refine ke7 ?_
   | (refine aw_regk fun κ hκ => ?_; simp -implicitDefEqProofs only [av, reduceCtorEq, ↓reduceIte, sevalprocAttr])
   | refine aw_exit ?_
   | refine aw_ret ?_
   | refine aw_skip ?_
   | refine aw_label ?_
   | refine condc_t ?_
   | refine condc_f ?_
   | (refine aw_cond2 tk4 ?_)
   | ((first | refine gkc_fork ?_ ?_ | refine pkc_fork ?_ ?_ | refine condc_fork ?_ ?_) <;> intro hq <;> (first | contradiction | simp -implicitDefEqProofs only [eq_false hq, Decidable.not_not, av, reduceCtorEq, ↓reduceIte, sevalprocAttr] at h ⊢ | simp -implicitDefEqProofs only [eq_true hq, av, reduceCtorEq, ↓reduceIte, sevalprocAttr] at h ⊢))
   | ((first | refine gkc_split ?_ ?_ | refine pkc_split ?_ ?_ | refine condc_bool ?_ ?_) <;> intro hq <;> (first | exact bcontra (by assumption) hq | exact bcontra hq (by assumption) | simp -implicitDefEqProofs only [hq, av, reduceCtorEq, ↓reduceIte, sevalprocAttr] at h ⊢))
   | (refine stc_plain rfl ?_; simp -implicitDefEqProofs only [putCells.eq_1, av, reduceCtorEq, ↓reduceIte, sevalprocAttr])
   | ((first | refine callsc k_session_does rfl ?_ | refine callc k_session_does rfl ?_); simp -implicitDefEqProofs only [av, reduceCtorEq, ↓reduceIte, sevalprocAttr])
   | (refine bd_go h fun y hy h => ?_; refine ixc hy ?_; simp -implicitDefEqProofs only [av, reduceCtorEq, ↓reduceIte, sevalprocAttr])
   | (refine bd_go h fun y hy h => ?_
      first | refine callsc (a_session_sane hy) ?_ ?_ | refine callc (a_session_sane hy) ?_ ?_ | ((first | refine callsc (act_le (a_session_sane hy) ?_) ?_ ?_ | refine callc (act_le (a_session_sane hy) ?_) ?_ ?_); (focus (repeat' (first | exact trivial | exact le_same _ | exact le_enc | exact le_nil | exact le_imm (.inl rfl) | exact le_imm (.inr rfl) | (refine le_agg ?_) | apply And.intro | (refine le_eq ?_; simp only [*]; done)))))
      exact tk2
      simp -implicitDefEqProofs only [av, reduceCtorEq, ↓reduceIte, sevalprocAttr])
   | (refine bd_go h fun y hy h => ?_
      first | refine callsc (a_session_there hy) ?_ ?_ | refine callc (a_session_there hy) ?_ ?_ | ((first | refine callsc (act_le (a_session_there hy) ?_) ?_ ?_ | refine callc (act_le (a_session_there hy) ?_) ?_ ?_); (focus (repeat' (first | exact trivial | exact le_same _ | exact le_enc | exact le_nil | exact le_imm (.inl rfl) | exact le_imm (.inr rfl) | (refine le_agg ?_) | apply And.intro | (refine le_eq ?_; simp only [*]; done)))))
      exact tk2
      simp -implicitDefEqProofs only [av, reduceCtorEq, ↓reduceIte, sevalprocAttr])
   | (refine bd_go h fun y hy h => ?_
      first | refine callsc (a_msg_Sane hy) ?_ ?_ | refine callc (a_msg_Sane hy) ?_ ?_ | ((first | refine callsc (act_le (a_msg_Sane hy) ?_) ?_ ?_ | refine callc (act_le (a_msg_Sane hy) ?_) ?_ ?_); (focus (repeat' (first | exact trivial | exact le_same _ | exact le_enc | exact le_nil | exact le_imm (.inl rfl) | exact le_imm (.inr rfl) | (refine le_agg ?_) | apply And.intro | (refine le_eq ?_; simp only [*]; done)))))
      exact tk2
      simp -implicitDefEqProofs only [av, reduceCtorEq, ↓reduceIte, sevalprocAttr])
   | (refine bd_go h fun y hy h => ?_
      first | refine callsc (a_session_does_1 hy) ?_ ?_ | refine callc (a_session_does_1 hy) ?_ ?_ | ((first | refine callsc (act_le (a_session_does_1 hy) ?_) ?_ ?_ | refine callc (act_le (a_session_does_1 hy) ?_) ?_ ?_); (focus (repeat' (first | exact trivial | exact le_same _ | exact le_enc | exact le_nil | exact le_imm (.inl rfl) | exact le_imm (.inr rfl) | (refine le_agg ?_) | apply And.intro | (refine le_eq ?_; simp only [*]; done)))))
      exact tk2
      simp -implicitDefEqProofs only [av, reduceCtorEq, ↓reduceIte, sevalprocAttr])
   | (refine bd_go h fun y hy h => ?_
      first | refine callsc (a_session_turn__sent hy) ?_ ?_ | refine callc (a_session_turn__sent hy) ?_ ?_ | ((first | refine callsc (act_le (a_session_turn__sent hy) ?_) ?_ ?_ | refine callc (act_le (a_session_turn__sent hy) ?_) ?_ ?_); (focus (repeat' (first | exact trivial | exact le_same _ | exact le_enc | exact le_nil | exact le_imm (.inl rfl) | exact le_imm (.inr rfl) | (refine le_agg ?_) | apply And.intro | (refine le_eq ?_; simp only [*]; done)))))
      exact tk2
      simp -implicitDefEqProofs only [av, reduceCtorEq, ↓reduceIte, sevalprocAttr])
   | (refine bd_go h fun y hy h => ?_
      first | refine callsc (a_session_turn__confirm hy) ?_ ?_ | refine callc (a_session_turn__confirm hy) ?_ ?_ | ((first | refine callsc (act_le (a_session_turn__confirm hy) ?_) ?_ ?_ | refine callc (act_le (a_session_turn__confirm hy) ?_) ?_ ?_); (focus (repeat' (first | exact trivial | exact le_same _ | exact le_enc | exact le_nil | exact le_imm (.inl rfl) | exact le_imm (.inr rfl) | (refine le_agg ?_) | apply And.intro | (refine le_eq ?_; simp only [*]; done)))))
      exact tk2
      simp -implicitDefEqProofs only [av, reduceCtorEq, ↓reduceIte, sevalprocAttr])
   | (refine bd_go h fun y hy h => ?_
      first | refine callsc (a_session_turn__up hy) ?_ ?_ | refine callc (a_session_turn__up hy) ?_ ?_ | ((first | refine callsc (act_le (a_session_turn__up hy) ?_) ?_ ?_ | refine callc (act_le (a_session_turn__up hy) ?_) ?_ ?_); (focus (repeat' (first | exact trivial | exact le_same _ | exact le_enc | exact le_nil | exact le_imm (.inl rfl) | exact le_imm (.inr rfl) | (refine le_agg ?_) | apply And.intro | (refine le_eq ?_; simp only [*]; done)))))
      exact tk2
      simp -implicitDefEqProofs only [av, reduceCtorEq, ↓reduceIte, sevalprocAttr])
   | (cases h
      try simp -implicitDefEqProofs only [av, reduceCtorEq, ↓reduceIte, sevalprocAttr]
      first | refine retLt tk5 (by rfl) ?_ | refine retL1 tk5 (by rfl) ?_
      repeat' (first | exact trivial | apply And.intro)
      all_goals exact tk0)
   | (cases h; done)
   | ((refine sw_fork h (fun hq h => ?_) (fun hq h => ?_)) <;> (first | contradiction | simp -implicitDefEqProofs only [eq_false hq, Decidable.not_not, av, reduceCtorEq, ↓reduceIte, sevalprocAttr] at h ⊢ | simp -implicitDefEqProofs only [hq, av, reduceCtorEq, ↓reduceIte, sevalprocAttr] at h ⊢ | skip))
   | fail)
theorem a_ridgewaylaw17_step {a0 : Sess} {a1 : Conf} {a2 : Int} {a3 : (List Msg)} {r : (Sess × (List Msg))} (h : m_ridgewaylaw17_step a0 a1 a2 a3 = some r) : ACt Tryz.prog 20 [Enc.enc a0, Enc.enc a1, Enc.enc a2, Enc.enc a3] (.tup [Enc.enc r.1, Enc.enc r.2]) [] := by
 refine act_of p_ridgewaylaw17_step (by simp [c_ridgewaylaw17_step]) ?_
 show AW _ b_ridgewaylaw17_step (RetOk [.cell 8 (some 4), .tmp 9] _ _) { n := 39, tm := [(0, _), (1, _), (2, _), (3, _)], box := [], fr := [] }
 unfold b_ridgewaylaw17_step
 unfold m_ridgewaylaw17_step at h
 try simp -implicitDefEqProofs only [av, reduceCtorEq, ↓reduceIte, sevalprocAttr] at h
 repeat' (first
   | (refine (hκ _).mpr ?_; clear hκ)
   | refine kn1 ?_
   | refine kr1 ?_
   | refine ke1 ?_
   | refine kn2 ?_
   | refine kr2 ?_
   | refine kx2 ?_
   | refine ke2 rfl ?_
   | refine kr5 ?_
   | refine ke5 ?_
   | refine kr6 ?_
   | refine ke6 ?_
   | (refine w_loopm [2, 3, 4, 5, 8] (fun (j : ((List Msg) × Int × Int × Int × Int × Int)) => [(10, (.slice (.app 0) 2 (List.map Enc.enc j.1))), (11, (.int .i64 j.2.1))]) (fun (j : ((List Msg) × Int × Int × Int × Int × Int)) => [(0, 0, (.int .i64 j.2.2.1)), (0, 1, (.int .i64 j.2.2.2.1)), (0, 2, (.int .i64 j.2.2.2.2.1)), (0, 3, (.int .i64 j.2.2.2.2.2))]) (fun (j : ((List Msg) × Int × Int × Int × Int × Int)) => []) (fun (j : ((List Msg) × Int × Int × Int × Int × Int)) => [(30, j.1.length)]) (show loopC (s_ridgewaylaw17_step1 _ _ _) _ BIG _ = some _ from h) ?_ ?_
      · try simp -implicitDefEqProofs only [pats, av, reduceCtorEq, ↓reduceIte, sevalprocAttr]
        (first
         | (refine wk_m 0 _ rfl ?_ rfl rfl ?_ ?_ ?_ ?_
            iterate 3 exact tk3
            all_goals (repeat' (first | exact trivial | apply And.intro))
            all_goals exact tk1))
      clear h
      intro n st h
      simp -implicitDefEqProofs only [s_ridgewaylaw17_step1.eq_1, pats, av, reduceCtorEq, ↓reduceIte, sevalprocAttr] at h ⊢)
   | refine w_seq ?_
   | refine w_block ?_
   | refine w_scope ?_
   | refine kn7 ?_
   | refine kr7 ?_
   | refine ke7 ?_
   | (refine aw_regk fun κ hκ => ?_; simp -implicitDefEqProofs only [av, reduceCtorEq, ↓reduceIte, sevalprocAttr])
   | refine aw_exit ?_
   | refine aw_ret ?_
   | refine aw_skip ?_
   | refine aw_label ?_
   | refine condc_t ?_
   | refine condc_f ?_
   | (refine aw_cond2 tk4 ?_)
   | ((first | refine gkc_fork ?_ ?_ | refine pkc_fork ?_ ?_ | refine condc_fork ?_ ?_) <;> intro hq <;> (first | contradiction | simp -implicitDefEqProofs only [eq_false hq, Decidable.not_not, av, reduceCtorEq, ↓reduceIte, sevalprocAttr] at h ⊢ | simp -implicitDefEqProofs only [eq_true hq, av, reduceCtorEq, ↓reduceIte, sevalprocAttr] at h ⊢))
   | ((first | refine gkc_split ?_ ?_ | refine pkc_split ?_ ?_ | refine condc_bool ?_ ?_) <;> intro hq <;> (first | exact bcontra (by assumption) hq | exact bcontra hq (by assumption) | simp -implicitDefEqProofs only [hq, av, reduceCtorEq, ↓reduceIte, sevalprocAttr] at h ⊢))
   | (refine stc_plain rfl ?_; simp -implicitDefEqProofs only [putCells.eq_1, av, reduceCtorEq, ↓reduceIte, sevalprocAttr])
   | (refine bd_go h fun y hy h => ?_; refine ixc hy ?_; simp -implicitDefEqProofs only [av, reduceCtorEq, ↓reduceIte, sevalprocAttr])
   | (refine bd_go h fun y hy h => ?_
      refine apc hy tk6 tk6 tk7 tk7 tk8 ?_
      simp -implicitDefEqProofs only [av, reduceCtorEq, ↓reduceIte, sevalprocAttr])
   | (refine bd_go h fun y hy h => ?_
      first | refine callsc (a_session_Take hy) ?_ ?_ | refine callc (a_session_Take hy) ?_ ?_ | ((first | refine callsc (act_le (a_session_Take hy) ?_) ?_ ?_ | refine callc (act_le (a_session_Take hy) ?_) ?_ ?_); (focus (repeat' (first | exact trivial | exact le_same _ | exact le_enc | exact le_nil | exact le_imm (.inl rfl) | exact le_imm (.inr rfl) | (refine le_agg ?_) | apply And.intro | (refine le_eq ?_; simp only [*]; done)))))
      exact tk2
      simp -implicitDefEqProofs only [av, reduceCtorEq, ↓reduceIte, sevalprocAttr])
   | (first | refine kn6 ⟨_, h, ?_⟩ | refine kn5 ⟨_, h, ?_⟩
      try simp -implicitDefEqProofs only [pats, av, reduceCtorEq, ↓reduceIte, sevalprocAttr]
      (first
         | (refine wk_m 0 _ rfl ?_ rfl rfl ?_ ?_ ?_ ?_
            iterate 3 exact tk3
            all_goals (repeat' (first | exact trivial | apply And.intro))
            all_goals exact tk1)
         | (refine wk_m 1 _ rfl ?_ rfl rfl ?_ ?_ ?_ ?_
            iterate 3 exact tk3
            all_goals (repeat' (first | exact trivial | apply And.intro))
            all_goals exact tk1)))
   | (first | refine kn6 ⟨_, h, ?_⟩ | refine kn5 ⟨_, h, ?_⟩
      try simp -implicitDefEqProofs only [*, pats, av, reduceCtorEq, ↓reduceIte, sevalprocAttr]
      (first
         | (refine wk_m 0 _ rfl ?_ rfl rfl ?_ ?_ ?_ ?_
            iterate 3 exact tk3
            all_goals (repeat' (first | exact trivial | apply And.intro))
            all_goals exact tk1)
         | (refine wk_m 1 _ rfl ?_ rfl rfl ?_ ?_ ?_ ?_
            iterate 3 exact tk3
            all_goals (repeat' (first | exact trivial | apply And.intro))
            all_goals exact tk1)))
   | (cases h
      try simp -implicitDefEqProofs only [av, reduceCtorEq, ↓reduceIte, sevalprocAttr]
      first | refine retLt tk5 (by rfl) ?_ | refine retL1 tk5 (by rfl) ?_
      repeat' (first | exact trivial | apply And.intro)
      all_goals exact tk0)
   | fail)
theorem a_ridgewaylaw17_awake {r : Bool} (h : m_ridgewaylaw17_awake = some r) : ACt Tryz.prog 4 [] (Enc.enc r) [] := by
 refine act_of p_ridgewaylaw17_awake (by simp [c_ridgewaylaw17_awake]) ?_
 show AW _ b_ridgewaylaw17_awake (RetOk [.tmp 0] _ _) { n := 99, tm := [], box := [], fr := [] }
 unfold b_ridgewaylaw17_awake
 unfold m_ridgewaylaw17_awake at h
 try simp -implicitDefEqProofs only [av, reduceCtorEq, ↓reduceIte, sevalprocAttr] at h
 repeat' (first
   | (refine (hκ _).mpr ?_; clear hκ)
   | refine kn1 ?_
   | refine kr1 ?_
   | refine ke1 ?_
   | refine kn2 ?_
   | refine kr2 ?_
   | refine kx2 ?_
   | refine ke2 rfl ?_
   | refine kr5 ?_
   | refine ke5 ?_
   | refine kr6 ?_
   | refine ke6 ?_
   | refine w_seq ?_
   | refine w_block ?_
   | refine w_scope ?_
   | refine kn7 ?_
   | refine kr7 ?_
   | refine ke7 ?_
   | (refine aw_regk fun κ hκ => ?_; simp -implicitDefEqProofs only [av, reduceCtorEq, ↓reduceIte, sevalprocAttr])
   | refine aw_exit ?_
   | refine aw_ret ?_
   | refine aw_skip ?_
   | refine aw_label ?_
   | refine condc_t ?_
   | refine condc_f ?_
   | (refine aw_cond2 tk4 ?_)
   | ((first | refine gkc_fork ?_ ?_ | refine pkc_fork ?_ ?_ | refine condc_fork ?_ ?_) <;> intro hq <;> (first | contradiction | simp -implicitDefEqProofs only [eq_false hq, Decidable.not_not, av, reduceCtorEq, ↓reduceIte, sevalprocAttr] at h ⊢ | simp -implicitDefEqProofs only [eq_true hq, av, reduceCtorEq, ↓reduceIte, sevalprocAttr] at h ⊢))
   | ((first | refine gkc_split ?_ ?_ | refine pkc_split ?_ ?_ | refine condc_bool ?_ ?_) <;> intro hq <;> (first | exact bcontra (by assumption) hq | exact bcontra hq (by assumption) | simp -implicitDefEqProofs only [hq, av, reduceCtorEq, ↓reduceIte, sevalprocAttr] at h ⊢))
   | (refine stc_plain rfl ?_; simp -implicitDefEqProofs only [putCells.eq_1, av, reduceCtorEq, ↓reduceIte, sevalprocAttr])
   | (refine bd_go h fun y hy h => ?_
      first | refine callsc (a_ridgewaylaw17_node hy) ?_ ?_ | refine callc (a_ridgewaylaw17_node hy) ?_ ?_ | ((first | refine callsc (act_le (a_ridgewaylaw17_node hy) ?_) ?_ ?_ | refine callc (act_le (a_ridgewaylaw17_node hy) ?_) ?_ ?_); (focus (repeat' (first | exact trivial | exact le_same _ | exact le_enc | exact le_nil | exact le_imm (.inl rfl) | exact le_imm (.inr rfl) | (refine le_agg ?_) | apply And.intro | (refine le_eq ?_; simp only [*]; done)))))
      exact tk2
      simp -implicitDefEqProofs only [av, reduceCtorEq, ↓reduceIte, sevalprocAttr])
   | (refine bd_go h fun y hy h => ?_
      first | refine callsc (a_session_Start hy) ?_ ?_ | refine callc (a_session_Start hy) ?_ ?_ | ((first | refine callsc (act_le (a_session_Start hy) ?_) ?_ ?_ | refine callc (act_le (a_session_Start hy) ?_) ?_ ?_); (focus (repeat' (first | exact trivial | exact le_same _ | exact le_enc | exact le_nil | exact le_imm (.inl rfl) | exact le_imm (.inr rfl) | (refine le_agg ?_) | apply And.intro | (refine le_eq ?_; simp only [*]; done)))))
      exact tk2
      simp -implicitDefEqProofs only [av, reduceCtorEq, ↓reduceIte, sevalprocAttr])
   | (refine bd_go h fun y hy h => ?_
      first | refine callsc (a_ridgewaylaw17_step hy) ?_ ?_ | refine callc (a_ridgewaylaw17_step hy) ?_ ?_ | ((first | refine callsc (act_le (a_ridgewaylaw17_step hy) ?_) ?_ ?_ | refine callc (act_le (a_ridgewaylaw17_step hy) ?_) ?_ ?_); (focus (repeat' (first | exact trivial | exact le_same _ | exact le_enc | exact le_nil | exact le_imm (.inl rfl) | exact le_imm (.inr rfl) | (refine le_agg ?_) | apply And.intro | (refine le_eq ?_; simp only [*]; done)))))
      exact tk2
      simp -implicitDefEqProofs only [av, reduceCtorEq, ↓reduceIte, sevalprocAttr])
   | (refine bd_go h fun y hy h => ?_
      first | refine callsc (a_session_Sane hy) ?_ ?_ | refine callc (a_session_Sane hy) ?_ ?_ | ((first | refine callsc (act_le (a_session_Sane hy) ?_) ?_ ?_ | refine callc (act_le (a_session_Sane hy) ?_) ?_ ?_); (focus (repeat' (first | exact trivial | exact le_same _ | exact le_enc | exact le_nil | exact le_imm (.inl rfl) | exact le_imm (.inr rfl) | (refine le_agg ?_) | apply And.intro | (refine le_eq ?_; simp only [*]; done)))))
      exact tk2
      simp -implicitDefEqProofs only [av, reduceCtorEq, ↓reduceIte, sevalprocAttr])
   | (cases h
      try simp -implicitDefEqProofs only [av, reduceCtorEq, ↓reduceIte, sevalprocAttr]
      first | refine retLt tk5 (by rfl) ?_ | refine retL1 tk5 (by rfl) ?_
      repeat' (first | exact trivial | apply And.intro)
      all_goals exact tk0)
   | fail)
theorem a_ridgewayref12_Few {a0 : Conf} {r : Bool} (h : m_ridgewayref12_Few a0 = some r) : ACt Tryz.prog 21 [Enc.enc a0] (Enc.enc r) [] := by
 refine act_of p_ridgewayref12_Few (by simp [c_ridgewayref12_Few]) ?_
 show AW _ b_ridgewayref12_Few (RetOk [.tmp 2] _ _) { n := 39, tm := [(0, _)], box := [], fr := [] }
 unfold b_ridgewayref12_Few
 unfold m_ridgewayref12_Few at h
 try simp -implicitDefEqProofs only [av, reduceCtorEq, ↓reduceIte, sevalprocAttr] at h
 repeat' (first
   | (refine (hκ _).mpr ?_; clear hκ)
   | refine kn1 ?_
   | refine kr1 ?_
   | refine ke1 ?_
   | refine kn2 ?_
   | refine kr2 ?_
   | refine kx2 ?_
   | refine ke2 rfl ?_
   | refine kr5 ?_
   | refine ke5 ?_
   | refine kr6 ?_
   | refine ke6 ?_
   | (refine w_loopm [1] (fun (j : (Int)) => [(3, (.int .i64 j))]) (fun (j : (Int)) => []) (fun (j : (Int)) => []) (fun (j : (Int)) => []) (show loopC (s_ridgewayref12_Few1 _) _ BIG _ = some _ from h) ?_ ?_
      · try simp -implicitDefEqProofs only [pats, av, reduceCtorEq, ↓reduceIte, sevalprocAttr]
        (first
         | (refine wk_m 0 _ rfl ?_ rfl rfl ?_ ?_ ?_ ?_
            iterate 3 exact tk3
            all_goals (repeat' (first | exact trivial | apply And.intro))
            all_goals exact tk1))
      clear h
      intro n st h
      simp -implicitDefEqProofs only [s_ridgewayref12_Few1.eq_1, pats, av, reduceCtorEq, ↓reduceIte, sevalprocAttr] at h ⊢)
   | refine w_seq ?_
   | refine w_block ?_
   | refine w_scope ?_
   | refine kn7 ?_
   | refine kr7 ?_
   | refine ke7 ?_
   | (refine aw_regk fun κ hκ => ?_; simp -implicitDefEqProofs only [av, reduceCtorEq, ↓reduceIte, sevalprocAttr])
   | refine aw_exit ?_
   | refine aw_ret ?_
   | refine aw_skip ?_
   | refine aw_label ?_
   | refine condc_t ?_
   | refine condc_f ?_
   | (refine aw_cond2 tk4 ?_)
   | ((first | refine gkc_fork ?_ ?_ | refine pkc_fork ?_ ?_ | refine condc_fork ?_ ?_) <;> intro hq <;> (first | contradiction | simp -implicitDefEqProofs only [eq_false hq, Decidable.not_not, av, reduceCtorEq, ↓reduceIte, sevalprocAttr] at h ⊢ | simp -implicitDefEqProofs only [eq_true hq, av, reduceCtorEq, ↓reduceIte, sevalprocAttr] at h ⊢))
   | ((first | refine gkc_split ?_ ?_ | refine pkc_split ?_ ?_ | refine condc_bool ?_ ?_) <;> intro hq <;> (first | exact bcontra (by assumption) hq | exact bcontra hq (by assumption) | simp -implicitDefEqProofs only [hq, av, reduceCtorEq, ↓reduceIte, sevalprocAttr] at h ⊢))
   | (refine bd_go h fun y hy h => ?_; refine ixc hy ?_; simp -implicitDefEqProofs only [av, reduceCtorEq, ↓reduceIte, sevalprocAttr])
   | (first | refine kn6 ⟨_, h, ?_⟩ | refine kn5 ⟨_, h, ?_⟩
      try simp -implicitDefEqProofs only [pats, av, reduceCtorEq, ↓reduceIte, sevalprocAttr]
      (first
         | (refine wk_m 0 _ rfl ?_ rfl rfl ?_ ?_ ?_ ?_
            iterate 3 exact tk3
            all_goals (repeat' (first | exact trivial | apply And.intro))
            all_goals exact tk1)))
   | (first | refine kn6 ⟨_, h, ?_⟩ | refine kn5 ⟨_, h, ?_⟩
      try simp -implicitDefEqProofs only [*, pats, av, reduceCtorEq, ↓reduceIte, sevalprocAttr]
      (first
         | (refine wk_m 0 _ rfl ?_ rfl rfl ?_ ?_ ?_ ?_
            iterate 3 exact tk3
            all_goals (repeat' (first | exact trivial | apply And.intro))
            all_goals exact tk1)))
   | (cases h
      try simp -implicitDefEqProofs only [av, reduceCtorEq, ↓reduceIte, sevalprocAttr]
      first | refine retLt tk5 (by rfl) ?_ | refine retL1 tk5 (by rfl) ?_
      repeat' (first | exact trivial | apply And.intro)
      all_goals exact tk0)
   | fail)
theorem a_ridgewaylaw17_short {a0 : Conf} {a1 : Msg} {r : Bool} (h : m_ridgewaylaw17_short a0 a1 = some r) : ACt Tryz.prog 5 [Enc.enc a0, Enc.enc a1] (Enc.enc r) [] := by
 refine act_of p_ridgewaylaw17_short (by simp [c_ridgewaylaw17_short]) ?_
 show AW _ b_ridgewaylaw17_short (RetOk [.tmp 4] _ _) { n := 13, tm := [(0, _), (1, _)], box := [], fr := [] }
 unfold b_ridgewaylaw17_short
 unfold m_ridgewaylaw17_short at h
 try simp -implicitDefEqProofs only [av, reduceCtorEq, ↓reduceIte, sevalprocAttr] at h
 repeat' (first
   | (refine (hκ _).mpr ?_; clear hκ)
   | refine kn1 ?_
   | refine kr1 ?_
   | refine ke1 ?_
   | refine kn2 ?_
   | refine kr2 ?_
   | refine kx2 ?_
   | refine ke2 rfl ?_
   | refine kr5 ?_
   | refine ke5 ?_
   | refine kr6 ?_
   | refine ke6 ?_
   | refine w_seq ?_
   | refine w_block ?_
   | refine w_scope ?_
   | refine kn7 ?_
   | refine kr7 ?_
   | refine ke7 ?_
   | (refine aw_regk fun κ hκ => ?_; simp -implicitDefEqProofs only [av, reduceCtorEq, ↓reduceIte, sevalprocAttr])
   | refine aw_exit ?_
   | refine aw_ret ?_
   | refine aw_skip ?_
   | refine aw_label ?_
   | refine condc_t ?_
   | refine condc_f ?_
   | (refine aw_cond2 tk4 ?_)
   | ((first | refine gkc_fork ?_ ?_ | refine pkc_fork ?_ ?_ | refine condc_fork ?_ ?_) <;> intro hq <;> (first | contradiction | simp -implicitDefEqProofs only [eq_false hq, Decidable.not_not, av, reduceCtorEq, ↓reduceIte, sevalprocAttr] at h ⊢ | simp -implicitDefEqProofs only [eq_true hq, av, reduceCtorEq, ↓reduceIte, sevalprocAttr] at h ⊢))
   | ((first | refine gkc_split ?_ ?_ | refine pkc_split ?_ ?_ | refine condc_bool ?_ ?_) <;> intro hq <;> (first | exact bcontra (by assumption) hq | exact bcontra hq (by assumption) | simp -implicitDefEqProofs only [hq, av, reduceCtorEq, ↓reduceIte, sevalprocAttr] at h ⊢))
   | (refine bd_go h fun y hy h => ?_
      first | refine callsc (a_ridgewayref12_Few hy) ?_ ?_ | refine callc (a_ridgewayref12_Few hy) ?_ ?_ | ((first | refine callsc (act_le (a_ridgewayref12_Few hy) ?_) ?_ ?_ | refine callc (act_le (a_ridgewayref12_Few hy) ?_) ?_ ?_); (focus (repeat' (first | exact trivial | exact le_same _ | exact le_enc | exact le_nil | exact le_imm (.inl rfl) | exact le_imm (.inr rfl) | (refine le_agg ?_) | apply And.intro | (refine le_eq ?_; simp only [*]; done)))))
      exact tk2
      simp -implicitDefEqProofs only [av, reduceCtorEq, ↓reduceIte, sevalprocAttr])
   | (cases h
      try simp -implicitDefEqProofs only [av, reduceCtorEq, ↓reduceIte, sevalprocAttr]
      first | refine retLt tk5 (by rfl) ?_ | refine retL1 tk5 (by rfl) ?_
      repeat' (first | exact trivial | apply And.intro)
      all_goals exact tk0)
   | fail)
theorem a_ridgewayref12_Hold {a0 : Int} {r : Bool} (h : m_ridgewayref12_Hold a0 = some r) : ACt Tryz.prog 60 [Enc.enc a0] (Enc.enc r) [] := by
 refine act_of p_ridgewayref12_Hold (by simp [c_ridgewayref12_Hold]) ?_
 show AW _ b_ridgewayref12_Hold (RetOk [.tmp 2] _ _) { n := 13, tm := [(0, _)], box := [], fr := [] }
 unfold b_ridgewayref12_Hold
 unfold m_ridgewayref12_Hold at h
 try simp -implicitDefEqProofs only [av, reduceCtorEq, ↓reduceIte, sevalprocAttr] at h
 repeat' (first
   | (refine (hκ _).mpr ?_; clear hκ)
   | refine kn1 ?_
   | refine kr1 ?_
   | refine ke1 ?_
   | refine kn2 ?_
   | refine kr2 ?_
   | refine kx2 ?_
   | refine ke2 rfl ?_
   | refine kr5 ?_
   | refine ke5 ?_
   | refine kr6 ?_
   | refine ke6 ?_
   | refine w_seq ?_
   | refine w_block ?_
   | refine w_scope ?_
   | refine kn7 ?_
   | refine kr7 ?_
   | refine ke7 ?_
   | (refine aw_regk fun κ hκ => ?_; simp -implicitDefEqProofs only [av, reduceCtorEq, ↓reduceIte, sevalprocAttr])
   | refine aw_exit ?_
   | refine aw_ret ?_
   | refine aw_skip ?_
   | refine aw_label ?_
   | refine condc_t ?_
   | refine condc_f ?_
   | (refine aw_cond2 tk4 ?_)
   | ((first | refine gkc_fork ?_ ?_ | refine pkc_fork ?_ ?_ | refine condc_fork ?_ ?_) <;> intro hq <;> (first | contradiction | simp -implicitDefEqProofs only [eq_false hq, Decidable.not_not, av, reduceCtorEq, ↓reduceIte, sevalprocAttr] at h ⊢ | simp -implicitDefEqProofs only [eq_true hq, av, reduceCtorEq, ↓reduceIte, sevalprocAttr] at h ⊢))
   | ((first | refine gkc_split ?_ ?_ | refine pkc_split ?_ ?_ | refine condc_bool ?_ ?_) <;> intro hq <;> (first | exact bcontra (by assumption) hq | exact bcontra hq (by assumption) | simp -implicitDefEqProofs only [hq, av, reduceCtorEq, ↓reduceIte, sevalprocAttr] at h ⊢))
   | (cases h
      try simp -implicitDefEqProofs only [av, reduceCtorEq, ↓reduceIte, sevalprocAttr]
      first | refine retLt tk5 (by rfl) ?_ | refine retL1 tk5 (by rfl) ?_
      repeat' (first | exact trivial | apply And.intro)
      all_goals exact tk0)
   | fail)
theorem a_ridgewayref02_size {a0 : Int} {r : Int} (h : m_ridgewayref02_size a0 = some r) : ACt Tryz.prog 100 [Enc.enc a0] (Enc.enc r) [] := by
 refine act_of p_ridgewayref02_size (by simp [c_ridgewayref02_size]) ?_
 show AW _ b_ridgewayref02_size (RetOk [.tmp 2] _ _) { n := 14, tm := [(0, _)], box := [], fr := [] }
 unfold b_ridgewayref02_size
 unfold m_ridgewayref02_size at h
 try simp -implicitDefEqProofs only [av, reduceCtorEq, ↓reduceIte, sevalprocAttr] at h
 repeat' (first
   | (refine (hκ _).mpr ?_; clear hκ)
   | refine kn1 ?_
   | refine kr1 ?_
   | refine ke1 ?_
   | refine kn2 ?_
   | refine kr2 ?_
   | refine kx2 ?_
   | refine ke2 rfl ?_
   | refine kr5 ?_
   | refine ke5 ?_
   | refine kr6 ?_
   | refine ke6 ?_
   | (refine w_loopm [] (fun (j : (Int × Int)) => [(3, (.int .i64 j.1)), (4, (.int .i64 j.2))]) (fun (j : (Int × Int)) => []) (fun (j : (Int × Int)) => []) (fun (j : (Int × Int)) => []) (show loopC (s_ridgewayref02_size1) _ BIG _ = some _ from h) ?_ ?_
      · try simp -implicitDefEqProofs only [pats, av, reduceCtorEq, ↓reduceIte, sevalprocAttr]
        (first
         | (refine wk_m 0 _ rfl ?_ rfl rfl ?_ ?_ ?_ ?_
            iterate 3 exact tk3
            all_goals (repeat' (first | exact trivial | apply And.intro))
            all_goals exact tk1))
      clear h
      intro n st h
      simp -implicitDefEqProofs only [s_ridgewayref02_size1.eq_1, pats, av, reduceCtorEq, ↓reduceIte, sevalprocAttr] at h ⊢)
   | refine w_seq ?_
   | refine w_block ?_
   | refine w_scope ?_
   | refine kn7 ?_
   | refine kr7 ?_
   | refine ke7 ?_
   | (refine aw_regk fun κ hκ => ?_; simp -implicitDefEqProofs only [av, reduceCtorEq, ↓reduceIte, sevalprocAttr])
   | refine aw_exit ?_
   | refine aw_ret ?_
   | refine aw_skip ?_
   | refine aw_label ?_
   | refine condc_t ?_
   | refine condc_f ?_
   | (refine aw_cond2 tk4 ?_)
   | ((first | refine gkc_fork ?_ ?_ | refine pkc_fork ?_ ?_ | refine condc_fork ?_ ?_) <;> intro hq <;> (first | contradiction | simp -implicitDefEqProofs only [eq_false hq, Decidable.not_not, av, reduceCtorEq, ↓reduceIte, sevalprocAttr] at h ⊢ | simp -implicitDefEqProofs only [eq_true hq, av, reduceCtorEq, ↓reduceIte, sevalprocAttr] at h ⊢))
   | ((first | refine gkc_split ?_ ?_ | refine pkc_split ?_ ?_ | refine condc_bool ?_ ?_) <;> intro hq <;> (first | exact bcontra (by assumption) hq | exact bcontra hq (by assumption) | simp -implicitDefEqProofs only [hq, av, reduceCtorEq, ↓reduceIte, sevalprocAttr] at h ⊢))
   | (first | refine kn6 ⟨_, h, ?_⟩ | refine kn5 ⟨_, h, ?_⟩
      try simp -implicitDefEqProofs only [pats, av, reduceCtorEq, ↓reduceIte, sevalprocAttr]
      (first
         | (refine wk_m 0 _ rfl ?_ rfl rfl ?_ ?_ ?_ ?_
            iterate 3 exact tk3
            all_goals (repeat' (first | exact trivial | apply And.intro))
            all_goals exact tk1)))
   | (first | refine kn6 ⟨_, h, ?_⟩ | refine kn5 ⟨_, h, ?_⟩
      try simp -implicitDefEqProofs only [*, pats, av, reduceCtorEq, ↓reduceIte, sevalprocAttr]
      (first
         | (refine wk_m 0 _ rfl ?_ rfl rfl ?_ ?_ ?_ ?_
            iterate 3 exact tk3
            all_goals (repeat' (first | exact trivial | apply And.intro))
            all_goals exact tk1)))
   | (cases h
      try simp -implicitDefEqProofs only [av, reduceCtorEq, ↓reduceIte, sevalprocAttr]
      first | refine retLt tk5 (by rfl) ?_ | refine retL1 tk5 (by rfl) ?_
      repeat' (first | exact trivial | apply And.intro)
      all_goals exact tk0)
   | fail)
theorem a_ridgewayref02_Mask {a0 : Int} {a1 : Int} {r : Int} (h : m_ridgewayref02_Mask a0 a1 = some r) : ACt Tryz.prog 88 [Enc.enc a0, Enc.enc a1] (Enc.enc r) [] := by
 refine act_of p_ridgewayref02_Mask (by simp [c_ridgewayref02_Mask]) ?_
 show AW _ b_ridgewayref02_Mask (RetOk [.tmp 4] _ _) { n := 14, tm := [(0, _), (1, _)], box := [], fr := [] }
 unfold b_ridgewayref02_Mask
 unfold m_ridgewayref02_Mask at h
 try simp -implicitDefEqProofs only [av, reduceCtorEq, ↓reduceIte, sevalprocAttr] at h
 repeat' (first
   | (refine (hκ _).mpr ?_; clear hκ)
   | refine kn1 ?_
   | refine kr1 ?_
   | refine ke1 ?_
   | refine kn2 ?_
   | refine kr2 ?_
   | refine kx2 ?_
   | refine ke2 rfl ?_
   | refine kr5 ?_
   | refine ke5 ?_
   | refine kr6 ?_
   | refine ke6 ?_
   | refine w_seq ?_
   | refine w_block ?_
   | refine w_scope ?_
   | refine kn7 ?_
   | refine kr7 ?_
   | refine ke7 ?_
   | (refine aw_regk fun κ hκ => ?_; simp -implicitDefEqProofs only [av, reduceCtorEq, ↓reduceIte, sevalprocAttr])
   | refine aw_exit ?_
   | refine aw_ret ?_
   | refine aw_skip ?_
   | refine aw_label ?_
   | refine condc_t ?_
   | refine condc_f ?_
   | (refine aw_cond2 tk4 ?_)
   | ((first | refine gkc_fork ?_ ?_ | refine pkc_fork ?_ ?_ | refine condc_fork ?_ ?_) <;> intro hq <;> (first | contradiction | simp -implicitDefEqProofs only [eq_false hq, Decidable.not_not, av, reduceCtorEq, ↓reduceIte, sevalprocAttr] at h ⊢ | simp -implicitDefEqProofs only [eq_true hq, av, reduceCtorEq, ↓reduceIte, sevalprocAttr] at h ⊢))
   | ((first | refine gkc_split ?_ ?_ | refine pkc_split ?_ ?_ | refine condc_bool ?_ ?_) <;> intro hq <;> (first | exact bcontra (by assumption) hq | exact bcontra hq (by assumption) | simp -implicitDefEqProofs only [hq, av, reduceCtorEq, ↓reduceIte, sevalprocAttr] at h ⊢))
   | (refine bd_go h fun y hy h => ?_
      first | refine callsc (a_ridgewayref02_size hy) ?_ ?_ | refine callc (a_ridgewayref02_size hy) ?_ ?_ | ((first | refine callsc (act_le (a_ridgewayref02_size hy) ?_) ?_ ?_ | refine callc (act_le (a_ridgewayref02_size hy) ?_) ?_ ?_); (focus (repeat' (first | exact trivial | exact le_same _ | exact le_enc | exact le_nil | exact le_imm (.inl rfl) | exact le_imm (.inr rfl) | (refine le_agg ?_) | apply And.intro | (refine le_eq ?_; simp only [*]; done)))))
      exact tk2
      simp -implicitDefEqProofs only [av, reduceCtorEq, ↓reduceIte, sevalprocAttr])
   | (refine nz_go h fun hb h => ?_; simp -implicitDefEqProofs only [eq_false hb, av, reduceCtorEq, ↓reduceIte, sevalprocAttr] at h ⊢)
   | (cases h
      try simp -implicitDefEqProofs only [av, reduceCtorEq, ↓reduceIte, sevalprocAttr]
      first | refine retLt tk5 (by rfl) ?_ | refine retL1 tk5 (by rfl) ?_
      repeat' (first | exact trivial | apply And.intro)
      all_goals exact tk0)
   | fail)
theorem a_ridgewayref02_Sane {a0 : Prefix} {r : Bool} (h : m_ridgewayref02_Sane a0 = some r) : ACt Tryz.prog 77 [Enc.enc a0] (Enc.enc r) [] := by
 refine act_of p_ridgewayref02_Sane (by simp [c_ridgewayref02_Sane]) ?_
 show AW _ b_ridgewayref02_Sane (RetOk [.tmp 2] _ _) { n := 31, tm := [(0, _)], box := [], fr := [] }
 unfold b_ridgewayref02_Sane
 unfold m_ridgewayref02_Sane at h
 try simp -implicitDefEqProofs only [av, reduceCtorEq, ↓reduceIte, sevalprocAttr] at h
 repeat' (first
   | (refine (hκ _).mpr ?_; clear hκ)
   | refine kn1 ?_
   | refine kr1 ?_
   | refine ke1 ?_
   | refine kn2 ?_
   | refine kr2 ?_
   | refine kx2 ?_
   | refine ke2 rfl ?_
   | refine kr5 ?_
   | refine ke5 ?_
   | refine kr6 ?_
   | refine ke6 ?_
   | refine w_seq ?_
   | refine w_block ?_
   | refine w_scope ?_
   | refine kn7 ?_
   | refine kr7 ?_
   | refine ke7 ?_
   | (refine aw_regk fun κ hκ => ?_; simp -implicitDefEqProofs only [av, reduceCtorEq, ↓reduceIte, sevalprocAttr])
   | refine aw_exit ?_
   | refine aw_ret ?_
   | refine aw_skip ?_
   | refine aw_label ?_
   | refine condc_t ?_
   | refine condc_f ?_
   | (refine aw_cond2 tk4 ?_)
   | ((first | refine gkc_fork ?_ ?_ | refine pkc_fork ?_ ?_ | refine condc_fork ?_ ?_) <;> intro hq <;> (first | contradiction | simp -implicitDefEqProofs only [eq_false hq, Decidable.not_not, av, reduceCtorEq, ↓reduceIte, sevalprocAttr] at h ⊢ | simp -implicitDefEqProofs only [eq_true hq, av, reduceCtorEq, ↓reduceIte, sevalprocAttr] at h ⊢))
   | ((first | refine gkc_split ?_ ?_ | refine pkc_split ?_ ?_ | refine condc_bool ?_ ?_) <;> intro hq <;> (first | exact bcontra (by assumption) hq | exact bcontra hq (by assumption) | simp -implicitDefEqProofs only [hq, av, reduceCtorEq, ↓reduceIte, sevalprocAttr] at h ⊢))
   | (refine bd_go h fun y hy h => ?_
      first | refine callsc (a_ridgewayref02_Mask hy) ?_ ?_ | refine callc (a_ridgewayref02_Mask hy) ?_ ?_ | ((first | refine callsc (act_le (a_ridgewayref02_Mask hy) ?_) ?_ ?_ | refine callc (act_le (a_ridgewayref02_Mask hy) ?_) ?_ ?_); (focus (repeat' (first | exact trivial | exact le_same _ | exact le_enc | exact le_nil | exact le_imm (.inl rfl) | exact le_imm (.inr rfl) | (refine le_agg ?_) | apply And.intro | (refine le_eq ?_; simp only [*]; done)))))
      exact tk2
      simp -implicitDefEqProofs only [av, reduceCtorEq, ↓reduceIte, sevalprocAttr])
   | (cases h
      try simp -implicitDefEqProofs only [av, reduceCtorEq, ↓reduceIte, sevalprocAttr]
      first | refine retLt tk5 (by rfl) ?_ | refine retL1 tk5 (by rfl) ?_
      repeat' (first | exact trivial | apply And.intro)
      all_goals exact tk0)
   | fail)
theorem a_ridgewayref12_owns {a0 : (List Prefix)} {r : Bool} (h : m_ridgewayref12_owns a0 = some r) : ACt Tryz.prog 61 [Enc.enc a0] (Enc.enc r) [] := by
 refine act_of p_ridgewayref12_owns (by simp [c_ridgewayref12_owns]) ?_
 show AW _ b_ridgewayref12_owns (RetOk [.tmp 2] _ _) { n := 34, tm := [(0, _)], box := [], fr := [] }
 unfold b_ridgewayref12_owns
 unfold m_ridgewayref12_owns at h
 try simp -implicitDefEqProofs only [av, reduceCtorEq, ↓reduceIte, sevalprocAttr] at h
 repeat' (first
   | (refine (hκ _).mpr ?_; clear hκ)
   | refine kn1 ?_
   | refine kr1 ?_
   | refine ke1 ?_
   | refine kn2 ?_
   | refine kr2 ?_
   | refine kx2 ?_
   | refine ke2 rfl ?_
   | refine kr5 ?_
   | refine ke5 ?_
   | refine kr6 ?_
   | refine ke6 ?_
   | (refine w_loopm [0] (fun (j : (Int)) => [(3, (.int .i64 j))]) (fun (j : (Int)) => []) (fun (j : (Int)) => []) (fun (j : (Int)) => []) (show loopC (s_ridgewayref12_owns1 _) _ BIG _ = some _ from h) ?_ ?_
      · try simp -implicitDefEqProofs only [pats, av, reduceCtorEq, ↓reduceIte, sevalprocAttr]
        (first
         | (refine wk_m 0 _ rfl ?_ rfl rfl ?_ ?_ ?_ ?_
            iterate 3 exact tk3
            all_goals (repeat' (first | exact trivial | apply And.intro))
            all_goals exact tk1))
      clear h
      intro n st h
      simp -implicitDefEqProofs only [s_ridgewayref12_owns1.eq_1, pats, av, reduceCtorEq, ↓reduceIte, sevalprocAttr] at h ⊢)
   | (refine w_loopm [0, 3] (fun (j : (Int)) => [(4, (.int .i64 j))]) (fun (j : (Int)) => []) (fun (j : (Int)) => []) (fun (j : (Int)) => []) (show loopC (s_ridgewayref12_owns2 _ _) _ BIG _ = some _ from h) ?_ ?_
      · try simp -implicitDefEqProofs only [pats, av, reduceCtorEq, ↓reduceIte, sevalprocAttr]
        (first
         | (refine wk_m 0 _ rfl ?_ rfl rfl ?_ ?_ ?_ ?_
            iterate 3 exact tk3
            all_goals (repeat' (first | exact trivial | apply And.intro))
            all_goals exact tk1))
      clear h
      intro n st h
      simp -implicitDefEqProofs only [s_ridgewayref12_owns2.eq_1, pats, av, reduceCtorEq, ↓reduceIte, sevalprocAttr] at h ⊢)
   | refine w_seq ?_
   | refine w_block ?_
   | refine w_scope ?_
   | refine kn7 ?_
   | refine kr7 ?_
   | refine ke7 ?_
   | (refine aw_regk fun κ hκ => ?_; simp -implicitDefEqProofs only [av, reduceCtorEq, ↓reduceIte, sevalprocAttr])
   | refine aw_exit ?_
   | refine aw_ret ?_
   | refine aw_skip ?_
   | refine aw_label ?_
   | refine condc_t ?_
   | refine condc_f ?_
   | (refine aw_cond2 tk4 ?_)
   | ((first | refine gkc_fork ?_ ?_ | refine pkc_fork ?_ ?_ | refine condc_fork ?_ ?_) <;> intro hq <;> (first | contradiction | simp -implicitDefEqProofs only [eq_false hq, Decidable.not_not, av, reduceCtorEq, ↓reduceIte, sevalprocAttr] at h ⊢ | simp -implicitDefEqProofs only [eq_true hq, av, reduceCtorEq, ↓reduceIte, sevalprocAttr] at h ⊢))
   | ((first | refine gkc_split ?_ ?_ | refine pkc_split ?_ ?_ | refine condc_bool ?_ ?_) <;> intro hq <;> (first | exact bcontra (by assumption) hq | exact bcontra hq (by assumption) | simp -implicitDefEqProofs only [hq, av, reduceCtorEq, ↓reduceIte, sevalprocAttr] at h ⊢))
   | (refine bd_go h fun y hy h => ?_; refine ixc hy ?_; simp -implicitDefEqProofs only [av, reduceCtorEq, ↓reduceIte, sevalprocAttr])
   | (refine bd_go h fun y hy h => ?_
      first | refine callsc (a_ridgewayref02_Sane hy) ?_ ?_ | refine callc (a_ridgewayref02_Sane hy) ?_ ?_ | ((first | refine callsc (act_le (a_ridgewayref02_Sane hy) ?_) ?_ ?_ | refine callc (act_le (a_ridgewayref02_Sane hy) ?_) ?_ ?_); (focus (repeat' (first | exact trivial | exact le_same _ | exact le_enc | exact le_nil | exact le_imm (.inl rfl) | exact le_imm (.inr rfl) | (refine le_agg ?_) | apply And.intro | (refine le_eq ?_; simp only [*]; done)))))
      exact tk2
      simp -implicitDefEqProofs only [av, reduceCtorEq, ↓reduceIte, sevalprocAttr])
   | (first | refine kn6 ⟨_, h, ?_⟩ | refine kn5 ⟨_, h, ?_⟩
      try simp -implicitDefEqProofs only [pats, av, reduceCtorEq, ↓reduceIte, sevalprocAttr]
      (first
         | (refine wk_m 0 _ rfl ?_ rfl rfl ?_ ?_ ?_ ?_
            iterate 3 exact tk3
            all_goals (repeat' (first | exact trivial | apply And.intro))
            all_goals exact tk1)))
   | (first | refine kn6 ⟨_, h, ?_⟩ | refine kn5 ⟨_, h, ?_⟩
      try simp -implicitDefEqProofs only [*, pats, av, reduceCtorEq, ↓reduceIte, sevalprocAttr]
      (first
         | (refine wk_m 0 _ rfl ?_ rfl rfl ?_ ?_ ?_ ?_
            iterate 3 exact tk3
            all_goals (repeat' (first | exact trivial | apply And.intro))
            all_goals exact tk1)))
   | (cases h
      try simp -implicitDefEqProofs only [av, reduceCtorEq, ↓reduceIte, sevalprocAttr]
      first | refine retLt tk5 (by rfl) ?_ | refine retL1 tk5 (by rfl) ?_
      repeat' (first | exact trivial | apply And.intro)
      all_goals exact tk0)
   | fail)
theorem a_ridgewayref10_match {a0 : Rule} {r : Bool} (h : m_ridgewayref10_match a0 = some r) : ACt Tryz.prog 101 [Enc.enc a0] (Enc.enc r) [] := by
 refine act_of p_ridgewayref10_match (by simp [c_ridgewayref10_match]) ?_
 show AW _ b_ridgewayref10_match (RetOk [.tmp 2] _ _) { n := 76, tm := [(0, _)], box := [], fr := [] }
 unfold b_ridgewayref10_match
 unfold m_ridgewayref10_match at h
 try simp -implicitDefEqProofs only [av, reduceCtorEq, ↓reduceIte, sevalprocAttr] at h
 repeat' (first
   | (refine (hκ _).mpr ?_; clear hκ)
   | refine kn1 ?_
   | refine kr1 ?_
   | refine ke1 ?_
   | refine kn2 ?_
   | refine kr2 ?_
   | refine kx2 ?_
   | refine ke2 rfl ?_
   | refine kr5 ?_
   | refine ke5 ?_
   | refine kr6 ?_
   | refine ke6 ?_
   | refine w_seq ?_
   | refine w_block ?_
   | refine w_scope ?_
   | refine kn7 ?_
   | refine kr7 ?_
   | refine ke7 ?_
   | (refine aw_regk fun κ hκ => ?_; simp -implicitDefEqProofs only [av, reduceCtorEq, ↓reduceIte, sevalprocAttr])
   | refine aw_exit ?_
   | refine aw_ret ?_
   | refine aw_skip ?_
   | refine aw_label ?_
   | refine condc_t ?_
   | refine condc_f ?_
   | (refine aw_cond2 tk4 ?_)
   | ((first | refine gkc_fork ?_ ?_ | refine pkc_fork ?_ ?_ | refine condc_fork ?_ ?_) <;> intro hq <;> (first | contradiction | simp -implicitDefEqProofs only [eq_false hq, Decidable.not_not, av, reduceCtorEq, ↓reduceIte, sevalprocAttr] at h ⊢ | simp -implicitDefEqProofs only [eq_true hq, av, reduceCtorEq, ↓reduceIte, sevalprocAttr] at h ⊢))
   | ((first | refine gkc_split ?_ ?_ | refine pkc_split ?_ ?_ | refine condc_bool ?_ ?_) <;> intro hq <;> (first | exact bcontra (by assumption) hq | exact bcontra hq (by assumption) | simp -implicitDefEqProofs only [hq, av, reduceCtorEq, ↓reduceIte, sevalprocAttr] at h ⊢))
   | (refine stc_plain rfl ?_; simp -implicitDefEqProofs only [putCells.eq_1, av, reduceCtorEq, ↓reduceIte, sevalprocAttr])
   | (refine bd_go h fun y hy h => ?_
      first | refine callsc (a_ridgewayref02_Sane hy) ?_ ?_ | refine callc (a_ridgewayref02_Sane hy) ?_ ?_ | ((first | refine callsc (act_le (a_ridgewayref02_Sane hy) ?_) ?_ ?_ | refine callc (act_le (a_ridgewayref02_Sane hy) ?_) ?_ ?_); (focus (repeat' (first | exact trivial | exact le_same _ | exact le_enc | exact le_nil | exact le_imm (.inl rfl) | exact le_imm (.inr rfl) | (refine le_agg ?_) | apply And.intro | (refine le_eq ?_; simp only [*]; done)))))
      exact tk2
      simp -implicitDefEqProofs only [av, reduceCtorEq, ↓reduceIte, sevalprocAttr])
   | (cases h
      try simp -implicitDefEqProofs only [av, reduceCtorEq, ↓reduceIte, sevalprocAttr]
      first | refine retLt tk5 (by rfl) ?_ | refine retL1 tk5 (by rfl) ?_
      repeat' (first | exact trivial | apply And.intro)
      all_goals exact tk0)
   | (cases h
      simp -implicitDefEqProofs only [*, Bool.true_and, Bool.false_and, Bool.and_true, av, reduceCtorEq, ↓reduceIte, sevalprocAttr]
      first | refine retLt tk5 (by rfl) ?_ | refine retL1 tk5 (by rfl) ?_
      repeat' (first | exact trivial | apply And.intro)
      all_goals exact tk0)
   | fail)
theorem a_ridgewayref10_Sane {a0 : Rule} {a1 : Bool} {r : Bool} (h : m_ridgewayref10_Sane a0 a1 = some r) : ACt Tryz.prog 89 [Enc.enc a0, Enc.enc a1] (Enc.enc r) [] := by
 refine act_of p_ridgewayref10_Sane (by simp [c_ridgewayref10_Sane]) ?_
 show AW _ b_ridgewayref10_Sane (RetOk [.tmp 4] _ _) { n := 59, tm := [(0, _), (1, _)], box := [], fr := [] }
 unfold b_ridgewayref10_Sane
 unfold m_ridgewayref10_Sane at h
 try simp -implicitDefEqProofs only [av, reduceCtorEq, ↓reduceIte, sevalprocAttr] at h
 repeat' (first
   | (refine (hκ _).mpr ?_; clear hκ)
   | refine kn1 ?_
   | refine kr1 ?_
   | refine ke1 ?_
   | refine kn2 ?_
   | refine kr2 ?_
   | refine kx2 ?_
   | refine ke2 rfl ?_
   | refine kr5 ?_
   | refine ke5 ?_
   | refine kr6 ?_
   | refine ke6 ?_
   | refine w_seq ?_
   | refine w_block ?_
   | refine w_scope ?_
   | refine kn7 ?_
   | refine kr7 ?_
   | refine ke7 ?_
   | (refine aw_regk fun κ hκ => ?_; simp -implicitDefEqProofs only [av, reduceCtorEq, ↓reduceIte, sevalprocAttr])
   | refine aw_exit ?_
   | refine aw_ret ?_
   | refine aw_skip ?_
   | refine aw_label ?_
   | refine condc_t ?_
   | refine condc_f ?_
   | (refine aw_cond2 tk4 ?_)
   | ((first | refine gkc_fork ?_ ?_ | refine pkc_fork ?_ ?_ | refine condc_fork ?_ ?_) <;> intro hq <;> (first | contradiction | simp -implicitDefEqProofs only [eq_false hq, Decidable.not_not, av, reduceCtorEq, ↓reduceIte, sevalprocAttr] at h ⊢ | simp -implicitDefEqProofs only [eq_true hq, av, reduceCtorEq, ↓reduceIte, sevalprocAttr] at h ⊢))
   | ((first | refine gkc_split ?_ ?_ | refine pkc_split ?_ ?_ | refine condc_bool ?_ ?_) <;> intro hq <;> (first | exact bcontra (by assumption) hq | exact bcontra hq (by assumption) | simp -implicitDefEqProofs only [hq, av, reduceCtorEq, ↓reduceIte, sevalprocAttr] at h ⊢))
   | (refine bd_go h fun y hy h => ?_
      first | refine callsc (a_ridgewayref10_match hy) ?_ ?_ | refine callc (a_ridgewayref10_match hy) ?_ ?_ | ((first | refine callsc (act_le (a_ridgewayref10_match hy) ?_) ?_ ?_ | refine callc (act_le (a_ridgewayref10_match hy) ?_) ?_ ?_); (focus (repeat' (first | exact trivial | exact le_same _ | exact le_enc | exact le_nil | exact le_imm (.inl rfl) | exact le_imm (.inr rfl) | (refine le_agg ?_) | apply And.intro | (refine le_eq ?_; simp only [*]; done)))))
      exact tk2
      simp -implicitDefEqProofs only [av, reduceCtorEq, ↓reduceIte, sevalprocAttr])
   | (cases h
      try simp -implicitDefEqProofs only [av, reduceCtorEq, ↓reduceIte, sevalprocAttr]
      first | refine retLt tk5 (by rfl) ?_ | refine retL1 tk5 (by rfl) ?_
      repeat' (first | exact trivial | apply And.intro)
      all_goals exact tk0)
   | fail)
theorem a_ridgewayref12_rules {a0 : (List Rule)} {a1 : Bool} {r : Bool} (h : m_ridgewayref12_rules a0 a1 = some r) : ACt Tryz.prog 78 [Enc.enc a0, Enc.enc a1] (Enc.enc r) [] := by
 refine act_of p_ridgewayref12_rules (by simp [c_ridgewayref12_rules]) ?_
 show AW _ b_ridgewayref12_rules (RetOk [.tmp 4] _ _) { n := 22, tm := [(0, _), (1, _)], box := [], fr := [] }
 unfold b_ridgewayref12_rules
 unfold m_ridgewayref12_rules at h
 try simp -implicitDefEqProofs only [av, reduceCtorEq, ↓reduceIte, sevalprocAttr] at h
 repeat' (first
   | (refine (hκ _).mpr ?_; clear hκ)
   | refine kn1 ?_
   | refine kr1 ?_
   | refine ke1 ?_
   | refine kn2 ?_
   | refine kr2 ?_
   | refine kx2 ?_
   | refine ke2 rfl ?_
   | refine kr5 ?_
   | refine ke5 ?_
   | refine kr6 ?_
   | refine ke6 ?_
   | (refine w_loopm [0, 1] (fun (j : (Int)) => [(5, (.int .i64 j))]) (fun (j : (Int)) => []) (fun (j : (Int)) => []) (fun (j : (Int)) => []) (show loopC (s_ridgewayref12_rules1 _ _) _ BIG _ = some _ from h) ?_ ?_
      · try simp -implicitDefEqProofs only [pats, av, reduceCtorEq, ↓reduceIte, sevalprocAttr]
        (first
         | (refine wk_m 0 _ rfl ?_ rfl rfl ?_ ?_ ?_ ?_
            iterate 3 exact tk3
            all_goals (repeat' (first | exact trivial | apply And.intro))
            all_goals exact tk1))
      clear h
      intro n st h
      simp -implicitDefEqProofs only [s_ridgewayref12_rules1.eq_1, pats, av, reduceCtorEq, ↓reduceIte, sevalprocAttr] at h ⊢)
   | refine w_seq ?_
   | refine w_block ?_
   | refine w_scope ?_
   | refine kn7 ?_
   | refine kr7 ?_
   | refine ke7 ?_
   | (refine aw_regk fun κ hκ => ?_; simp -implicitDefEqProofs only [av, reduceCtorEq, ↓reduceIte, sevalprocAttr])
   | refine aw_exit ?_
   | refine aw_ret ?_
   | refine aw_skip ?_
   | refine aw_label ?_
   | refine condc_t ?_
   | refine condc_f ?_
   | (refine aw_cond2 tk4 ?_)
   | ((first | refine gkc_fork ?_ ?_ | refine pkc_fork ?_ ?_ | refine condc_fork ?_ ?_) <;> intro hq <;> (first | contradiction | simp -implicitDefEqProofs only [eq_false hq, Decidable.not_not, av, reduceCtorEq, ↓reduceIte, sevalprocAttr] at h ⊢ | simp -implicitDefEqProofs only [eq_true hq, av, reduceCtorEq, ↓reduceIte, sevalprocAttr] at h ⊢))
   | ((first | refine gkc_split ?_ ?_ | refine pkc_split ?_ ?_ | refine condc_bool ?_ ?_) <;> intro hq <;> (first | exact bcontra (by assumption) hq | exact bcontra hq (by assumption) | simp -implicitDefEqProofs only [hq, av, reduceCtorEq, ↓reduceIte, sevalprocAttr] at h ⊢))
   | (refine bd_go h fun y hy h => ?_; refine ixc hy ?_; simp -implicitDefEqProofs only [av, reduceCtorEq, ↓reduceIte, sevalprocAttr])
   | (refine bd_go h fun y hy h => ?_
      first | refine callsc (a_ridgewayref10_Sane hy) ?_ ?_ | refine callc (a_ridgewayref10_Sane hy) ?_ ?_ | ((first | refine callsc (act_le (a_ridgewayref10_Sane hy) ?_) ?_ ?_ | refine callc (act_le (a_ridgewayref10_Sane hy) ?_) ?_ ?_); (focus (repeat' (first | exact trivial | exact le_same _ | exact le_enc | exact le_nil | exact le_imm (.inl rfl) | exact le_imm (.inr rfl) | (refine le_agg ?_) | apply And.intro | (refine le_eq ?_; simp only [*]; done)))))
      exact tk2
      simp -implicitDefEqProofs only [av, reduceCtorEq, ↓reduceIte, sevalprocAttr])
   | (first | refine kn6 ⟨_, h, ?_⟩ | refine kn5 ⟨_, h, ?_⟩
      try simp -implicitDefEqProofs only [pats, av, reduceCtorEq, ↓reduceIte, sevalprocAttr]
      (first
         | (refine wk_m 0 _ rfl ?_ rfl rfl ?_ ?_ ?_ ?_
            iterate 3 exact tk3
            all_goals (repeat' (first | exact trivial | apply And.intro))
            all_goals exact tk1)))
   | (first | refine kn6 ⟨_, h, ?_⟩ | refine kn5 ⟨_, h, ?_⟩
      try simp -implicitDefEqProofs only [*, pats, av, reduceCtorEq, ↓reduceIte, sevalprocAttr]
      (first
         | (refine wk_m 0 _ rfl ?_ rfl rfl ?_ ?_ ?_ ?_
            iterate 3 exact tk3
            all_goals (repeat' (first | exact trivial | apply And.intro))
            all_goals exact tk1)))
   | (cases h
      try simp -implicitDefEqProofs only [av, reduceCtorEq, ↓reduceIte, sevalprocAttr]
      first | refine retLt tk5 (by rfl) ?_ | refine retL1 tk5 (by rfl) ?_
      repeat' (first | exact trivial | apply And.intro)
      all_goals exact tk0)
   | fail)
theorem a_ridgewayref12_sides {a0 : (List Side)} {a1 : Int} {r : Bool} (h : m_ridgewayref12_sides a0 a1 = some r) : ACt Tryz.prog 62 [Enc.enc a0, Enc.enc a1] (Enc.enc r) [] := by
 refine act_of p_ridgewayref12_sides (by simp [c_ridgewayref12_sides]) ?_
 show AW _ b_ridgewayref12_sides (RetOk [.tmp 4] _ _) { n := 70, tm := [(0, _), (1, _)], box := [], fr := [] }
 unfold b_ridgewayref12_sides
 unfold m_ridgewayref12_sides at h
 try simp -implicitDefEqProofs only [av, reduceCtorEq, ↓reduceIte, sevalprocAttr] at h
 repeat' (first
   | (refine (hκ _).mpr ?_; clear hκ)
   | refine kn1 ?_
   | refine kr1 ?_
   | refine ke1 ?_
   | refine kn2 ?_
   | refine kr2 ?_
   | refine kx2 ?_
   | refine ke2 rfl ?_
   | refine kr5 ?_
   | refine ke5 ?_
   | refine kr6 ?_
   | refine ke6 ?_
   | (refine w_loopm [0, 1] (fun (j : (Int)) => [(5, (.int .i64 j))]) (fun (j : (Int)) => []) (fun (j : (Int)) => []) (fun (j : (Int)) => []) (show loopC (s_ridgewayref12_sides1 _ _) _ BIG _ = some _ from h) ?_ ?_
      · try simp -implicitDefEqProofs only [pats, av, reduceCtorEq, ↓reduceIte, sevalprocAttr]
        (first
         | (refine wk_m 0 _ rfl ?_ rfl rfl ?_ ?_ ?_ ?_
            iterate 3 exact tk3
            all_goals (repeat' (first | exact trivial | apply And.intro))
            all_goals exact tk1))
      clear h
      intro n st h
      simp -implicitDefEqProofs only [s_ridgewayref12_sides1.eq_1, pats, av, reduceCtorEq, ↓reduceIte, sevalprocAttr] at h ⊢)
   | (refine w_loopm [0, 1, 5, 6, 22, 23, 24, 27, 28, 29, 30, 33, 34, 35, 38, 39, 40, 43, 44, 45, 46, 49, 50, 51, 52] (fun (j : (Int)) => [(7, (.int .i64 j))]) (fun (j : (Int)) => []) (fun (j : (Int)) => []) (fun (j : (Int)) => []) (show loopC (s_ridgewayref12_sides2 _ _ _) _ BIG _ = some _ from h) ?_ ?_
      · try simp -implicitDefEqProofs only [pats, av, reduceCtorEq, ↓reduceIte, sevalprocAttr]
        (first
         | (refine wk_m 0 _ rfl ?_ rfl rfl ?_ ?_ ?_ ?_
            iterate 3 exact tk3
            all_goals (repeat' (first | exact trivial | apply And.intro))
            all_goals exact tk1))
      clear h
      intro n st h
      simp -implicitDefEqProofs only [s_ridgewayref12_sides2.eq_1, pats, av, reduceCtorEq, ↓reduceIte, sevalprocAttr] at h ⊢)
   | refine w_seq ?_
   | refine w_block ?_
   | refine w_scope ?_
   | refine kn7 ?_
   | refine kr7 ?_
   | refine ke7 ?_
   | (refine aw_regk fun κ hκ => ?_; simp -implicitDefEqProofs only [av, reduceCtorEq, ↓reduceIte, sevalprocAttr])
   | refine aw_exit ?_
   | refine aw_ret ?_
   | refine aw_skip ?_
   | refine aw_label ?_
   | refine condc_t ?_
   | refine condc_f ?_
   | (refine aw_cond2 tk4 ?_)
   | ((first | refine gkc_fork ?_ ?_ | refine pkc_fork ?_ ?_ | refine condc_fork ?_ ?_) <;> intro hq <;> (first | contradiction | simp -implicitDefEqProofs only [eq_false hq, Decidable.not_not, av, reduceCtorEq, ↓reduceIte, sevalprocAttr] at h ⊢ | simp -implicitDefEqProofs only [eq_true hq, av, reduceCtorEq, ↓reduceIte, sevalprocAttr] at h ⊢))
   | ((first | refine gkc_split ?_ ?_ | refine pkc_split ?_ ?_ | refine condc_bool ?_ ?_) <;> intro hq <;> (first | exact bcontra (by assumption) hq | exact bcontra hq (by assumption) | simp -implicitDefEqProofs only [hq, av, reduceCtorEq, ↓reduceIte, sevalprocAttr] at h ⊢))
   | (refine stc_plain rfl ?_; simp -implicitDefEqProofs only [putCells.eq_1, av, reduceCtorEq, ↓reduceIte, sevalprocAttr])
   | (refine bd_go h fun y hy h => ?_; refine ixc hy ?_; simp -implicitDefEqProofs only [av, reduceCtorEq, ↓reduceIte, sevalprocAttr])
   | (refine bd_go h fun y hy h => ?_
      first | refine callsc (a_ridgewayref12_rules hy) ?_ ?_ | refine callc (a_ridgewayref12_rules hy) ?_ ?_ | ((first | refine callsc (act_le (a_ridgewayref12_rules hy) ?_) ?_ ?_ | refine callc (act_le (a_ridgewayref12_rules hy) ?_) ?_ ?_); (focus (repeat' (first | exact trivial | exact le_same _ | exact le_enc | exact le_nil | exact le_imm (.inl rfl) | exact le_imm (.inr rfl) | (refine le_agg ?_) | apply And.intro | (refine le_eq ?_; simp only [*]; done)))))
      exact tk2
      simp -implicitDefEqProofs only [av, reduceCtorEq, ↓reduceIte, sevalprocAttr])
   | (first | refine kn6 ⟨_, h, ?_⟩ | refine kn5 ⟨_, h, ?_⟩
      try simp -implicitDefEqProofs only [pats, av, reduceCtorEq, ↓reduceIte, sevalprocAttr]
      (first
         | (refine wk_m 0 _ rfl ?_ rfl rfl ?_ ?_ ?_ ?_
            iterate 3 exact tk3
            all_goals (repeat' (first | exact trivial | apply And.intro))
            all_goals exact tk1)))
   | (first | refine kn6 ⟨_, h, ?_⟩ | refine kn5 ⟨_, h, ?_⟩
      try simp -implicitDefEqProofs only [*, pats, av, reduceCtorEq, ↓reduceIte, sevalprocAttr]
      (first
         | (refine wk_m 0 _ rfl ?_ rfl rfl ?_ ?_ ?_ ?_
            iterate 3 exact tk3
            all_goals (repeat' (first | exact trivial | apply And.intro))
            all_goals exact tk1)))
   | (cases h
      try simp -implicitDefEqProofs only [av, reduceCtorEq, ↓reduceIte, sevalprocAttr]
      first | refine retLt tk5 (by rfl) ?_ | refine retL1 tk5 (by rfl) ?_
      repeat' (first | exact trivial | apply And.intro)
      all_goals exact tk0)
   | fail)
theorem a_ridgewayref12_Sane {a0 : Conf} {r : Bool} (h : m_ridgewayref12_Sane a0 = some r) : ACt Tryz.prog 39 [Enc.enc a0] (Enc.enc r) [] := by
 refine act_of p_ridgewayref12_Sane (by simp [c_ridgewayref12_Sane]) ?_
 show AW _ b_ridgewayref12_Sane (RetOk [.tmp 2] _ _) { n := 48, tm := [(0, _)], box := [], fr := [] }
 unfold b_ridgewayref12_Sane
 unfold m_ridgewayref12_Sane at h
 try simp -implicitDefEqProofs only [av, reduceCtorEq, ↓reduceIte, sevalprocAttr] at h
 repeat' (first
   | (refine (hκ _).mpr ?_; clear hκ)
   | refine kn1 ?_
   | refine kr1 ?_
   | refine ke1 ?_
   | refine kn2 ?_
   | refine kr2 ?_
   | refine kx2 ?_
   | refine ke2 rfl ?_
   | refine kr5 ?_
   | refine ke5 ?_
   | refine kr6 ?_
   | refine ke6 ?_
   | refine w_seq ?_
   | refine w_block ?_
   | refine w_scope ?_
   | refine kn7 ?_
   | refine kr7 ?_
   | refine ke7 ?_
   | (refine aw_regk fun κ hκ => ?_; simp -implicitDefEqProofs only [av, reduceCtorEq, ↓reduceIte, sevalprocAttr])
   | refine aw_exit ?_
   | refine aw_ret ?_
   | refine aw_skip ?_
   | refine aw_label ?_
   | refine condc_t ?_
   | refine condc_f ?_
   | (refine aw_cond2 tk4 ?_)
   | ((first | refine gkc_fork ?_ ?_ | refine pkc_fork ?_ ?_ | refine condc_fork ?_ ?_) <;> intro hq <;> (first | contradiction | simp -implicitDefEqProofs only [eq_false hq, Decidable.not_not, av, reduceCtorEq, ↓reduceIte, sevalprocAttr] at h ⊢ | simp -implicitDefEqProofs only [eq_true hq, av, reduceCtorEq, ↓reduceIte, sevalprocAttr] at h ⊢))
   | ((first | refine gkc_split ?_ ?_ | refine pkc_split ?_ ?_ | refine condc_bool ?_ ?_) <;> intro hq <;> (first | exact bcontra (by assumption) hq | exact bcontra hq (by assumption) | simp -implicitDefEqProofs only [hq, av, reduceCtorEq, ↓reduceIte, sevalprocAttr] at h ⊢))
   | (refine bd_go h fun y hy h => ?_
      first | refine callsc (a_ridgewayref12_Hold hy) ?_ ?_ | refine callc (a_ridgewayref12_Hold hy) ?_ ?_ | ((first | refine callsc (act_le (a_ridgewayref12_Hold hy) ?_) ?_ ?_ | refine callc (act_le (a_ridgewayref12_Hold hy) ?_) ?_ ?_); (focus (repeat' (first | exact trivial | exact le_same _ | exact le_enc | exact le_nil | exact le_imm (.inl rfl) | exact le_imm (.inr rfl) | (refine le_agg ?_) | apply And.intro | (refine le_eq ?_; simp only [*]; done)))))
      exact tk2
      simp -implicitDefEqProofs only [av, reduceCtorEq, ↓reduceIte, sevalprocAttr])
   | (refine bd_go h fun y hy h => ?_
      first | refine callsc (a_ridgewayref12_owns hy) ?_ ?_ | refine callc (a_ridgewayref12_owns hy) ?_ ?_ | ((first | refine callsc (act_le (a_ridgewayref12_owns hy) ?_) ?_ ?_ | refine callc (act_le (a_ridgewayref12_owns hy) ?_) ?_ ?_); (focus (repeat' (first | exact trivial | exact le_same _ | exact le_enc | exact le_nil | exact le_imm (.inl rfl) | exact le_imm (.inr rfl) | (refine le_agg ?_) | apply And.intro | (refine le_eq ?_; simp only [*]; done)))))
      exact tk2
      simp -implicitDefEqProofs only [av, reduceCtorEq, ↓reduceIte, sevalprocAttr])
   | (refine bd_go h fun y hy h => ?_
      first | refine callsc (a_ridgewayref12_sides hy) ?_ ?_ | refine callc (a_ridgewayref12_sides hy) ?_ ?_ | ((first | refine callsc (act_le (a_ridgewayref12_sides hy) ?_) ?_ ?_ | refine callc (act_le (a_ridgewayref12_sides hy) ?_) ?_ ?_); (focus (repeat' (first | exact trivial | exact le_same _ | exact le_enc | exact le_nil | exact le_imm (.inl rfl) | exact le_imm (.inr rfl) | (refine le_agg ?_) | apply And.intro | (refine le_eq ?_; simp only [*]; done)))))
      exact tk2
      simp -implicitDefEqProofs only [av, reduceCtorEq, ↓reduceIte, sevalprocAttr])
   | (cases h
      try simp -implicitDefEqProofs only [av, reduceCtorEq, ↓reduceIte, sevalprocAttr]
      first | refine retLt tk5 (by rfl) ?_ | refine retL1 tk5 (by rfl) ?_
      repeat' (first | exact trivial | apply And.intro)
      all_goals exact tk0)
   | fail)
theorem a_ridgewayref13_Mine {a0 : Int} {r : Int} (h : m_ridgewayref13_Mine a0 = some r) : ACt Tryz.prog 40 [Enc.enc a0] (Enc.enc r) [] := by
 refine act_of p_ridgewayref13_Mine (by simp [c_ridgewayref13_Mine]) ?_
 show AW _ b_ridgewayref13_Mine (RetOk [.tmp 2] _ _) { n := 10, tm := [(0, _)], box := [], fr := [] }
 unfold b_ridgewayref13_Mine
 unfold m_ridgewayref13_Mine at h
 try simp -implicitDefEqProofs only [av, reduceCtorEq, ↓reduceIte, sevalprocAttr] at h
 repeat' (first
   | (refine (hκ _).mpr ?_; clear hκ)
   | refine kn1 ?_
   | refine kr1 ?_
   | refine ke1 ?_
   | refine kn2 ?_
   | refine kr2 ?_
   | refine kx2 ?_
   | refine ke2 rfl ?_
   | refine kr5 ?_
   | refine ke5 ?_
   | refine kr6 ?_
   | refine ke6 ?_
   | refine w_seq ?_
   | refine w_block ?_
   | refine w_scope ?_
   | refine kn7 ?_
   | refine kr7 ?_
   | refine ke7 ?_
   | (refine aw_regk fun κ hκ => ?_; simp -implicitDefEqProofs only [av, reduceCtorEq, ↓reduceIte, sevalprocAttr])
   | refine aw_exit ?_
   | refine aw_ret ?_
   | refine aw_skip ?_
   | refine aw_label ?_
   | refine condc_t ?_
   | refine condc_f ?_
   | (refine aw_cond2 tk4 ?_)
   | ((first | refine gkc_fork ?_ ?_ | refine pkc_fork ?_ ?_ | refine condc_fork ?_ ?_) <;> intro hq <;> (first | contradiction | simp -implicitDefEqProofs only [eq_false hq, Decidable.not_not, av, reduceCtorEq, ↓reduceIte, sevalprocAttr] at h ⊢ | simp -implicitDefEqProofs only [eq_true hq, av, reduceCtorEq, ↓reduceIte, sevalprocAttr] at h ⊢))
   | ((first | refine gkc_split ?_ ?_ | refine pkc_split ?_ ?_ | refine condc_bool ?_ ?_) <;> intro hq <;> (first | exact bcontra (by assumption) hq | exact bcontra hq (by assumption) | simp -implicitDefEqProofs only [hq, av, reduceCtorEq, ↓reduceIte, sevalprocAttr] at h ⊢))
   | (cases h
      try simp -implicitDefEqProofs only [av, reduceCtorEq, ↓reduceIte, sevalprocAttr]
      first | refine retLt tk5 (by rfl) ?_ | refine retL1 tk5 (by rfl) ?_
      repeat' (first | exact trivial | apply And.intro)
      all_goals exact tk0)
   | fail)
theorem a_ridgewayref17_Hello {a0 : Conf} {a1 : Int} {r : Hello} (h : m_ridgewayref17_Hello a0 a1 = some r) : ACt Tryz.prog 18 [Enc.enc a0, Enc.enc a1] (Enc.enc r) [] := by
 refine act_of p_ridgewayref17_Hello (by simp [c_ridgewayref17_Hello]) ?_
 show AW _ b_ridgewayref17_Hello (RetOk [.cell 4 (some 4)] _ _) { n := 34, tm := [(0, _), (1, _)], box := [], fr := [] }
 unfold b_ridgewayref17_Hello
 unfold m_ridgewayref17_Hello at h
 try simp -implicitDefEqProofs only [av, reduceCtorEq, ↓reduceIte, sevalprocAttr] at h
 repeat' (first
   | (refine (hκ _).mpr ?_; clear hκ)
   | refine kn1 ?_
   | refine kr1 ?_
   | refine ke1 ?_
   | refine kn2 ?_
   | refine kr2 ?_
   | refine kx2 ?_
   | refine ke2 rfl ?_
   | refine kr5 ?_
   | refine ke5 ?_
   | refine kr6 ?_
   | refine ke6 ?_
   | refine w_seq ?_
   | refine w_block ?_
   | refine w_scope ?_
   | refine kn7 ?_
   | refine kr7 ?_
   | refine ke7 ?_
   | (refine aw_regk fun κ hκ => ?_; simp -implicitDefEqProofs only [av, reduceCtorEq, ↓reduceIte, sevalprocAttr])
   | refine aw_exit ?_
   | refine aw_ret ?_
   | refine aw_skip ?_
   | refine aw_label ?_
   | refine condc_t ?_
   | refine condc_f ?_
   | (refine aw_cond2 tk4 ?_)
   | ((first | refine gkc_fork ?_ ?_ | refine pkc_fork ?_ ?_ | refine condc_fork ?_ ?_) <;> intro hq <;> (first | contradiction | simp -implicitDefEqProofs only [eq_false hq, Decidable.not_not, av, reduceCtorEq, ↓reduceIte, sevalprocAttr] at h ⊢ | simp -implicitDefEqProofs only [eq_true hq, av, reduceCtorEq, ↓reduceIte, sevalprocAttr] at h ⊢))
   | ((first | refine gkc_split ?_ ?_ | refine pkc_split ?_ ?_ | refine condc_bool ?_ ?_) <;> intro hq <;> (first | exact bcontra (by assumption) hq | exact bcontra hq (by assumption) | simp -implicitDefEqProofs only [hq, av, reduceCtorEq, ↓reduceIte, sevalprocAttr] at h ⊢))
   | (refine stc_plain rfl ?_; simp -implicitDefEqProofs only [putCells.eq_1, av, reduceCtorEq, ↓reduceIte, sevalprocAttr])
   | (refine bd_go h fun y hy h => ?_; refine ixc hy ?_; simp -implicitDefEqProofs only [av, reduceCtorEq, ↓reduceIte, sevalprocAttr])
   | (refine bd_go h fun y hy h => ?_
      first | refine callsc (a_ridgewayref12_Sane hy) ?_ ?_ | refine callc (a_ridgewayref12_Sane hy) ?_ ?_ | ((first | refine callsc (act_le (a_ridgewayref12_Sane hy) ?_) ?_ ?_ | refine callc (act_le (a_ridgewayref12_Sane hy) ?_) ?_ ?_); (focus (repeat' (first | exact trivial | exact le_same _ | exact le_enc | exact le_nil | exact le_imm (.inl rfl) | exact le_imm (.inr rfl) | (refine le_agg ?_) | apply And.intro | (refine le_eq ?_; simp only [*]; done)))))
      exact tk2
      simp -implicitDefEqProofs only [av, reduceCtorEq, ↓reduceIte, sevalprocAttr])
   | (refine bd_go h fun y hy h => ?_
      first | refine callsc (a_ridgewayref13_Mine hy) ?_ ?_ | refine callc (a_ridgewayref13_Mine hy) ?_ ?_ | ((first | refine callsc (act_le (a_ridgewayref13_Mine hy) ?_) ?_ ?_ | refine callc (act_le (a_ridgewayref13_Mine hy) ?_) ?_ ?_); (focus (repeat' (first | exact trivial | exact le_same _ | exact le_enc | exact le_nil | exact le_imm (.inl rfl) | exact le_imm (.inr rfl) | (refine le_agg ?_) | apply And.intro | (refine le_eq ?_; simp only [*]; done)))))
      exact tk2
      simp -implicitDefEqProofs only [av, reduceCtorEq, ↓reduceIte, sevalprocAttr])
   | (cases h
      try simp -implicitDefEqProofs only [av, reduceCtorEq, ↓reduceIte, sevalprocAttr]
      first | refine retLt tk5 (by rfl) ?_ | refine retL1 tk5 (by rfl) ?_
      repeat' (first | exact trivial | apply And.intro)
      all_goals exact tk0)
   | fail)
theorem a_ridgewayref17_Sane {a0 : Sess} {r : Bool} (h : m_ridgewayref17_Sane a0 = some r) : ACt Tryz.prog 16 [Enc.enc a0] (Enc.enc r) [] := by
 refine act_of p_ridgewayref17_Sane (by simp [c_ridgewayref17_Sane]) ?_
 show AW _ b_ridgewayref17_Sane (RetOk [.tmp 2] _ _) { n := 77, tm := [(0, _)], box := [], fr := [] }
 unfold b_ridgewayref17_Sane
 unfold m_ridgewayref17_Sane at h
 try simp -implicitDefEqProofs only [av, reduceCtorEq, ↓reduceIte, sevalprocAttr] at h
 repeat' (first
   | (refine (hκ _).mpr ?_; clear hκ)
   | refine kn1 ?_
   | refine kr1 ?_
   | refine ke1 ?_
   | refine kn2 ?_
   | refine kr2 ?_
   | refine kx2 ?_
   | refine ke2 rfl ?_
   | refine kr5 ?_
   | refine ke5 ?_
   | refine kr6 ?_
   | refine ke6 ?_
   | (refine w_cutm (x := (.seq (.reg _) (.cond (.tmp 30) _ _))) [1] (fun (j : (Bool)) => [(30, (.bool j))]) (fun (j : (Bool)) => []) (fun (j : (Bool)) => []) (fun (j : (Bool)) => []) (show jn 1 _ _ = some _ from h) ?_ ?_
      rotate_left
      intro j h
      simp -implicitDefEqProofs only [pats, av, reduceCtorEq, ↓reduceIte, sevalprocAttr] at h ⊢
      rotate_left
      intro k' h
      try simp -implicitDefEqProofs only [av, reduceCtorEq, ↓reduceIte, sevalprocAttr] at h)
   | refine w_seq ?_
   | refine w_block ?_
   | refine w_scope ?_
   | refine kn7 ?_
   | refine kr7 ?_
   | refine ke7 ?_
   | (refine aw_regk fun κ hκ => ?_; simp -implicitDefEqProofs only [av, reduceCtorEq, ↓reduceIte, sevalprocAttr])
   | refine aw_exit ?_
   | refine aw_ret ?_
   | refine aw_skip ?_
   | refine aw_label ?_
   | refine condc_t ?_
   | refine condc_f ?_
   | (refine aw_cond2 tk4 ?_)
   | ((first | refine gkc_fork ?_ ?_ | refine pkc_fork ?_ ?_ | refine condc_fork ?_ ?_) <;> intro hq <;> (first | contradiction | simp -implicitDefEqProofs only [eq_false hq, Decidable.not_not, av, reduceCtorEq, ↓reduceIte, sevalprocAttr] at h ⊢ | simp -implicitDefEqProofs only [eq_true hq, av, reduceCtorEq, ↓reduceIte, sevalprocAttr] at h ⊢))
   | ((first | refine gkc_split ?_ ?_ | refine pkc_split ?_ ?_ | refine condc_bool ?_ ?_) <;> intro hq <;> (first | exact bcontra (by assumption) hq | exact bcontra hq (by assumption) | simp -implicitDefEqProofs only [hq, av, reduceCtorEq, ↓reduceIte, sevalprocAttr] at h ⊢))
   | (first | refine kn6 ⟨_, h, ?_⟩ | refine kn5 ⟨_, h, ?_⟩
      try simp -implicitDefEqProofs only [pats, av, reduceCtorEq, ↓reduceIte, sevalprocAttr]
      (first
         | (refine wk_m 0 _ rfl ?_ rfl rfl ?_ ?_ ?_ ?_
            iterate 3 exact tk3
            all_goals (repeat' (first | exact trivial | apply And.intro))
            all_goals exact tk1)))
   | (first | refine kn6 ⟨_, h, ?_⟩ | refine kn5 ⟨_, h, ?_⟩
      try simp -implicitDefEqProofs only [*, pats, av, reduceCtorEq, ↓reduceIte, sevalprocAttr]
      (first
         | (refine wk_m 0 _ rfl ?_ rfl rfl ?_ ?_ ?_ ?_
            iterate 3 exact tk3
            all_goals (repeat' (first | exact trivial | apply And.intro))
            all_goals exact tk1)))
   | (cases h
      try simp -implicitDefEqProofs only [av, reduceCtorEq, ↓reduceIte, sevalprocAttr]
      first | refine retLt tk5 (by rfl) ?_ | refine retL1 tk5 (by rfl) ?_
      repeat' (first | exact trivial | apply And.intro)
      all_goals exact tk0)
   | (cases h
      simp -implicitDefEqProofs only [*, Bool.true_and, Bool.false_and, Bool.and_true, av, reduceCtorEq, ↓reduceIte, sevalprocAttr]
      first | refine retLt tk5 (by rfl) ?_ | refine retL1 tk5 (by rfl) ?_
      repeat' (first | exact trivial | apply And.intro)
      all_goals exact tk0)
   | fail)
theorem a_ridgewayref17_As {a0 : Sess} {r : Sess} (h : m_ridgewayref17_As a0 = some r) : ACt Tryz.prog 25 [Enc.enc a0] (Enc.enc r) [] := by
 refine act_of p_ridgewayref17_As (by simp [c_ridgewayref17_As]) ?_
 show AW _ b_ridgewayref17_As (RetOk [.cell 2 (some 4)] _ _) { n := 8, tm := [(0, _)], box := [], fr := [] }
 unfold b_ridgewayref17_As
 unfold m_ridgewayref17_As at h
 try simp -implicitDefEqProofs only [av, reduceCtorEq, ↓reduceIte, sevalprocAttr] at h
 repeat' (first
   | (refine (hκ _).mpr ?_; clear hκ)
   | refine kn1 ?_
   | refine kr1 ?_
   | refine ke1 ?_
   | refine kn2 ?_
   | refine kr2 ?_
   | refine kx2 ?_
   | refine ke2 rfl ?_
   | refine kr5 ?_
   | refine ke5 ?_
   | refine kr6 ?_
   | refine ke6 ?_
   | refine w_seq ?_
   | refine w_block ?_
   | refine w_scope ?_
   | refine kn7 ?_
   | refine kr7 ?_
   | refine ke7 ?_
   | (refine aw_regk fun κ hκ => ?_; simp -implicitDefEqProofs only [av, reduceCtorEq, ↓reduceIte, sevalprocAttr])
   | refine aw_exit ?_
   | refine aw_ret ?_
   | refine aw_skip ?_
   | refine aw_label ?_
   | refine condc_t ?_
   | refine condc_f ?_
   | (refine aw_cond2 tk4 ?_)
   | ((first | refine gkc_fork ?_ ?_ | refine pkc_fork ?_ ?_ | refine condc_fork ?_ ?_) <;> intro hq <;> (first | contradiction | simp -implicitDefEqProofs only [eq_false hq, Decidable.not_not, av, reduceCtorEq, ↓reduceIte, sevalprocAttr] at h ⊢ | simp -implicitDefEqProofs only [eq_true hq, av, reduceCtorEq, ↓reduceIte, sevalprocAttr] at h ⊢))
   | ((first | refine gkc_split ?_ ?_ | refine pkc_split ?_ ?_ | refine condc_bool ?_ ?_) <;> intro hq <;> (first | exact bcontra (by assumption) hq | exact bcontra hq (by assumption) | simp -implicitDefEqProofs only [hq, av, reduceCtorEq, ↓reduceIte, sevalprocAttr] at h ⊢))
   | (refine stc_plain rfl ?_; simp -implicitDefEqProofs only [putCells.eq_1, av, reduceCtorEq, ↓reduceIte, sevalprocAttr])
   | (refine bd_go h fun y hy h => ?_
      first | refine callsc (a_ridgewayref17_Sane hy) ?_ ?_ | refine callc (a_ridgewayref17_Sane hy) ?_ ?_ | ((first | refine callsc (act_le (a_ridgewayref17_Sane hy) ?_) ?_ ?_ | refine callc (act_le (a_ridgewayref17_Sane hy) ?_) ?_ ?_); (focus (repeat' (first | exact trivial | exact le_same _ | exact le_enc | exact le_nil | exact le_imm (.inl rfl) | exact le_imm (.inr rfl) | (refine le_agg ?_) | apply And.intro | (refine le_eq ?_; simp only [*]; done)))))
      exact tk2
      simp -implicitDefEqProofs only [av, reduceCtorEq, ↓reduceIte, sevalprocAttr])
   | (cases h
      try simp -implicitDefEqProofs only [av, reduceCtorEq, ↓reduceIte, sevalprocAttr]
      first | refine retLt tk5 (by rfl) ?_ | refine retL1 tk5 (by rfl) ?_
      repeat' (first | exact trivial | apply And.intro)
      all_goals exact tk0)
   | fail)
theorem a_ridgewayref06_Sane {a0 : Hello} {r : Bool} (h : m_ridgewayref06_Sane a0 = some r) : ACt Tryz.prog 46 [Enc.enc a0] (Enc.enc r) [] := by
 refine act_of p_ridgewayref06_Sane (by simp [c_ridgewayref06_Sane]) ?_
 show AW _ b_ridgewayref06_Sane (RetOk [.tmp 2] _ _) { n := 46, tm := [(0, _)], box := [], fr := [] }
 unfold b_ridgewayref06_Sane
 unfold m_ridgewayref06_Sane at h
 try simp -implicitDefEqProofs only [av, reduceCtorEq, ↓reduceIte, sevalprocAttr] at h
 repeat' (first
   | (refine (hκ _).mpr ?_; clear hκ)
   | refine kn1 ?_
   | refine kr1 ?_
   | refine ke1 ?_
   | refine kn2 ?_
   | refine kr2 ?_
   | refine kx2 ?_
   | refine ke2 rfl ?_
   | refine kr5 ?_
   | refine ke5 ?_
   | refine kr6 ?_
   | refine ke6 ?_
   | refine w_seq ?_
   | refine w_block ?_
   | refine w_scope ?_
   | refine kn7 ?_
   | refine kr7 ?_
   | refine ke7 ?_
   | (refine aw_regk fun κ hκ => ?_; simp -implicitDefEqProofs only [av, reduceCtorEq, ↓reduceIte, sevalprocAttr])
   | refine aw_exit ?_
   | refine aw_ret ?_
   | refine aw_skip ?_
   | refine aw_label ?_
   | refine condc_t ?_
   | refine condc_f ?_
   | (refine aw_cond2 tk4 ?_)
   | ((first | refine gkc_fork ?_ ?_ | refine pkc_fork ?_ ?_ | refine condc_fork ?_ ?_) <;> intro hq <;> (first | contradiction | simp -implicitDefEqProofs only [eq_false hq, Decidable.not_not, av, reduceCtorEq, ↓reduceIte, sevalprocAttr] at h ⊢ | simp -implicitDefEqProofs only [eq_true hq, av, reduceCtorEq, ↓reduceIte, sevalprocAttr] at h ⊢))
   | ((first | refine gkc_split ?_ ?_ | refine pkc_split ?_ ?_ | refine condc_bool ?_ ?_) <;> intro hq <;> (first | exact bcontra (by assumption) hq | exact bcontra hq (by assumption) | simp -implicitDefEqProofs only [hq, av, reduceCtorEq, ↓reduceIte, sevalprocAttr] at h ⊢))
   | (cases h
      try simp -implicitDefEqProofs only [av, reduceCtorEq, ↓reduceIte, sevalprocAttr]
      first | refine retLt tk5 (by rfl) ?_ | refine retL1 tk5 (by rfl) ?_
      repeat' (first | exact trivial | apply And.intro)
      all_goals exact tk0)
   | fail)
theorem a_ridgewayref01_Put {a0 : (List UInt8)} {a1 : Int} {a2 : Int} {r : (List UInt8)} (h : m_ridgewayref01_Put a0 a1 a2 = some r) : ACt Tryz.prog 47 [Enc.enc a0, Enc.enc a1, Enc.enc a2] (.slice (.app 0) 1 (List.map Enc.enc r)) [(5, r.length)] := by
 refine act_of p_ridgewayref01_Put (by simp [c_ridgewayref01_Put]) ?_
 show AW _ b_ridgewayref01_Put (RetOk [.tmp 6] _ _) { n := 35, tm := [(0, _), (1, _), (2, _)], box := [], fr := [] }
 unfold b_ridgewayref01_Put
 unfold m_ridgewayref01_Put at h
 try simp -implicitDefEqProofs only [av, reduceCtorEq, ↓reduceIte, sevalprocAttr] at h
 repeat' (first
   | (refine (hκ _).mpr ?_; clear hκ)
   | refine kn1 ?_
   | refine kr1 ?_
   | refine ke1 ?_
   | refine kn2 ?_
   | refine kr2 ?_
   | refine kx2 ?_
   | refine ke2 rfl ?_
   | refine kr5 ?_
   | refine ke5 ?_
   | refine kr6 ?_
   | refine ke6 ?_
   | (refine w_loopm [1] (fun (j : ((List UInt8) × Int)) => [(7, (.slice (.app 0) 1 (List.map Enc.enc j.1))), (8, (.int .i64 j.2))]) (fun (j : ((List UInt8) × Int)) => []) (fun (j : ((List UInt8) × Int)) => [(0, j.1.length)]) (fun (j : ((List UInt8) × Int)) => []) (show loopC (s_ridgewayref01_Put1 _) _ BIG _ = some _ from h) ?_ ?_
      · try simp -implicitDefEqProofs only [pats, av, reduceCtorEq, ↓reduceIte, sevalprocAttr]
        (first
         | (refine wk_m 1 _ rfl ?_ rfl rfl ?_ ?_ ?_ ?_
            iterate 3 exact tk3
            all_goals (repeat' (first | exact trivial | apply And.intro))
            all_goals exact tk1))
      clear h
      intro n st h
      simp -implicitDefEqProofs only [s_ridgewayref01_Put1.eq_1, pats, av, reduceCtorEq, ↓reduceIte, sevalprocAttr] at h ⊢)
   | refine w_seq ?_
   | refine w_block ?_
   | refine w_scope ?_
   | refine kn7 ?_
   | refine kr7 ?_
   | refine ke7 ?_
   | (refine aw_regk fun κ hκ => ?_; simp -implicitDefEqProofs only [av, reduceCtorEq, ↓reduceIte, sevalprocAttr])
   | (cases h; exact aw_ret_full rfl rfl rfl)
   | refine aw_exit ?_
   | refine aw_ret ?_
   | refine aw_skip ?_
   | refine aw_label ?_
   | refine condc_t ?_
   | refine condc_f ?_
   | (refine aw_cond2 tk4 ?_)
   | ((first | refine gkc_fork ?_ ?_ | refine pkc_fork ?_ ?_ | refine condc_fork ?_ ?_) <;> intro hq <;> (first | contradiction | simp -implicitDefEqProofs only [eq_false hq, Decidable.not_not, av, reduceCtorEq, ↓reduceIte, sevalprocAttr] at h ⊢ | simp -implicitDefEqProofs only [eq_true hq, av, reduceCtorEq, ↓reduceIte, sevalprocAttr] at h ⊢))
   | ((first | refine gkc_split ?_ ?_ | refine pkc_split ?_ ?_ | refine condc_bool ?_ ?_) <;> intro hq <;> (first | exact bcontra (by assumption) hq | exact bcontra hq (by assumption) | simp -implicitDefEqProofs only [hq, av, reduceCtorEq, ↓reduceIte, sevalprocAttr] at h ⊢))
   | (refine bd_go h fun y hy h => ?_
      refine apc hy tk6 tk6 tk7 tk7 tk8 ?_
      simp -implicitDefEqProofs only [av, reduceCtorEq, ↓reduceIte, sevalprocAttr])
   | (refine nn_go h fun hb h => ?_; simp -implicitDefEqProofs only [eq_false hb, av, reduceCtorEq, ↓reduceIte, sevalprocAttr] at h ⊢)
   | (first | refine kn6 ⟨_, h, ?_⟩ | refine kn5 ⟨_, h, ?_⟩
      try simp -implicitDefEqProofs only [pats, av, reduceCtorEq, ↓reduceIte, sevalprocAttr]
      (first
         | (refine wk_m 1 _ rfl ?_ rfl rfl ?_ ?_ ?_ ?_
            iterate 3 exact tk3
            all_goals (repeat' (first | exact trivial | apply And.intro))
            all_goals exact tk1)))
   | (first | refine kn6 ⟨_, h, ?_⟩ | refine kn5 ⟨_, h, ?_⟩
      try simp -implicitDefEqProofs only [*, pats, av, reduceCtorEq, ↓reduceIte, sevalprocAttr]
      (first
         | (refine wk_m 1 _ rfl ?_ rfl rfl ?_ ?_ ?_ ?_
            iterate 3 exact tk3
            all_goals (repeat' (first | exact trivial | apply And.intro))
            all_goals exact tk1)))
   | (cases h
      (exact ret_app rfl rfl (purL_enc _)))
   | fail)
theorem a_ridgewayref06_two {a0 : Int} {r : Int} (h : m_ridgewayref06_two a0 = some r) : ACt Tryz.prog 48 [Enc.enc a0] (Enc.enc r) [] := by
 refine act_of p_ridgewayref06_two (by simp [c_ridgewayref06_two]) ?_
 show AW _ b_ridgewayref06_two (RetOk [.tmp 2] _ _) { n := 6, tm := [(0, _)], box := [], fr := [] }
 unfold b_ridgewayref06_two
 unfold m_ridgewayref06_two at h
 try simp -implicitDefEqProofs only [av, reduceCtorEq, ↓reduceIte, sevalprocAttr] at h
 repeat' (first
   | (refine (hκ _).mpr ?_; clear hκ)
   | refine kn1 ?_
   | refine kr1 ?_
   | refine ke1 ?_
   | refine kn2 ?_
   | refine kr2 ?_
   | refine kx2 ?_
   | refine ke2 rfl ?_
   | refine kr5 ?_
   | refine ke5 ?_
   | refine kr6 ?_
   | refine ke6 ?_
   | refine w_seq ?_
   | refine w_block ?_
   | refine w_scope ?_
   | refine kn7 ?_
   | refine kr7 ?_
   | refine ke7 ?_
   | (refine aw_regk fun κ hκ => ?_; simp -implicitDefEqProofs only [av, reduceCtorEq, ↓reduceIte, sevalprocAttr])
   | refine aw_exit ?_
   | refine aw_ret ?_
   | refine aw_skip ?_
   | refine aw_label ?_
   | refine condc_t ?_
   | refine condc_f ?_
   | (refine aw_cond2 tk4 ?_)
   | ((first | refine gkc_fork ?_ ?_ | refine pkc_fork ?_ ?_ | refine condc_fork ?_ ?_) <;> intro hq <;> (first | contradiction | simp -implicitDefEqProofs only [eq_false hq, Decidable.not_not, av, reduceCtorEq, ↓reduceIte, sevalprocAttr] at h ⊢ | simp -implicitDefEqProofs only [eq_true hq, av, reduceCtorEq, ↓reduceIte, sevalprocAttr] at h ⊢))
   | ((first | refine gkc_split ?_ ?_ | refine pkc_split ?_ ?_ | refine condc_bool ?_ ?_) <;> intro hq <;> (first | exact bcontra (by assumption) hq | exact bcontra hq (by assumption) | simp -implicitDefEqProofs only [hq, av, reduceCtorEq, ↓reduceIte, sevalprocAttr] at h ⊢))
   | (cases h
      try simp -implicitDefEqProofs only [av, reduceCtorEq, ↓reduceIte, sevalprocAttr]
      first | refine retLt tk5 (by rfl) ?_ | refine retL1 tk5 (by rfl) ?_
      repeat' (first | exact trivial | apply And.intro)
      all_goals exact tk0)
   | fail)
end Go.Proofs.YtibploaibljcmaaGreatDoor
