/- Functions compute what their models do. -/
import Derived.Test.YtgakgilaikgboaaLfa
import Derived.Test.YtgakgilaikgboaaAcj1
import Derived.Test.YtgakgilaikgboaaMj1
import Derived.Test.YtgakgilaikgboaaLj1
namespace Go.Proofs.Ytgakgilaikgboaa
open Go.RowKit
set_option maxHeartbeats 8000000
set_option maxRecDepth 100000
set_option linter.unusedSimpArgs false
set_option linter.unusedVariables false
theorem a_ridgewayref07_Judge {a0 : (List Attr)} {r : (Path × Int × Note)} (h : m_ridgewayref07_Judge a0 = some r) : ACt Try.prog 39 [Enc.enc a0] (.tup [Enc.enc r.1, Enc.enc r.2.1, Enc.enc r.2.2]) [] := by
  refine act_of p_ridgewayref07_Judge (by simp [c_ridgewayref07_Judge]) ?_
  show AW _ b_ridgewayref07_Judge (RetOk [.cell 2 (some 4), .tmp 3, .cell 4 (some 3)] _ _) { n := 80, tm := [(0, _)], box := [], fr := [] }
  unfold b_ridgewayref07_Judge
  unfold m_ridgewayref07_Judge at h
  try simp -implicitDefEqProofs only [avm, reduceCtorEq, ↓reduceIte, sevalprocAttr, encs] at h
  repeat' (first
    | (refine (hκ _).mpr ?_; clear hκ)
    | refine kn1 ?_
    | refine kr1 ?_
    | refine ke1 ?_
    | refine kn2 ?_
    | refine kr2 ?_
    | refine kx2 ?_
    | refine ke2 rfl ?_
    | refine kr5 ?_
    | refine ke5 ?_
    | refine kr6 ?_
    | refine ke6 ?_
    | (refine w_cutm (x := (.seq (.reg _) (.cond (.tmp 125) _ _))) [0, 3] (fun (j : (Bool)) => [(125, (.bool j))]) (fun (j : (Bool)) => []) (fun (j : (Bool)) => []) (fun (j : (Bool)) => []) (show jn 1 _ _ = some _ from h) ?_ ?_
       rotate_left
       intro j h
       simp -implicitDefEqProofs only [pats, avm, reduceCtorEq, ↓reduceIte, sevalprocAttr, encs] at h ⊢
       rotate_left
       intro k' h
       try simp -implicitDefEqProofs only [avm, reduceCtorEq, ↓reduceIte, sevalprocAttr, encs] at h)
    | (refine w_loopm [0, 2, 4, 5] (fun (j : (Int × Int × (List Int) × Int × Int × (List Int) × Bool × Int × Int × (List UInt8))) => [(6, (.int .i64 j.1))]) (fun (j : (Int × Int × (List Int) × Int × Int × (List Int) × Bool × Int × Int × (List UInt8))) => [(2, 0, (.int .i64 j.2.1)), (2, 1, (.slice .imm 1 (List.map Enc.enc j.2.2.1))), (2, 2, (.int .i64 j.2.2.2.1)), (2, 3, (.int .i64 j.2.2.2.2.1)), (2, 4, (.slice (.app 0) 1 (List.map Enc.enc j.2.2.2.2.2.1))), (2, 5, (.bool j.2.2.2.2.2.2.1)), (2, 6, (.int .i64 j.2.2.2.2.2.2.2.1)), (2, 7, (.int .i64 j.2.2.2.2.2.2.2.2.1)), (2, 8, (.slice .imm 1 (List.map Enc.enc j.2.2.2.2.2.2.2.2.2)))]) (fun (j : (Int × Int × (List Int) × Int × Int × (List Int) × Bool × Int × Int × (List UInt8))) => []) (fun (j : (Int × Int × (List Int) × Int × Int × (List Int) × Bool × Int × Int × (List UInt8))) => [(3, j.2.2.2.2.2.1.length)]) (show loopC (s_ridgewayref07_Judge1 _) _ BIG _ = some _ from h) ?_ ?_
       · try simp -implicitDefEqProofs only [pats, avm, reduceCtorEq, ↓reduceIte, sevalprocAttr, encs]
         (first
          | (refine wk_m 0 _ rfl ?_ rfl rfl ?_ ?_ ?_ ?_
             iterate 3 (first | exact Nat.zero_le _ | exact Nat.le_refl _ | (focus (simp; done)))
             all_goals (repeat' (first | exact trivial | apply And.intro))
             all_goals first | exact rfl | exact wkc_FL | exact wka_full | exact wka_full0 | exact .same _ rfl | exact wka_imm | exact wka_app (by decide) | exact wka_tag (by decide) rfl | exact wka_tagn (by decide) rfl | exact wka_tagr (by decide) rfl (by simp only [prs]) | exact wka_immn | (refine .imm _ _ _ _ (.inl rfl) (okBL_pur ?_); simp only [prs]; done) | exact wka_tag0 (by decide) rfl | exact wka_imm0 | exact wka_pur (Enc.pure_enc _) | exact wka_pur pur_enc_sl | exact wka_pur pur_enc_fl | exact .und _ | (refine wka_pur ?_; simp only [prs]; done) | (refine .same _ ?_; simp only [okB, okBL, okBL_enc, Bool.and_self, Bool.and_true, decide_true, sevalprocAttr]; done) | (refine .le _ _ ?_ (okB_pur ?_); (focus (repeat' (first | exact le_same _ | exact le_enc | exact le_nil | exact le_imm (.inl rfl) | exact le_imm (.inr rfl) | refine le_agg ?_ | exact trivial | apply And.intro))); (simp only [prs]; done))))
       clear h
       intro n st h
       simp -implicitDefEqProofs only [s_ridgewayref07_Judge1.eq_1, pats, avm, reduceCtorEq, ↓reduceIte, sevalprocAttr, encs] at h ⊢)
    | (refine w_loopm [0, 1] (fun (j : (Int)) => [(5, (.int .i64 j))]) (fun (j : (Int)) => []) (fun (j : (Int)) => []) (fun (j : (Int)) => []) (show loopC (s_ridgewayref07_Judge2 _ _ _) _ BIG _ = some _ from h) ?_ ?_
       · try simp -implicitDefEqProofs only [pats, avm, reduceCtorEq, ↓reduceIte, sevalprocAttr, encs]
         (first
          | (refine wk_m 1 _ rfl ?_ rfl rfl ?_ ?_ ?_ ?_
             iterate 3 (first | exact Nat.zero_le _ | exact Nat.le_refl _ | (focus (simp; done)))
             all_goals (repeat' (first | exact trivial | apply And.intro))
             all_goals first | exact rfl | exact wkc_FL | exact wka_full | exact wka_full0 | exact .same _ rfl | exact wka_imm | exact wka_app (by decide) | exact wka_tag (by decide) rfl | exact wka_tagn (by decide) rfl | exact wka_tagr (by decide) rfl (by simp only [prs]) | exact wka_immn | (refine .imm _ _ _ _ (.inl rfl) (okBL_pur ?_); simp only [prs]; done) | exact wka_tag0 (by decide) rfl | exact wka_imm0 | exact wka_pur (Enc.pure_enc _) | exact wka_pur pur_enc_sl | exact wka_pur pur_enc_fl | exact .und _ | (refine wka_pur ?_; simp only [prs]; done) | (refine .same _ ?_; simp only [okB, okBL, okBL_enc, Bool.and_self, Bool.and_true, decide_true, sevalprocAttr]; done) | (refine .le _ _ ?_ (okB_pur ?_); (focus (repeat' (first | exact le_same _ | exact le_enc | exact le_nil | exact le_imm (.inl rfl) | exact le_imm (.inr rfl) | refine le_agg ?_ | exact trivial | apply And.intro))); (simp only [prs]; done))))
       clear h
       intro n st h
       simp -implicitDefEqProofs only [s_ridgewayref07_Judge2.eq_1, pats, avm, reduceCtorEq, ↓reduceIte, sevalprocAttr, encs] at h ⊢)
    | (refine w_loopm [0, 1] (fun (j : (Int)) => [(5, (.int .i64 j))]) (fun (j : (Int)) => []) (fun (j : (Int)) => []) (fun (j : (Int)) => []) (show loopC (s_ridgewayref07_Judge3 _ _) _ BIG _ = some _ from h) ?_ ?_
       · try simp -implicitDefEqProofs only [pats, avm, reduceCtorEq, ↓reduceIte, sevalprocAttr, encs]
         (first
          | (refine wk_m 1 _ rfl ?_ rfl rfl ?_ ?_ ?_ ?_
             iterate 3 (first | exact Nat.zero_le _ | exact Nat.le_refl _ | (focus (simp; done)))
             all_goals (repeat' (first | exact trivial | apply And.intro))
             all_goals first | exact rfl | exact wkc_FL | exact wka_full | exact wka_full0 | exact .same _ rfl | exact wka_imm | exact wka_app (by decide) | exact wka_tag (by decide) rfl | exact wka_tagn (by decide) rfl | exact wka_tagr (by decide) rfl (by simp only [prs]) | exact wka_immn | (refine .imm _ _ _ _ (.inl rfl) (okBL_pur ?_); simp only [prs]; done) | exact wka_tag0 (by decide) rfl | exact wka_imm0 | exact wka_pur (Enc.pure_enc _) | exact wka_pur pur_enc_sl | exact wka_pur pur_enc_fl | exact .und _ | (refine wka_pur ?_; simp only [prs]; done) | (refine .same _ ?_; simp only [okB, okBL, okBL_enc, Bool.and_self, Bool.and_true, decide_true, sevalprocAttr]; done) | (refine .le _ _ ?_ (okB_pur ?_); (focus (repeat' (first | exact le_same _ | exact le_enc | exact le_nil | exact le_imm (.inl rfl) | exact le_imm (.inr rfl) | refine le_agg ?_ | exact trivial | apply And.intro))); (simp only [prs]; done))))
       clear h
       intro n st h
       simp -implicitDefEqProofs only [s_ridgewayref07_Judge3.eq_1, pats, avm, reduceCtorEq, ↓reduceIte, sevalprocAttr, encs] at h ⊢)
    | (refine w_loopm [0, 1] (fun (j : (Int)) => [(5, (.int .i64 j))]) (fun (j : (Int)) => []) (fun (j : (Int)) => []) (fun (j : (Int)) => []) (show loopC (s_ridgewayref07_Judge4 _ _) _ BIG _ = some _ from h) ?_ ?_
       · try simp -implicitDefEqProofs only [pats, avm, reduceCtorEq, ↓reduceIte, sevalprocAttr, encs]
         (first
          | (refine wk_m 1 _ rfl ?_ rfl rfl ?_ ?_ ?_ ?_
             iterate 3 (first | exact Nat.zero_le _ | exact Nat.le_refl _ | (focus (simp; done)))
             all_goals (repeat' (first | exact trivial | apply And.intro))
             all_goals first | exact rfl | exact wkc_FL | exact wka_full | exact wka_full0 | exact .same _ rfl | exact wka_imm | exact wka_app (by decide) | exact wka_tag (by decide) rfl | exact wka_tagn (by decide) rfl | exact wka_tagr (by decide) rfl (by simp only [prs]) | exact wka_immn | (refine .imm _ _ _ _ (.inl rfl) (okBL_pur ?_); simp only [prs]; done) | exact wka_tag0 (by decide) rfl | exact wka_imm0 | exact wka_pur (Enc.pure_enc _) | exact wka_pur pur_enc_sl | exact wka_pur pur_enc_fl | exact .und _ | (refine wka_pur ?_; simp only [prs]; done) | (refine .same _ ?_; simp only [okB, okBL, okBL_enc, Bool.and_self, Bool.and_true, decide_true, sevalprocAttr]; done) | (refine .le _ _ ?_ (okB_pur ?_); (focus (repeat' (first | exact le_same _ | exact le_enc | exact le_nil | exact le_imm (.inl rfl) | exact le_imm (.inr rfl) | refine le_agg ?_ | exact trivial | apply And.intro))); (simp only [prs]; done))))
       clear h
       intro n st h
       simp -implicitDefEqProofs only [s_ridgewayref07_Judge4.eq_1, pats, avm, reduceCtorEq, ↓reduceIte, sevalprocAttr, encs] at h ⊢)
    | (refine w_loopm [0, 1] (fun (j : (Int)) => [(5, (.int .i64 j))]) (fun (j : (Int)) => []) (fun (j : (Int)) => []) (fun (j : (Int)) => []) (show loopC (s_ridgewayref07_Judge5 _ _) _ BIG _ = some _ from h) ?_ ?_
       · try simp -implicitDefEqProofs only [pats, avm, reduceCtorEq, ↓reduceIte, sevalprocAttr, encs]
         (first
          | (refine wk_m 1 _ rfl ?_ rfl rfl ?_ ?_ ?_ ?_
             iterate 3 (first | exact Nat.zero_le _ | exact Nat.le_refl _ | (focus (simp; done)))
             all_goals (repeat' (first | exact trivial | apply And.intro))
             all_goals first | exact rfl | exact wkc_FL | exact wka_full | exact wka_full0 | exact .same _ rfl | exact wka_imm | exact wka_app (by decide) | exact wka_tag (by decide) rfl | exact wka_tagn (by decide) rfl | exact wka_tagr (by decide) rfl (by simp only [prs]) | exact wka_immn | (refine .imm _ _ _ _ (.inl rfl) (okBL_pur ?_); simp only [prs]; done) | exact wka_tag0 (by decide) rfl | exact wka_imm0 | exact wka_pur (Enc.pure_enc _) | exact wka_pur pur_enc_sl | exact wka_pur pur_enc_fl | exact .und _ | (refine wka_pur ?_; simp only [prs]; done) | (refine .same _ ?_; simp only [okB, okBL, okBL_enc, Bool.and_self, Bool.and_true, decide_true, sevalprocAttr]; done) | (refine .le _ _ ?_ (okB_pur ?_); (focus (repeat' (first | exact le_same _ | exact le_enc | exact le_nil | exact le_imm (.inl rfl) | exact le_imm (.inr rfl) | refine le_agg ?_ | exact trivial | apply And.intro))); (simp only [prs]; done))))
       clear h
       intro n st h
       simp -implicitDefEqProofs only [s_ridgewayref07_Judge5.eq_1, pats, avm, reduceCtorEq, ↓reduceIte, sevalprocAttr, encs] at h ⊢)
    | refine w_seq ?_
    | refine w_block ?_
    | refine w_scope ?_
    | refine kn7 ?_
    | refine kr7 ?_
    | refine ke7 ?_
    | (refine aw_regk fun κ hκ => ?_; simp -implicitDefEqProofs only [avm, reduceCtorEq, ↓reduceIte, sevalprocAttr, encs])
    | refine aw_exit ?_
    | refine aw_ret ?_
    | refine aw_skip ?_
    | refine aw_label ?_
    | refine condc_t ?_
    | refine condc_f ?_
    | (refine aw_cond2 (by simp -implicitDefEqProofs only [avm, reduceCtorEq, ↓reduceIte, sevalprocAttr, encs]; rfl) ?_)
    | ((first | refine gkc_fork ?_ ?_ | refine pkc_fork ?_ ?_ | refine condc_fork ?_ ?_) <;> intro hq <;> (first | contradiction | simp -implicitDefEqProofs only [eq_false hq, Decidable.not_not, avm, reduceCtorEq, ↓reduceIte, sevalprocAttr, encs] at h ⊢ | simp -implicitDefEqProofs only [eq_true hq, avm, reduceCtorEq, ↓reduceIte, sevalprocAttr, encs] at h ⊢))
    | ((first | refine gkc_split ?_ ?_ | refine pkc_split ?_ ?_ | refine condc_bool ?_ ?_) <;> intro hq <;> (first | exact bcontra (by assumption) hq | exact bcontra hq (by assumption) | simp -implicitDefEqProofs only [hq, avm, reduceCtorEq, ↓reduceIte, sevalprocAttr, encs] at h ⊢))
    | (refine stc_plain rfl ?_; simp -implicitDefEqProofs only [putCells.eq_1, avm, reduceCtorEq, ↓reduceIte, sevalprocAttr, encs])
    | (refine bd_go h fun y hy h => ?_; refine ixc hy ?_; simp -implicitDefEqProofs only [avm, reduceCtorEq, ↓reduceIte, sevalprocAttr, encs])
    | (refine bd_go h fun y hy h => ?_
       refine apc hy (by first | rfl | (simp -implicitDefEqProofs only [avm, reduceCtorEq, ↓reduceIte, sevalprocAttr, encs]; done)) (by first | rfl | (simp -implicitDefEqProofs only [avm, reduceCtorEq, ↓reduceIte, sevalprocAttr, encs]; done)) (by first | exact .inl rfl | exact .inr rfl) (by first | exact .inl rfl | exact .inr rfl) (by simp only [apTag, List.getElem?_cons_zero, List.getElem?_cons_succ, ↓reduceIte, List.set_cons_zero, List.set_cons_succ, List.nil_append, List.cons_append, List.length_nil, List.length_cons, sevalprocAttr]; rfl) ?_
       simp -implicitDefEqProofs only [avm, reduceCtorEq, ↓reduceIte, sevalprocAttr, encs])
    | (refine call_cut p_ridgewayref07_judge__one (by simp [c_ridgewayref07_judge__one]) (fun (j : (Int × (List Int) × Int × Int × Bool × Int × Int × (List UInt8))) => (.tup [])) (fun (j : (Int × (List Int) × Int × Int × Bool × Int × Int × (List UInt8))) => [(2, 0, (.int .i64 j.1)), (2, 1, (.slice .imm 1 (List.map Enc.enc j.2.1))), (2, 2, (.int .i64 j.2.2.1)), (2, 3, (.int .i64 j.2.2.2.1)), (2, 5, (.bool j.2.2.2.2.1)), (2, 6, (.int .i64 j.2.2.2.2.2.1)), (2, 7, (.int .i64 j.2.2.2.2.2.2.1)), (2, 8, (.slice .imm 1 (List.map Enc.enc j.2.2.2.2.2.2.2)))]) (fun (j : (Int × (List Int) × Int × Int × Bool × Int × Int × (List UInt8))) => []) (show jn 101 _ _ = some _ from h) ?_ ?_
       rotate_left
       intro j h
       simp -implicitDefEqProofs only [pats, avm, reduceCtorEq, ↓reduceIte, sevalprocAttr, encs] at h ⊢
       rotate_left
       clear h
       intro k' h
       simp -implicitDefEqProofs only [c_ridgewayref07_judge__one, b_ridgewayref07_judge__one, pats, avm, reduceCtorEq, ↓reduceIte, sevalprocAttr, encs] at h ⊢)
    | (refine call_cut p_ridgewayref07_judge__need (by simp [c_ridgewayref07_judge__need]) (fun (j : (Bool)) => (.tup [])) (fun (j : (Bool)) => [(2, 5, (.bool j))]) (fun (j : (Bool)) => []) (show jn 102 _ _ = some _ from h) ?_ ?_
       rotate_left
       intro j h
       simp -implicitDefEqProofs only [pats, avm, reduceCtorEq, ↓reduceIte, sevalprocAttr, encs] at h ⊢
       rotate_left
       clear h
       intro k' h
       simp -implicitDefEqProofs only [c_ridgewayref07_judge__need, b_ridgewayref07_judge__need, pats, avm, reduceCtorEq, ↓reduceIte, sevalprocAttr, encs] at h ⊢)
    | (refine call_cut p_ridgewayref07_judge__need (by simp [c_ridgewayref07_judge__need]) (fun (j : (Bool)) => (.tup [])) (fun (j : (Bool)) => [(2, 5, (.bool j))]) (fun (j : (Bool)) => []) (show jn 103 _ _ = some _ from h) ?_ ?_
       rotate_left
       intro j h
       simp -implicitDefEqProofs only [pats, avm, reduceCtorEq, ↓reduceIte, sevalprocAttr, encs] at h ⊢
       rotate_left
       clear h
       intro k' h
       simp -implicitDefEqProofs only [c_ridgewayref07_judge__need, b_ridgewayref07_judge__need, pats, avm, reduceCtorEq, ↓reduceIte, sevalprocAttr, encs] at h ⊢)
    | (refine call_cut p_ridgewayref07_judge__need (by simp [c_ridgewayref07_judge__need]) (fun (j : (Bool)) => (.tup [])) (fun (j : (Bool)) => [(2, 5, (.bool j))]) (fun (j : (Bool)) => []) (show jn 104 _ _ = some _ from h) ?_ ?_
       rotate_left
       intro j h
       simp -implicitDefEqProofs only [pats, avm, reduceCtorEq, ↓reduceIte, sevalprocAttr, encs] at h ⊢
       rotate_left
       clear h
       intro k' h
       simp -implicitDefEqProofs only [c_ridgewayref07_judge__need, b_ridgewayref07_judge__need, pats, avm, reduceCtorEq, ↓reduceIte, sevalprocAttr, encs] at h ⊢)
    | (refine call_cut p_ridgewayref07_judge__need (by simp [c_ridgewayref07_judge__need]) (fun (j : (Bool)) => (.tup [])) (fun (j : (Bool)) => [(2, 5, (.bool j))]) (fun (j : (Bool)) => []) (show jn 105 _ _ = some _ from h) ?_ ?_
       rotate_left
       intro j h
       simp -implicitDefEqProofs only [pats, avm, reduceCtorEq, ↓reduceIte, sevalprocAttr, encs] at h ⊢
       rotate_left
       clear h
       intro k' h
       simp -implicitDefEqProofs only [c_ridgewayref07_judge__need, b_ridgewayref07_judge__need, pats, avm, reduceCtorEq, ↓reduceIte, sevalprocAttr, encs] at h ⊢)
    | (refine call_cut p_ridgewayref07_judge__need (by simp [c_ridgewayref07_judge__need]) (fun (j : (Bool)) => (.tup [])) (fun (j : (Bool)) => [(2, 5, (.bool j))]) (fun (j : (Bool)) => []) (show jn 106 _ _ = some _ from h) ?_ ?_
       rotate_left
       intro j h
       simp -implicitDefEqProofs only [pats, avm, reduceCtorEq, ↓reduceIte, sevalprocAttr, encs] at h ⊢
       rotate_left
       clear h
       intro k' h
       simp -implicitDefEqProofs only [c_ridgewayref07_judge__need, b_ridgewayref07_judge__need, pats, avm, reduceCtorEq, ↓reduceIte, sevalprocAttr, encs] at h ⊢)
    | (refine call_cut p_ridgewayref07_judge__has (by simp [c_ridgewayref07_judge__has]) (fun (j : (Bool)) => (.bool j)) (fun (j : (Bool)) => []) (fun (j : (Bool)) => []) (show jn 107 _ _ = some _ from h) ?_ ?_
       rotate_left
       intro j h
       simp -implicitDefEqProofs only [pats, avm, reduceCtorEq, ↓reduceIte, sevalprocAttr, encs] at h ⊢
       rotate_left
       clear h
       intro k' h
       simp -implicitDefEqProofs only [c_ridgewayref07_judge__has, b_ridgewayref07_judge__has, pats, avm, reduceCtorEq, ↓reduceIte, sevalprocAttr, encs] at h ⊢)
    | (refine call_cut p_ridgewayref07_judge__one (by simp [c_ridgewayref07_judge__one]) (fun (j : (Int × (List Int) × Int × Int × Bool × Int × Int × (List UInt8))) => (.tup [])) (fun (j : (Int × (List Int) × Int × Int × Bool × Int × Int × (List UInt8))) => [(2, 0, (.int .i64 j.1)), (2, 1, (.slice .imm 1 (List.map Enc.enc j.2.1))), (2, 2, (.int .i64 j.2.2.1)), (2, 3, (.int .i64 j.2.2.2.1)), (2, 5, (.bool j.2.2.2.2.1)), (2, 6, (.int .i64 j.2.2.2.2.2.1)), (2, 7, (.int .i64 j.2.2.2.2.2.2.1)), (2, 8, (.slice .imm 1 (List.map Enc.enc j.2.2.2.2.2.2.2)))]) (fun (j : (Int × (List Int) × Int × Int × Bool × Int × Int × (List UInt8))) => []) (show jn 108 _ _ = some _ from h) ?_ ?_
       rotate_left
       intro j h
       simp -implicitDefEqProofs only [pats, avm, reduceCtorEq, ↓reduceIte, sevalprocAttr, encs] at h ⊢
       rotate_left
       clear h
       intro k' h
       simp -implicitDefEqProofs only [c_ridgewayref07_judge__one, b_ridgewayref07_judge__one, pats, avm, reduceCtorEq, ↓reduceIte, sevalprocAttr, encs] at h ⊢)
    | (refine call_cut p_ridgewayref07_judge__need (by simp [c_ridgewayref07_judge__need]) (fun (j : (Bool)) => (.tup [])) (fun (j : (Bool)) => [(2, 5, (.bool j))]) (fun (j : (Bool)) => []) (show jn 109 _ _ = some _ from h) ?_ ?_
       rotate_left
       intro j h
       simp -implicitDefEqProofs only [pats, avm, reduceCtorEq, ↓reduceIte, sevalprocAttr, encs] at h ⊢
       rotate_left
       clear h
       intro k' h
       simp -implicitDefEqProofs only [c_ridgewayref07_judge__need, b_ridgewayref07_judge__need, pats, avm, reduceCtorEq, ↓reduceIte, sevalprocAttr, encs] at h ⊢)
    | (refine call_cut p_ridgewayref07_judge__need (by simp [c_ridgewayref07_judge__need]) (fun (j : (Bool)) => (.tup [])) (fun (j : (Bool)) => [(2, 5, (.bool j))]) (fun (j : (Bool)) => []) (show jn 110 _ _ = some _ from h) ?_ ?_
       rotate_left
       intro j h
       simp -implicitDefEqProofs only [pats, avm, reduceCtorEq, ↓reduceIte, sevalprocAttr, encs] at h ⊢
       rotate_left
       clear h
       intro k' h
       simp -implicitDefEqProofs only [c_ridgewayref07_judge__need, b_ridgewayref07_judge__need, pats, avm, reduceCtorEq, ↓reduceIte, sevalprocAttr, encs] at h ⊢)
    | (refine call_cut p_ridgewayref07_judge__need (by simp [c_ridgewayref07_judge__need]) (fun (j : (Bool)) => (.tup [])) (fun (j : (Bool)) => [(2, 5, (.bool j))]) (fun (j : (Bool)) => []) (show jn 111 _ _ = some _ from h) ?_ ?_
       rotate_left
       intro j h
       simp -implicitDefEqProofs only [pats, avm, reduceCtorEq, ↓reduceIte, sevalprocAttr, encs] at h ⊢
       rotate_left
       clear h
       intro k' h
       simp -implicitDefEqProofs only [c_ridgewayref07_judge__need, b_ridgewayref07_judge__need, pats, avm, reduceCtorEq, ↓reduceIte, sevalprocAttr, encs] at h ⊢)
    | (refine call_cut p_ridgewayref07_judge__need (by simp [c_ridgewayref07_judge__need]) (fun (j : (Bool)) => (.tup [])) (fun (j : (Bool)) => [(2, 5, (.bool j))]) (fun (j : (Bool)) => []) (show jn 112 _ _ = some _ from h) ?_ ?_
       rotate_left
       intro j h
       simp -implicitDefEqProofs only [pats, avm, reduceCtorEq, ↓reduceIte, sevalprocAttr, encs] at h ⊢
       rotate_left
       clear h
       intro k' h
       simp -implicitDefEqProofs only [c_ridgewayref07_judge__need, b_ridgewayref07_judge__need, pats, avm, reduceCtorEq, ↓reduceIte, sevalprocAttr, encs] at h ⊢)
    | (refine call_cut p_ridgewayref07_judge__need (by simp [c_ridgewayref07_judge__need]) (fun (j : (Bool)) => (.tup [])) (fun (j : (Bool)) => [(2, 5, (.bool j))]) (fun (j : (Bool)) => []) (show jn 113 _ _ = some _ from h) ?_ ?_
       rotate_left
       intro j h
       simp -implicitDefEqProofs only [pats, avm, reduceCtorEq, ↓reduceIte, sevalprocAttr, encs] at h ⊢
       rotate_left
       clear h
       intro k' h
       simp -implicitDefEqProofs only [c_ridgewayref07_judge__need, b_ridgewayref07_judge__need, pats, avm, reduceCtorEq, ↓reduceIte, sevalprocAttr, encs] at h ⊢)
    | (refine call_cut p_ridgewayref07_judge__has (by simp [c_ridgewayref07_judge__has]) (fun (j : (Bool)) => (.bool j)) (fun (j : (Bool)) => []) (fun (j : (Bool)) => []) (show jn 114 _ _ = some _ from h) ?_ ?_
       rotate_left
       intro j h
       simp -implicitDefEqProofs only [pats, avm, reduceCtorEq, ↓reduceIte, sevalprocAttr, encs] at h ⊢
       rotate_left
       clear h
       intro k' h
       simp -implicitDefEqProofs only [c_ridgewayref07_judge__has, b_ridgewayref07_judge__has, pats, avm, reduceCtorEq, ↓reduceIte, sevalprocAttr, encs] at h ⊢)
    | (refine call_cut p_ridgewayref07_judge__has (by simp [c_ridgewayref07_judge__has]) (fun (j : (Bool)) => (.bool j)) (fun (j : (Bool)) => []) (fun (j : (Bool)) => []) (show jn 115 _ _ = some _ from h) ?_ ?_
       rotate_left
       intro j h
       simp -implicitDefEqProofs only [pats, avm, reduceCtorEq, ↓reduceIte, sevalprocAttr, encs] at h ⊢
       rotate_left
       clear h
       intro k' h
       simp -implicitDefEqProofs only [c_ridgewayref07_judge__has, b_ridgewayref07_judge__has, pats, avm, reduceCtorEq, ↓reduceIte, sevalprocAttr, encs] at h ⊢)
    | (refine call_cut p_ridgewayref07_judge__has (by simp [c_ridgewayref07_judge__has]) (fun (j : (Bool)) => (.bool j)) (fun (j : (Bool)) => []) (fun (j : (Bool)) => []) (show jn 116 _ _ = some _ from h) ?_ ?_
       rotate_left
       intro j h
       simp -implicitDefEqProofs only [pats, avm, reduceCtorEq, ↓reduceIte, sevalprocAttr, encs] at h ⊢
       rotate_left
       clear h
       intro k' h
       simp -implicitDefEqProofs only [c_ridgewayref07_judge__has, b_ridgewayref07_judge__has, pats, avm, reduceCtorEq, ↓reduceIte, sevalprocAttr, encs] at h ⊢)
    | (refine call_in p_ridgewayref07_judge__has (by simp [c_ridgewayref07_judge__has]) ?_
       simp -implicitDefEqProofs only [c_ridgewayref07_judge__has, b_ridgewayref07_judge__has, avm, reduceCtorEq, ↓reduceIte, sevalprocAttr, encs])
    | (refine call_in p_ridgewayref07_judge__need (by simp [c_ridgewayref07_judge__need]) ?_
       simp -implicitDefEqProofs only [c_ridgewayref07_judge__need, b_ridgewayref07_judge__need, avm, reduceCtorEq, ↓reduceIte, sevalprocAttr, encs])
    | (refine bd_go h fun y hy h => ?_
       first | refine callsc (a_ridgewayref07_ases hy) ?_ ?_ | refine callc (a_ridgewayref07_ases hy) ?_ ?_ | ((first | refine callsc (act_le (a_ridgewayref07_ases hy) ?_) ?_ ?_ | refine callc (act_le (a_ridgewayref07_ases hy) ?_) ?_ ?_); (focus (repeat' (first | exact trivial | exact le_same _ | exact le_enc | exact le_nil | exact le_imm (.inl rfl) | exact le_imm (.inr rfl) | (refine le_agg ?_) | apply And.intro | (refine le_eq ?_; simp only [*]; done)))))
       focus (first | rfl | (simp only [purL, pur, purL_enc, Enc.pure_enc, Bool.and_self, Bool.and_true]; done))
       simp -implicitDefEqProofs only [avm, reduceCtorEq, ↓reduceIte, sevalprocAttr, encs])
    | (refine bd_go h fun y hy h => ?_
       first | refine callsc (a_ridgewayref07_four hy) ?_ ?_ | refine callc (a_ridgewayref07_four hy) ?_ ?_ | ((first | refine callsc (act_le (a_ridgewayref07_four hy) ?_) ?_ ?_ | refine callc (act_le (a_ridgewayref07_four hy) ?_) ?_ ?_); (focus (repeat' (first | exact trivial | exact le_same _ | exact le_enc | exact le_nil | exact le_imm (.inl rfl) | exact le_imm (.inr rfl) | (refine le_agg ?_) | apply And.intro | (refine le_eq ?_; simp only [*]; done)))))
       focus (first | rfl | (simp only [purL, pur, purL_enc, Enc.pure_enc, Bool.and_self, Bool.and_true]; done))
       simp -implicitDefEqProofs only [avm, reduceCtorEq, ↓reduceIte, sevalprocAttr, encs])
    | (refine bd_go h fun y hy h => ?_
       first | refine callsc (a_ridgewayref07_Put hy) ?_ ?_ | refine callc (a_ridgewayref07_Put hy) ?_ ?_ | ((first | refine callsc (act_le (a_ridgewayref07_Put hy) ?_) ?_ ?_ | refine callc (act_le (a_ridgewayref07_Put hy) ?_) ?_ ?_); (focus (repeat' (first | exact trivial | exact le_same _ | exact le_enc | exact le_nil | exact le_imm (.inl rfl) | exact le_imm (.inr rfl) | (refine le_agg ?_) | apply And.intro | (refine le_eq ?_; simp only [*]; done)))))
       focus (first | rfl | (simp only [purL, pur, purL_enc, Enc.pure_enc, Bool.and_self, Bool.and_true]; done))
       simp -implicitDefEqProofs only [avm, reduceCtorEq, ↓reduceIte, sevalprocAttr, encs])
    | (first | refine kn6 ⟨_, h, ?_⟩ | refine kn5 ⟨_, h, ?_⟩
       try simp -implicitDefEqProofs only [pats, avm, reduceCtorEq, ↓reduceIte, sevalprocAttr, encs]
       (first
          | (refine wk_m 0 _ rfl ?_ rfl rfl ?_ ?_ ?_ ?_
             iterate 3 (first | exact Nat.zero_le _ | exact Nat.le_refl _ | (focus (simp; done)))
             all_goals (repeat' (first | exact trivial | apply And.intro))
             all_goals first | exact rfl | exact wkc_FL | exact wka_full | exact wka_full0 | exact .same _ rfl | exact wka_imm | exact wka_app (by decide) | exact wka_tag (by decide) rfl | exact wka_tagn (by decide) rfl | exact wka_tagr (by decide) rfl (by simp only [prs]) | exact wka_immn | (refine .imm _ _ _ _ (.inl rfl) (okBL_pur ?_); simp only [prs]; done) | exact wka_tag0 (by decide) rfl | exact wka_imm0 | exact wka_pur (Enc.pure_enc _) | exact wka_pur pur_enc_sl | exact wka_pur pur_enc_fl | exact .und _ | (refine wka_pur ?_; simp only [prs]; done) | (refine .same _ ?_; simp only [okB, okBL, okBL_enc, Bool.and_self, Bool.and_true, decide_true, sevalprocAttr]; done) | (refine .le _ _ ?_ (okB_pur ?_); (focus (repeat' (first | exact le_same _ | exact le_enc | exact le_nil | exact le_imm (.inl rfl) | exact le_imm (.inr rfl) | refine le_agg ?_ | exact trivial | apply And.intro))); (simp only [prs]; done)))
          | (refine wk_m 1 _ rfl ?_ rfl rfl ?_ ?_ ?_ ?_
             iterate 3 (first | exact Nat.zero_le _ | exact Nat.le_refl _ | (focus (simp; done)))
             all_goals (repeat' (first | exact trivial | apply And.intro))
             all_goals first | exact rfl | exact wkc_FL | exact wka_full | exact wka_full0 | exact .same _ rfl | exact wka_imm | exact wka_app (by decide) | exact wka_tag (by decide) rfl | exact wka_tagn (by decide) rfl | exact wka_tagr (by decide) rfl (by simp only [prs]) | exact wka_immn | (refine .imm _ _ _ _ (.inl rfl) (okBL_pur ?_); simp only [prs]; done) | exact wka_tag0 (by decide) rfl | exact wka_imm0 | exact wka_pur (Enc.pure_enc _) | exact wka_pur pur_enc_sl | exact wka_pur pur_enc_fl | exact .und _ | (refine wka_pur ?_; simp only [prs]; done) | (refine .same _ ?_; simp only [okB, okBL, okBL_enc, Bool.and_self, Bool.and_true, decide_true, sevalprocAttr]; done) | (refine .le _ _ ?_ (okB_pur ?_); (focus (repeat' (first | exact le_same _ | exact le_enc | exact le_nil | exact le_imm (.inl rfl) | exact le_imm (.inr rfl) | refine le_agg ?_ | exact trivial | apply And.intro))); (simp only [prs]; done)))))
    | (first | refine kn6 ⟨_, h, ?_⟩ | refine kn5 ⟨_, h, ?_⟩
       try simp -implicitDefEqProofs only [*, pats, avm, reduceCtorEq, ↓reduceIte, sevalprocAttr, encs]
       (first
          | (refine wk_m 0 _ rfl ?_ rfl rfl ?_ ?_ ?_ ?_
             iterate 3 (first | exact Nat.zero_le _ | exact Nat.le_refl _ | (focus (simp; done)))
             all_goals (repeat' (first | exact trivial | apply And.intro))
             all_goals first | exact rfl | exact wkc_FL | exact wka_full | exact wka_full0 | exact .same _ rfl | exact wka_imm | exact wka_app (by decide) | exact wka_tag (by decide) rfl | exact wka_tagn (by decide) rfl | exact wka_tagr (by decide) rfl (by simp only [prs]) | exact wka_immn | (refine .imm _ _ _ _ (.inl rfl) (okBL_pur ?_); simp only [prs]; done) | exact wka_tag0 (by decide) rfl | exact wka_imm0 | exact wka_pur (Enc.pure_enc _) | exact wka_pur pur_enc_sl | exact wka_pur pur_enc_fl | exact .und _ | (refine wka_pur ?_; simp only [prs]; done) | (refine .same _ ?_; simp only [okB, okBL, okBL_enc, Bool.and_self, Bool.and_true, decide_true, sevalprocAttr]; done) | (refine .le _ _ ?_ (okB_pur ?_); (focus (repeat' (first | exact le_same _ | exact le_enc | exact le_nil | exact le_imm (.inl rfl) | exact le_imm (.inr rfl) | refine le_agg ?_ | exact trivial | apply And.intro))); (simp only [prs]; done)))
          | (refine wk_m 1 _ rfl ?_ rfl rfl ?_ ?_ ?_ ?_
             iterate 3 (first | exact Nat.zero_le _ | exact Nat.le_refl _ | (focus (simp; done)))
             all_goals (repeat' (first | exact trivial | apply And.intro))
             all_goals first | exact rfl | exact wkc_FL | exact wka_full | exact wka_full0 | exact .same _ rfl | exact wka_imm | exact wka_app (by decide) | exact wka_tag (by decide) rfl | exact wka_tagn (by decide) rfl | exact wka_tagr (by decide) rfl (by simp only [prs]) | exact wka_immn | (refine .imm _ _ _ _ (.inl rfl) (okBL_pur ?_); simp only [prs]; done) | exact wka_tag0 (by decide) rfl | exact wka_imm0 | exact wka_pur (Enc.pure_enc _) | exact wka_pur pur_enc_sl | exact wka_pur pur_enc_fl | exact .und _ | (refine wka_pur ?_; simp only [prs]; done) | (refine .same _ ?_; simp only [okB, okBL, okBL_enc, Bool.and_self, Bool.and_true, decide_true, sevalprocAttr]; done) | (refine .le _ _ ?_ (okB_pur ?_); (focus (repeat' (first | exact le_same _ | exact le_enc | exact le_nil | exact le_imm (.inl rfl) | exact le_imm (.inr rfl) | refine le_agg ?_ | exact trivial | apply And.intro))); (simp only [prs]; done)))))
    | (refine rets_in (by first | exact .inr rfl | exact .inl rfl) rfl ?_; simp -implicitDefEqProofs only [avm, reduceCtorEq, ↓reduceIte, sevalprocAttr, encs])
    | (refine retj_one 1 (by first | exact .inr rfl | exact .inl rfl) h rfl ?_ ?_ ?_ rfl rfl ?_ ?_
       · first | exact Nat.le_refl _ | exact Nat.zero_le _ | (simp; done)
       · first | exact Nat.zero_le _ | exact Nat.le_refl _ | (simp; done)
       · first | exact Nat.zero_le _ | exact Nat.le_refl _ | (simp; done)
       all_goals (try simp -implicitDefEqProofs only [pats, avm, reduceCtorEq, ↓reduceIte, sevalprocAttr, encs])
       all_goals (repeat' (first | exact trivial | apply And.intro))
       all_goals first | exact rfl | exact wkc_FL | exact wka_full | exact wka_full0 | exact .same _ rfl | exact wka_imm | exact wka_app (by decide) | exact wka_tag (by decide) rfl | exact wka_tagn (by decide) rfl | exact wka_tagr (by decide) rfl (by simp only [prs]) | exact wka_immn | (refine .imm _ _ _ _ (.inl rfl) (okBL_pur ?_); simp only [prs]; done) | exact wka_tag0 (by decide) rfl | exact wka_imm0 | exact wka_pur (Enc.pure_enc _) | exact wka_pur pur_enc_sl | exact wka_pur pur_enc_fl | exact .und _ | (refine wka_pur ?_; simp only [prs]; done) | (refine .same _ ?_; simp only [okB, okBL, okBL_enc, Bool.and_self, Bool.and_true, decide_true, sevalprocAttr]; done) | (refine .le _ _ ?_ (okB_pur ?_); (focus (repeat' (first | exact le_same _ | exact le_enc | exact le_nil | exact le_imm (.inl rfl) | exact le_imm (.inr rfl) | refine le_agg ?_ | exact trivial | apply And.intro))); (simp only [prs]; done)))
    | (refine retj_tup 1 (by first | exact .inr rfl | exact .inl rfl) h rfl ?_ ?_ ?_ rfl rfl ?_ ?_
       · first | exact Nat.le_refl _ | exact Nat.zero_le _ | (simp; done)
       · first | exact Nat.zero_le _ | exact Nat.le_refl _ | (simp; done)
       · first | exact Nat.zero_le _ | exact Nat.le_refl _ | (simp; done)
       all_goals (try simp -implicitDefEqProofs only [pats, avm, reduceCtorEq, ↓reduceIte, sevalprocAttr, encs])
       all_goals (repeat' (first | exact trivial | apply And.intro))
       all_goals first | exact rfl | exact wkc_FL | exact wka_full | exact wka_full0 | exact .same _ rfl | exact wka_imm | exact wka_app (by decide) | exact wka_tag (by decide) rfl | exact wka_tagn (by decide) rfl | exact wka_tagr (by decide) rfl (by simp only [prs]) | exact wka_immn | (refine .imm _ _ _ _ (.inl rfl) (okBL_pur ?_); simp only [prs]; done) | exact wka_tag0 (by decide) rfl | exact wka_imm0 | exact wka_pur (Enc.pure_enc _) | exact wka_pur pur_enc_sl | exact wka_pur pur_enc_fl | exact .und _ | (refine wka_pur ?_; simp only [prs]; done) | (refine .same _ ?_; simp only [okB, okBL, okBL_enc, Bool.and_self, Bool.and_true, decide_true, sevalprocAttr]; done) | (refine .le _ _ ?_ (okB_pur ?_); (focus (repeat' (first | exact le_same _ | exact le_enc | exact le_nil | exact le_imm (.inl rfl) | exact le_imm (.inr rfl) | refine le_agg ?_ | exact trivial | apply And.intro))); (simp only [prs]; done)))
    | (refine retj_nil 1 (by first | exact .inr rfl | exact .inl rfl) h rfl ?_ ?_ ?_ rfl rfl ?_
       · first | exact Nat.le_refl _ | exact Nat.zero_le _ | (simp; done)
       · first | exact Nat.zero_le _ | exact Nat.le_refl _ | (simp; done)
       · first | exact Nat.zero_le _ | exact Nat.le_refl _ | (simp; done)
       all_goals (try simp -implicitDefEqProofs only [pats, avm, reduceCtorEq, ↓reduceIte, sevalprocAttr, encs])
       all_goals (repeat' (first | exact trivial | apply And.intro))
       all_goals first | exact rfl | exact wkc_FL | exact wka_full | exact wka_full0 | exact .same _ rfl | exact wka_imm | exact wka_app (by decide) | exact wka_tag (by decide) rfl | exact wka_tagn (by decide) rfl | exact wka_tagr (by decide) rfl (by simp only [prs]) | exact wka_immn | (refine .imm _ _ _ _ (.inl rfl) (okBL_pur ?_); simp only [prs]; done) | exact wka_tag0 (by decide) rfl | exact wka_imm0 | exact wka_pur (Enc.pure_enc _) | exact wka_pur pur_enc_sl | exact wka_pur pur_enc_fl | exact .und _ | (refine wka_pur ?_; simp only [prs]; done) | (refine .same _ ?_; simp only [okB, okBL, okBL_enc, Bool.and_self, Bool.and_true, decide_true, sevalprocAttr]; done) | (refine .le _ _ ?_ (okB_pur ?_); (focus (repeat' (first | exact le_same _ | exact le_enc | exact le_nil | exact le_imm (.inl rfl) | exact le_imm (.inr rfl) | refine le_agg ?_ | exact trivial | apply And.intro))); (simp only [prs]; done)))
    | (cases h
       try simp -implicitDefEqProofs only [avm, reduceCtorEq, ↓reduceIte, sevalprocAttr, encs]
       first | refine retLt (by first | exact .inr rfl | exact .inl rfl) (by rfl) ?_ | refine retL1 (by first | exact .inr rfl | exact .inl rfl) (by rfl) ?_
       repeat' (first | exact trivial | apply And.intro)
       all_goals first | exact .same _ rfl | exact reta_imm | exact reta_nil | (refine .imm _ _ _ ?_; simp only [prs]; done) | exact .same _ (Enc.pure_enc _) | exact .same _ pur_enc_sl | exact .same _ pur_enc_fl | (refine .same _ ?_; simp only [prs]; done) | (refine .le _ _ ?_ ?_; (focus (repeat' (first | exact le_same _ | exact le_enc | exact le_nil | exact le_imm (.inl rfl) | exact le_imm (.inr rfl) | refine le_agg ?_ | exact trivial | apply And.intro))); (simp only [prs]; done)))
    | fail)
theorem a_ridgewaylaw07_AttrJudges {a0 : (List Attr)} {r : Bool} (h : m_ridgewaylaw07_AttrJudges a0 = some r) : ACt Try.prog 9 [Enc.enc a0] (Enc.enc r) [] := by
  refine act_of p_ridgewaylaw07_AttrJudges (by simp [c_ridgewaylaw07_AttrJudges]) ?_
  show AW _ b_ridgewaylaw07_AttrJudges (RetOk [.tmp 2] _ _) { n := 43, tm := [(0, _)], box := [], fr := [] }
  unfold b_ridgewaylaw07_AttrJudges
  unfold m_ridgewaylaw07_AttrJudges at h
  try simp -implicitDefEqProofs only [avm, reduceCtorEq, ↓reduceIte, sevalprocAttr, encs] at h
  repeat' (first
    | (refine (hκ _).mpr ?_; clear hκ)
    | refine kn1 ?_
    | refine kr1 ?_
    | refine ke1 ?_
    | refine kn2 ?_
    | refine kr2 ?_
    | refine kx2 ?_
    | refine ke2 rfl ?_
    | refine kr5 ?_
    | refine ke5 ?_
    | refine kr6 ?_
    | refine ke6 ?_
    | refine w_seq ?_
    | refine w_block ?_
    | refine w_scope ?_
    | refine kn7 ?_
    | refine kr7 ?_
    | refine ke7 ?_
    | (refine aw_regk fun κ hκ => ?_; simp -implicitDefEqProofs only [avm, reduceCtorEq, ↓reduceIte, sevalprocAttr, encs])
    | refine aw_exit ?_
    | refine aw_ret ?_
    | refine aw_skip ?_
    | refine aw_label ?_
    | refine condc_t ?_
    | refine condc_f ?_
    | (refine aw_cond2 (by simp -implicitDefEqProofs only [avm, reduceCtorEq, ↓reduceIte, sevalprocAttr, encs]; rfl) ?_)
    | ((first | refine gkc_fork ?_ ?_ | refine pkc_fork ?_ ?_ | refine condc_fork ?_ ?_) <;> intro hq <;> (first | contradiction | simp -implicitDefEqProofs only [eq_false hq, Decidable.not_not, avm, reduceCtorEq, ↓reduceIte, sevalprocAttr, encs] at h ⊢ | simp -implicitDefEqProofs only [eq_true hq, avm, reduceCtorEq, ↓reduceIte, sevalprocAttr, encs] at h ⊢))
    | ((first | refine gkc_split ?_ ?_ | refine pkc_split ?_ ?_ | refine condc_bool ?_ ?_) <;> intro hq <;> (first | exact bcontra (by assumption) hq | exact bcontra hq (by assumption) | simp -implicitDefEqProofs only [hq, avm, reduceCtorEq, ↓reduceIte, sevalprocAttr, encs] at h ⊢))
    | (refine stc_plain rfl ?_; simp -implicitDefEqProofs only [putCells.eq_1, avm, reduceCtorEq, ↓reduceIte, sevalprocAttr, encs])
    | (refine bd_go h fun y hy h => ?_
       first | refine callsc (a_ridgewaylaw07_awake hy) ?_ ?_ | refine callc (a_ridgewaylaw07_awake hy) ?_ ?_ | ((first | refine callsc (act_le (a_ridgewaylaw07_awake hy) ?_) ?_ ?_ | refine callc (act_le (a_ridgewaylaw07_awake hy) ?_) ?_ ?_); (focus (repeat' (first | exact trivial | exact le_same _ | exact le_enc | exact le_nil | exact le_imm (.inl rfl) | exact le_imm (.inr rfl) | (refine le_agg ?_) | apply And.intro | (refine le_eq ?_; simp only [*]; done)))))
       focus (first | rfl | (simp only [purL, pur, purL_enc, Enc.pure_enc, Bool.and_self, Bool.and_true]; done))
       simp -implicitDefEqProofs only [avm, reduceCtorEq, ↓reduceIte, sevalprocAttr, encs])
    | (refine bd_go h fun y hy h => ?_
       first | refine callsc (a_ridgewayref07_Few hy) ?_ ?_ | refine callc (a_ridgewayref07_Few hy) ?_ ?_ | ((first | refine callsc (act_le (a_ridgewayref07_Few hy) ?_) ?_ ?_ | refine callc (act_le (a_ridgewayref07_Few hy) ?_) ?_ ?_); (focus (repeat' (first | exact trivial | exact le_same _ | exact le_enc | exact le_nil | exact le_imm (.inl rfl) | exact le_imm (.inr rfl) | (refine le_agg ?_) | apply And.intro | (refine le_eq ?_; simp only [*]; done)))))
       focus (first | rfl | (simp only [purL, pur, purL_enc, Enc.pure_enc, Bool.and_self, Bool.and_true]; done))
       simp -implicitDefEqProofs only [avm, reduceCtorEq, ↓reduceIte, sevalprocAttr, encs])
    | (refine bd_go h fun y hy h => ?_
       first | refine callsc (a_attr_Judge hy) ?_ ?_ | refine callc (a_attr_Judge hy) ?_ ?_ | ((first | refine callsc (act_le (a_attr_Judge hy) ?_) ?_ ?_ | refine callc (act_le (a_attr_Judge hy) ?_) ?_ ?_); (focus (repeat' (first | exact trivial | exact le_same _ | exact le_enc | exact le_nil | exact le_imm (.inl rfl) | exact le_imm (.inr rfl) | (refine le_agg ?_) | apply And.intro | (refine le_eq ?_; simp only [*]; done)))))
       focus (first | rfl | (simp only [purL, pur, purL_enc, Enc.pure_enc, Bool.and_self, Bool.and_true]; done))
       simp -implicitDefEqProofs only [avm, reduceCtorEq, ↓reduceIte, sevalprocAttr, encs])
    | (refine bd_go h fun y hy h => ?_
       first | refine callsc (a_ridgewayref07_Judge hy) ?_ ?_ | refine callc (a_ridgewayref07_Judge hy) ?_ ?_ | ((first | refine callsc (act_le (a_ridgewayref07_Judge hy) ?_) ?_ ?_ | refine callc (act_le (a_ridgewayref07_Judge hy) ?_) ?_ ?_); (focus (repeat' (first | exact trivial | exact le_same _ | exact le_enc | exact le_nil | exact le_imm (.inl rfl) | exact le_imm (.inr rfl) | (refine le_agg ?_) | apply And.intro | (refine le_eq ?_; simp only [*]; done)))))
       focus (first | rfl | (simp only [purL, pur, purL_enc, Enc.pure_enc, Bool.and_self, Bool.and_true]; done))
       simp -implicitDefEqProofs only [avm, reduceCtorEq, ↓reduceIte, sevalprocAttr, encs])
    | (refine bd_go h fun y hy h => ?_
       first | refine callsc (a_ridgewayref07_SamePath hy) ?_ ?_ | refine callc (a_ridgewayref07_SamePath hy) ?_ ?_ | ((first | refine callsc (act_le (a_ridgewayref07_SamePath hy) ?_) ?_ ?_ | refine callc (act_le (a_ridgewayref07_SamePath hy) ?_) ?_ ?_); (focus (repeat' (first | exact trivial | exact le_same _ | exact le_enc | exact le_nil | exact le_imm (.inl rfl) | exact le_imm (.inr rfl) | (refine le_agg ?_) | apply And.intro | (refine le_eq ?_; simp only [*]; done)))))
       focus (first | rfl | (simp only [purL, pur, purL_enc, Enc.pure_enc, Bool.and_self, Bool.and_true]; done))
       simp -implicitDefEqProofs only [avm, reduceCtorEq, ↓reduceIte, sevalprocAttr, encs])
    | (refine bd_go h fun y hy h => ?_
       first | refine callsc (a_ridgewayref03_SameNote hy) ?_ ?_ | refine callc (a_ridgewayref03_SameNote hy) ?_ ?_ | ((first | refine callsc (act_le (a_ridgewayref03_SameNote hy) ?_) ?_ ?_ | refine callc (act_le (a_ridgewayref03_SameNote hy) ?_) ?_ ?_); (focus (repeat' (first | exact trivial | exact le_same _ | exact le_enc | exact le_nil | exact le_imm (.inl rfl) | exact le_imm (.inr rfl) | (refine le_agg ?_) | apply And.intro | (refine le_eq ?_; simp only [*]; done)))))
       focus (first | rfl | (simp only [purL, pur, purL_enc, Enc.pure_enc, Bool.and_self, Bool.and_true]; done))
       simp -implicitDefEqProofs only [avm, reduceCtorEq, ↓reduceIte, sevalprocAttr, encs])
    | (cases h
       try simp -implicitDefEqProofs only [avm, reduceCtorEq, ↓reduceIte, sevalprocAttr, encs]
       first | refine retLt (by first | exact .inr rfl | exact .inl rfl) (by rfl) ?_ | refine retL1 (by first | exact .inr rfl | exact .inl rfl) (by rfl) ?_
       repeat' (first | exact trivial | apply And.intro)
       all_goals first | exact .same _ rfl | exact reta_imm | exact reta_nil | (refine .imm _ _ _ ?_; simp only [prs]; done) | exact .same _ (Enc.pure_enc _) | exact .same _ pur_enc_sl | exact .same _ pur_enc_fl | (refine .same _ ?_; simp only [prs]; done) | (refine .le _ _ ?_ ?_; (focus (repeat' (first | exact le_same _ | exact le_enc | exact le_nil | exact le_imm (.inl rfl) | exact le_imm (.inr rfl) | refine le_agg ?_ | exact trivial | apply And.intro))); (simp only [prs]; done)))
    | fail)
end Go.Proofs.Ytgakgilaikgboaa
