/- Functions compute what their models do. -/
import Derived.Test.YtpclfdndjillnaaLfa
import Derived.Test.YtpclfdndjillnaaAc
import Derived.Test.YtpclfdndjillnaaMrs
import Derived.Test.YtpclfdndjillnaaLrs
namespace Go.Proofs.Ytpclfdndjillnaa
open Go.RowKit
set_option maxHeartbeats 8000000
set_option maxRecDepth 100000
set_option linter.unusedSimpArgs false
set_option linter.unusedVariables false
theorem a_policy_Sane {a0 : Rule} {a1 : Bool} {r : Bool} (h : m_policy_Sane a0 a1 = some r) : ACt Try.prog 141 [Enc.enc a0, Enc.enc a1] (Enc.enc r) [] := by
  refine act_of p_policy_Sane (by simp [c_policy_Sane]) ?_
  show AW _ b_policy_Sane (RetOk [.tmp 4] _ _) { n := 13, tm := [(0, _), (1, _)], box := [], fr := [] }
  unfold b_policy_Sane
  unfold m_policy_Sane at h
  try simp -implicitDefEqProofs only [avm, reduceCtorEq, ↓reduceIte, sevalprocAttr, enc_Prefix, sz_Prefix, enc_Rule, sz_Rule, enc_Side, sz_Side, enc_Conf, sz_Conf] at h
  repeat' (first
    | (refine (hκ _).mpr ?_; clear hκ)
    | refine kn1 ?_
    | refine kr1 ?_
    | refine ke1 ?_
    | refine kn2 ?_
    | refine kr2 ?_
    | refine kx2 ?_
    | refine ke2 rfl ?_
    | refine kr5 ?_
    | refine ke5 ?_
    | refine kr6 ?_
    | refine ke6 ?_
    | refine w_seq ?_
    | refine w_block ?_
    | (refine aw_regk fun κ hκ => ?_; simp -implicitDefEqProofs only [avm, reduceCtorEq, ↓reduceIte, sevalprocAttr, enc_Prefix, sz_Prefix, enc_Rule, sz_Rule, enc_Side, sz_Side, enc_Conf, sz_Conf])
    | refine aw_exit ?_
    | refine aw_ret ?_
    | refine aw_skip ?_
    | refine aw_label ?_
    | refine condc_t ?_
    | refine condc_f ?_
    | (refine aw_cond2 (by simp -implicitDefEqProofs only [avm, reduceCtorEq, ↓reduceIte, sevalprocAttr, enc_Prefix, sz_Prefix, enc_Rule, sz_Rule, enc_Side, sz_Side, enc_Conf, sz_Conf]; rfl) ?_)
    | ((first | refine gkc_fork ?_ ?_ | refine pkc_fork ?_ ?_ | refine condc_fork ?_ ?_) <;> intro hq <;> (first | contradiction | simp -implicitDefEqProofs only [eq_false hq, Decidable.not_not, avm, reduceCtorEq, ↓reduceIte, sevalprocAttr, enc_Prefix, sz_Prefix, enc_Rule, sz_Rule, enc_Side, sz_Side, enc_Conf, sz_Conf] at h ⊢ | simp -implicitDefEqProofs only [eq_true hq, avm, reduceCtorEq, ↓reduceIte, sevalprocAttr, enc_Prefix, sz_Prefix, enc_Rule, sz_Rule, enc_Side, sz_Side, enc_Conf, sz_Conf] at h ⊢))
    | ((first | refine gkc_split ?_ ?_ | refine pkc_split ?_ ?_ | refine condc_bool ?_ ?_) <;> intro hq <;> (simp -implicitDefEqProofs only [hq, avm, reduceCtorEq, ↓reduceIte, sevalprocAttr, enc_Prefix, sz_Prefix, enc_Rule, sz_Rule, enc_Side, sz_Side, enc_Conf, sz_Conf] at h ⊢))
    | (refine stc_plain rfl ?_; simp -implicitDefEqProofs only [putCells.eq_1, avm, reduceCtorEq, ↓reduceIte, sevalprocAttr, enc_Prefix, sz_Prefix, enc_Rule, sz_Rule, enc_Side, sz_Side, enc_Conf, sz_Conf])
    | (refine bd_go h fun y hy h => ?_; refine isc hy ?_; simp -implicitDefEqProofs only [avm, reduceCtorEq, ↓reduceIte, sevalprocAttr, enc_Prefix, sz_Prefix, enc_Rule, sz_Rule, enc_Side, sz_Side, enc_Conf, sz_Conf])
    | (refine bd_go h fun y hy h => ?_; (first | refine ssc hy (asn_some (by first | decide | omega)) (asn_some (by first | decide | omega)) ?_ | refine ssc hy asn_none (asn_some (by first | decide | omega)) ?_ | refine ssc hy asn_none asl_none ?_ | refine ssc hy (asn_some (by first | decide | omega)) asl_none ?_ | refine ssc hy (asn_some (sl_get hy).1.1) asl_none ?_ | refine ssc hy asn_none (asn_some (sl_get hy).1.2.1) ?_ | refine ssc hy (asn_some (sl_get hy).1.1) (asn_some (Int.le_trans (sl_get hy).1.1 (sl_get hy).1.2.1)) ?_); simp -implicitDefEqProofs only [avm, reduceCtorEq, ↓reduceIte, sevalprocAttr, enc_Prefix, sz_Prefix, enc_Rule, sz_Rule, enc_Side, sz_Side, enc_Conf, sz_Conf])
    | (refine bd_go h fun y hy h => ?_; refine sac hy ?_; simp -implicitDefEqProofs only [avm, reduceCtorEq, ↓reduceIte, sevalprocAttr, enc_Prefix, sz_Prefix, enc_Rule, sz_Rule, enc_Side, sz_Side, enc_Conf, sz_Conf])
    | (refine bd_go h fun y hy h => ?_; refine ixc hy ?_; simp -implicitDefEqProofs only [avm, reduceCtorEq, ↓reduceIte, sevalprocAttr, enc_Prefix, sz_Prefix, enc_Rule, sz_Rule, enc_Side, sz_Side, enc_Conf, sz_Conf])
    | (refine bd_go h fun y hy h => ?_
       refine apc hy (by first | rfl | (simp -implicitDefEqProofs only [avm, reduceCtorEq, ↓reduceIte, sevalprocAttr, enc_Prefix, sz_Prefix, enc_Rule, sz_Rule, enc_Side, sz_Side, enc_Conf, sz_Conf]; done)) (by first | rfl | (simp -implicitDefEqProofs only [avm, reduceCtorEq, ↓reduceIte, sevalprocAttr, enc_Prefix, sz_Prefix, enc_Rule, sz_Rule, enc_Side, sz_Side, enc_Conf, sz_Conf]; done)) (by first | exact .inl rfl | exact .inr rfl) (by first | exact .inl rfl | exact .inr rfl) (by simp only [apTag, List.getElem?_cons_zero, List.getElem?_cons_succ, ↓reduceIte, List.set_cons_zero, List.set_cons_succ, List.nil_append, List.cons_append, List.length_nil, List.length_cons, sevalprocAttr]; rfl) ?_
       simp -implicitDefEqProofs only [avm, reduceCtorEq, ↓reduceIte, sevalprocAttr, enc_Prefix, sz_Prefix, enc_Rule, sz_Rule, enc_Side, sz_Side, enc_Conf, sz_Conf])
    | (refine bd_go h fun y hy h => ?_; (first | refine slc_max hy rfl (.inl rfl) asn_none ?_ | refine slc_max hy rfl (.inl rfl) (asn_some (by first | decide | omega)) ?_ | refine slc11 hy rfl (.inl rfl) ?_ | refine slc01 hy rfl (.inl rfl) ?_ | refine slc10 hy rfl (.inl rfl) ?_ | refine slc00 hy rfl (.inl rfl) ?_ | refine slc11 hy rfl (.inr rfl) ?_ | refine slc01 hy rfl (.inr rfl) ?_ | refine slc10 hy rfl (.inr rfl) ?_ | refine slc00 hy rfl (.inr rfl) ?_); simp -implicitDefEqProofs only [avm, reduceCtorEq, ↓reduceIte, sevalprocAttr, enc_Prefix, sz_Prefix, enc_Rule, sz_Rule, enc_Side, sz_Side, enc_Conf, sz_Conf])
    | (refine bd_go h fun y hy h => ?_
       first | refine callsc (a_policy_saneMatch hy) ?_ ?_ | refine callc (a_policy_saneMatch hy) ?_ ?_ | ((first | refine callsc (act_le (a_policy_saneMatch hy) ?_) ?_ ?_ | refine callc (act_le (a_policy_saneMatch hy) ?_) ?_ ?_); (focus (repeat' (first | exact trivial | exact le_same _ | exact le_enc | exact le_nil | exact le_imm (.inl rfl) | exact le_imm (.inr rfl) | (refine le_agg ?_) | apply And.intro))))
       focus (first | rfl | (simp only [purL, pur, purL_enc, Enc.pure_enc, Bool.and_self, Bool.and_true]; done))
       simp -implicitDefEqProofs only [avm, reduceCtorEq, ↓reduceIte, sevalprocAttr, enc_Prefix, sz_Prefix, enc_Rule, sz_Rule, enc_Side, sz_Side, enc_Conf, sz_Conf])
    | (refine bd_go h fun y hy h => ?_
       first | refine callsc (a_policy_saneAct hy) ?_ ?_ | refine callc (a_policy_saneAct hy) ?_ ?_ | ((first | refine callsc (act_le (a_policy_saneAct hy) ?_) ?_ ?_ | refine callc (act_le (a_policy_saneAct hy) ?_) ?_ ?_); (focus (repeat' (first | exact trivial | exact le_same _ | exact le_enc | exact le_nil | exact le_imm (.inl rfl) | exact le_imm (.inr rfl) | (refine le_agg ?_) | apply And.intro))))
       focus (first | rfl | (simp only [purL, pur, purL_enc, Enc.pure_enc, Bool.and_self, Bool.and_true]; done))
       simp -implicitDefEqProofs only [avm, reduceCtorEq, ↓reduceIte, sevalprocAttr, enc_Prefix, sz_Prefix, enc_Rule, sz_Rule, enc_Side, sz_Side, enc_Conf, sz_Conf])
    | (refine nz_go h fun hb h => ?_; simp -implicitDefEqProofs only [eq_false hb, avm, reduceCtorEq, ↓reduceIte, sevalprocAttr, enc_Prefix, sz_Prefix, enc_Rule, sz_Rule, enc_Side, sz_Side, enc_Conf, sz_Conf] at h ⊢)
    | (refine nn_go h fun hb h => ?_; simp -implicitDefEqProofs only [eq_false hb, avm, reduceCtorEq, ↓reduceIte, sevalprocAttr, enc_Prefix, sz_Prefix, enc_Rule, sz_Rule, enc_Side, sz_Side, enc_Conf, sz_Conf] at h ⊢)
    | (cases h
       try simp -implicitDefEqProofs only [avm, reduceCtorEq, ↓reduceIte, sevalprocAttr, enc_Prefix, sz_Prefix, enc_Rule, sz_Rule, enc_Side, sz_Side, enc_Conf, sz_Conf]
       first | refine retLt (by first | exact .inr rfl | exact .inl rfl) (by rfl) ?_ | refine retL1 (by first | exact .inr rfl | exact .inl rfl) (by rfl) ?_
       repeat' (first | exact trivial | apply And.intro)
       all_goals first | exact .same _ rfl | exact reta_imm | exact reta_nil | (refine .imm _ _ _ ?_; simp only [pur, purL, purL_enc, Bool.and_self, Bool.and_true]; done) | exact .same _ (Enc.pure_enc _) | exact .same _ pur_enc_sl | (refine .same _ ?_; simp only [pur, purL, purL_enc, Bool.and_self, Bool.and_true]; done) | (refine .le _ _ ?_ ?_; (focus (repeat' (first | exact le_same _ | exact le_enc | exact le_nil | exact le_imm (.inl rfl) | exact le_imm (.inr rfl) | refine le_agg ?_ | exact trivial | apply And.intro))); (simp only [pur, purL, purL_enc, Bool.and_self, Bool.and_true]; done)))
    | fail)
theorem a_conf_saneRules {a0 : (List Rule)} {a1 : Bool} {r : Bool} (h : m_conf_saneRules a0 a1 = some r) : ACt Try.prog 125 [Enc.enc a0, Enc.enc a1] (Enc.enc r) [] := by
  refine act_of p_conf_saneRules (by simp [c_conf_saneRules]) ?_
  show AW _ b_conf_saneRules (RetOk [.tmp 4] _ _) { n := 21, tm := [(0, _), (1, _)], box := [], fr := [] }
  unfold b_conf_saneRules
  unfold m_conf_saneRules at h
  try simp -implicitDefEqProofs only [avm, reduceCtorEq, ↓reduceIte, sevalprocAttr, enc_Prefix, sz_Prefix, enc_Rule, sz_Rule, enc_Side, sz_Side, enc_Conf, sz_Conf] at h
  repeat' (first
    | (refine (hκ _).mpr ?_; clear hκ)
    | refine kn1 ?_
    | refine kr1 ?_
    | refine ke1 ?_
    | refine kn2 ?_
    | refine kr2 ?_
    | refine kx2 ?_
    | refine ke2 rfl ?_
    | refine kr5 ?_
    | refine ke5 ?_
    | refine kr6 ?_
    | refine ke6 ?_
    | (refine w_loopm [1, 10, 11] (fun (j : (Int)) => [(12, (.int .i64 j))]) (fun (j : (Int)) => []) (fun (j : (Int)) => []) (fun (j : (Int)) => []) (show loopC (s_conf_saneRules1 _ _) _ BIG _ = some _ from h) ?_ ?_
       · try simp -implicitDefEqProofs only [patOf, setB.eq_1, setB.eq_2, setF.eq_1, setF.eq_2, List.map_cons, List.map_nil, List.modify_zero_cons, List.modify_succ_cons, List.set_cons_zero, List.set_cons_succ, List.append_nil, List.nil_append, List.cons_append, avm, reduceCtorEq, ↓reduceIte, sevalprocAttr, enc_Prefix, sz_Prefix, enc_Rule, sz_Rule, enc_Side, sz_Side, enc_Conf, sz_Conf]
         (first
          | (refine wk_m 0 _ rfl ?_ rfl rfl ?_ ?_ ?_ ?_
             · first | exact Nat.le_refl _ | exact Nat.zero_le _ | (simp; done)
             · first | exact Nat.zero_le _ | exact Nat.le_refl _ | (simp; done)
             · first | exact Nat.zero_le _ | exact Nat.le_refl _ | (simp; done)
             all_goals (repeat' (first | exact trivial | apply And.intro))
             all_goals first | exact rfl | exact .same _ rfl | exact wka_imm | exact wka_app (by decide) | exact wka_tag (by decide) rfl | exact wka_tagn (by decide) rfl | exact wka_tagr (by decide) rfl (by simp only [pur, purL, purL_enc, Bool.and_self, Bool.and_true]) | exact wka_immn | (refine .imm _ _ _ _ (.inl rfl) (okBL_pur ?_); simp only [pur, purL, purL_enc, Bool.and_self, Bool.and_true]; done) | exact wka_tag0 (by decide) rfl | exact wka_imm0 | exact wka_pur (Enc.pure_enc _) | exact wka_pur pur_enc_sl | exact wka_pur pur_enc_fl | exact .und _ | (refine wka_pur ?_; simp only [pur, purL, purL_enc, Bool.and_self, Bool.and_true]; done) | (refine .same _ ?_; simp only [okB, okBL, okBL_enc, Bool.and_self, Bool.and_true, decide_true, sevalprocAttr]; done) | (refine .le _ _ ?_ (okB_pur ?_); (focus (repeat' (first | exact le_same _ | exact le_enc | exact le_nil | exact le_imm (.inl rfl) | exact le_imm (.inr rfl) | refine le_agg ?_ | exact trivial | apply And.intro))); (simp only [pur, purL, purL_enc, Bool.and_self, Bool.and_true]; done))))
       clear h
       intro n st h
       simp -implicitDefEqProofs only [s_conf_saneRules1.eq_1, patOf, setB.eq_1, setB.eq_2, setF.eq_1, setF.eq_2, List.map_cons, List.map_nil, List.modify_zero_cons, List.modify_succ_cons, List.set_cons_zero, List.set_cons_succ, List.append_nil, List.nil_append, List.cons_append, avm, reduceCtorEq, ↓reduceIte, sevalprocAttr, enc_Prefix, sz_Prefix, enc_Rule, sz_Rule, enc_Side, sz_Side, enc_Conf, sz_Conf] at h ⊢)
    | refine w_seq ?_
    | refine w_block ?_
    | (refine aw_regk fun κ hκ => ?_; simp -implicitDefEqProofs only [avm, reduceCtorEq, ↓reduceIte, sevalprocAttr, enc_Prefix, sz_Prefix, enc_Rule, sz_Rule, enc_Side, sz_Side, enc_Conf, sz_Conf])
    | refine aw_exit ?_
    | refine aw_ret ?_
    | refine aw_skip ?_
    | refine aw_label ?_
    | refine condc_t ?_
    | refine condc_f ?_
    | (refine aw_cond2 (by simp -implicitDefEqProofs only [avm, reduceCtorEq, ↓reduceIte, sevalprocAttr, enc_Prefix, sz_Prefix, enc_Rule, sz_Rule, enc_Side, sz_Side, enc_Conf, sz_Conf]; rfl) ?_)
    | ((first | refine gkc_fork ?_ ?_ | refine pkc_fork ?_ ?_ | refine condc_fork ?_ ?_) <;> intro hq <;> (first | contradiction | simp -implicitDefEqProofs only [eq_false hq, Decidable.not_not, avm, reduceCtorEq, ↓reduceIte, sevalprocAttr, enc_Prefix, sz_Prefix, enc_Rule, sz_Rule, enc_Side, sz_Side, enc_Conf, sz_Conf] at h ⊢ | simp -implicitDefEqProofs only [eq_true hq, avm, reduceCtorEq, ↓reduceIte, sevalprocAttr, enc_Prefix, sz_Prefix, enc_Rule, sz_Rule, enc_Side, sz_Side, enc_Conf, sz_Conf] at h ⊢))
    | ((first | refine gkc_split ?_ ?_ | refine pkc_split ?_ ?_ | refine condc_bool ?_ ?_) <;> intro hq <;> (simp -implicitDefEqProofs only [hq, avm, reduceCtorEq, ↓reduceIte, sevalprocAttr, enc_Prefix, sz_Prefix, enc_Rule, sz_Rule, enc_Side, sz_Side, enc_Conf, sz_Conf] at h ⊢))
    | (refine stc_plain rfl ?_; simp -implicitDefEqProofs only [putCells.eq_1, avm, reduceCtorEq, ↓reduceIte, sevalprocAttr, enc_Prefix, sz_Prefix, enc_Rule, sz_Rule, enc_Side, sz_Side, enc_Conf, sz_Conf])
    | (refine bd_go h fun y hy h => ?_; refine isc hy ?_; simp -implicitDefEqProofs only [avm, reduceCtorEq, ↓reduceIte, sevalprocAttr, enc_Prefix, sz_Prefix, enc_Rule, sz_Rule, enc_Side, sz_Side, enc_Conf, sz_Conf])
    | (refine bd_go h fun y hy h => ?_; (first | refine ssc hy (asn_some (by first | decide | omega)) (asn_some (by first | decide | omega)) ?_ | refine ssc hy asn_none (asn_some (by first | decide | omega)) ?_ | refine ssc hy asn_none asl_none ?_ | refine ssc hy (asn_some (by first | decide | omega)) asl_none ?_ | refine ssc hy (asn_some (sl_get hy).1.1) asl_none ?_ | refine ssc hy asn_none (asn_some (sl_get hy).1.2.1) ?_ | refine ssc hy (asn_some (sl_get hy).1.1) (asn_some (Int.le_trans (sl_get hy).1.1 (sl_get hy).1.2.1)) ?_); simp -implicitDefEqProofs only [avm, reduceCtorEq, ↓reduceIte, sevalprocAttr, enc_Prefix, sz_Prefix, enc_Rule, sz_Rule, enc_Side, sz_Side, enc_Conf, sz_Conf])
    | (refine bd_go h fun y hy h => ?_; refine sac hy ?_; simp -implicitDefEqProofs only [avm, reduceCtorEq, ↓reduceIte, sevalprocAttr, enc_Prefix, sz_Prefix, enc_Rule, sz_Rule, enc_Side, sz_Side, enc_Conf, sz_Conf])
    | (refine bd_go h fun y hy h => ?_; refine ixc hy ?_; simp -implicitDefEqProofs only [avm, reduceCtorEq, ↓reduceIte, sevalprocAttr, enc_Prefix, sz_Prefix, enc_Rule, sz_Rule, enc_Side, sz_Side, enc_Conf, sz_Conf])
    | (refine bd_go h fun y hy h => ?_
       refine apc hy (by first | rfl | (simp -implicitDefEqProofs only [avm, reduceCtorEq, ↓reduceIte, sevalprocAttr, enc_Prefix, sz_Prefix, enc_Rule, sz_Rule, enc_Side, sz_Side, enc_Conf, sz_Conf]; done)) (by first | rfl | (simp -implicitDefEqProofs only [avm, reduceCtorEq, ↓reduceIte, sevalprocAttr, enc_Prefix, sz_Prefix, enc_Rule, sz_Rule, enc_Side, sz_Side, enc_Conf, sz_Conf]; done)) (by first | exact .inl rfl | exact .inr rfl) (by first | exact .inl rfl | exact .inr rfl) (by simp only [apTag, List.getElem?_cons_zero, List.getElem?_cons_succ, ↓reduceIte, List.set_cons_zero, List.set_cons_succ, List.nil_append, List.cons_append, List.length_nil, List.length_cons, sevalprocAttr]; rfl) ?_
       simp -implicitDefEqProofs only [avm, reduceCtorEq, ↓reduceIte, sevalprocAttr, enc_Prefix, sz_Prefix, enc_Rule, sz_Rule, enc_Side, sz_Side, enc_Conf, sz_Conf])
    | (refine bd_go h fun y hy h => ?_; (first | refine slc_max hy rfl (.inl rfl) asn_none ?_ | refine slc_max hy rfl (.inl rfl) (asn_some (by first | decide | omega)) ?_ | refine slc11 hy rfl (.inl rfl) ?_ | refine slc01 hy rfl (.inl rfl) ?_ | refine slc10 hy rfl (.inl rfl) ?_ | refine slc00 hy rfl (.inl rfl) ?_ | refine slc11 hy rfl (.inr rfl) ?_ | refine slc01 hy rfl (.inr rfl) ?_ | refine slc10 hy rfl (.inr rfl) ?_ | refine slc00 hy rfl (.inr rfl) ?_); simp -implicitDefEqProofs only [avm, reduceCtorEq, ↓reduceIte, sevalprocAttr, enc_Prefix, sz_Prefix, enc_Rule, sz_Rule, enc_Side, sz_Side, enc_Conf, sz_Conf])
    | (refine bd_go h fun y hy h => ?_
       first | refine callsc (a_policy_Sane hy) ?_ ?_ | refine callc (a_policy_Sane hy) ?_ ?_ | ((first | refine callsc (act_le (a_policy_Sane hy) ?_) ?_ ?_ | refine callc (act_le (a_policy_Sane hy) ?_) ?_ ?_); (focus (repeat' (first | exact trivial | exact le_same _ | exact le_enc | exact le_nil | exact le_imm (.inl rfl) | exact le_imm (.inr rfl) | (refine le_agg ?_) | apply And.intro))))
       focus (first | rfl | (simp only [purL, pur, purL_enc, Enc.pure_enc, Bool.and_self, Bool.and_true]; done))
       simp -implicitDefEqProofs only [avm, reduceCtorEq, ↓reduceIte, sevalprocAttr, enc_Prefix, sz_Prefix, enc_Rule, sz_Rule, enc_Side, sz_Side, enc_Conf, sz_Conf])
    | (refine nz_go h fun hb h => ?_; simp -implicitDefEqProofs only [eq_false hb, avm, reduceCtorEq, ↓reduceIte, sevalprocAttr, enc_Prefix, sz_Prefix, enc_Rule, sz_Rule, enc_Side, sz_Side, enc_Conf, sz_Conf] at h ⊢)
    | (refine nn_go h fun hb h => ?_; simp -implicitDefEqProofs only [eq_false hb, avm, reduceCtorEq, ↓reduceIte, sevalprocAttr, enc_Prefix, sz_Prefix, enc_Rule, sz_Rule, enc_Side, sz_Side, enc_Conf, sz_Conf] at h ⊢)
    | (first | refine kn6 ⟨_, h, ?_⟩ | refine kn5 ⟨_, h, ?_⟩
       try simp -implicitDefEqProofs only [patOf, setB.eq_1, setB.eq_2, setF.eq_1, setF.eq_2, List.map_cons, List.map_nil, List.modify_zero_cons, List.modify_succ_cons, List.set_cons_zero, List.set_cons_succ, List.append_nil, List.nil_append, List.cons_append, avm, reduceCtorEq, ↓reduceIte, sevalprocAttr, enc_Prefix, sz_Prefix, enc_Rule, sz_Rule, enc_Side, sz_Side, enc_Conf, sz_Conf]
       (first
          | (refine wk_m 0 _ rfl ?_ rfl rfl ?_ ?_ ?_ ?_
             · first | exact Nat.le_refl _ | exact Nat.zero_le _ | (simp; done)
             · first | exact Nat.zero_le _ | exact Nat.le_refl _ | (simp; done)
             · first | exact Nat.zero_le _ | exact Nat.le_refl _ | (simp; done)
             all_goals (repeat' (first | exact trivial | apply And.intro))
             all_goals first | exact rfl | exact .same _ rfl | exact wka_imm | exact wka_app (by decide) | exact wka_tag (by decide) rfl | exact wka_tagn (by decide) rfl | exact wka_tagr (by decide) rfl (by simp only [pur, purL, purL_enc, Bool.and_self, Bool.and_true]) | exact wka_immn | (refine .imm _ _ _ _ (.inl rfl) (okBL_pur ?_); simp only [pur, purL, purL_enc, Bool.and_self, Bool.and_true]; done) | exact wka_tag0 (by decide) rfl | exact wka_imm0 | exact wka_pur (Enc.pure_enc _) | exact wka_pur pur_enc_sl | exact wka_pur pur_enc_fl | exact .und _ | (refine wka_pur ?_; simp only [pur, purL, purL_enc, Bool.and_self, Bool.and_true]; done) | (refine .same _ ?_; simp only [okB, okBL, okBL_enc, Bool.and_self, Bool.and_true, decide_true, sevalprocAttr]; done) | (refine .le _ _ ?_ (okB_pur ?_); (focus (repeat' (first | exact le_same _ | exact le_enc | exact le_nil | exact le_imm (.inl rfl) | exact le_imm (.inr rfl) | refine le_agg ?_ | exact trivial | apply And.intro))); (simp only [pur, purL, purL_enc, Bool.and_self, Bool.and_true]; done)))))
    | (cases h
       try simp -implicitDefEqProofs only [avm, reduceCtorEq, ↓reduceIte, sevalprocAttr, enc_Prefix, sz_Prefix, enc_Rule, sz_Rule, enc_Side, sz_Side, enc_Conf, sz_Conf]
       first | refine retLt (by first | exact .inr rfl | exact .inl rfl) (by rfl) ?_ | refine retL1 (by first | exact .inr rfl | exact .inl rfl) (by rfl) ?_
       repeat' (first | exact trivial | apply And.intro)
       all_goals first | exact .same _ rfl | exact reta_imm | exact reta_nil | (refine .imm _ _ _ ?_; simp only [pur, purL, purL_enc, Bool.and_self, Bool.and_true]; done) | exact .same _ (Enc.pure_enc _) | exact .same _ pur_enc_sl | (refine .same _ ?_; simp only [pur, purL, purL_enc, Bool.and_self, Bool.and_true]; done) | (refine .le _ _ ?_ ?_; (focus (repeat' (first | exact le_same _ | exact le_enc | exact le_nil | exact le_imm (.inl rfl) | exact le_imm (.inr rfl) | refine le_agg ?_ | exact trivial | apply And.intro))); (simp only [pur, purL, purL_enc, Bool.and_self, Bool.and_true]; done)))
    | fail)
theorem a_conf_saneSides {a0 : Conf} {r : Bool} (h : m_conf_saneSides a0 = some r) : ACt Try.prog 97 [Enc.enc a0] (Enc.enc r) [] := by
  refine act_of p_conf_saneSides (by simp [c_conf_saneSides]) ?_
  show AW _ b_conf_saneSides (RetOk [.tmp 2] _ _) { n := 53, tm := [(0, _)], box := [], fr := [] }
  unfold b_conf_saneSides
  unfold m_conf_saneSides at h
  try simp -implicitDefEqProofs only [avm, reduceCtorEq, ↓reduceIte, sevalprocAttr, enc_Prefix, sz_Prefix, enc_Rule, sz_Rule, enc_Side, sz_Side, enc_Conf, sz_Conf] at h
  repeat' (first
    | (refine (hκ _).mpr ?_; clear hκ)
    | refine kn1 ?_
    | refine kr1 ?_
    | refine ke1 ?_
    | refine kn2 ?_
    | refine kr2 ?_
    | refine kx2 ?_
    | refine ke2 rfl ?_
    | refine kr5 ?_
    | refine ke5 ?_
    | refine kr6 ?_
    | refine ke6 ?_
    | (refine w_loopm [1, 10, 11] (fun (j : (Int)) => [(12, (.int .i64 j))]) (fun (j : (Int)) => []) (fun (j : (Int)) => []) (fun (j : (Int)) => []) (show loopC (s_conf_saneSides1 _) _ BIG _ = some _ from h) ?_ ?_
       · try simp -implicitDefEqProofs only [patOf, setB.eq_1, setB.eq_2, setF.eq_1, setF.eq_2, List.map_cons, List.map_nil, List.modify_zero_cons, List.modify_succ_cons, List.set_cons_zero, List.set_cons_succ, List.append_nil, List.nil_append, List.cons_append, avm, reduceCtorEq, ↓reduceIte, sevalprocAttr, enc_Prefix, sz_Prefix, enc_Rule, sz_Rule, enc_Side, sz_Side, enc_Conf, sz_Conf]
         (first
          | (refine wk_m 0 _ rfl ?_ rfl rfl ?_ ?_ ?_ ?_
             · first | exact Nat.le_refl _ | exact Nat.zero_le _ | (simp; done)
             · first | exact Nat.zero_le _ | exact Nat.le_refl _ | (simp; done)
             · first | exact Nat.zero_le _ | exact Nat.le_refl _ | (simp; done)
             all_goals (repeat' (first | exact trivial | apply And.intro))
             all_goals first | exact rfl | exact .same _ rfl | exact wka_imm | exact wka_app (by decide) | exact wka_tag (by decide) rfl | exact wka_tagn (by decide) rfl | exact wka_tagr (by decide) rfl (by simp only [pur, purL, purL_enc, Bool.and_self, Bool.and_true]) | exact wka_immn | (refine .imm _ _ _ _ (.inl rfl) (okBL_pur ?_); simp only [pur, purL, purL_enc, Bool.and_self, Bool.and_true]; done) | exact wka_tag0 (by decide) rfl | exact wka_imm0 | exact wka_pur (Enc.pure_enc _) | exact wka_pur pur_enc_sl | exact wka_pur pur_enc_fl | exact .und _ | (refine wka_pur ?_; simp only [pur, purL, purL_enc, Bool.and_self, Bool.and_true]; done) | (refine .same _ ?_; simp only [okB, okBL, okBL_enc, Bool.and_self, Bool.and_true, decide_true, sevalprocAttr]; done) | (refine .le _ _ ?_ (okB_pur ?_); (focus (repeat' (first | exact le_same _ | exact le_enc | exact le_nil | exact le_imm (.inl rfl) | exact le_imm (.inr rfl) | refine le_agg ?_ | exact trivial | apply And.intro))); (simp only [pur, purL, purL_enc, Bool.and_self, Bool.and_true]; done))))
       clear h
       intro n st h
       simp -implicitDefEqProofs only [s_conf_saneSides1.eq_1, patOf, setB.eq_1, setB.eq_2, setF.eq_1, setF.eq_2, List.map_cons, List.map_nil, List.modify_zero_cons, List.modify_succ_cons, List.set_cons_zero, List.set_cons_succ, List.append_nil, List.nil_append, List.cons_append, avm, reduceCtorEq, ↓reduceIte, sevalprocAttr, enc_Prefix, sz_Prefix, enc_Rule, sz_Rule, enc_Side, sz_Side, enc_Conf, sz_Conf] at h ⊢)
    | refine w_seq ?_
    | refine w_block ?_
    | (refine aw_regk fun κ hκ => ?_; simp -implicitDefEqProofs only [avm, reduceCtorEq, ↓reduceIte, sevalprocAttr, enc_Prefix, sz_Prefix, enc_Rule, sz_Rule, enc_Side, sz_Side, enc_Conf, sz_Conf])
    | refine aw_exit ?_
    | refine aw_ret ?_
    | refine aw_skip ?_
    | refine aw_label ?_
    | refine condc_t ?_
    | refine condc_f ?_
    | (refine aw_cond2 (by simp -implicitDefEqProofs only [avm, reduceCtorEq, ↓reduceIte, sevalprocAttr, enc_Prefix, sz_Prefix, enc_Rule, sz_Rule, enc_Side, sz_Side, enc_Conf, sz_Conf]; rfl) ?_)
    | ((first | refine gkc_fork ?_ ?_ | refine pkc_fork ?_ ?_ | refine condc_fork ?_ ?_) <;> intro hq <;> (first | contradiction | simp -implicitDefEqProofs only [eq_false hq, Decidable.not_not, avm, reduceCtorEq, ↓reduceIte, sevalprocAttr, enc_Prefix, sz_Prefix, enc_Rule, sz_Rule, enc_Side, sz_Side, enc_Conf, sz_Conf] at h ⊢ | simp -implicitDefEqProofs only [eq_true hq, avm, reduceCtorEq, ↓reduceIte, sevalprocAttr, enc_Prefix, sz_Prefix, enc_Rule, sz_Rule, enc_Side, sz_Side, enc_Conf, sz_Conf] at h ⊢))
    | ((first | refine gkc_split ?_ ?_ | refine pkc_split ?_ ?_ | refine condc_bool ?_ ?_) <;> intro hq <;> (simp -implicitDefEqProofs only [hq, avm, reduceCtorEq, ↓reduceIte, sevalprocAttr, enc_Prefix, sz_Prefix, enc_Rule, sz_Rule, enc_Side, sz_Side, enc_Conf, sz_Conf] at h ⊢))
    | (refine stc_plain rfl ?_; simp -implicitDefEqProofs only [putCells.eq_1, avm, reduceCtorEq, ↓reduceIte, sevalprocAttr, enc_Prefix, sz_Prefix, enc_Rule, sz_Rule, enc_Side, sz_Side, enc_Conf, sz_Conf])
    | (refine bd_go h fun y hy h => ?_; refine isc hy ?_; simp -implicitDefEqProofs only [avm, reduceCtorEq, ↓reduceIte, sevalprocAttr, enc_Prefix, sz_Prefix, enc_Rule, sz_Rule, enc_Side, sz_Side, enc_Conf, sz_Conf])
    | (refine bd_go h fun y hy h => ?_; (first | refine ssc hy (asn_some (by first | decide | omega)) (asn_some (by first | decide | omega)) ?_ | refine ssc hy asn_none (asn_some (by first | decide | omega)) ?_ | refine ssc hy asn_none asl_none ?_ | refine ssc hy (asn_some (by first | decide | omega)) asl_none ?_ | refine ssc hy (asn_some (sl_get hy).1.1) asl_none ?_ | refine ssc hy asn_none (asn_some (sl_get hy).1.2.1) ?_ | refine ssc hy (asn_some (sl_get hy).1.1) (asn_some (Int.le_trans (sl_get hy).1.1 (sl_get hy).1.2.1)) ?_); simp -implicitDefEqProofs only [avm, reduceCtorEq, ↓reduceIte, sevalprocAttr, enc_Prefix, sz_Prefix, enc_Rule, sz_Rule, enc_Side, sz_Side, enc_Conf, sz_Conf])
    | (refine bd_go h fun y hy h => ?_; refine sac hy ?_; simp -implicitDefEqProofs only [avm, reduceCtorEq, ↓reduceIte, sevalprocAttr, enc_Prefix, sz_Prefix, enc_Rule, sz_Rule, enc_Side, sz_Side, enc_Conf, sz_Conf])
    | (refine bd_go h fun y hy h => ?_; refine ixc hy ?_; simp -implicitDefEqProofs only [avm, reduceCtorEq, ↓reduceIte, sevalprocAttr, enc_Prefix, sz_Prefix, enc_Rule, sz_Rule, enc_Side, sz_Side, enc_Conf, sz_Conf])
    | (refine bd_go h fun y hy h => ?_
       refine apc hy (by first | rfl | (simp -implicitDefEqProofs only [avm, reduceCtorEq, ↓reduceIte, sevalprocAttr, enc_Prefix, sz_Prefix, enc_Rule, sz_Rule, enc_Side, sz_Side, enc_Conf, sz_Conf]; done)) (by first | rfl | (simp -implicitDefEqProofs only [avm, reduceCtorEq, ↓reduceIte, sevalprocAttr, enc_Prefix, sz_Prefix, enc_Rule, sz_Rule, enc_Side, sz_Side, enc_Conf, sz_Conf]; done)) (by first | exact .inl rfl | exact .inr rfl) (by first | exact .inl rfl | exact .inr rfl) (by simp only [apTag, List.getElem?_cons_zero, List.getElem?_cons_succ, ↓reduceIte, List.set_cons_zero, List.set_cons_succ, List.nil_append, List.cons_append, List.length_nil, List.length_cons, sevalprocAttr]; rfl) ?_
       simp -implicitDefEqProofs only [avm, reduceCtorEq, ↓reduceIte, sevalprocAttr, enc_Prefix, sz_Prefix, enc_Rule, sz_Rule, enc_Side, sz_Side, enc_Conf, sz_Conf])
    | (refine bd_go h fun y hy h => ?_; (first | refine slc_max hy rfl (.inl rfl) asn_none ?_ | refine slc_max hy rfl (.inl rfl) (asn_some (by first | decide | omega)) ?_ | refine slc11 hy rfl (.inl rfl) ?_ | refine slc01 hy rfl (.inl rfl) ?_ | refine slc10 hy rfl (.inl rfl) ?_ | refine slc00 hy rfl (.inl rfl) ?_ | refine slc11 hy rfl (.inr rfl) ?_ | refine slc01 hy rfl (.inr rfl) ?_ | refine slc10 hy rfl (.inr rfl) ?_ | refine slc00 hy rfl (.inr rfl) ?_); simp -implicitDefEqProofs only [avm, reduceCtorEq, ↓reduceIte, sevalprocAttr, enc_Prefix, sz_Prefix, enc_Rule, sz_Rule, enc_Side, sz_Side, enc_Conf, sz_Conf])
    | (refine bd_go h fun y hy h => ?_
       first | refine callsc (a_conf_saneNumber hy) ?_ ?_ | refine callc (a_conf_saneNumber hy) ?_ ?_ | ((first | refine callsc (act_le (a_conf_saneNumber hy) ?_) ?_ ?_ | refine callc (act_le (a_conf_saneNumber hy) ?_) ?_ ?_); (focus (repeat' (first | exact trivial | exact le_same _ | exact le_enc | exact le_nil | exact le_imm (.inl rfl) | exact le_imm (.inr rfl) | (refine le_agg ?_) | apply And.intro))))
       focus (first | rfl | (simp only [purL, pur, purL_enc, Enc.pure_enc, Bool.and_self, Bool.and_true]; done))
       simp -implicitDefEqProofs only [avm, reduceCtorEq, ↓reduceIte, sevalprocAttr, enc_Prefix, sz_Prefix, enc_Rule, sz_Rule, enc_Side, sz_Side, enc_Conf, sz_Conf])
    | (refine bd_go h fun y hy h => ?_
       first | refine callsc (a_conf_taken hy) ?_ ?_ | refine callc (a_conf_taken hy) ?_ ?_ | ((first | refine callsc (act_le (a_conf_taken hy) ?_) ?_ ?_ | refine callc (act_le (a_conf_taken hy) ?_) ?_ ?_); (focus (repeat' (first | exact trivial | exact le_same _ | exact le_enc | exact le_nil | exact le_imm (.inl rfl) | exact le_imm (.inr rfl) | (refine le_agg ?_) | apply And.intro))))
       focus (first | rfl | (simp only [purL, pur, purL_enc, Enc.pure_enc, Bool.and_self, Bool.and_true]; done))
       simp -implicitDefEqProofs only [avm, reduceCtorEq, ↓reduceIte, sevalprocAttr, enc_Prefix, sz_Prefix, enc_Rule, sz_Rule, enc_Side, sz_Side, enc_Conf, sz_Conf])
    | (refine bd_go h fun y hy h => ?_
       first | refine callsc (a_conf_saneRules hy) ?_ ?_ | refine callc (a_conf_saneRules hy) ?_ ?_ | ((first | refine callsc (act_le (a_conf_saneRules hy) ?_) ?_ ?_ | refine callc (act_le (a_conf_saneRules hy) ?_) ?_ ?_); (focus (repeat' (first | exact trivial | exact le_same _ | exact le_enc | exact le_nil | exact le_imm (.inl rfl) | exact le_imm (.inr rfl) | (refine le_agg ?_) | apply And.intro))))
       focus (first | rfl | (simp only [purL, pur, purL_enc, Enc.pure_enc, Bool.and_self, Bool.and_true]; done))
       simp -implicitDefEqProofs only [avm, reduceCtorEq, ↓reduceIte, sevalprocAttr, enc_Prefix, sz_Prefix, enc_Rule, sz_Rule, enc_Side, sz_Side, enc_Conf, sz_Conf])
    | (refine nz_go h fun hb h => ?_; simp -implicitDefEqProofs only [eq_false hb, avm, reduceCtorEq, ↓reduceIte, sevalprocAttr, enc_Prefix, sz_Prefix, enc_Rule, sz_Rule, enc_Side, sz_Side, enc_Conf, sz_Conf] at h ⊢)
    | (refine nn_go h fun hb h => ?_; simp -implicitDefEqProofs only [eq_false hb, avm, reduceCtorEq, ↓reduceIte, sevalprocAttr, enc_Prefix, sz_Prefix, enc_Rule, sz_Rule, enc_Side, sz_Side, enc_Conf, sz_Conf] at h ⊢)
    | (first | refine kn6 ⟨_, h, ?_⟩ | refine kn5 ⟨_, h, ?_⟩
       try simp -implicitDefEqProofs only [patOf, setB.eq_1, setB.eq_2, setF.eq_1, setF.eq_2, List.map_cons, List.map_nil, List.modify_zero_cons, List.modify_succ_cons, List.set_cons_zero, List.set_cons_succ, List.append_nil, List.nil_append, List.cons_append, avm, reduceCtorEq, ↓reduceIte, sevalprocAttr, enc_Prefix, sz_Prefix, enc_Rule, sz_Rule, enc_Side, sz_Side, enc_Conf, sz_Conf]
       (first
          | (refine wk_m 0 _ rfl ?_ rfl rfl ?_ ?_ ?_ ?_
             · first | exact Nat.le_refl _ | exact Nat.zero_le _ | (simp; done)
             · first | exact Nat.zero_le _ | exact Nat.le_refl _ | (simp; done)
             · first | exact Nat.zero_le _ | exact Nat.le_refl _ | (simp; done)
             all_goals (repeat' (first | exact trivial | apply And.intro))
             all_goals first | exact rfl | exact .same _ rfl | exact wka_imm | exact wka_app (by decide) | exact wka_tag (by decide) rfl | exact wka_tagn (by decide) rfl | exact wka_tagr (by decide) rfl (by simp only [pur, purL, purL_enc, Bool.and_self, Bool.and_true]) | exact wka_immn | (refine .imm _ _ _ _ (.inl rfl) (okBL_pur ?_); simp only [pur, purL, purL_enc, Bool.and_self, Bool.and_true]; done) | exact wka_tag0 (by decide) rfl | exact wka_imm0 | exact wka_pur (Enc.pure_enc _) | exact wka_pur pur_enc_sl | exact wka_pur pur_enc_fl | exact .und _ | (refine wka_pur ?_; simp only [pur, purL, purL_enc, Bool.and_self, Bool.and_true]; done) | (refine .same _ ?_; simp only [okB, okBL, okBL_enc, Bool.and_self, Bool.and_true, decide_true, sevalprocAttr]; done) | (refine .le _ _ ?_ (okB_pur ?_); (focus (repeat' (first | exact le_same _ | exact le_enc | exact le_nil | exact le_imm (.inl rfl) | exact le_imm (.inr rfl) | refine le_agg ?_ | exact trivial | apply And.intro))); (simp only [pur, purL, purL_enc, Bool.and_self, Bool.and_true]; done)))))
    | (cases h
       try simp -implicitDefEqProofs only [avm, reduceCtorEq, ↓reduceIte, sevalprocAttr, enc_Prefix, sz_Prefix, enc_Rule, sz_Rule, enc_Side, sz_Side, enc_Conf, sz_Conf]
       first | refine retLt (by first | exact .inr rfl | exact .inl rfl) (by rfl) ?_ | refine retL1 (by first | exact .inr rfl | exact .inl rfl) (by rfl) ?_
       repeat' (first | exact trivial | apply And.intro)
       all_goals first | exact .same _ rfl | exact reta_imm | exact reta_nil | (refine .imm _ _ _ ?_; simp only [pur, purL, purL_enc, Bool.and_self, Bool.and_true]; done) | exact .same _ (Enc.pure_enc _) | exact .same _ pur_enc_sl | (refine .same _ ?_; simp only [pur, purL, purL_enc, Bool.and_self, Bool.and_true]; done) | (refine .le _ _ ?_ ?_; (focus (repeat' (first | exact le_same _ | exact le_enc | exact le_nil | exact le_imm (.inl rfl) | exact le_imm (.inr rfl) | refine le_agg ?_ | exact trivial | apply And.intro))); (simp only [pur, purL, purL_enc, Bool.and_self, Bool.and_true]; done)))
    | fail)
theorem a_conf_Sane {a0 : Conf} {r : Bool} (h : m_conf_Sane a0 = some r) : ACt Try.prog 39 [Enc.enc a0] (Enc.enc r) [] := by
  refine act_of p_conf_Sane (by simp [c_conf_Sane]) ?_
  show AW _ b_conf_Sane (RetOk [.tmp 2] _ _) { n := 30, tm := [(0, _)], box := [], fr := [] }
  unfold b_conf_Sane
  unfold m_conf_Sane at h
  try simp -implicitDefEqProofs only [avm, reduceCtorEq, ↓reduceIte, sevalprocAttr, enc_Prefix, sz_Prefix, enc_Rule, sz_Rule, enc_Side, sz_Side, enc_Conf, sz_Conf] at h
  repeat' (first
    | (refine (hκ _).mpr ?_; clear hκ)
    | refine kn1 ?_
    | refine kr1 ?_
    | refine ke1 ?_
    | refine kn2 ?_
    | refine kr2 ?_
    | refine kx2 ?_
    | refine ke2 rfl ?_
    | refine kr5 ?_
    | refine ke5 ?_
    | refine kr6 ?_
    | refine ke6 ?_
    | refine w_seq ?_
    | refine w_block ?_
    | (refine aw_regk fun κ hκ => ?_; simp -implicitDefEqProofs only [avm, reduceCtorEq, ↓reduceIte, sevalprocAttr, enc_Prefix, sz_Prefix, enc_Rule, sz_Rule, enc_Side, sz_Side, enc_Conf, sz_Conf])
    | refine aw_exit ?_
    | refine aw_ret ?_
    | refine aw_skip ?_
    | refine aw_label ?_
    | refine condc_t ?_
    | refine condc_f ?_
    | (refine aw_cond2 (by simp -implicitDefEqProofs only [avm, reduceCtorEq, ↓reduceIte, sevalprocAttr, enc_Prefix, sz_Prefix, enc_Rule, sz_Rule, enc_Side, sz_Side, enc_Conf, sz_Conf]; rfl) ?_)
    | ((first | refine gkc_fork ?_ ?_ | refine pkc_fork ?_ ?_ | refine condc_fork ?_ ?_) <;> intro hq <;> (first | contradiction | simp -implicitDefEqProofs only [eq_false hq, Decidable.not_not, avm, reduceCtorEq, ↓reduceIte, sevalprocAttr, enc_Prefix, sz_Prefix, enc_Rule, sz_Rule, enc_Side, sz_Side, enc_Conf, sz_Conf] at h ⊢ | simp -implicitDefEqProofs only [eq_true hq, avm, reduceCtorEq, ↓reduceIte, sevalprocAttr, enc_Prefix, sz_Prefix, enc_Rule, sz_Rule, enc_Side, sz_Side, enc_Conf, sz_Conf] at h ⊢))
    | ((first | refine gkc_split ?_ ?_ | refine pkc_split ?_ ?_ | refine condc_bool ?_ ?_) <;> intro hq <;> (simp -implicitDefEqProofs only [hq, avm, reduceCtorEq, ↓reduceIte, sevalprocAttr, enc_Prefix, sz_Prefix, enc_Rule, sz_Rule, enc_Side, sz_Side, enc_Conf, sz_Conf] at h ⊢))
    | (refine stc_plain rfl ?_; simp -implicitDefEqProofs only [putCells.eq_1, avm, reduceCtorEq, ↓reduceIte, sevalprocAttr, enc_Prefix, sz_Prefix, enc_Rule, sz_Rule, enc_Side, sz_Side, enc_Conf, sz_Conf])
    | (refine bd_go h fun y hy h => ?_; refine isc hy ?_; simp -implicitDefEqProofs only [avm, reduceCtorEq, ↓reduceIte, sevalprocAttr, enc_Prefix, sz_Prefix, enc_Rule, sz_Rule, enc_Side, sz_Side, enc_Conf, sz_Conf])
    | (refine bd_go h fun y hy h => ?_; (first | refine ssc hy (asn_some (by first | decide | omega)) (asn_some (by first | decide | omega)) ?_ | refine ssc hy asn_none (asn_some (by first | decide | omega)) ?_ | refine ssc hy asn_none asl_none ?_ | refine ssc hy (asn_some (by first | decide | omega)) asl_none ?_ | refine ssc hy (asn_some (sl_get hy).1.1) asl_none ?_ | refine ssc hy asn_none (asn_some (sl_get hy).1.2.1) ?_ | refine ssc hy (asn_some (sl_get hy).1.1) (asn_some (Int.le_trans (sl_get hy).1.1 (sl_get hy).1.2.1)) ?_); simp -implicitDefEqProofs only [avm, reduceCtorEq, ↓reduceIte, sevalprocAttr, enc_Prefix, sz_Prefix, enc_Rule, sz_Rule, enc_Side, sz_Side, enc_Conf, sz_Conf])
    | (refine bd_go h fun y hy h => ?_; refine sac hy ?_; simp -implicitDefEqProofs only [avm, reduceCtorEq, ↓reduceIte, sevalprocAttr, enc_Prefix, sz_Prefix, enc_Rule, sz_Rule, enc_Side, sz_Side, enc_Conf, sz_Conf])
    | (refine bd_go h fun y hy h => ?_; refine ixc hy ?_; simp -implicitDefEqProofs only [avm, reduceCtorEq, ↓reduceIte, sevalprocAttr, enc_Prefix, sz_Prefix, enc_Rule, sz_Rule, enc_Side, sz_Side, enc_Conf, sz_Conf])
    | (refine bd_go h fun y hy h => ?_
       refine apc hy (by first | rfl | (simp -implicitDefEqProofs only [avm, reduceCtorEq, ↓reduceIte, sevalprocAttr, enc_Prefix, sz_Prefix, enc_Rule, sz_Rule, enc_Side, sz_Side, enc_Conf, sz_Conf]; done)) (by first | rfl | (simp -implicitDefEqProofs only [avm, reduceCtorEq, ↓reduceIte, sevalprocAttr, enc_Prefix, sz_Prefix, enc_Rule, sz_Rule, enc_Side, sz_Side, enc_Conf, sz_Conf]; done)) (by first | exact .inl rfl | exact .inr rfl) (by first | exact .inl rfl | exact .inr rfl) (by simp only [apTag, List.getElem?_cons_zero, List.getElem?_cons_succ, ↓reduceIte, List.set_cons_zero, List.set_cons_succ, List.nil_append, List.cons_append, List.length_nil, List.length_cons, sevalprocAttr]; rfl) ?_
       simp -implicitDefEqProofs only [avm, reduceCtorEq, ↓reduceIte, sevalprocAttr, enc_Prefix, sz_Prefix, enc_Rule, sz_Rule, enc_Side, sz_Side, enc_Conf, sz_Conf])
    | (refine bd_go h fun y hy h => ?_; (first | refine slc_max hy rfl (.inl rfl) asn_none ?_ | refine slc_max hy rfl (.inl rfl) (asn_some (by first | decide | omega)) ?_ | refine slc11 hy rfl (.inl rfl) ?_ | refine slc01 hy rfl (.inl rfl) ?_ | refine slc10 hy rfl (.inl rfl) ?_ | refine slc00 hy rfl (.inl rfl) ?_ | refine slc11 hy rfl (.inr rfl) ?_ | refine slc01 hy rfl (.inr rfl) ?_ | refine slc10 hy rfl (.inr rfl) ?_ | refine slc00 hy rfl (.inr rfl) ?_); simp -implicitDefEqProofs only [avm, reduceCtorEq, ↓reduceIte, sevalprocAttr, enc_Prefix, sz_Prefix, enc_Rule, sz_Rule, enc_Side, sz_Side, enc_Conf, sz_Conf])
    | (refine bd_go h fun y hy h => ?_
       first | refine callsc (a_conf_saneNumber hy) ?_ ?_ | refine callc (a_conf_saneNumber hy) ?_ ?_ | ((first | refine callsc (act_le (a_conf_saneNumber hy) ?_) ?_ ?_ | refine callc (act_le (a_conf_saneNumber hy) ?_) ?_ ?_); (focus (repeat' (first | exact trivial | exact le_same _ | exact le_enc | exact le_nil | exact le_imm (.inl rfl) | exact le_imm (.inr rfl) | (refine le_agg ?_) | apply And.intro))))
       focus (first | rfl | (simp only [purL, pur, purL_enc, Enc.pure_enc, Bool.and_self, Bool.and_true]; done))
       simp -implicitDefEqProofs only [avm, reduceCtorEq, ↓reduceIte, sevalprocAttr, enc_Prefix, sz_Prefix, enc_Rule, sz_Rule, enc_Side, sz_Side, enc_Conf, sz_Conf])
    | (refine bd_go h fun y hy h => ?_
       first | refine callsc (a_conf_saneHold hy) ?_ ?_ | refine callc (a_conf_saneHold hy) ?_ ?_ | ((first | refine callsc (act_le (a_conf_saneHold hy) ?_) ?_ ?_ | refine callc (act_le (a_conf_saneHold hy) ?_) ?_ ?_); (focus (repeat' (first | exact trivial | exact le_same _ | exact le_enc | exact le_nil | exact le_imm (.inl rfl) | exact le_imm (.inr rfl) | (refine le_agg ?_) | apply And.intro))))
       focus (first | rfl | (simp only [purL, pur, purL_enc, Enc.pure_enc, Bool.and_self, Bool.and_true]; done))
       simp -implicitDefEqProofs only [avm, reduceCtorEq, ↓reduceIte, sevalprocAttr, enc_Prefix, sz_Prefix, enc_Rule, sz_Rule, enc_Side, sz_Side, enc_Conf, sz_Conf])
    | (refine bd_go h fun y hy h => ?_
       first | refine callsc (a_conf_saneCap hy) ?_ ?_ | refine callc (a_conf_saneCap hy) ?_ ?_ | ((first | refine callsc (act_le (a_conf_saneCap hy) ?_) ?_ ?_ | refine callc (act_le (a_conf_saneCap hy) ?_) ?_ ?_); (focus (repeat' (first | exact trivial | exact le_same _ | exact le_enc | exact le_nil | exact le_imm (.inl rfl) | exact le_imm (.inr rfl) | (refine le_agg ?_) | apply And.intro))))
       focus (first | rfl | (simp only [purL, pur, purL_enc, Enc.pure_enc, Bool.and_self, Bool.and_true]; done))
       simp -implicitDefEqProofs only [avm, reduceCtorEq, ↓reduceIte, sevalprocAttr, enc_Prefix, sz_Prefix, enc_Rule, sz_Rule, enc_Side, sz_Side, enc_Conf, sz_Conf])
    | (refine bd_go h fun y hy h => ?_
       first | refine callsc (a_conf_saneOwn hy) ?_ ?_ | refine callc (a_conf_saneOwn hy) ?_ ?_ | ((first | refine callsc (act_le (a_conf_saneOwn hy) ?_) ?_ ?_ | refine callc (act_le (a_conf_saneOwn hy) ?_) ?_ ?_); (focus (repeat' (first | exact trivial | exact le_same _ | exact le_enc | exact le_nil | exact le_imm (.inl rfl) | exact le_imm (.inr rfl) | (refine le_agg ?_) | apply And.intro))))
       focus (first | rfl | (simp only [purL, pur, purL_enc, Enc.pure_enc, Bool.and_self, Bool.and_true]; done))
       simp -implicitDefEqProofs only [avm, reduceCtorEq, ↓reduceIte, sevalprocAttr, enc_Prefix, sz_Prefix, enc_Rule, sz_Rule, enc_Side, sz_Side, enc_Conf, sz_Conf])
    | (refine bd_go h fun y hy h => ?_
       first | refine callsc (a_conf_saneSides hy) ?_ ?_ | refine callc (a_conf_saneSides hy) ?_ ?_ | ((first | refine callsc (act_le (a_conf_saneSides hy) ?_) ?_ ?_ | refine callc (act_le (a_conf_saneSides hy) ?_) ?_ ?_); (focus (repeat' (first | exact trivial | exact le_same _ | exact le_enc | exact le_nil | exact le_imm (.inl rfl) | exact le_imm (.inr rfl) | (refine le_agg ?_) | apply And.intro))))
       focus (first | rfl | (simp only [purL, pur, purL_enc, Enc.pure_enc, Bool.and_self, Bool.and_true]; done))
       simp -implicitDefEqProofs only [avm, reduceCtorEq, ↓reduceIte, sevalprocAttr, enc_Prefix, sz_Prefix, enc_Rule, sz_Rule, enc_Side, sz_Side, enc_Conf, sz_Conf])
    | (refine nz_go h fun hb h => ?_; simp -implicitDefEqProofs only [eq_false hb, avm, reduceCtorEq, ↓reduceIte, sevalprocAttr, enc_Prefix, sz_Prefix, enc_Rule, sz_Rule, enc_Side, sz_Side, enc_Conf, sz_Conf] at h ⊢)
    | (refine nn_go h fun hb h => ?_; simp -implicitDefEqProofs only [eq_false hb, avm, reduceCtorEq, ↓reduceIte, sevalprocAttr, enc_Prefix, sz_Prefix, enc_Rule, sz_Rule, enc_Side, sz_Side, enc_Conf, sz_Conf] at h ⊢)
    | (cases h
       try simp -implicitDefEqProofs only [avm, reduceCtorEq, ↓reduceIte, sevalprocAttr, enc_Prefix, sz_Prefix, enc_Rule, sz_Rule, enc_Side, sz_Side, enc_Conf, sz_Conf]
       first | refine retLt (by first | exact .inr rfl | exact .inl rfl) (by rfl) ?_ | refine retL1 (by first | exact .inr rfl | exact .inl rfl) (by rfl) ?_
       repeat' (first | exact trivial | apply And.intro)
       all_goals first | exact .same _ rfl | exact reta_imm | exact reta_nil | (refine .imm _ _ _ ?_; simp only [pur, purL, purL_enc, Bool.and_self, Bool.and_true]; done) | exact .same _ (Enc.pure_enc _) | exact .same _ pur_enc_sl | (refine .same _ ?_; simp only [pur, purL, purL_enc, Bool.and_self, Bool.and_true]; done) | (refine .le _ _ ?_ ?_; (focus (repeat' (first | exact le_same _ | exact le_enc | exact le_nil | exact le_imm (.inl rfl) | exact le_imm (.inr rfl) | refine le_agg ?_ | exact trivial | apply And.intro))); (simp only [pur, purL, purL_enc, Bool.and_self, Bool.and_true]; done)))
    | fail)
theorem a_rise_Rises {a0 : Conf} {a1 : Conf} {r : Bool} (h : m_rise_Rises a0 a1 = some r) : ACt Try.prog 22 [Enc.enc a0, Enc.enc a1] (Enc.enc r) [] := by
  refine act_of p_rise_Rises (by simp [c_rise_Rises]) ?_
  show AW _ b_rise_Rises (RetOk [.tmp 4] _ _) { n := 53, tm := [(0, _), (1, _)], box := [], fr := [] }
  unfold b_rise_Rises
  unfold m_rise_Rises at h
  try simp -implicitDefEqProofs only [avm, reduceCtorEq, ↓reduceIte, sevalprocAttr, enc_Prefix, sz_Prefix, enc_Rule, sz_Rule, enc_Side, sz_Side, enc_Conf, sz_Conf] at h
  repeat' (first
    | (refine (hκ _).mpr ?_; clear hκ)
    | refine kn1 ?_
    | refine kr1 ?_
    | refine ke1 ?_
    | refine kn2 ?_
    | refine kr2 ?_
    | refine kx2 ?_
    | refine ke2 rfl ?_
    | refine kr5 ?_
    | refine ke5 ?_
    | refine kr6 ?_
    | refine ke6 ?_
    | (refine w_loopm [0, 1, 7] (fun (j : (Int × Bool)) => [(8, (.int .i64 j.1))]) (fun (j : (Int × Bool)) => [(4, 0, (.bool j.2))]) (fun (j : (Int × Bool)) => []) (fun (j : (Int × Bool)) => []) (show loopC (s_rise_Rises1 _ _ _ _) _ BIG _ = some _ from h) ?_ ?_
       · try simp -implicitDefEqProofs only [patOf, setB.eq_1, setB.eq_2, setF.eq_1, setF.eq_2, List.map_cons, List.map_nil, List.modify_zero_cons, List.modify_succ_cons, List.set_cons_zero, List.set_cons_succ, List.append_nil, List.nil_append, List.cons_append, avm, reduceCtorEq, ↓reduceIte, sevalprocAttr, enc_Prefix, sz_Prefix, enc_Rule, sz_Rule, enc_Side, sz_Side, enc_Conf, sz_Conf]
         (first
          | (refine wk_m 0 _ rfl ?_ rfl rfl ?_ ?_ ?_ ?_
             · first | exact Nat.le_refl _ | exact Nat.zero_le _ | (simp; done)
             · first | exact Nat.zero_le _ | exact Nat.le_refl _ | (simp; done)
             · first | exact Nat.zero_le _ | exact Nat.le_refl _ | (simp; done)
             all_goals (repeat' (first | exact trivial | apply And.intro))
             all_goals first | exact rfl | exact .same _ rfl | exact wka_imm | exact wka_app (by decide) | exact wka_tag (by decide) rfl | exact wka_tagn (by decide) rfl | exact wka_tagr (by decide) rfl (by simp only [pur, purL, purL_enc, Bool.and_self, Bool.and_true]) | exact wka_immn | (refine .imm _ _ _ _ (.inl rfl) (okBL_pur ?_); simp only [pur, purL, purL_enc, Bool.and_self, Bool.and_true]; done) | exact wka_tag0 (by decide) rfl | exact wka_imm0 | exact wka_pur (Enc.pure_enc _) | exact wka_pur pur_enc_sl | exact wka_pur pur_enc_fl | exact .und _ | (refine wka_pur ?_; simp only [pur, purL, purL_enc, Bool.and_self, Bool.and_true]; done) | (refine .same _ ?_; simp only [okB, okBL, okBL_enc, Bool.and_self, Bool.and_true, decide_true, sevalprocAttr]; done) | (refine .le _ _ ?_ (okB_pur ?_); (focus (repeat' (first | exact le_same _ | exact le_enc | exact le_nil | exact le_imm (.inl rfl) | exact le_imm (.inr rfl) | refine le_agg ?_ | exact trivial | apply And.intro))); (simp only [pur, purL, purL_enc, Bool.and_self, Bool.and_true]; done))))
       clear h
       intro n st h
       simp -implicitDefEqProofs only [s_rise_Rises1.eq_1, patOf, setB.eq_1, setB.eq_2, setF.eq_1, setF.eq_2, List.map_cons, List.map_nil, List.modify_zero_cons, List.modify_succ_cons, List.set_cons_zero, List.set_cons_succ, List.append_nil, List.nil_append, List.cons_append, avm, reduceCtorEq, ↓reduceIte, sevalprocAttr, enc_Prefix, sz_Prefix, enc_Rule, sz_Rule, enc_Side, sz_Side, enc_Conf, sz_Conf] at h ⊢)
    | refine w_seq ?_
    | refine w_block ?_
    | (refine aw_regk fun κ hκ => ?_; simp -implicitDefEqProofs only [avm, reduceCtorEq, ↓reduceIte, sevalprocAttr, enc_Prefix, sz_Prefix, enc_Rule, sz_Rule, enc_Side, sz_Side, enc_Conf, sz_Conf])
    | refine aw_exit ?_
    | refine aw_ret ?_
    | refine aw_skip ?_
    | refine aw_label ?_
    | refine condc_t ?_
    | refine condc_f ?_
    | (refine aw_cond2 (by simp -implicitDefEqProofs only [avm, reduceCtorEq, ↓reduceIte, sevalprocAttr, enc_Prefix, sz_Prefix, enc_Rule, sz_Rule, enc_Side, sz_Side, enc_Conf, sz_Conf]; rfl) ?_)
    | ((first | refine gkc_fork ?_ ?_ | refine pkc_fork ?_ ?_ | refine condc_fork ?_ ?_) <;> intro hq <;> (first | contradiction | simp -implicitDefEqProofs only [eq_false hq, Decidable.not_not, avm, reduceCtorEq, ↓reduceIte, sevalprocAttr, enc_Prefix, sz_Prefix, enc_Rule, sz_Rule, enc_Side, sz_Side, enc_Conf, sz_Conf] at h ⊢ | simp -implicitDefEqProofs only [eq_true hq, avm, reduceCtorEq, ↓reduceIte, sevalprocAttr, enc_Prefix, sz_Prefix, enc_Rule, sz_Rule, enc_Side, sz_Side, enc_Conf, sz_Conf] at h ⊢))
    | ((first | refine gkc_split ?_ ?_ | refine pkc_split ?_ ?_ | refine condc_bool ?_ ?_) <;> intro hq <;> (simp -implicitDefEqProofs only [hq, avm, reduceCtorEq, ↓reduceIte, sevalprocAttr, enc_Prefix, sz_Prefix, enc_Rule, sz_Rule, enc_Side, sz_Side, enc_Conf, sz_Conf] at h ⊢))
    | (refine stc_plain rfl ?_; simp -implicitDefEqProofs only [putCells.eq_1, avm, reduceCtorEq, ↓reduceIte, sevalprocAttr, enc_Prefix, sz_Prefix, enc_Rule, sz_Rule, enc_Side, sz_Side, enc_Conf, sz_Conf])
    | (refine bd_go h fun y hy h => ?_; refine isc hy ?_; simp -implicitDefEqProofs only [avm, reduceCtorEq, ↓reduceIte, sevalprocAttr, enc_Prefix, sz_Prefix, enc_Rule, sz_Rule, enc_Side, sz_Side, enc_Conf, sz_Conf])
    | (refine bd_go h fun y hy h => ?_; (first | refine ssc hy (asn_some (by first | decide | omega)) (asn_some (by first | decide | omega)) ?_ | refine ssc hy asn_none (asn_some (by first | decide | omega)) ?_ | refine ssc hy asn_none asl_none ?_ | refine ssc hy (asn_some (by first | decide | omega)) asl_none ?_ | refine ssc hy (asn_some (sl_get hy).1.1) asl_none ?_ | refine ssc hy asn_none (asn_some (sl_get hy).1.2.1) ?_ | refine ssc hy (asn_some (sl_get hy).1.1) (asn_some (Int.le_trans (sl_get hy).1.1 (sl_get hy).1.2.1)) ?_); simp -implicitDefEqProofs only [avm, reduceCtorEq, ↓reduceIte, sevalprocAttr, enc_Prefix, sz_Prefix, enc_Rule, sz_Rule, enc_Side, sz_Side, enc_Conf, sz_Conf])
    | (refine bd_go h fun y hy h => ?_; refine sac hy ?_; simp -implicitDefEqProofs only [avm, reduceCtorEq, ↓reduceIte, sevalprocAttr, enc_Prefix, sz_Prefix, enc_Rule, sz_Rule, enc_Side, sz_Side, enc_Conf, sz_Conf])
    | (refine bd_go h fun y hy h => ?_; refine ixc hy ?_; simp -implicitDefEqProofs only [avm, reduceCtorEq, ↓reduceIte, sevalprocAttr, enc_Prefix, sz_Prefix, enc_Rule, sz_Rule, enc_Side, sz_Side, enc_Conf, sz_Conf])
    | (refine bd_go h fun y hy h => ?_
       refine apc hy (by first | rfl | (simp -implicitDefEqProofs only [avm, reduceCtorEq, ↓reduceIte, sevalprocAttr, enc_Prefix, sz_Prefix, enc_Rule, sz_Rule, enc_Side, sz_Side, enc_Conf, sz_Conf]; done)) (by first | rfl | (simp -implicitDefEqProofs only [avm, reduceCtorEq, ↓reduceIte, sevalprocAttr, enc_Prefix, sz_Prefix, enc_Rule, sz_Rule, enc_Side, sz_Side, enc_Conf, sz_Conf]; done)) (by first | exact .inl rfl | exact .inr rfl) (by first | exact .inl rfl | exact .inr rfl) (by simp only [apTag, List.getElem?_cons_zero, List.getElem?_cons_succ, ↓reduceIte, List.set_cons_zero, List.set_cons_succ, List.nil_append, List.cons_append, List.length_nil, List.length_cons, sevalprocAttr]; rfl) ?_
       simp -implicitDefEqProofs only [avm, reduceCtorEq, ↓reduceIte, sevalprocAttr, enc_Prefix, sz_Prefix, enc_Rule, sz_Rule, enc_Side, sz_Side, enc_Conf, sz_Conf])
    | (refine bd_go h fun y hy h => ?_; (first | refine slc_max hy rfl (.inl rfl) asn_none ?_ | refine slc_max hy rfl (.inl rfl) (asn_some (by first | decide | omega)) ?_ | refine slc11 hy rfl (.inl rfl) ?_ | refine slc01 hy rfl (.inl rfl) ?_ | refine slc10 hy rfl (.inl rfl) ?_ | refine slc00 hy rfl (.inl rfl) ?_ | refine slc11 hy rfl (.inr rfl) ?_ | refine slc01 hy rfl (.inr rfl) ?_ | refine slc10 hy rfl (.inr rfl) ?_ | refine slc00 hy rfl (.inr rfl) ?_); simp -implicitDefEqProofs only [avm, reduceCtorEq, ↓reduceIte, sevalprocAttr, enc_Prefix, sz_Prefix, enc_Rule, sz_Rule, enc_Side, sz_Side, enc_Conf, sz_Conf])
    | (refine call_cut p_slices_IndexFunc___int_int (by simp [c_slices_IndexFunc___int_int]) (fun (j : (Int × Bool)) => (.int .i64 j.1)) (fun (j : (Int × Bool)) => [(4, 0, (.bool j.2))]) (fun (j : (Int × Bool)) => []) (show jn 101 _ _ = some _ from h) ?_ ?_
       rotate_left
       intro j h
       simp -implicitDefEqProofs only [patOf, setB.eq_1, setB.eq_2, setF.eq_1, setF.eq_2, List.map_cons, List.map_nil, List.modify_zero_cons, List.modify_succ_cons, List.set_cons_zero, List.set_cons_succ, List.append_nil, List.nil_append, List.cons_append, avm, reduceCtorEq, ↓reduceIte, sevalprocAttr, enc_Prefix, sz_Prefix, enc_Rule, sz_Rule, enc_Side, sz_Side, enc_Conf, sz_Conf] at h ⊢
       rotate_left
       clear h
       intro k' h
       simp -implicitDefEqProofs only [c_slices_IndexFunc___int_int, b_slices_IndexFunc___int_int, patOf, setB.eq_1, setB.eq_2, setF.eq_1, setF.eq_2, List.map_cons, List.map_nil, List.modify_zero_cons, List.modify_succ_cons, List.set_cons_zero, List.set_cons_succ, List.append_nil, List.nil_append, List.cons_append, avm, reduceCtorEq, ↓reduceIte, sevalprocAttr, enc_Prefix, sz_Prefix, enc_Rule, sz_Rule, enc_Side, sz_Side, enc_Conf, sz_Conf] at h ⊢)
    | (refine call_cut p_rise_Rises_1 (by simp [c_rise_Rises_1]) (fun (j : (Bool × Bool)) => (.bool j.1)) (fun (j : (Bool × Bool)) => [(4, 0, (.bool j.2))]) (fun (j : (Bool × Bool)) => []) (show jn 102 _ _ = some _ from h) ?_ ?_
       rotate_left
       intro j h
       simp -implicitDefEqProofs only [patOf, setB.eq_1, setB.eq_2, setF.eq_1, setF.eq_2, List.map_cons, List.map_nil, List.modify_zero_cons, List.modify_succ_cons, List.set_cons_zero, List.set_cons_succ, List.append_nil, List.nil_append, List.cons_append, avm, reduceCtorEq, ↓reduceIte, sevalprocAttr, enc_Prefix, sz_Prefix, enc_Rule, sz_Rule, enc_Side, sz_Side, enc_Conf, sz_Conf] at h ⊢
       rotate_left
       clear h
       intro k' h
       simp -implicitDefEqProofs only [c_rise_Rises_1, b_rise_Rises_1, patOf, setB.eq_1, setB.eq_2, setF.eq_1, setF.eq_2, List.map_cons, List.map_nil, List.modify_zero_cons, List.modify_succ_cons, List.set_cons_zero, List.set_cons_succ, List.append_nil, List.nil_append, List.cons_append, avm, reduceCtorEq, ↓reduceIte, sevalprocAttr, enc_Prefix, sz_Prefix, enc_Rule, sz_Rule, enc_Side, sz_Side, enc_Conf, sz_Conf] at h ⊢)
    | (refine call_cut p_rise_Rises_1 (by simp [c_rise_Rises_1]) (fun (j : (Bool × Bool)) => (.bool j.1)) (fun (j : (Bool × Bool)) => [(4, 0, (.bool j.2))]) (fun (j : (Bool × Bool)) => []) (show jn 103 _ _ = some _ from h) ?_ ?_
       rotate_left
       intro j h
       simp -implicitDefEqProofs only [patOf, setB.eq_1, setB.eq_2, setF.eq_1, setF.eq_2, List.map_cons, List.map_nil, List.modify_zero_cons, List.modify_succ_cons, List.set_cons_zero, List.set_cons_succ, List.append_nil, List.nil_append, List.cons_append, avm, reduceCtorEq, ↓reduceIte, sevalprocAttr, enc_Prefix, sz_Prefix, enc_Rule, sz_Rule, enc_Side, sz_Side, enc_Conf, sz_Conf] at h ⊢
       rotate_left
       clear h
       intro k' h
       simp -implicitDefEqProofs only [c_rise_Rises_1, b_rise_Rises_1, patOf, setB.eq_1, setB.eq_2, setF.eq_1, setF.eq_2, List.map_cons, List.map_nil, List.modify_zero_cons, List.modify_succ_cons, List.set_cons_zero, List.set_cons_succ, List.append_nil, List.nil_append, List.cons_append, avm, reduceCtorEq, ↓reduceIte, sevalprocAttr, enc_Prefix, sz_Prefix, enc_Rule, sz_Rule, enc_Side, sz_Side, enc_Conf, sz_Conf] at h ⊢)
    | (refine call_in p_slices_ContainsFunc___int_int (by simp [c_slices_ContainsFunc___int_int]) ?_
       simp -implicitDefEqProofs only [c_slices_ContainsFunc___int_int, b_slices_ContainsFunc___int_int, avm, reduceCtorEq, ↓reduceIte, sevalprocAttr, enc_Prefix, sz_Prefix, enc_Rule, sz_Rule, enc_Side, sz_Side, enc_Conf, sz_Conf])
    | (refine bd_go h fun y hy h => ?_
       first | refine callsc (a_rise_Side hy) ?_ ?_ | refine callc (a_rise_Side hy) ?_ ?_ | ((first | refine callsc (act_le (a_rise_Side hy) ?_) ?_ ?_ | refine callc (act_le (a_rise_Side hy) ?_) ?_ ?_); (focus (repeat' (first | exact trivial | exact le_same _ | exact le_enc | exact le_nil | exact le_imm (.inl rfl) | exact le_imm (.inr rfl) | (refine le_agg ?_) | apply And.intro))))
       focus (first | rfl | (simp only [purL, pur, purL_enc, Enc.pure_enc, Bool.and_self, Bool.and_true]; done))
       simp -implicitDefEqProofs only [avm, reduceCtorEq, ↓reduceIte, sevalprocAttr, enc_Prefix, sz_Prefix, enc_Rule, sz_Rule, enc_Side, sz_Side, enc_Conf, sz_Conf])
    | (refine bd_go h fun y hy h => ?_
       first | refine callsc (a_conf_Sane hy) ?_ ?_ | refine callc (a_conf_Sane hy) ?_ ?_ | ((first | refine callsc (act_le (a_conf_Sane hy) ?_) ?_ ?_ | refine callc (act_le (a_conf_Sane hy) ?_) ?_ ?_); (focus (repeat' (first | exact trivial | exact le_same _ | exact le_enc | exact le_nil | exact le_imm (.inl rfl) | exact le_imm (.inr rfl) | (refine le_agg ?_) | apply And.intro))))
       focus (first | rfl | (simp only [purL, pur, purL_enc, Enc.pure_enc, Bool.and_self, Bool.and_true]; done))
       simp -implicitDefEqProofs only [avm, reduceCtorEq, ↓reduceIte, sevalprocAttr, enc_Prefix, sz_Prefix, enc_Rule, sz_Rule, enc_Side, sz_Side, enc_Conf, sz_Conf])
    | (refine bd_go h fun y hy h => ?_
       first | refine callsc (a_rise_High hy) ?_ ?_ | refine callc (a_rise_High hy) ?_ ?_ | ((first | refine callsc (act_le (a_rise_High hy) ?_) ?_ ?_ | refine callc (act_le (a_rise_High hy) ?_) ?_ ?_); (focus (repeat' (first | exact trivial | exact le_same _ | exact le_enc | exact le_nil | exact le_imm (.inl rfl) | exact le_imm (.inr rfl) | (refine le_agg ?_) | apply And.intro))))
       focus (first | rfl | (simp only [purL, pur, purL_enc, Enc.pure_enc, Bool.and_self, Bool.and_true]; done))
       simp -implicitDefEqProofs only [avm, reduceCtorEq, ↓reduceIte, sevalprocAttr, enc_Prefix, sz_Prefix, enc_Rule, sz_Rule, enc_Side, sz_Side, enc_Conf, sz_Conf])
    | (refine bd_go h fun y hy h => ?_
       first | refine callsc (a_rise_Low hy) ?_ ?_ | refine callc (a_rise_Low hy) ?_ ?_ | ((first | refine callsc (act_le (a_rise_Low hy) ?_) ?_ ?_ | refine callc (act_le (a_rise_Low hy) ?_) ?_ ?_); (focus (repeat' (first | exact trivial | exact le_same _ | exact le_enc | exact le_nil | exact le_imm (.inl rfl) | exact le_imm (.inr rfl) | (refine le_agg ?_) | apply And.intro))))
       focus (first | rfl | (simp only [purL, pur, purL_enc, Enc.pure_enc, Bool.and_self, Bool.and_true]; done))
       simp -implicitDefEqProofs only [avm, reduceCtorEq, ↓reduceIte, sevalprocAttr, enc_Prefix, sz_Prefix, enc_Rule, sz_Rule, enc_Side, sz_Side, enc_Conf, sz_Conf])
    | (refine bd_go h fun y hy h => ?_
       first | refine callsc (a_rise_Tells hy) ?_ ?_ | refine callc (a_rise_Tells hy) ?_ ?_ | ((first | refine callsc (act_le (a_rise_Tells hy) ?_) ?_ ?_ | refine callc (act_le (a_rise_Tells hy) ?_) ?_ ?_); (focus (repeat' (first | exact trivial | exact le_same _ | exact le_enc | exact le_nil | exact le_imm (.inl rfl) | exact le_imm (.inr rfl) | (refine le_agg ?_) | apply And.intro))))
       focus (first | rfl | (simp only [purL, pur, purL_enc, Enc.pure_enc, Bool.and_self, Bool.and_true]; done))
       simp -implicitDefEqProofs only [avm, reduceCtorEq, ↓reduceIte, sevalprocAttr, enc_Prefix, sz_Prefix, enc_Rule, sz_Rule, enc_Side, sz_Side, enc_Conf, sz_Conf])
    | (refine nz_go h fun hb h => ?_; simp -implicitDefEqProofs only [eq_false hb, avm, reduceCtorEq, ↓reduceIte, sevalprocAttr, enc_Prefix, sz_Prefix, enc_Rule, sz_Rule, enc_Side, sz_Side, enc_Conf, sz_Conf] at h ⊢)
    | (refine nn_go h fun hb h => ?_; simp -implicitDefEqProofs only [eq_false hb, avm, reduceCtorEq, ↓reduceIte, sevalprocAttr, enc_Prefix, sz_Prefix, enc_Rule, sz_Rule, enc_Side, sz_Side, enc_Conf, sz_Conf] at h ⊢)
    | (first | refine kn6 ⟨_, h, ?_⟩ | refine kn5 ⟨_, h, ?_⟩
       try simp -implicitDefEqProofs only [patOf, setB.eq_1, setB.eq_2, setF.eq_1, setF.eq_2, List.map_cons, List.map_nil, List.modify_zero_cons, List.modify_succ_cons, List.set_cons_zero, List.set_cons_succ, List.append_nil, List.nil_append, List.cons_append, avm, reduceCtorEq, ↓reduceIte, sevalprocAttr, enc_Prefix, sz_Prefix, enc_Rule, sz_Rule, enc_Side, sz_Side, enc_Conf, sz_Conf]
       (first
          | (refine wk_m 0 _ rfl ?_ rfl rfl ?_ ?_ ?_ ?_
             · first | exact Nat.le_refl _ | exact Nat.zero_le _ | (simp; done)
             · first | exact Nat.zero_le _ | exact Nat.le_refl _ | (simp; done)
             · first | exact Nat.zero_le _ | exact Nat.le_refl _ | (simp; done)
             all_goals (repeat' (first | exact trivial | apply And.intro))
             all_goals first | exact rfl | exact .same _ rfl | exact wka_imm | exact wka_app (by decide) | exact wka_tag (by decide) rfl | exact wka_tagn (by decide) rfl | exact wka_tagr (by decide) rfl (by simp only [pur, purL, purL_enc, Bool.and_self, Bool.and_true]) | exact wka_immn | (refine .imm _ _ _ _ (.inl rfl) (okBL_pur ?_); simp only [pur, purL, purL_enc, Bool.and_self, Bool.and_true]; done) | exact wka_tag0 (by decide) rfl | exact wka_imm0 | exact wka_pur (Enc.pure_enc _) | exact wka_pur pur_enc_sl | exact wka_pur pur_enc_fl | exact .und _ | (refine wka_pur ?_; simp only [pur, purL, purL_enc, Bool.and_self, Bool.and_true]; done) | (refine .same _ ?_; simp only [okB, okBL, okBL_enc, Bool.and_self, Bool.and_true, decide_true, sevalprocAttr]; done) | (refine .le _ _ ?_ (okB_pur ?_); (focus (repeat' (first | exact le_same _ | exact le_enc | exact le_nil | exact le_imm (.inl rfl) | exact le_imm (.inr rfl) | refine le_agg ?_ | exact trivial | apply And.intro))); (simp only [pur, purL, purL_enc, Bool.and_self, Bool.and_true]; done)))))
    | (refine rets_in (by first | exact .inr rfl | exact .inl rfl) rfl ?_; simp -implicitDefEqProofs only [avm, reduceCtorEq, ↓reduceIte, sevalprocAttr, enc_Prefix, sz_Prefix, enc_Rule, sz_Rule, enc_Side, sz_Side, enc_Conf, sz_Conf])
    | (refine retj_one 0 (by first | exact .inr rfl | exact .inl rfl) h rfl ?_ ?_ ?_ rfl rfl ?_ ?_
       · first | exact Nat.le_refl _ | exact Nat.zero_le _ | (simp; done)
       · first | exact Nat.zero_le _ | exact Nat.le_refl _ | (simp; done)
       · first | exact Nat.zero_le _ | exact Nat.le_refl _ | (simp; done)
       all_goals (try simp -implicitDefEqProofs only [patOf, setB.eq_1, setB.eq_2, setF.eq_1, setF.eq_2, List.map_cons, List.map_nil, List.modify_zero_cons, List.modify_succ_cons, List.set_cons_zero, List.set_cons_succ, List.append_nil, List.nil_append, List.cons_append, avm, reduceCtorEq, ↓reduceIte, sevalprocAttr, enc_Prefix, sz_Prefix, enc_Rule, sz_Rule, enc_Side, sz_Side, enc_Conf, sz_Conf])
       all_goals (repeat' (first | exact trivial | apply And.intro))
       all_goals first | exact rfl | exact .same _ rfl | exact wka_imm | exact wka_app (by decide) | exact wka_tag (by decide) rfl | exact wka_tagn (by decide) rfl | exact wka_tagr (by decide) rfl (by simp only [pur, purL, purL_enc, Bool.and_self, Bool.and_true]) | exact wka_immn | (refine .imm _ _ _ _ (.inl rfl) (okBL_pur ?_); simp only [pur, purL, purL_enc, Bool.and_self, Bool.and_true]; done) | exact wka_tag0 (by decide) rfl | exact wka_imm0 | exact wka_pur (Enc.pure_enc _) | exact wka_pur pur_enc_sl | exact wka_pur pur_enc_fl | exact .und _ | (refine wka_pur ?_; simp only [pur, purL, purL_enc, Bool.and_self, Bool.and_true]; done) | (refine .same _ ?_; simp only [okB, okBL, okBL_enc, Bool.and_self, Bool.and_true, decide_true, sevalprocAttr]; done) | (refine .le _ _ ?_ (okB_pur ?_); (focus (repeat' (first | exact le_same _ | exact le_enc | exact le_nil | exact le_imm (.inl rfl) | exact le_imm (.inr rfl) | refine le_agg ?_ | exact trivial | apply And.intro))); (simp only [pur, purL, purL_enc, Bool.and_self, Bool.and_true]; done)))
    | (refine retj_tup 0 (by first | exact .inr rfl | exact .inl rfl) h rfl ?_ ?_ ?_ rfl rfl ?_ ?_
       · first | exact Nat.le_refl _ | exact Nat.zero_le _ | (simp; done)
       · first | exact Nat.zero_le _ | exact Nat.le_refl _ | (simp; done)
       · first | exact Nat.zero_le _ | exact Nat.le_refl _ | (simp; done)
       all_goals (try simp -implicitDefEqProofs only [patOf, setB.eq_1, setB.eq_2, setF.eq_1, setF.eq_2, List.map_cons, List.map_nil, List.modify_zero_cons, List.modify_succ_cons, List.set_cons_zero, List.set_cons_succ, List.append_nil, List.nil_append, List.cons_append, avm, reduceCtorEq, ↓reduceIte, sevalprocAttr, enc_Prefix, sz_Prefix, enc_Rule, sz_Rule, enc_Side, sz_Side, enc_Conf, sz_Conf])
       all_goals (repeat' (first | exact trivial | apply And.intro))
       all_goals first | exact rfl | exact .same _ rfl | exact wka_imm | exact wka_app (by decide) | exact wka_tag (by decide) rfl | exact wka_tagn (by decide) rfl | exact wka_tagr (by decide) rfl (by simp only [pur, purL, purL_enc, Bool.and_self, Bool.and_true]) | exact wka_immn | (refine .imm _ _ _ _ (.inl rfl) (okBL_pur ?_); simp only [pur, purL, purL_enc, Bool.and_self, Bool.and_true]; done) | exact wka_tag0 (by decide) rfl | exact wka_imm0 | exact wka_pur (Enc.pure_enc _) | exact wka_pur pur_enc_sl | exact wka_pur pur_enc_fl | exact .und _ | (refine wka_pur ?_; simp only [pur, purL, purL_enc, Bool.and_self, Bool.and_true]; done) | (refine .same _ ?_; simp only [okB, okBL, okBL_enc, Bool.and_self, Bool.and_true, decide_true, sevalprocAttr]; done) | (refine .le _ _ ?_ (okB_pur ?_); (focus (repeat' (first | exact le_same _ | exact le_enc | exact le_nil | exact le_imm (.inl rfl) | exact le_imm (.inr rfl) | refine le_agg ?_ | exact trivial | apply And.intro))); (simp only [pur, purL, purL_enc, Bool.and_self, Bool.and_true]; done)))
    | (refine retj_nil 0 (by first | exact .inr rfl | exact .inl rfl) h rfl ?_ ?_ ?_ rfl rfl ?_
       · first | exact Nat.le_refl _ | exact Nat.zero_le _ | (simp; done)
       · first | exact Nat.zero_le _ | exact Nat.le_refl _ | (simp; done)
       · first | exact Nat.zero_le _ | exact Nat.le_refl _ | (simp; done)
       all_goals (try simp -implicitDefEqProofs only [patOf, setB.eq_1, setB.eq_2, setF.eq_1, setF.eq_2, List.map_cons, List.map_nil, List.modify_zero_cons, List.modify_succ_cons, List.set_cons_zero, List.set_cons_succ, List.append_nil, List.nil_append, List.cons_append, avm, reduceCtorEq, ↓reduceIte, sevalprocAttr, enc_Prefix, sz_Prefix, enc_Rule, sz_Rule, enc_Side, sz_Side, enc_Conf, sz_Conf])
       all_goals (repeat' (first | exact trivial | apply And.intro))
       all_goals first | exact rfl | exact .same _ rfl | exact wka_imm | exact wka_app (by decide) | exact wka_tag (by decide) rfl | exact wka_tagn (by decide) rfl | exact wka_tagr (by decide) rfl (by simp only [pur, purL, purL_enc, Bool.and_self, Bool.and_true]) | exact wka_immn | (refine .imm _ _ _ _ (.inl rfl) (okBL_pur ?_); simp only [pur, purL, purL_enc, Bool.and_self, Bool.and_true]; done) | exact wka_tag0 (by decide) rfl | exact wka_imm0 | exact wka_pur (Enc.pure_enc _) | exact wka_pur pur_enc_sl | exact wka_pur pur_enc_fl | exact .und _ | (refine wka_pur ?_; simp only [pur, purL, purL_enc, Bool.and_self, Bool.and_true]; done) | (refine .same _ ?_; simp only [okB, okBL, okBL_enc, Bool.and_self, Bool.and_true, decide_true, sevalprocAttr]; done) | (refine .le _ _ ?_ (okB_pur ?_); (focus (repeat' (first | exact le_same _ | exact le_enc | exact le_nil | exact le_imm (.inl rfl) | exact le_imm (.inr rfl) | refine le_agg ?_ | exact trivial | apply And.intro))); (simp only [pur, purL, purL_enc, Bool.and_self, Bool.and_true]; done)))
    | (cases h
       try simp -implicitDefEqProofs only [avm, reduceCtorEq, ↓reduceIte, sevalprocAttr, enc_Prefix, sz_Prefix, enc_Rule, sz_Rule, enc_Side, sz_Side, enc_Conf, sz_Conf]
       first | refine retLt (by first | exact .inr rfl | exact .inl rfl) (by rfl) ?_ | refine retL1 (by first | exact .inr rfl | exact .inl rfl) (by rfl) ?_
       repeat' (first | exact trivial | apply And.intro)
       all_goals first | exact .same _ rfl | exact reta_imm | exact reta_nil | (refine .imm _ _ _ ?_; simp only [pur, purL, purL_enc, Bool.and_self, Bool.and_true]; done) | exact .same _ (Enc.pure_enc _) | exact .same _ pur_enc_sl | (refine .same _ ?_; simp only [pur, purL, purL_enc, Bool.and_self, Bool.and_true]; done) | (refine .le _ _ ?_ ?_; (focus (repeat' (first | exact le_same _ | exact le_enc | exact le_nil | exact le_imm (.inl rfl) | exact le_imm (.inr rfl) | refine le_agg ?_ | exact trivial | apply And.intro))); (simp only [pur, purL, purL_enc, Bool.and_self, Bool.and_true]; done)))
    | fail)
theorem a_ridgewaylaw15_node {a0 : Int} {a1 : Int} {a2 : Int} {a3 : Int} {a4 : Int} {r : Conf} (h : m_ridgewaylaw15_node a0 a1 a2 a3 a4 = some r) : ACt Try.prog 41 [Enc.enc a0, Enc.enc a1, Enc.enc a2, Enc.enc a3, Enc.enc a4] (Enc.enc r) [] := by
  refine act_of p_ridgewaylaw15_node (by simp [c_ridgewaylaw15_node]) ?_
  show AW _ b_ridgewaylaw15_node (RetOk [.cell 10 (some 6)] _ _) { n := 28, tm := [(0, _), (1, _), (2, _), (3, _), (4, _)], box := [], fr := [] }
  unfold b_ridgewaylaw15_node
  unfold m_ridgewaylaw15_node at h
  try simp -implicitDefEqProofs only [avm, reduceCtorEq, ↓reduceIte, sevalprocAttr, enc_Prefix, sz_Prefix, enc_Rule, sz_Rule, enc_Side, sz_Side, enc_Conf, sz_Conf] at h
  repeat' (first
    | (refine (hκ _).mpr ?_; clear hκ)
    | refine kn1 ?_
    | refine kr1 ?_
    | refine ke1 ?_
    | refine kn2 ?_
    | refine kr2 ?_
    | refine kx2 ?_
    | refine ke2 rfl ?_
    | refine kr5 ?_
    | refine ke5 ?_
    | refine kr6 ?_
    | refine ke6 ?_
    | refine w_seq ?_
    | refine w_block ?_
    | (refine aw_regk fun κ hκ => ?_; simp -implicitDefEqProofs only [avm, reduceCtorEq, ↓reduceIte, sevalprocAttr, enc_Prefix, sz_Prefix, enc_Rule, sz_Rule, enc_Side, sz_Side, enc_Conf, sz_Conf])
    | refine aw_exit ?_
    | refine aw_ret ?_
    | refine aw_skip ?_
    | refine aw_label ?_
    | refine condc_t ?_
    | refine condc_f ?_
    | (refine aw_cond2 (by simp -implicitDefEqProofs only [avm, reduceCtorEq, ↓reduceIte, sevalprocAttr, enc_Prefix, sz_Prefix, enc_Rule, sz_Rule, enc_Side, sz_Side, enc_Conf, sz_Conf]; rfl) ?_)
    | ((first | refine gkc_fork ?_ ?_ | refine pkc_fork ?_ ?_ | refine condc_fork ?_ ?_) <;> intro hq <;> (first | contradiction | simp -implicitDefEqProofs only [eq_false hq, Decidable.not_not, avm, reduceCtorEq, ↓reduceIte, sevalprocAttr, enc_Prefix, sz_Prefix, enc_Rule, sz_Rule, enc_Side, sz_Side, enc_Conf, sz_Conf] at h ⊢ | simp -implicitDefEqProofs only [eq_true hq, avm, reduceCtorEq, ↓reduceIte, sevalprocAttr, enc_Prefix, sz_Prefix, enc_Rule, sz_Rule, enc_Side, sz_Side, enc_Conf, sz_Conf] at h ⊢))
    | ((first | refine gkc_split ?_ ?_ | refine pkc_split ?_ ?_ | refine condc_bool ?_ ?_) <;> intro hq <;> (simp -implicitDefEqProofs only [hq, avm, reduceCtorEq, ↓reduceIte, sevalprocAttr, enc_Prefix, sz_Prefix, enc_Rule, sz_Rule, enc_Side, sz_Side, enc_Conf, sz_Conf] at h ⊢))
    | (refine stc_plain rfl ?_; simp -implicitDefEqProofs only [putCells.eq_1, avm, reduceCtorEq, ↓reduceIte, sevalprocAttr, enc_Prefix, sz_Prefix, enc_Rule, sz_Rule, enc_Side, sz_Side, enc_Conf, sz_Conf])
    | (refine bd_go h fun y hy h => ?_; refine isc hy ?_; simp -implicitDefEqProofs only [avm, reduceCtorEq, ↓reduceIte, sevalprocAttr, enc_Prefix, sz_Prefix, enc_Rule, sz_Rule, enc_Side, sz_Side, enc_Conf, sz_Conf])
    | (refine bd_go h fun y hy h => ?_; (first | refine ssc hy (asn_some (by first | decide | omega)) (asn_some (by first | decide | omega)) ?_ | refine ssc hy asn_none (asn_some (by first | decide | omega)) ?_ | refine ssc hy asn_none asl_none ?_ | refine ssc hy (asn_some (by first | decide | omega)) asl_none ?_ | refine ssc hy (asn_some (sl_get hy).1.1) asl_none ?_ | refine ssc hy asn_none (asn_some (sl_get hy).1.2.1) ?_ | refine ssc hy (asn_some (sl_get hy).1.1) (asn_some (Int.le_trans (sl_get hy).1.1 (sl_get hy).1.2.1)) ?_); simp -implicitDefEqProofs only [avm, reduceCtorEq, ↓reduceIte, sevalprocAttr, enc_Prefix, sz_Prefix, enc_Rule, sz_Rule, enc_Side, sz_Side, enc_Conf, sz_Conf])
    | (refine bd_go h fun y hy h => ?_; refine sac hy ?_; simp -implicitDefEqProofs only [avm, reduceCtorEq, ↓reduceIte, sevalprocAttr, enc_Prefix, sz_Prefix, enc_Rule, sz_Rule, enc_Side, sz_Side, enc_Conf, sz_Conf])
    | (refine bd_go h fun y hy h => ?_; refine ixc hy ?_; simp -implicitDefEqProofs only [avm, reduceCtorEq, ↓reduceIte, sevalprocAttr, enc_Prefix, sz_Prefix, enc_Rule, sz_Rule, enc_Side, sz_Side, enc_Conf, sz_Conf])
    | (refine bd_go h fun y hy h => ?_
       refine apc hy (by first | rfl | (simp -implicitDefEqProofs only [avm, reduceCtorEq, ↓reduceIte, sevalprocAttr, enc_Prefix, sz_Prefix, enc_Rule, sz_Rule, enc_Side, sz_Side, enc_Conf, sz_Conf]; done)) (by first | rfl | (simp -implicitDefEqProofs only [avm, reduceCtorEq, ↓reduceIte, sevalprocAttr, enc_Prefix, sz_Prefix, enc_Rule, sz_Rule, enc_Side, sz_Side, enc_Conf, sz_Conf]; done)) (by first | exact .inl rfl | exact .inr rfl) (by first | exact .inl rfl | exact .inr rfl) (by simp only [apTag, List.getElem?_cons_zero, List.getElem?_cons_succ, ↓reduceIte, List.set_cons_zero, List.set_cons_succ, List.nil_append, List.cons_append, List.length_nil, List.length_cons, sevalprocAttr]; rfl) ?_
       simp -implicitDefEqProofs only [avm, reduceCtorEq, ↓reduceIte, sevalprocAttr, enc_Prefix, sz_Prefix, enc_Rule, sz_Rule, enc_Side, sz_Side, enc_Conf, sz_Conf])
    | (refine bd_go h fun y hy h => ?_; (first | refine slc_max hy rfl (.inl rfl) asn_none ?_ | refine slc_max hy rfl (.inl rfl) (asn_some (by first | decide | omega)) ?_ | refine slc11 hy rfl (.inl rfl) ?_ | refine slc01 hy rfl (.inl rfl) ?_ | refine slc10 hy rfl (.inl rfl) ?_ | refine slc00 hy rfl (.inl rfl) ?_ | refine slc11 hy rfl (.inr rfl) ?_ | refine slc01 hy rfl (.inr rfl) ?_ | refine slc10 hy rfl (.inr rfl) ?_ | refine slc00 hy rfl (.inr rfl) ?_); simp -implicitDefEqProofs only [avm, reduceCtorEq, ↓reduceIte, sevalprocAttr, enc_Prefix, sz_Prefix, enc_Rule, sz_Rule, enc_Side, sz_Side, enc_Conf, sz_Conf])
    | (refine nz_go h fun hb h => ?_; simp -implicitDefEqProofs only [eq_false hb, avm, reduceCtorEq, ↓reduceIte, sevalprocAttr, enc_Prefix, sz_Prefix, enc_Rule, sz_Rule, enc_Side, sz_Side, enc_Conf, sz_Conf] at h ⊢)
    | (refine nn_go h fun hb h => ?_; simp -implicitDefEqProofs only [eq_false hb, avm, reduceCtorEq, ↓reduceIte, sevalprocAttr, enc_Prefix, sz_Prefix, enc_Rule, sz_Rule, enc_Side, sz_Side, enc_Conf, sz_Conf] at h ⊢)
    | (cases h
       try simp -implicitDefEqProofs only [avm, reduceCtorEq, ↓reduceIte, sevalprocAttr, enc_Prefix, sz_Prefix, enc_Rule, sz_Rule, enc_Side, sz_Side, enc_Conf, sz_Conf]
       first | refine retLt (by first | exact .inr rfl | exact .inl rfl) (by rfl) ?_ | refine retL1 (by first | exact .inr rfl | exact .inl rfl) (by rfl) ?_
       repeat' (first | exact trivial | apply And.intro)
       all_goals first | exact .same _ rfl | exact reta_imm | exact reta_nil | (refine .imm _ _ _ ?_; simp only [pur, purL, purL_enc, Bool.and_self, Bool.and_true]; done) | exact .same _ (Enc.pure_enc _) | exact .same _ pur_enc_sl | (refine .same _ ?_; simp only [pur, purL, purL_enc, Bool.and_self, Bool.and_true]; done) | (refine .le _ _ ?_ ?_; (focus (repeat' (first | exact le_same _ | exact le_enc | exact le_nil | exact le_imm (.inl rfl) | exact le_imm (.inr rfl) | refine le_agg ?_ | exact trivial | apply And.intro))); (simp only [pur, purL, purL_enc, Bool.and_self, Bool.and_true]; done)))
    | fail)
theorem a_ridgewaylaw15_awake {r : Bool} (h : m_ridgewaylaw15_awake = some r) : ACt Try.prog 14 [] (Enc.enc r) [] := by
  refine act_of p_ridgewaylaw15_awake (by simp [c_ridgewaylaw15_awake]) ?_
  show AW _ b_ridgewaylaw15_awake (RetOk [.tmp 0] _ _) { n := 63, tm := [], box := [], fr := [] }
  unfold b_ridgewaylaw15_awake
  unfold m_ridgewaylaw15_awake at h
  try simp -implicitDefEqProofs only [avm, reduceCtorEq, ↓reduceIte, sevalprocAttr, enc_Prefix, sz_Prefix, enc_Rule, sz_Rule, enc_Side, sz_Side, enc_Conf, sz_Conf] at h
  repeat' (first
    | (refine (hκ _).mpr ?_; clear hκ)
    | refine kn1 ?_
    | refine kr1 ?_
    | refine ke1 ?_
    | refine kn2 ?_
    | refine kr2 ?_
    | refine kx2 ?_
    | refine ke2 rfl ?_
    | refine kr5 ?_
    | refine ke5 ?_
    | refine kr6 ?_
    | refine ke6 ?_
    | refine w_seq ?_
    | refine w_block ?_
    | (refine aw_regk fun κ hκ => ?_; simp -implicitDefEqProofs only [avm, reduceCtorEq, ↓reduceIte, sevalprocAttr, enc_Prefix, sz_Prefix, enc_Rule, sz_Rule, enc_Side, sz_Side, enc_Conf, sz_Conf])
    | refine aw_exit ?_
    | refine aw_ret ?_
    | refine aw_skip ?_
    | refine aw_label ?_
    | refine condc_t ?_
    | refine condc_f ?_
    | (refine aw_cond2 (by simp -implicitDefEqProofs only [avm, reduceCtorEq, ↓reduceIte, sevalprocAttr, enc_Prefix, sz_Prefix, enc_Rule, sz_Rule, enc_Side, sz_Side, enc_Conf, sz_Conf]; rfl) ?_)
    | ((first | refine gkc_fork ?_ ?_ | refine pkc_fork ?_ ?_ | refine condc_fork ?_ ?_) <;> intro hq <;> (first | contradiction | simp -implicitDefEqProofs only [eq_false hq, Decidable.not_not, avm, reduceCtorEq, ↓reduceIte, sevalprocAttr, enc_Prefix, sz_Prefix, enc_Rule, sz_Rule, enc_Side, sz_Side, enc_Conf, sz_Conf] at h ⊢ | simp -implicitDefEqProofs only [eq_true hq, avm, reduceCtorEq, ↓reduceIte, sevalprocAttr, enc_Prefix, sz_Prefix, enc_Rule, sz_Rule, enc_Side, sz_Side, enc_Conf, sz_Conf] at h ⊢))
    | ((first | refine gkc_split ?_ ?_ | refine pkc_split ?_ ?_ | refine condc_bool ?_ ?_) <;> intro hq <;> (simp -implicitDefEqProofs only [hq, avm, reduceCtorEq, ↓reduceIte, sevalprocAttr, enc_Prefix, sz_Prefix, enc_Rule, sz_Rule, enc_Side, sz_Side, enc_Conf, sz_Conf] at h ⊢))
    | (refine stc_plain rfl ?_; simp -implicitDefEqProofs only [putCells.eq_1, avm, reduceCtorEq, ↓reduceIte, sevalprocAttr, enc_Prefix, sz_Prefix, enc_Rule, sz_Rule, enc_Side, sz_Side, enc_Conf, sz_Conf])
    | (refine bd_go h fun y hy h => ?_; refine isc hy ?_; simp -implicitDefEqProofs only [avm, reduceCtorEq, ↓reduceIte, sevalprocAttr, enc_Prefix, sz_Prefix, enc_Rule, sz_Rule, enc_Side, sz_Side, enc_Conf, sz_Conf])
    | (refine bd_go h fun y hy h => ?_; (first | refine ssc hy (asn_some (by first | decide | omega)) (asn_some (by first | decide | omega)) ?_ | refine ssc hy asn_none (asn_some (by first | decide | omega)) ?_ | refine ssc hy asn_none asl_none ?_ | refine ssc hy (asn_some (by first | decide | omega)) asl_none ?_ | refine ssc hy (asn_some (sl_get hy).1.1) asl_none ?_ | refine ssc hy asn_none (asn_some (sl_get hy).1.2.1) ?_ | refine ssc hy (asn_some (sl_get hy).1.1) (asn_some (Int.le_trans (sl_get hy).1.1 (sl_get hy).1.2.1)) ?_); simp -implicitDefEqProofs only [avm, reduceCtorEq, ↓reduceIte, sevalprocAttr, enc_Prefix, sz_Prefix, enc_Rule, sz_Rule, enc_Side, sz_Side, enc_Conf, sz_Conf])
    | (refine bd_go h fun y hy h => ?_; refine sac hy ?_; simp -implicitDefEqProofs only [avm, reduceCtorEq, ↓reduceIte, sevalprocAttr, enc_Prefix, sz_Prefix, enc_Rule, sz_Rule, enc_Side, sz_Side, enc_Conf, sz_Conf])
    | (refine bd_go h fun y hy h => ?_; refine ixc hy ?_; simp -implicitDefEqProofs only [avm, reduceCtorEq, ↓reduceIte, sevalprocAttr, enc_Prefix, sz_Prefix, enc_Rule, sz_Rule, enc_Side, sz_Side, enc_Conf, sz_Conf])
    | (refine bd_go h fun y hy h => ?_
       refine apc hy (by first | rfl | (simp -implicitDefEqProofs only [avm, reduceCtorEq, ↓reduceIte, sevalprocAttr, enc_Prefix, sz_Prefix, enc_Rule, sz_Rule, enc_Side, sz_Side, enc_Conf, sz_Conf]; done)) (by first | rfl | (simp -implicitDefEqProofs only [avm, reduceCtorEq, ↓reduceIte, sevalprocAttr, enc_Prefix, sz_Prefix, enc_Rule, sz_Rule, enc_Side, sz_Side, enc_Conf, sz_Conf]; done)) (by first | exact .inl rfl | exact .inr rfl) (by first | exact .inl rfl | exact .inr rfl) (by simp only [apTag, List.getElem?_cons_zero, List.getElem?_cons_succ, ↓reduceIte, List.set_cons_zero, List.set_cons_succ, List.nil_append, List.cons_append, List.length_nil, List.length_cons, sevalprocAttr]; rfl) ?_
       simp -implicitDefEqProofs only [avm, reduceCtorEq, ↓reduceIte, sevalprocAttr, enc_Prefix, sz_Prefix, enc_Rule, sz_Rule, enc_Side, sz_Side, enc_Conf, sz_Conf])
    | (refine bd_go h fun y hy h => ?_; (first | refine slc_max hy rfl (.inl rfl) asn_none ?_ | refine slc_max hy rfl (.inl rfl) (asn_some (by first | decide | omega)) ?_ | refine slc11 hy rfl (.inl rfl) ?_ | refine slc01 hy rfl (.inl rfl) ?_ | refine slc10 hy rfl (.inl rfl) ?_ | refine slc00 hy rfl (.inl rfl) ?_ | refine slc11 hy rfl (.inr rfl) ?_ | refine slc01 hy rfl (.inr rfl) ?_ | refine slc10 hy rfl (.inr rfl) ?_ | refine slc00 hy rfl (.inr rfl) ?_); simp -implicitDefEqProofs only [avm, reduceCtorEq, ↓reduceIte, sevalprocAttr, enc_Prefix, sz_Prefix, enc_Rule, sz_Rule, enc_Side, sz_Side, enc_Conf, sz_Conf])
    | (refine bd_go h fun y hy h => ?_
       first | refine callsc (a_ridgewaylaw15_node hy) ?_ ?_ | refine callc (a_ridgewaylaw15_node hy) ?_ ?_ | ((first | refine callsc (act_le (a_ridgewaylaw15_node hy) ?_) ?_ ?_ | refine callc (act_le (a_ridgewaylaw15_node hy) ?_) ?_ ?_); (focus (repeat' (first | exact trivial | exact le_same _ | exact le_enc | exact le_nil | exact le_imm (.inl rfl) | exact le_imm (.inr rfl) | (refine le_agg ?_) | apply And.intro))))
       focus (first | rfl | (simp only [purL, pur, purL_enc, Enc.pure_enc, Bool.and_self, Bool.and_true]; done))
       simp -implicitDefEqProofs only [avm, reduceCtorEq, ↓reduceIte, sevalprocAttr, enc_Prefix, sz_Prefix, enc_Rule, sz_Rule, enc_Side, sz_Side, enc_Conf, sz_Conf])
    | (refine bd_go h fun y hy h => ?_
       first | refine callsc (a_rise_Low hy) ?_ ?_ | refine callc (a_rise_Low hy) ?_ ?_ | ((first | refine callsc (act_le (a_rise_Low hy) ?_) ?_ ?_ | refine callc (act_le (a_rise_Low hy) ?_) ?_ ?_); (focus (repeat' (first | exact trivial | exact le_same _ | exact le_enc | exact le_nil | exact le_imm (.inl rfl) | exact le_imm (.inr rfl) | (refine le_agg ?_) | apply And.intro))))
       focus (first | rfl | (simp only [purL, pur, purL_enc, Enc.pure_enc, Bool.and_self, Bool.and_true]; done))
       simp -implicitDefEqProofs only [avm, reduceCtorEq, ↓reduceIte, sevalprocAttr, enc_Prefix, sz_Prefix, enc_Rule, sz_Rule, enc_Side, sz_Side, enc_Conf, sz_Conf])
    | (refine bd_go h fun y hy h => ?_
       first | refine callsc (a_rise_High hy) ?_ ?_ | refine callc (a_rise_High hy) ?_ ?_ | ((first | refine callsc (act_le (a_rise_High hy) ?_) ?_ ?_ | refine callc (act_le (a_rise_High hy) ?_) ?_ ?_); (focus (repeat' (first | exact trivial | exact le_same _ | exact le_enc | exact le_nil | exact le_imm (.inl rfl) | exact le_imm (.inr rfl) | (refine le_agg ?_) | apply And.intro))))
       focus (first | rfl | (simp only [purL, pur, purL_enc, Enc.pure_enc, Bool.and_self, Bool.and_true]; done))
       simp -implicitDefEqProofs only [avm, reduceCtorEq, ↓reduceIte, sevalprocAttr, enc_Prefix, sz_Prefix, enc_Rule, sz_Rule, enc_Side, sz_Side, enc_Conf, sz_Conf])
    | (refine bd_go h fun y hy h => ?_
       first | refine callsc (a_rise_Side hy) ?_ ?_ | refine callc (a_rise_Side hy) ?_ ?_ | ((first | refine callsc (act_le (a_rise_Side hy) ?_) ?_ ?_ | refine callc (act_le (a_rise_Side hy) ?_) ?_ ?_); (focus (repeat' (first | exact trivial | exact le_same _ | exact le_enc | exact le_nil | exact le_imm (.inl rfl) | exact le_imm (.inr rfl) | (refine le_agg ?_) | apply And.intro))))
       focus (first | rfl | (simp only [purL, pur, purL_enc, Enc.pure_enc, Bool.and_self, Bool.and_true]; done))
       simp -implicitDefEqProofs only [avm, reduceCtorEq, ↓reduceIte, sevalprocAttr, enc_Prefix, sz_Prefix, enc_Rule, sz_Rule, enc_Side, sz_Side, enc_Conf, sz_Conf])
    | (refine bd_go h fun y hy h => ?_
       first | refine callsc (a_rise_Rises hy) ?_ ?_ | refine callc (a_rise_Rises hy) ?_ ?_ | ((first | refine callsc (act_le (a_rise_Rises hy) ?_) ?_ ?_ | refine callc (act_le (a_rise_Rises hy) ?_) ?_ ?_); (focus (repeat' (first | exact trivial | exact le_same _ | exact le_enc | exact le_nil | exact le_imm (.inl rfl) | exact le_imm (.inr rfl) | (refine le_agg ?_) | apply And.intro))))
       focus (first | rfl | (simp only [purL, pur, purL_enc, Enc.pure_enc, Bool.and_self, Bool.and_true]; done))
       simp -implicitDefEqProofs only [avm, reduceCtorEq, ↓reduceIte, sevalprocAttr, enc_Prefix, sz_Prefix, enc_Rule, sz_Rule, enc_Side, sz_Side, enc_Conf, sz_Conf])
    | (refine bd_go h fun y hy h => ?_
       first | refine callsc (a_rise_Tells hy) ?_ ?_ | refine callc (a_rise_Tells hy) ?_ ?_ | ((first | refine callsc (act_le (a_rise_Tells hy) ?_) ?_ ?_ | refine callc (act_le (a_rise_Tells hy) ?_) ?_ ?_); (focus (repeat' (first | exact trivial | exact le_same _ | exact le_enc | exact le_nil | exact le_imm (.inl rfl) | exact le_imm (.inr rfl) | (refine le_agg ?_) | apply And.intro))))
       focus (first | rfl | (simp only [purL, pur, purL_enc, Enc.pure_enc, Bool.and_self, Bool.and_true]; done))
       simp -implicitDefEqProofs only [avm, reduceCtorEq, ↓reduceIte, sevalprocAttr, enc_Prefix, sz_Prefix, enc_Rule, sz_Rule, enc_Side, sz_Side, enc_Conf, sz_Conf])
    | (refine nz_go h fun hb h => ?_; simp -implicitDefEqProofs only [eq_false hb, avm, reduceCtorEq, ↓reduceIte, sevalprocAttr, enc_Prefix, sz_Prefix, enc_Rule, sz_Rule, enc_Side, sz_Side, enc_Conf, sz_Conf] at h ⊢)
    | (refine nn_go h fun hb h => ?_; simp -implicitDefEqProofs only [eq_false hb, avm, reduceCtorEq, ↓reduceIte, sevalprocAttr, enc_Prefix, sz_Prefix, enc_Rule, sz_Rule, enc_Side, sz_Side, enc_Conf, sz_Conf] at h ⊢)
    | (cases h
       try simp -implicitDefEqProofs only [avm, reduceCtorEq, ↓reduceIte, sevalprocAttr, enc_Prefix, sz_Prefix, enc_Rule, sz_Rule, enc_Side, sz_Side, enc_Conf, sz_Conf]
       first | refine retLt (by first | exact .inr rfl | exact .inl rfl) (by rfl) ?_ | refine retL1 (by first | exact .inr rfl | exact .inl rfl) (by rfl) ?_
       repeat' (first | exact trivial | apply And.intro)
       all_goals first | exact .same _ rfl | exact reta_imm | exact reta_nil | (refine .imm _ _ _ ?_; simp only [pur, purL, purL_enc, Bool.and_self, Bool.and_true]; done) | exact .same _ (Enc.pure_enc _) | exact .same _ pur_enc_sl | (refine .same _ ?_; simp only [pur, purL, purL_enc, Bool.and_self, Bool.and_true]; done) | (refine .le _ _ ?_ ?_; (focus (repeat' (first | exact le_same _ | exact le_enc | exact le_nil | exact le_imm (.inl rfl) | exact le_imm (.inr rfl) | refine le_agg ?_ | exact trivial | apply And.intro))); (simp only [pur, purL, purL_enc, Bool.and_self, Bool.and_true]; done)))
    | fail)
theorem a_ridgewayref12_Few {a0 : Conf} {r : Bool} (h : m_ridgewayref12_Few a0 = some r) : ACt Try.prog 15 [Enc.enc a0] (Enc.enc r) [] := by
  refine act_of p_ridgewayref12_Few (by simp [c_ridgewayref12_Few]) ?_
  show AW _ b_ridgewayref12_Few (RetOk [.tmp 2] _ _) { n := 39, tm := [(0, _)], box := [], fr := [] }
  unfold b_ridgewayref12_Few
  unfold m_ridgewayref12_Few at h
  try simp -implicitDefEqProofs only [avm, reduceCtorEq, ↓reduceIte, sevalprocAttr, enc_Prefix, sz_Prefix, enc_Rule, sz_Rule, enc_Side, sz_Side, enc_Conf, sz_Conf] at h
  repeat' (first
    | (refine (hκ _).mpr ?_; clear hκ)
    | refine kn1 ?_
    | refine kr1 ?_
    | refine ke1 ?_
    | refine kn2 ?_
    | refine kr2 ?_
    | refine kx2 ?_
    | refine ke2 rfl ?_
    | refine kr5 ?_
    | refine ke5 ?_
    | refine kr6 ?_
    | refine ke6 ?_
    | (refine w_loopm [1] (fun (j : (Int)) => [(3, (.int .i64 j))]) (fun (j : (Int)) => []) (fun (j : (Int)) => []) (fun (j : (Int)) => []) (show loopC (s_ridgewayref12_Few1 _) _ BIG _ = some _ from h) ?_ ?_
       · try simp -implicitDefEqProofs only [patOf, setB.eq_1, setB.eq_2, setF.eq_1, setF.eq_2, List.map_cons, List.map_nil, List.modify_zero_cons, List.modify_succ_cons, List.set_cons_zero, List.set_cons_succ, List.append_nil, List.nil_append, List.cons_append, avm, reduceCtorEq, ↓reduceIte, sevalprocAttr, enc_Prefix, sz_Prefix, enc_Rule, sz_Rule, enc_Side, sz_Side, enc_Conf, sz_Conf]
         (first
          | (refine wk_m 0 _ rfl ?_ rfl rfl ?_ ?_ ?_ ?_
             · first | exact Nat.le_refl _ | exact Nat.zero_le _ | (simp; done)
             · first | exact Nat.zero_le _ | exact Nat.le_refl _ | (simp; done)
             · first | exact Nat.zero_le _ | exact Nat.le_refl _ | (simp; done)
             all_goals (repeat' (first | exact trivial | apply And.intro))
             all_goals first | exact rfl | exact .same _ rfl | exact wka_imm | exact wka_app (by decide) | exact wka_tag (by decide) rfl | exact wka_tagn (by decide) rfl | exact wka_tagr (by decide) rfl (by simp only [pur, purL, purL_enc, Bool.and_self, Bool.and_true]) | exact wka_immn | (refine .imm _ _ _ _ (.inl rfl) (okBL_pur ?_); simp only [pur, purL, purL_enc, Bool.and_self, Bool.and_true]; done) | exact wka_tag0 (by decide) rfl | exact wka_imm0 | exact wka_pur (Enc.pure_enc _) | exact wka_pur pur_enc_sl | exact wka_pur pur_enc_fl | exact .und _ | (refine wka_pur ?_; simp only [pur, purL, purL_enc, Bool.and_self, Bool.and_true]; done) | (refine .same _ ?_; simp only [okB, okBL, okBL_enc, Bool.and_self, Bool.and_true, decide_true, sevalprocAttr]; done) | (refine .le _ _ ?_ (okB_pur ?_); (focus (repeat' (first | exact le_same _ | exact le_enc | exact le_nil | exact le_imm (.inl rfl) | exact le_imm (.inr rfl) | refine le_agg ?_ | exact trivial | apply And.intro))); (simp only [pur, purL, purL_enc, Bool.and_self, Bool.and_true]; done))))
       clear h
       intro n st h
       simp -implicitDefEqProofs only [s_ridgewayref12_Few1.eq_1, patOf, setB.eq_1, setB.eq_2, setF.eq_1, setF.eq_2, List.map_cons, List.map_nil, List.modify_zero_cons, List.modify_succ_cons, List.set_cons_zero, List.set_cons_succ, List.append_nil, List.nil_append, List.cons_append, avm, reduceCtorEq, ↓reduceIte, sevalprocAttr, enc_Prefix, sz_Prefix, enc_Rule, sz_Rule, enc_Side, sz_Side, enc_Conf, sz_Conf] at h ⊢)
    | refine w_seq ?_
    | refine w_block ?_
    | (refine aw_regk fun κ hκ => ?_; simp -implicitDefEqProofs only [avm, reduceCtorEq, ↓reduceIte, sevalprocAttr, enc_Prefix, sz_Prefix, enc_Rule, sz_Rule, enc_Side, sz_Side, enc_Conf, sz_Conf])
    | refine aw_exit ?_
    | refine aw_ret ?_
    | refine aw_skip ?_
    | refine aw_label ?_
    | refine condc_t ?_
    | refine condc_f ?_
    | (refine aw_cond2 (by simp -implicitDefEqProofs only [avm, reduceCtorEq, ↓reduceIte, sevalprocAttr, enc_Prefix, sz_Prefix, enc_Rule, sz_Rule, enc_Side, sz_Side, enc_Conf, sz_Conf]; rfl) ?_)
    | ((first | refine gkc_fork ?_ ?_ | refine pkc_fork ?_ ?_ | refine condc_fork ?_ ?_) <;> intro hq <;> (first | contradiction | simp -implicitDefEqProofs only [eq_false hq, Decidable.not_not, avm, reduceCtorEq, ↓reduceIte, sevalprocAttr, enc_Prefix, sz_Prefix, enc_Rule, sz_Rule, enc_Side, sz_Side, enc_Conf, sz_Conf] at h ⊢ | simp -implicitDefEqProofs only [eq_true hq, avm, reduceCtorEq, ↓reduceIte, sevalprocAttr, enc_Prefix, sz_Prefix, enc_Rule, sz_Rule, enc_Side, sz_Side, enc_Conf, sz_Conf] at h ⊢))
    | ((first | refine gkc_split ?_ ?_ | refine pkc_split ?_ ?_ | refine condc_bool ?_ ?_) <;> intro hq <;> (simp -implicitDefEqProofs only [hq, avm, reduceCtorEq, ↓reduceIte, sevalprocAttr, enc_Prefix, sz_Prefix, enc_Rule, sz_Rule, enc_Side, sz_Side, enc_Conf, sz_Conf] at h ⊢))
    | (refine stc_plain rfl ?_; simp -implicitDefEqProofs only [putCells.eq_1, avm, reduceCtorEq, ↓reduceIte, sevalprocAttr, enc_Prefix, sz_Prefix, enc_Rule, sz_Rule, enc_Side, sz_Side, enc_Conf, sz_Conf])
    | (refine bd_go h fun y hy h => ?_; refine isc hy ?_; simp -implicitDefEqProofs only [avm, reduceCtorEq, ↓reduceIte, sevalprocAttr, enc_Prefix, sz_Prefix, enc_Rule, sz_Rule, enc_Side, sz_Side, enc_Conf, sz_Conf])
    | (refine bd_go h fun y hy h => ?_; (first | refine ssc hy (asn_some (by first | decide | omega)) (asn_some (by first | decide | omega)) ?_ | refine ssc hy asn_none (asn_some (by first | decide | omega)) ?_ | refine ssc hy asn_none asl_none ?_ | refine ssc hy (asn_some (by first | decide | omega)) asl_none ?_ | refine ssc hy (asn_some (sl_get hy).1.1) asl_none ?_ | refine ssc hy asn_none (asn_some (sl_get hy).1.2.1) ?_ | refine ssc hy (asn_some (sl_get hy).1.1) (asn_some (Int.le_trans (sl_get hy).1.1 (sl_get hy).1.2.1)) ?_); simp -implicitDefEqProofs only [avm, reduceCtorEq, ↓reduceIte, sevalprocAttr, enc_Prefix, sz_Prefix, enc_Rule, sz_Rule, enc_Side, sz_Side, enc_Conf, sz_Conf])
    | (refine bd_go h fun y hy h => ?_; refine sac hy ?_; simp -implicitDefEqProofs only [avm, reduceCtorEq, ↓reduceIte, sevalprocAttr, enc_Prefix, sz_Prefix, enc_Rule, sz_Rule, enc_Side, sz_Side, enc_Conf, sz_Conf])
    | (refine bd_go h fun y hy h => ?_; refine ixc hy ?_; simp -implicitDefEqProofs only [avm, reduceCtorEq, ↓reduceIte, sevalprocAttr, enc_Prefix, sz_Prefix, enc_Rule, sz_Rule, enc_Side, sz_Side, enc_Conf, sz_Conf])
    | (refine bd_go h fun y hy h => ?_
       refine apc hy (by first | rfl | (simp -implicitDefEqProofs only [avm, reduceCtorEq, ↓reduceIte, sevalprocAttr, enc_Prefix, sz_Prefix, enc_Rule, sz_Rule, enc_Side, sz_Side, enc_Conf, sz_Conf]; done)) (by first | rfl | (simp -implicitDefEqProofs only [avm, reduceCtorEq, ↓reduceIte, sevalprocAttr, enc_Prefix, sz_Prefix, enc_Rule, sz_Rule, enc_Side, sz_Side, enc_Conf, sz_Conf]; done)) (by first | exact .inl rfl | exact .inr rfl) (by first | exact .inl rfl | exact .inr rfl) (by simp only [apTag, List.getElem?_cons_zero, List.getElem?_cons_succ, ↓reduceIte, List.set_cons_zero, List.set_cons_succ, List.nil_append, List.cons_append, List.length_nil, List.length_cons, sevalprocAttr]; rfl) ?_
       simp -implicitDefEqProofs only [avm, reduceCtorEq, ↓reduceIte, sevalprocAttr, enc_Prefix, sz_Prefix, enc_Rule, sz_Rule, enc_Side, sz_Side, enc_Conf, sz_Conf])
    | (refine bd_go h fun y hy h => ?_; (first | refine slc_max hy rfl (.inl rfl) asn_none ?_ | refine slc_max hy rfl (.inl rfl) (asn_some (by first | decide | omega)) ?_ | refine slc11 hy rfl (.inl rfl) ?_ | refine slc01 hy rfl (.inl rfl) ?_ | refine slc10 hy rfl (.inl rfl) ?_ | refine slc00 hy rfl (.inl rfl) ?_ | refine slc11 hy rfl (.inr rfl) ?_ | refine slc01 hy rfl (.inr rfl) ?_ | refine slc10 hy rfl (.inr rfl) ?_ | refine slc00 hy rfl (.inr rfl) ?_); simp -implicitDefEqProofs only [avm, reduceCtorEq, ↓reduceIte, sevalprocAttr, enc_Prefix, sz_Prefix, enc_Rule, sz_Rule, enc_Side, sz_Side, enc_Conf, sz_Conf])
    | (refine nz_go h fun hb h => ?_; simp -implicitDefEqProofs only [eq_false hb, avm, reduceCtorEq, ↓reduceIte, sevalprocAttr, enc_Prefix, sz_Prefix, enc_Rule, sz_Rule, enc_Side, sz_Side, enc_Conf, sz_Conf] at h ⊢)
    | (refine nn_go h fun hb h => ?_; simp -implicitDefEqProofs only [eq_false hb, avm, reduceCtorEq, ↓reduceIte, sevalprocAttr, enc_Prefix, sz_Prefix, enc_Rule, sz_Rule, enc_Side, sz_Side, enc_Conf, sz_Conf] at h ⊢)
    | (first | refine kn6 ⟨_, h, ?_⟩ | refine kn5 ⟨_, h, ?_⟩
       try simp -implicitDefEqProofs only [patOf, setB.eq_1, setB.eq_2, setF.eq_1, setF.eq_2, List.map_cons, List.map_nil, List.modify_zero_cons, List.modify_succ_cons, List.set_cons_zero, List.set_cons_succ, List.append_nil, List.nil_append, List.cons_append, avm, reduceCtorEq, ↓reduceIte, sevalprocAttr, enc_Prefix, sz_Prefix, enc_Rule, sz_Rule, enc_Side, sz_Side, enc_Conf, sz_Conf]
       (first
          | (refine wk_m 0 _ rfl ?_ rfl rfl ?_ ?_ ?_ ?_
             · first | exact Nat.le_refl _ | exact Nat.zero_le _ | (simp; done)
             · first | exact Nat.zero_le _ | exact Nat.le_refl _ | (simp; done)
             · first | exact Nat.zero_le _ | exact Nat.le_refl _ | (simp; done)
             all_goals (repeat' (first | exact trivial | apply And.intro))
             all_goals first | exact rfl | exact .same _ rfl | exact wka_imm | exact wka_app (by decide) | exact wka_tag (by decide) rfl | exact wka_tagn (by decide) rfl | exact wka_tagr (by decide) rfl (by simp only [pur, purL, purL_enc, Bool.and_self, Bool.and_true]) | exact wka_immn | (refine .imm _ _ _ _ (.inl rfl) (okBL_pur ?_); simp only [pur, purL, purL_enc, Bool.and_self, Bool.and_true]; done) | exact wka_tag0 (by decide) rfl | exact wka_imm0 | exact wka_pur (Enc.pure_enc _) | exact wka_pur pur_enc_sl | exact wka_pur pur_enc_fl | exact .und _ | (refine wka_pur ?_; simp only [pur, purL, purL_enc, Bool.and_self, Bool.and_true]; done) | (refine .same _ ?_; simp only [okB, okBL, okBL_enc, Bool.and_self, Bool.and_true, decide_true, sevalprocAttr]; done) | (refine .le _ _ ?_ (okB_pur ?_); (focus (repeat' (first | exact le_same _ | exact le_enc | exact le_nil | exact le_imm (.inl rfl) | exact le_imm (.inr rfl) | refine le_agg ?_ | exact trivial | apply And.intro))); (simp only [pur, purL, purL_enc, Bool.and_self, Bool.and_true]; done)))))
    | (cases h
       try simp -implicitDefEqProofs only [avm, reduceCtorEq, ↓reduceIte, sevalprocAttr, enc_Prefix, sz_Prefix, enc_Rule, sz_Rule, enc_Side, sz_Side, enc_Conf, sz_Conf]
       first | refine retLt (by first | exact .inr rfl | exact .inl rfl) (by rfl) ?_ | refine retL1 (by first | exact .inr rfl | exact .inl rfl) (by rfl) ?_
       repeat' (first | exact trivial | apply And.intro)
       all_goals first | exact .same _ rfl | exact reta_imm | exact reta_nil | (refine .imm _ _ _ ?_; simp only [pur, purL, purL_enc, Bool.and_self, Bool.and_true]; done) | exact .same _ (Enc.pure_enc _) | exact .same _ pur_enc_sl | (refine .same _ ?_; simp only [pur, purL, purL_enc, Bool.and_self, Bool.and_true]; done) | (refine .le _ _ ?_ ?_; (focus (repeat' (first | exact le_same _ | exact le_enc | exact le_nil | exact le_imm (.inl rfl) | exact le_imm (.inr rfl) | refine le_agg ?_ | exact trivial | apply And.intro))); (simp only [pur, purL, purL_enc, Bool.and_self, Bool.and_true]; done)))
    | fail)
theorem a_ridgewaylaw15_RiseLess {a0 : Conf} {a1 : Conf} {r : Bool} (h : m_ridgewaylaw15_RiseLess a0 a1 = some r) : ACt Try.prog 5 [Enc.enc a0, Enc.enc a1] (Enc.enc r) [] := by
  refine act_of p_ridgewaylaw15_RiseLess (by simp [c_ridgewaylaw15_RiseLess]) ?_
  show AW _ b_ridgewaylaw15_RiseLess (RetOk [.tmp 4] _ _) { n := 88, tm := [(0, _), (1, _)], box := [], fr := [] }
  unfold b_ridgewaylaw15_RiseLess
  unfold m_ridgewaylaw15_RiseLess at h
  try simp -implicitDefEqProofs only [avm, reduceCtorEq, ↓reduceIte, sevalprocAttr, enc_Prefix, sz_Prefix, enc_Rule, sz_Rule, enc_Side, sz_Side, enc_Conf, sz_Conf] at h
  repeat' (first
    | (refine (hκ _).mpr ?_; clear hκ)
    | refine kn1 ?_
    | refine kr1 ?_
    | refine ke1 ?_
    | refine kn2 ?_
    | refine kr2 ?_
    | refine kx2 ?_
    | refine ke2 rfl ?_
    | refine kr5 ?_
    | refine ke5 ?_
    | refine kr6 ?_
    | refine ke6 ?_
    | (refine bd_go h fun y hy h => ?_; refine aw_frzL _ hy rfl rfl (Nat.zero_le _) ?_; simp -implicitDefEqProofs only [avm, reduceCtorEq, ↓reduceIte, sevalprocAttr, enc_Prefix, sz_Prefix, enc_Rule, sz_Rule, enc_Side, sz_Side, enc_Conf, sz_Conf, List.take_succ_cons, List.take_zero])
    | refine w_seq ?_
    | refine w_block ?_
    | (refine aw_regk fun κ hκ => ?_; simp -implicitDefEqProofs only [avm, reduceCtorEq, ↓reduceIte, sevalprocAttr, enc_Prefix, sz_Prefix, enc_Rule, sz_Rule, enc_Side, sz_Side, enc_Conf, sz_Conf])
    | refine aw_exit ?_
    | refine aw_ret ?_
    | refine aw_skip ?_
    | refine aw_label ?_
    | refine condc_t ?_
    | refine condc_f ?_
    | (refine aw_cond2 (by simp -implicitDefEqProofs only [avm, reduceCtorEq, ↓reduceIte, sevalprocAttr, enc_Prefix, sz_Prefix, enc_Rule, sz_Rule, enc_Side, sz_Side, enc_Conf, sz_Conf]; rfl) ?_)
    | ((first | refine gkc_fork ?_ ?_ | refine pkc_fork ?_ ?_ | refine condc_fork ?_ ?_) <;> intro hq <;> (first | contradiction | simp -implicitDefEqProofs only [eq_false hq, Decidable.not_not, avm, reduceCtorEq, ↓reduceIte, sevalprocAttr, enc_Prefix, sz_Prefix, enc_Rule, sz_Rule, enc_Side, sz_Side, enc_Conf, sz_Conf] at h ⊢ | simp -implicitDefEqProofs only [eq_true hq, avm, reduceCtorEq, ↓reduceIte, sevalprocAttr, enc_Prefix, sz_Prefix, enc_Rule, sz_Rule, enc_Side, sz_Side, enc_Conf, sz_Conf] at h ⊢))
    | ((first | refine gkc_split ?_ ?_ | refine pkc_split ?_ ?_ | refine condc_bool ?_ ?_) <;> intro hq <;> (simp -implicitDefEqProofs only [hq, avm, reduceCtorEq, ↓reduceIte, sevalprocAttr, enc_Prefix, sz_Prefix, enc_Rule, sz_Rule, enc_Side, sz_Side, enc_Conf, sz_Conf] at h ⊢))
    | (refine bd_go h fun y hy h => ?_; refine apn hy ?_; simp -implicitDefEqProofs only [avm, reduceCtorEq, ↓reduceIte, sevalprocAttr, enc_Prefix, sz_Prefix, enc_Rule, sz_Rule, enc_Side, sz_Side, enc_Conf, sz_Conf])
    | (refine ap_emp hq ?_; simp -implicitDefEqProofs only [avm, reduceCtorEq, ↓reduceIte, sevalprocAttr, enc_Prefix, sz_Prefix, enc_Rule, sz_Rule, enc_Side, sz_Side, enc_Conf, sz_Conf])
    | (refine bd_go h fun y hy h => ?_; refine ixb hy rfl ?_; simp -implicitDefEqProofs only [avm, reduceCtorEq, ↓reduceIte, sevalprocAttr, enc_Prefix, sz_Prefix, enc_Rule, sz_Rule, enc_Side, sz_Side, enc_Conf, sz_Conf])
    | ((first | refine qld_one (k := 0) (by assumption) rfl (by first | rfl | omega) rfl ?_ | refine qld_one (by assumption) rfl rfl rfl ?_); simp -implicitDefEqProofs only [avm, reduceCtorEq, ↓reduceIte, sevalprocAttr, enc_Prefix, sz_Prefix, enc_Rule, sz_Rule, enc_Side, sz_Side, enc_Conf, sz_Conf])
    | ((first | refine qld_all (k := 0) (by assumption) rfl (by first | rfl | omega) (by first | (simp; done) | decide) ?_ | refine qld_all (by assumption) rfl rfl (by first | (simp; done) | decide) ?_); simp -implicitDefEqProofs only [avm, reduceCtorEq, ↓reduceIte, sevalprocAttr, enc_Prefix, sz_Prefix, enc_Rule, sz_Rule, enc_Side, sz_Side, enc_Conf, sz_Conf])
    | (refine bd_go h fun y hy h => ?_; (first | refine stbL (k := 0) hy (by assumption) rfl rfl rfl (by first | rfl | omega) (by rfl) rfl (by first | exact le_same _ | exact le_enc | exact le_nil | exact le_imm (.inl rfl) | exact le_imm (.inr rfl)) (by rfl) (Nat.le_of_ble_eq_true rfl) (by rfl) ?_ | refine stbL hy (by assumption) rfl rfl rfl rfl (by rfl) rfl (by first | exact le_same _ | exact le_enc | exact le_nil | exact le_imm (.inl rfl) | exact le_imm (.inr rfl)) (by rfl) (Nat.le_of_ble_eq_true rfl) (by rfl) ?_ | refine stb (k := 0) hy (by assumption) rfl rfl rfl rfl (by first | rfl | omega) rfl (by first | (simp; done) | decide) (by first | rfl | (simp -implicitDefEqProofs only [putCells.eq_1, avm, reduceCtorEq, ↓reduceIte, sevalprocAttr, enc_Prefix, sz_Prefix, enc_Rule, sz_Rule, enc_Side, sz_Side, enc_Conf, sz_Conf]; done)) ?_ | refine stb hy (by assumption) rfl rfl rfl rfl rfl rfl (by first | (simp; done) | decide) (by first | rfl | (simp -implicitDefEqProofs only [putCells.eq_1, avm, reduceCtorEq, ↓reduceIte, sevalprocAttr, enc_Prefix, sz_Prefix, enc_Rule, sz_Rule, enc_Side, sz_Side, enc_Conf, sz_Conf]; done)) ?_ | fail); have hl := up_len hy; simp -implicitDefEqProofs only [hl, avm, reduceCtorEq, ↓reduceIte, sevalprocAttr, enc_Prefix, sz_Prefix, enc_Rule, sz_Rule, enc_Side, sz_Side, enc_Conf, sz_Conf] at h ⊢)
    | (refine stc_plain rfl ?_; simp -implicitDefEqProofs only [putCells.eq_1, avm, reduceCtorEq, ↓reduceIte, sevalprocAttr, enc_Prefix, sz_Prefix, enc_Rule, sz_Rule, enc_Side, sz_Side, enc_Conf, sz_Conf])
    | (refine bd_go h fun y hy h => ?_; refine isc hy ?_; simp -implicitDefEqProofs only [avm, reduceCtorEq, ↓reduceIte, sevalprocAttr, enc_Prefix, sz_Prefix, enc_Rule, sz_Rule, enc_Side, sz_Side, enc_Conf, sz_Conf])
    | (refine bd_go h fun y hy h => ?_; (first | refine ssc hy (asn_some (by first | decide | omega)) (asn_some (by first | decide | omega)) ?_ | refine ssc hy asn_none (asn_some (by first | decide | omega)) ?_ | refine ssc hy asn_none asl_none ?_ | refine ssc hy (asn_some (by first | decide | omega)) asl_none ?_ | refine ssc hy (asn_some (sl_get hy).1.1) asl_none ?_ | refine ssc hy asn_none (asn_some (sl_get hy).1.2.1) ?_ | refine ssc hy (asn_some (sl_get hy).1.1) (asn_some (Int.le_trans (sl_get hy).1.1 (sl_get hy).1.2.1)) ?_); simp -implicitDefEqProofs only [avm, reduceCtorEq, ↓reduceIte, sevalprocAttr, enc_Prefix, sz_Prefix, enc_Rule, sz_Rule, enc_Side, sz_Side, enc_Conf, sz_Conf])
    | (refine bd_go h fun y hy h => ?_; refine sac hy ?_; simp -implicitDefEqProofs only [avm, reduceCtorEq, ↓reduceIte, sevalprocAttr, enc_Prefix, sz_Prefix, enc_Rule, sz_Rule, enc_Side, sz_Side, enc_Conf, sz_Conf])
    | (refine bd_go h fun y hy h => ?_; refine ixc hy ?_; simp -implicitDefEqProofs only [avm, reduceCtorEq, ↓reduceIte, sevalprocAttr, enc_Prefix, sz_Prefix, enc_Rule, sz_Rule, enc_Side, sz_Side, enc_Conf, sz_Conf])
    | (refine bd_go h fun y hy h => ?_
       refine apc hy (by first | rfl | (simp -implicitDefEqProofs only [avm, reduceCtorEq, ↓reduceIte, sevalprocAttr, enc_Prefix, sz_Prefix, enc_Rule, sz_Rule, enc_Side, sz_Side, enc_Conf, sz_Conf]; done)) (by first | rfl | (simp -implicitDefEqProofs only [avm, reduceCtorEq, ↓reduceIte, sevalprocAttr, enc_Prefix, sz_Prefix, enc_Rule, sz_Rule, enc_Side, sz_Side, enc_Conf, sz_Conf]; done)) (by first | exact .inl rfl | exact .inr rfl) (by first | exact .inl rfl | exact .inr rfl) (by simp only [apTag, List.getElem?_cons_zero, List.getElem?_cons_succ, ↓reduceIte, List.set_cons_zero, List.set_cons_succ, List.nil_append, List.cons_append, List.length_nil, List.length_cons, sevalprocAttr]; rfl) ?_
       simp -implicitDefEqProofs only [avm, reduceCtorEq, ↓reduceIte, sevalprocAttr, enc_Prefix, sz_Prefix, enc_Rule, sz_Rule, enc_Side, sz_Side, enc_Conf, sz_Conf])
    | (refine bd_go h fun y hy h => ?_; (first | refine slc_max hy rfl (.inl rfl) asn_none ?_ | refine slc_max hy rfl (.inl rfl) (asn_some (by first | decide | omega)) ?_ | refine slc11 hy rfl (.inl rfl) ?_ | refine slc01 hy rfl (.inl rfl) ?_ | refine slc10 hy rfl (.inl rfl) ?_ | refine slc00 hy rfl (.inl rfl) ?_ | refine slc11 hy rfl (.inr rfl) ?_ | refine slc01 hy rfl (.inr rfl) ?_ | refine slc10 hy rfl (.inr rfl) ?_ | refine slc00 hy rfl (.inr rfl) ?_); simp -implicitDefEqProofs only [avm, reduceCtorEq, ↓reduceIte, sevalprocAttr, enc_Prefix, sz_Prefix, enc_Rule, sz_Rule, enc_Side, sz_Side, enc_Conf, sz_Conf])
    | (refine bd_go h fun y hy h => ?_
       first | refine callsc (a_ridgewaylaw15_awake hy) ?_ ?_ | refine callc (a_ridgewaylaw15_awake hy) ?_ ?_ | ((first | refine callsc (act_le (a_ridgewaylaw15_awake hy) ?_) ?_ ?_ | refine callc (act_le (a_ridgewaylaw15_awake hy) ?_) ?_ ?_); (focus (repeat' (first | exact trivial | exact le_same _ | exact le_enc | exact le_nil | exact le_imm (.inl rfl) | exact le_imm (.inr rfl) | (refine le_agg ?_) | apply And.intro))))
       focus (first | rfl | (simp only [purL, pur, purL_enc, Enc.pure_enc, Bool.and_self, Bool.and_true]; done))
       simp -implicitDefEqProofs only [avm, reduceCtorEq, ↓reduceIte, sevalprocAttr, enc_Prefix, sz_Prefix, enc_Rule, sz_Rule, enc_Side, sz_Side, enc_Conf, sz_Conf])
    | (refine bd_go h fun y hy h => ?_
       first | refine callsc (a_ridgewayref12_Few hy) ?_ ?_ | refine callc (a_ridgewayref12_Few hy) ?_ ?_ | ((first | refine callsc (act_le (a_ridgewayref12_Few hy) ?_) ?_ ?_ | refine callc (act_le (a_ridgewayref12_Few hy) ?_) ?_ ?_); (focus (repeat' (first | exact trivial | exact le_same _ | exact le_enc | exact le_nil | exact le_imm (.inl rfl) | exact le_imm (.inr rfl) | (refine le_agg ?_) | apply And.intro))))
       focus (first | rfl | (simp only [purL, pur, purL_enc, Enc.pure_enc, Bool.and_self, Bool.and_true]; done))
       simp -implicitDefEqProofs only [avm, reduceCtorEq, ↓reduceIte, sevalprocAttr, enc_Prefix, sz_Prefix, enc_Rule, sz_Rule, enc_Side, sz_Side, enc_Conf, sz_Conf])
    | (refine bd_go h fun y hy h => ?_
       first | refine callsc (a_rise_Rises hy) ?_ ?_ | refine callc (a_rise_Rises hy) ?_ ?_ | ((first | refine callsc (act_le (a_rise_Rises hy) ?_) ?_ ?_ | refine callc (act_le (a_rise_Rises hy) ?_) ?_ ?_); (focus (repeat' (first | exact trivial | exact le_same _ | exact le_enc | exact le_nil | exact le_imm (.inl rfl) | exact le_imm (.inr rfl) | (refine le_agg ?_) | apply And.intro))))
       focus (first | rfl | (simp only [purL, pur, purL_enc, Enc.pure_enc, Bool.and_self, Bool.and_true]; done))
       simp -implicitDefEqProofs only [avm, reduceCtorEq, ↓reduceIte, sevalprocAttr, enc_Prefix, sz_Prefix, enc_Rule, sz_Rule, enc_Side, sz_Side, enc_Conf, sz_Conf])
    | (refine bd_go h fun y hy h => ?_
       first | refine callsc (a_rise_Side hy) ?_ ?_ | refine callc (a_rise_Side hy) ?_ ?_ | ((first | refine callsc (act_le (a_rise_Side hy) ?_) ?_ ?_ | refine callc (act_le (a_rise_Side hy) ?_) ?_ ?_); (focus (repeat' (first | exact trivial | exact le_same _ | exact le_enc | exact le_nil | exact le_imm (.inl rfl) | exact le_imm (.inr rfl) | (refine le_agg ?_) | apply And.intro))))
       focus (first | rfl | (simp only [purL, pur, purL_enc, Enc.pure_enc, Bool.and_self, Bool.and_true]; done))
       simp -implicitDefEqProofs only [avm, reduceCtorEq, ↓reduceIte, sevalprocAttr, enc_Prefix, sz_Prefix, enc_Rule, sz_Rule, enc_Side, sz_Side, enc_Conf, sz_Conf])
    | (refine nz_go h fun hb h => ?_; simp -implicitDefEqProofs only [eq_false hb, avm, reduceCtorEq, ↓reduceIte, sevalprocAttr, enc_Prefix, sz_Prefix, enc_Rule, sz_Rule, enc_Side, sz_Side, enc_Conf, sz_Conf] at h ⊢)
    | (refine nn_go h fun hb h => ?_; simp -implicitDefEqProofs only [eq_false hb, avm, reduceCtorEq, ↓reduceIte, sevalprocAttr, enc_Prefix, sz_Prefix, enc_Rule, sz_Rule, enc_Side, sz_Side, enc_Conf, sz_Conf] at h ⊢)
    | (cases h
       try simp -implicitDefEqProofs only [avm, reduceCtorEq, ↓reduceIte, sevalprocAttr, enc_Prefix, sz_Prefix, enc_Rule, sz_Rule, enc_Side, sz_Side, enc_Conf, sz_Conf]
       first | refine retLt (by first | exact .inr rfl | exact .inl rfl) (by rfl) ?_ | refine retL1 (by first | exact .inr rfl | exact .inl rfl) (by rfl) ?_
       repeat' (first | exact trivial | apply And.intro)
       all_goals first | exact .same _ rfl | exact reta_imm | exact reta_nil | (refine .imm _ _ _ ?_; simp only [pur, purL, purL_enc, Bool.and_self, Bool.and_true]; done) | exact .same _ (Enc.pure_enc _) | exact .same _ pur_enc_sl | (refine .same _ ?_; simp only [pur, purL, purL_enc, Bool.and_self, Bool.and_true]; done) | (refine .le _ _ ?_ ?_; (focus (repeat' (first | exact le_same _ | exact le_enc | exact le_nil | exact le_imm (.inl rfl) | exact le_imm (.inr rfl) | refine le_agg ?_ | exact trivial | apply And.intro))); (simp only [pur, purL, purL_enc, Bool.and_self, Bool.and_true]; done)))
    | (cases h; done)
    | ((refine sw_fork h (fun hq h => ?_) (fun hq h => ?_)) <;> (first | contradiction | simp -implicitDefEqProofs only [eq_false hq, Decidable.not_not, avm, reduceCtorEq, ↓reduceIte, sevalprocAttr, enc_Prefix, sz_Prefix, enc_Rule, sz_Rule, enc_Side, sz_Side, enc_Conf, sz_Conf] at h ⊢ | simp -implicitDefEqProofs only [hq, avm, reduceCtorEq, ↓reduceIte, sevalprocAttr, enc_Prefix, sz_Prefix, enc_Rule, sz_Rule, enc_Side, sz_Side, enc_Conf, sz_Conf] at h ⊢ | skip))
    | fail)
end Go.Proofs.Ytpclfdndjillnaa
