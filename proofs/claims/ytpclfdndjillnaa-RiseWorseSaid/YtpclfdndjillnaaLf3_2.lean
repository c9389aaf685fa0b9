/- Functions compute what their models do. -/
import Derived.Test.YtpclfdndjillnaaLfa
import Derived.Test.YtpclfdndjillnaaAcf3
import Derived.Test.YtpclfdndjillnaaMf3
import Derived.Test.YtpclfdndjillnaaLf3
namespace Go.Proofs.Ytpclfdndjillnaa
open Go.RowKit
set_option maxHeartbeats 8000000
set_option maxRecDepth 100000
set_option linter.unusedSimpArgs false
set_option linter.unusedVariables false
theorem a_ridgewaylaw15_awake {r : Bool} (h : m_ridgewaylaw15_awake = some r) : ACt Try.prog 14 [] (Enc.enc r) [] := by
  refine act_of p_ridgewaylaw15_awake (by simp [c_ridgewaylaw15_awake]) ?_
  show AW _ b_ridgewaylaw15_awake (RetOk [.tmp 0] _ _) { n := 63, tm := [], box := [], fr := [] }
  unfold b_ridgewaylaw15_awake
  unfold m_ridgewaylaw15_awake at h
  try simp -implicitDefEqProofs only [avm, reduceCtorEq, ↓reduceIte, sevalprocAttr, encs] at h
  repeat' (first
    | (refine (hκ _).mpr ?_; clear hκ)
    | refine kn1 ?_
    | refine kr1 ?_
    | refine ke1 ?_
    | refine kn2 ?_
    | refine kr2 ?_
    | refine kx2 ?_
    | refine ke2 rfl ?_
    | refine kr5 ?_
    | refine ke5 ?_
    | refine kr6 ?_
    | refine ke6 ?_
    | refine w_seq ?_
    | refine w_block ?_
    | refine w_scope ?_
    | refine kn7 ?_
    | refine kr7 ?_
    | refine ke7 ?_
    | (refine aw_regk fun κ hκ => ?_; simp -implicitDefEqProofs only [avm, reduceCtorEq, ↓reduceIte, sevalprocAttr, encs])
    | refine aw_exit ?_
    | refine aw_ret ?_
    | refine aw_skip ?_
    | refine aw_label ?_
    | refine condc_t ?_
    | refine condc_f ?_
    | (refine aw_cond2 (by simp -implicitDefEqProofs only [avm, reduceCtorEq, ↓reduceIte, sevalprocAttr, encs]; rfl) ?_)
    | ((first | refine gkc_fork ?_ ?_ | refine pkc_fork ?_ ?_ | refine condc_fork ?_ ?_) <;> intro hq <;> (first | contradiction | simp -implicitDefEqProofs only [eq_false hq, Decidable.not_not, avm, reduceCtorEq, ↓reduceIte, sevalprocAttr, encs] at h ⊢ | simp -implicitDefEqProofs only [eq_true hq, avm, reduceCtorEq, ↓reduceIte, sevalprocAttr, encs] at h ⊢))
    | ((first | refine gkc_split ?_ ?_ | refine pkc_split ?_ ?_ | refine condc_bool ?_ ?_) <;> intro hq <;> (first | exact bcontra (by assumption) hq | exact bcontra hq (by assumption) | simp -implicitDefEqProofs only [hq, avm, reduceCtorEq, ↓reduceIte, sevalprocAttr, encs] at h ⊢))
    | (refine stc_plain rfl ?_; simp -implicitDefEqProofs only [putCells.eq_1, avm, reduceCtorEq, ↓reduceIte, sevalprocAttr, encs])
    | (refine bd_go h fun y hy h => ?_
       first | refine callsc (a_ridgewaylaw15_node hy) ?_ ?_ | refine callc (a_ridgewaylaw15_node hy) ?_ ?_ | ((first | refine callsc (act_le (a_ridgewaylaw15_node hy) ?_) ?_ ?_ | refine callc (act_le (a_ridgewaylaw15_node hy) ?_) ?_ ?_); (focus (repeat' (first | exact trivial | exact le_same _ | exact le_enc | exact le_nil | exact le_imm (.inl rfl) | exact le_imm (.inr rfl) | (refine le_agg ?_) | apply And.intro | (refine le_eq ?_; simp only [*]; done)))))
       focus (first | rfl | (simp only [purL, pur, purL_enc, Enc.pure_enc, Bool.and_self, Bool.and_true]; done))
       simp -implicitDefEqProofs only [avm, reduceCtorEq, ↓reduceIte, sevalprocAttr, encs])
    | (refine bd_go h fun y hy h => ?_
       first | refine callsc (a_rise_Low hy) ?_ ?_ | refine callc (a_rise_Low hy) ?_ ?_ | ((first | refine callsc (act_le (a_rise_Low hy) ?_) ?_ ?_ | refine callc (act_le (a_rise_Low hy) ?_) ?_ ?_); (focus (repeat' (first | exact trivial | exact le_same _ | exact le_enc | exact le_nil | exact le_imm (.inl rfl) | exact le_imm (.inr rfl) | (refine le_agg ?_) | apply And.intro | (refine le_eq ?_; simp only [*]; done)))))
       focus (first | rfl | (simp only [purL, pur, purL_enc, Enc.pure_enc, Bool.and_self, Bool.and_true]; done))
       simp -implicitDefEqProofs only [avm, reduceCtorEq, ↓reduceIte, sevalprocAttr, encs])
    | (refine bd_go h fun y hy h => ?_
       first | refine callsc (a_rise_High hy) ?_ ?_ | refine callc (a_rise_High hy) ?_ ?_ | ((first | refine callsc (act_le (a_rise_High hy) ?_) ?_ ?_ | refine callc (act_le (a_rise_High hy) ?_) ?_ ?_); (focus (repeat' (first | exact trivial | exact le_same _ | exact le_enc | exact le_nil | exact le_imm (.inl rfl) | exact le_imm (.inr rfl) | (refine le_agg ?_) | apply And.intro | (refine le_eq ?_; simp only [*]; done)))))
       focus (first | rfl | (simp only [purL, pur, purL_enc, Enc.pure_enc, Bool.and_self, Bool.and_true]; done))
       simp -implicitDefEqProofs only [avm, reduceCtorEq, ↓reduceIte, sevalprocAttr, encs])
    | (refine bd_go h fun y hy h => ?_
       first | refine callsc (a_rise_Side hy) ?_ ?_ | refine callc (a_rise_Side hy) ?_ ?_ | ((first | refine callsc (act_le (a_rise_Side hy) ?_) ?_ ?_ | refine callc (act_le (a_rise_Side hy) ?_) ?_ ?_); (focus (repeat' (first | exact trivial | exact le_same _ | exact le_enc | exact le_nil | exact le_imm (.inl rfl) | exact le_imm (.inr rfl) | (refine le_agg ?_) | apply And.intro | (refine le_eq ?_; simp only [*]; done)))))
       focus (first | rfl | (simp only [purL, pur, purL_enc, Enc.pure_enc, Bool.and_self, Bool.and_true]; done))
       simp -implicitDefEqProofs only [avm, reduceCtorEq, ↓reduceIte, sevalprocAttr, encs])
    | (refine bd_go h fun y hy h => ?_
       first | refine callsc (a_rise_Rises hy) ?_ ?_ | refine callc (a_rise_Rises hy) ?_ ?_ | ((first | refine callsc (act_le (a_rise_Rises hy) ?_) ?_ ?_ | refine callc (act_le (a_rise_Rises hy) ?_) ?_ ?_); (focus (repeat' (first | exact trivial | exact le_same _ | exact le_enc | exact le_nil | exact le_imm (.inl rfl) | exact le_imm (.inr rfl) | (refine le_agg ?_) | apply And.intro | (refine le_eq ?_; simp only [*]; done)))))
       focus (first | rfl | (simp only [purL, pur, purL_enc, Enc.pure_enc, Bool.and_self, Bool.and_true]; done))
       simp -implicitDefEqProofs only [avm, reduceCtorEq, ↓reduceIte, sevalprocAttr, encs])
    | (refine bd_go h fun y hy h => ?_
       first | refine callsc (a_rise_Tells hy) ?_ ?_ | refine callc (a_rise_Tells hy) ?_ ?_ | ((first | refine callsc (act_le (a_rise_Tells hy) ?_) ?_ ?_ | refine callc (act_le (a_rise_Tells hy) ?_) ?_ ?_); (focus (repeat' (first | exact trivial | exact le_same _ | exact le_enc | exact le_nil | exact le_imm (.inl rfl) | exact le_imm (.inr rfl) | (refine le_agg ?_) | apply And.intro | (refine le_eq ?_; simp only [*]; done)))))
       focus (first | rfl | (simp only [purL, pur, purL_enc, Enc.pure_enc, Bool.and_self, Bool.and_true]; done))
       simp -implicitDefEqProofs only [avm, reduceCtorEq, ↓reduceIte, sevalprocAttr, encs])
    | (cases h
       try simp -implicitDefEqProofs only [avm, reduceCtorEq, ↓reduceIte, sevalprocAttr, encs]
       first | refine retLt (by first | exact .inr rfl | exact .inl rfl) (by rfl) ?_ | refine retL1 (by first | exact .inr rfl | exact .inl rfl) (by rfl) ?_
       repeat' (first | exact trivial | apply And.intro)
       all_goals first | exact .same _ rfl | exact reta_imm | exact reta_nil | (refine .imm _ _ _ ?_; simp only [pur, purL, purL_enc, Bool.and_self, Bool.and_true]; done) | exact .same _ (Enc.pure_enc _) | exact .same _ pur_enc_sl | exact .same _ pur_enc_fl | (refine .same _ ?_; simp only [pur, purL, purL_enc, Bool.and_self, Bool.and_true]; done) | (refine .le _ _ ?_ ?_; (focus (repeat' (first | exact le_same _ | exact le_enc | exact le_nil | exact le_imm (.inl rfl) | exact le_imm (.inr rfl) | refine le_agg ?_ | exact trivial | apply And.intro))); (simp only [pur, purL, purL_enc, Bool.and_self, Bool.and_true]; done)))
    | fail)
theorem a_ridgewayref12_Few {a0 : Conf} {r : Bool} (h : m_ridgewayref12_Few a0 = some r) : ACt Try.prog 15 [Enc.enc a0] (Enc.enc r) [] := by
  refine act_of p_ridgewayref12_Few (by simp [c_ridgewayref12_Few]) ?_
  show AW _ b_ridgewayref12_Few (RetOk [.tmp 2] _ _) { n := 39, tm := [(0, _)], box := [], fr := [] }
  unfold b_ridgewayref12_Few
  unfold m_ridgewayref12_Few at h
  try simp -implicitDefEqProofs only [avm, reduceCtorEq, ↓reduceIte, sevalprocAttr, encs] at h
  repeat' (first
    | (refine (hκ _).mpr ?_; clear hκ)
    | refine kn1 ?_
    | refine kr1 ?_
    | refine ke1 ?_
    | refine kn2 ?_
    | refine kr2 ?_
    | refine kx2 ?_
    | refine ke2 rfl ?_
    | refine kr5 ?_
    | refine ke5 ?_
    | refine kr6 ?_
    | refine ke6 ?_
    | (refine w_loopm [1] (fun (j : (Int)) => [(3, (.int .i64 j))]) (fun (j : (Int)) => []) (fun (j : (Int)) => []) (fun (j : (Int)) => []) (show loopC (s_ridgewayref12_Few1 _) _ BIG _ = some _ from h) ?_ ?_
       · try simp -implicitDefEqProofs only [pats, avm, reduceCtorEq, ↓reduceIte, sevalprocAttr, encs]
         (first
          | (refine wk_m 0 _ rfl ?_ rfl rfl ?_ ?_ ?_ ?_
             · first | exact Nat.le_refl _ | exact Nat.zero_le _ | (simp; done)
             · first | exact Nat.zero_le _ | exact Nat.le_refl _ | (simp; done)
             · first | exact Nat.zero_le _ | exact Nat.le_refl _ | (simp; done)
             all_goals (repeat' (first | exact trivial | apply And.intro))
             all_goals first | exact rfl | exact wkc_kv | exact wkc_FL | exact wka_full | exact wka_full0 | exact .same _ rfl | exact wka_imm | exact wka_app (by decide) | exact wka_tag (by decide) rfl | exact wka_tagn (by decide) rfl | exact wka_tagr (by decide) rfl (by simp only [pur, purL, purL_enc, Bool.and_self, Bool.and_true]) | exact wka_immn | (refine .imm _ _ _ _ (.inl rfl) (okBL_pur ?_); simp only [pur, purL, purL_enc, Bool.and_self, Bool.and_true]; done) | exact wka_tag0 (by decide) rfl | exact wka_imm0 | exact wka_pur (Enc.pure_enc _) | exact wka_pur pur_enc_sl | exact wka_pur pur_enc_fl | exact .und _ | (refine wka_pur ?_; simp only [pur, purL, purL_enc, Bool.and_self, Bool.and_true]; done) | (refine .same _ ?_; simp only [okB, okBL, okBL_enc, Bool.and_self, Bool.and_true, decide_true, sevalprocAttr]; done) | (refine .le _ _ ?_ (okB_pur ?_); (focus (repeat' (first | exact le_same _ | exact le_enc | exact le_nil | exact le_imm (.inl rfl) | exact le_imm (.inr rfl) | refine le_agg ?_ | exact trivial | apply And.intro))); (simp only [pur, purL, purL_enc, Bool.and_self, Bool.and_true]; done))))
       clear h
       intro n st h
       simp -implicitDefEqProofs only [s_ridgewayref12_Few1.eq_1, pats, avm, reduceCtorEq, ↓reduceIte, sevalprocAttr, encs] at h ⊢)
    | refine w_seq ?_
    | refine w_block ?_
    | refine w_scope ?_
    | refine kn7 ?_
    | refine kr7 ?_
    | refine ke7 ?_
    | (refine aw_regk fun κ hκ => ?_; simp -implicitDefEqProofs only [avm, reduceCtorEq, ↓reduceIte, sevalprocAttr, encs])
    | refine aw_exit ?_
    | refine aw_ret ?_
    | refine aw_skip ?_
    | refine aw_label ?_
    | refine condc_t ?_
    | refine condc_f ?_
    | (refine aw_cond2 (by simp -implicitDefEqProofs only [avm, reduceCtorEq, ↓reduceIte, sevalprocAttr, encs]; rfl) ?_)
    | ((first | refine gkc_fork ?_ ?_ | refine pkc_fork ?_ ?_ | refine condc_fork ?_ ?_) <;> intro hq <;> (first | contradiction | simp -implicitDefEqProofs only [eq_false hq, Decidable.not_not, avm, reduceCtorEq, ↓reduceIte, sevalprocAttr, encs] at h ⊢ | simp -implicitDefEqProofs only [eq_true hq, avm, reduceCtorEq, ↓reduceIte, sevalprocAttr, encs] at h ⊢))
    | ((first | refine gkc_split ?_ ?_ | refine pkc_split ?_ ?_ | refine condc_bool ?_ ?_) <;> intro hq <;> (first | exact bcontra (by assumption) hq | exact bcontra hq (by assumption) | simp -implicitDefEqProofs only [hq, avm, reduceCtorEq, ↓reduceIte, sevalprocAttr, encs] at h ⊢))
    | (refine bd_go h fun y hy h => ?_; refine ixc hy ?_; simp -implicitDefEqProofs only [avm, reduceCtorEq, ↓reduceIte, sevalprocAttr, encs])
    | (first | refine kn6 ⟨_, h, ?_⟩ | refine kn5 ⟨_, h, ?_⟩
       try simp -implicitDefEqProofs only [pats, avm, reduceCtorEq, ↓reduceIte, sevalprocAttr, encs]
       (first
          | (refine wk_m 0 _ rfl ?_ rfl rfl ?_ ?_ ?_ ?_
             · first | exact Nat.le_refl _ | exact Nat.zero_le _ | (simp; done)
             · first | exact Nat.zero_le _ | exact Nat.le_refl _ | (simp; done)
             · first | exact Nat.zero_le _ | exact Nat.le_refl _ | (simp; done)
             all_goals (repeat' (first | exact trivial | apply And.intro))
             all_goals first | exact rfl | exact wkc_kv | exact wkc_FL | exact wka_full | exact wka_full0 | exact .same _ rfl | exact wka_imm | exact wka_app (by decide) | exact wka_tag (by decide) rfl | exact wka_tagn (by decide) rfl | exact wka_tagr (by decide) rfl (by simp only [pur, purL, purL_enc, Bool.and_self, Bool.and_true]) | exact wka_immn | (refine .imm _ _ _ _ (.inl rfl) (okBL_pur ?_); simp only [pur, purL, purL_enc, Bool.and_self, Bool.and_true]; done) | exact wka_tag0 (by decide) rfl | exact wka_imm0 | exact wka_pur (Enc.pure_enc _) | exact wka_pur pur_enc_sl | exact wka_pur pur_enc_fl | exact .und _ | (refine wka_pur ?_; simp only [pur, purL, purL_enc, Bool.and_self, Bool.and_true]; done) | (refine .same _ ?_; simp only [okB, okBL, okBL_enc, Bool.and_self, Bool.and_true, decide_true, sevalprocAttr]; done) | (refine .le _ _ ?_ (okB_pur ?_); (focus (repeat' (first | exact le_same _ | exact le_enc | exact le_nil | exact le_imm (.inl rfl) | exact le_imm (.inr rfl) | refine le_agg ?_ | exact trivial | apply And.intro))); (simp only [pur, purL, purL_enc, Bool.and_self, Bool.and_true]; done)))))
    | (first | refine kn6 ⟨_, h, ?_⟩ | refine kn5 ⟨_, h, ?_⟩
       try simp -implicitDefEqProofs only [*, pats, avm, reduceCtorEq, ↓reduceIte, sevalprocAttr, encs]
       (first
          | (refine wk_m 0 _ rfl ?_ rfl rfl ?_ ?_ ?_ ?_
             · first | exact Nat.le_refl _ | exact Nat.zero_le _ | (simp; done)
             · first | exact Nat.zero_le _ | exact Nat.le_refl _ | (simp; done)
             · first | exact Nat.zero_le _ | exact Nat.le_refl _ | (simp; done)
             all_goals (repeat' (first | exact trivial | apply And.intro))
             all_goals first | exact rfl | exact wkc_kv | exact wkc_FL | exact wka_full | exact wka_full0 | exact .same _ rfl | exact wka_imm | exact wka_app (by decide) | exact wka_tag (by decide) rfl | exact wka_tagn (by decide) rfl | exact wka_tagr (by decide) rfl (by simp only [pur, purL, purL_enc, Bool.and_self, Bool.and_true]) | exact wka_immn | (refine .imm _ _ _ _ (.inl rfl) (okBL_pur ?_); simp only [pur, purL, purL_enc, Bool.and_self, Bool.and_true]; done) | exact wka_tag0 (by decide) rfl | exact wka_imm0 | exact wka_pur (Enc.pure_enc _) | exact wka_pur pur_enc_sl | exact wka_pur pur_enc_fl | exact .und _ | (refine wka_pur ?_; simp only [pur, purL, purL_enc, Bool.and_self, Bool.and_true]; done) | (refine .same _ ?_; simp only [okB, okBL, okBL_enc, Bool.and_self, Bool.and_true, decide_true, sevalprocAttr]; done) | (refine .le _ _ ?_ (okB_pur ?_); (focus (repeat' (first | exact le_same _ | exact le_enc | exact le_nil | exact le_imm (.inl rfl) | exact le_imm (.inr rfl) | refine le_agg ?_ | exact trivial | apply And.intro))); (simp only [pur, purL, purL_enc, Bool.and_self, Bool.and_true]; done)))))
    | (cases h
       try simp -implicitDefEqProofs only [avm, reduceCtorEq, ↓reduceIte, sevalprocAttr, encs]
       first | refine retLt (by first | exact .inr rfl | exact .inl rfl) (by rfl) ?_ | refine retL1 (by first | exact .inr rfl | exact .inl rfl) (by rfl) ?_
       repeat' (first | exact trivial | apply And.intro)
       all_goals first | exact .same _ rfl | exact reta_imm | exact reta_nil | (refine .imm _ _ _ ?_; simp only [pur, purL, purL_enc, Bool.and_self, Bool.and_true]; done) | exact .same _ (Enc.pure_enc _) | exact .same _ pur_enc_sl | exact .same _ pur_enc_fl | (refine .same _ ?_; simp only [pur, purL, purL_enc, Bool.and_self, Bool.and_true]; done) | (refine .le _ _ ?_ ?_; (focus (repeat' (first | exact le_same _ | exact le_enc | exact le_nil | exact le_imm (.inl rfl) | exact le_imm (.inr rfl) | refine le_agg ?_ | exact trivial | apply And.intro))); (simp only [pur, purL, purL_enc, Bool.and_self, Bool.and_true]; done)))
    | fail)
theorem a_edge_at {a0 : Conf} {a1 : Int} {a2 : Prefix} {r : Bool} (h : m_edge_at a0 a1 a2 = some r) : ACt Try.prog 42 [Enc.enc a0, Enc.enc a1, Enc.enc a2] (Enc.enc r) [] := by
  refine act_of p_edge_at (by simp [c_edge_at]) ?_
  show AW _ b_edge_at (RetOk [.tmp 6] _ _) { n := 24, tm := [(0, _), (1, _), (2, _)], box := [], fr := [] }
  unfold b_edge_at
  unfold m_edge_at at h
  try simp -implicitDefEqProofs only [avm, reduceCtorEq, ↓reduceIte, sevalprocAttr, encs] at h
  repeat' (first
    | (refine (hκ _).mpr ?_; clear hκ)
    | refine kn1 ?_
    | refine kr1 ?_
    | refine ke1 ?_
    | refine kn2 ?_
    | refine kr2 ?_
    | refine kx2 ?_
    | refine ke2 rfl ?_
    | refine kr5 ?_
    | refine ke5 ?_
    | refine kr6 ?_
    | refine ke6 ?_
    | refine w_seq ?_
    | refine w_block ?_
    | refine w_scope ?_
    | refine kn7 ?_
    | refine kr7 ?_
    | refine ke7 ?_
    | (refine aw_regk fun κ hκ => ?_; simp -implicitDefEqProofs only [avm, reduceCtorEq, ↓reduceIte, sevalprocAttr, encs])
    | refine aw_exit ?_
    | refine aw_ret ?_
    | refine aw_skip ?_
    | refine aw_label ?_
    | refine condc_t ?_
    | refine condc_f ?_
    | (refine aw_cond2 (by simp -implicitDefEqProofs only [avm, reduceCtorEq, ↓reduceIte, sevalprocAttr, encs]; rfl) ?_)
    | ((first | refine gkc_fork ?_ ?_ | refine pkc_fork ?_ ?_ | refine condc_fork ?_ ?_) <;> intro hq <;> (first | contradiction | simp -implicitDefEqProofs only [eq_false hq, Decidable.not_not, avm, reduceCtorEq, ↓reduceIte, sevalprocAttr, encs] at h ⊢ | simp -implicitDefEqProofs only [eq_true hq, avm, reduceCtorEq, ↓reduceIte, sevalprocAttr, encs] at h ⊢))
    | ((first | refine gkc_split ?_ ?_ | refine pkc_split ?_ ?_ | refine condc_bool ?_ ?_) <;> intro hq <;> (first | exact bcontra (by assumption) hq | exact bcontra hq (by assumption) | simp -implicitDefEqProofs only [hq, avm, reduceCtorEq, ↓reduceIte, sevalprocAttr, encs] at h ⊢))
    | (refine bd_go h fun y hy h => ?_
       first | refine callsc (a_prefix_Sane hy) ?_ ?_ | refine callc (a_prefix_Sane hy) ?_ ?_ | ((first | refine callsc (act_le (a_prefix_Sane hy) ?_) ?_ ?_ | refine callc (act_le (a_prefix_Sane hy) ?_) ?_ ?_); (focus (repeat' (first | exact trivial | exact le_same _ | exact le_enc | exact le_nil | exact le_imm (.inl rfl) | exact le_imm (.inr rfl) | (refine le_agg ?_) | apply And.intro | (refine le_eq ?_; simp only [*]; done)))))
       focus (first | rfl | (simp only [purL, pur, purL_enc, Enc.pure_enc, Bool.and_self, Bool.and_true]; done))
       simp -implicitDefEqProofs only [avm, reduceCtorEq, ↓reduceIte, sevalprocAttr, encs])
    | (refine bd_go h fun y hy h => ?_
       first | refine callsc (a_conf_Sane hy) ?_ ?_ | refine callc (a_conf_Sane hy) ?_ ?_ | ((first | refine callsc (act_le (a_conf_Sane hy) ?_) ?_ ?_ | refine callc (act_le (a_conf_Sane hy) ?_) ?_ ?_); (focus (repeat' (first | exact trivial | exact le_same _ | exact le_enc | exact le_nil | exact le_imm (.inl rfl) | exact le_imm (.inr rfl) | (refine le_agg ?_) | apply And.intro | (refine le_eq ?_; simp only [*]; done)))))
       focus (first | rfl | (simp only [purL, pur, purL_enc, Enc.pure_enc, Bool.and_self, Bool.and_true]; done))
       simp -implicitDefEqProofs only [avm, reduceCtorEq, ↓reduceIte, sevalprocAttr, encs])
    | (cases h
       try simp -implicitDefEqProofs only [avm, reduceCtorEq, ↓reduceIte, sevalprocAttr, encs]
       first | refine retLt (by first | exact .inr rfl | exact .inl rfl) (by rfl) ?_ | refine retL1 (by first | exact .inr rfl | exact .inl rfl) (by rfl) ?_
       repeat' (first | exact trivial | apply And.intro)
       all_goals first | exact .same _ rfl | exact reta_imm | exact reta_nil | (refine .imm _ _ _ ?_; simp only [pur, purL, purL_enc, Bool.and_self, Bool.and_true]; done) | exact .same _ (Enc.pure_enc _) | exact .same _ pur_enc_sl | exact .same _ pur_enc_fl | (refine .same _ ?_; simp only [pur, purL, purL_enc, Bool.and_self, Bool.and_true]; done) | (refine .le _ _ ?_ ?_; (focus (repeat' (first | exact le_same _ | exact le_enc | exact le_nil | exact le_imm (.inl rfl) | exact le_imm (.inr rfl) | refine le_agg ?_ | exact trivial | apply And.intro))); (simp only [pur, purL, purL_enc, Bool.and_self, Bool.and_true]; done)))
    | fail)
theorem a_attr_Sane {a0 : Path} {r : Bool} (h : m_attr_Sane a0 = some r) : ACt Try.prog 43 [Enc.enc a0] (Enc.enc r) [] := by
  refine act_of p_attr_Sane (by simp [c_attr_Sane]) ?_
  show AW _ b_attr_Sane (RetOk [.tmp 2] _ _) { n := 53, tm := [(0, _)], box := [], fr := [] }
  unfold b_attr_Sane
  unfold m_attr_Sane at h
  try simp -implicitDefEqProofs only [avm, reduceCtorEq, ↓reduceIte, sevalprocAttr, encs] at h
  repeat' (first
    | (refine (hκ _).mpr ?_; clear hκ)
    | refine kn1 ?_
    | refine kr1 ?_
    | refine ke1 ?_
    | refine kn2 ?_
    | refine kr2 ?_
    | refine kx2 ?_
    | refine ke2 rfl ?_
    | refine kr5 ?_
    | refine ke5 ?_
    | refine kr6 ?_
    | refine ke6 ?_
    | (refine w_loopm [1, 6, 7] (fun (j : (Int)) => [(8, (.int .i64 j))]) (fun (j : (Int)) => []) (fun (j : (Int)) => []) (fun (j : (Int)) => []) (show loopC (s_attr_Sane1 _) _ BIG _ = some _ from h) ?_ ?_
       · try simp -implicitDefEqProofs only [pats, avm, reduceCtorEq, ↓reduceIte, sevalprocAttr, encs]
         (first
          | (refine wk_m 0 _ rfl ?_ rfl rfl ?_ ?_ ?_ ?_
             · first | exact Nat.le_refl _ | exact Nat.zero_le _ | (simp; done)
             · first | exact Nat.zero_le _ | exact Nat.le_refl _ | (simp; done)
             · first | exact Nat.zero_le _ | exact Nat.le_refl _ | (simp; done)
             all_goals (repeat' (first | exact trivial | apply And.intro))
             all_goals first | exact rfl | exact wkc_kv | exact wkc_FL | exact wka_full | exact wka_full0 | exact .same _ rfl | exact wka_imm | exact wka_app (by decide) | exact wka_tag (by decide) rfl | exact wka_tagn (by decide) rfl | exact wka_tagr (by decide) rfl (by simp only [pur, purL, purL_enc, Bool.and_self, Bool.and_true]) | exact wka_immn | (refine .imm _ _ _ _ (.inl rfl) (okBL_pur ?_); simp only [pur, purL, purL_enc, Bool.and_self, Bool.and_true]; done) | exact wka_tag0 (by decide) rfl | exact wka_imm0 | exact wka_pur (Enc.pure_enc _) | exact wka_pur pur_enc_sl | exact wka_pur pur_enc_fl | exact .und _ | (refine wka_pur ?_; simp only [pur, purL, purL_enc, Bool.and_self, Bool.and_true]; done) | (refine .same _ ?_; simp only [okB, okBL, okBL_enc, Bool.and_self, Bool.and_true, decide_true, sevalprocAttr]; done) | (refine .le _ _ ?_ (okB_pur ?_); (focus (repeat' (first | exact le_same _ | exact le_enc | exact le_nil | exact le_imm (.inl rfl) | exact le_imm (.inr rfl) | refine le_agg ?_ | exact trivial | apply And.intro))); (simp only [pur, purL, purL_enc, Bool.and_self, Bool.and_true]; done))))
       clear h
       intro n st h
       simp -implicitDefEqProofs only [s_attr_Sane1.eq_1, pats, avm, reduceCtorEq, ↓reduceIte, sevalprocAttr, encs] at h ⊢)
    | refine w_seq ?_
    | refine w_block ?_
    | refine w_scope ?_
    | refine kn7 ?_
    | refine kr7 ?_
    | refine ke7 ?_
    | (refine aw_regk fun κ hκ => ?_; simp -implicitDefEqProofs only [avm, reduceCtorEq, ↓reduceIte, sevalprocAttr, encs])
    | refine aw_exit ?_
    | refine aw_ret ?_
    | refine aw_skip ?_
    | refine aw_label ?_
    | refine condc_t ?_
    | refine condc_f ?_
    | (refine aw_cond2 (by simp -implicitDefEqProofs only [avm, reduceCtorEq, ↓reduceIte, sevalprocAttr, encs]; rfl) ?_)
    | ((first | refine gkc_fork ?_ ?_ | refine pkc_fork ?_ ?_ | refine condc_fork ?_ ?_) <;> intro hq <;> (first | contradiction | simp -implicitDefEqProofs only [eq_false hq, Decidable.not_not, avm, reduceCtorEq, ↓reduceIte, sevalprocAttr, encs] at h ⊢ | simp -implicitDefEqProofs only [eq_true hq, avm, reduceCtorEq, ↓reduceIte, sevalprocAttr, encs] at h ⊢))
    | ((first | refine gkc_split ?_ ?_ | refine pkc_split ?_ ?_ | refine condc_bool ?_ ?_) <;> intro hq <;> (first | exact bcontra (by assumption) hq | exact bcontra hq (by assumption) | simp -implicitDefEqProofs only [hq, avm, reduceCtorEq, ↓reduceIte, sevalprocAttr, encs] at h ⊢))
    | (refine bd_go h fun y hy h => ?_; refine ixc hy ?_; simp -implicitDefEqProofs only [avm, reduceCtorEq, ↓reduceIte, sevalprocAttr, encs])
    | (first | refine kn6 ⟨_, h, ?_⟩ | refine kn5 ⟨_, h, ?_⟩
       try simp -implicitDefEqProofs only [pats, avm, reduceCtorEq, ↓reduceIte, sevalprocAttr, encs]
       (first
          | (refine wk_m 0 _ rfl ?_ rfl rfl ?_ ?_ ?_ ?_
             · first | exact Nat.le_refl _ | exact Nat.zero_le _ | (simp; done)
             · first | exact Nat.zero_le _ | exact Nat.le_refl _ | (simp; done)
             · first | exact Nat.zero_le _ | exact Nat.le_refl _ | (simp; done)
             all_goals (repeat' (first | exact trivial | apply And.intro))
             all_goals first | exact rfl | exact wkc_kv | exact wkc_FL | exact wka_full | exact wka_full0 | exact .same _ rfl | exact wka_imm | exact wka_app (by decide) | exact wka_tag (by decide) rfl | exact wka_tagn (by decide) rfl | exact wka_tagr (by decide) rfl (by simp only [pur, purL, purL_enc, Bool.and_self, Bool.and_true]) | exact wka_immn | (refine .imm _ _ _ _ (.inl rfl) (okBL_pur ?_); simp only [pur, purL, purL_enc, Bool.and_self, Bool.and_true]; done) | exact wka_tag0 (by decide) rfl | exact wka_imm0 | exact wka_pur (Enc.pure_enc _) | exact wka_pur pur_enc_sl | exact wka_pur pur_enc_fl | exact .und _ | (refine wka_pur ?_; simp only [pur, purL, purL_enc, Bool.and_self, Bool.and_true]; done) | (refine .same _ ?_; simp only [okB, okBL, okBL_enc, Bool.and_self, Bool.and_true, decide_true, sevalprocAttr]; done) | (refine .le _ _ ?_ (okB_pur ?_); (focus (repeat' (first | exact le_same _ | exact le_enc | exact le_nil | exact le_imm (.inl rfl) | exact le_imm (.inr rfl) | refine le_agg ?_ | exact trivial | apply And.intro))); (simp only [pur, purL, purL_enc, Bool.and_self, Bool.and_true]; done)))))
    | (first | refine kn6 ⟨_, h, ?_⟩ | refine kn5 ⟨_, h, ?_⟩
       try simp -implicitDefEqProofs only [*, pats, avm, reduceCtorEq, ↓reduceIte, sevalprocAttr, encs]
       (first
          | (refine wk_m 0 _ rfl ?_ rfl rfl ?_ ?_ ?_ ?_
             · first | exact Nat.le_refl _ | exact Nat.zero_le _ | (simp; done)
             · first | exact Nat.zero_le _ | exact Nat.le_refl _ | (simp; done)
             · first | exact Nat.zero_le _ | exact Nat.le_refl _ | (simp; done)
             all_goals (repeat' (first | exact trivial | apply And.intro))
             all_goals first | exact rfl | exact wkc_kv | exact wkc_FL | exact wka_full | exact wka_full0 | exact .same _ rfl | exact wka_imm | exact wka_app (by decide) | exact wka_tag (by decide) rfl | exact wka_tagn (by decide) rfl | exact wka_tagr (by decide) rfl (by simp only [pur, purL, purL_enc, Bool.and_self, Bool.and_true]) | exact wka_immn | (refine .imm _ _ _ _ (.inl rfl) (okBL_pur ?_); simp only [pur, purL, purL_enc, Bool.and_self, Bool.and_true]; done) | exact wka_tag0 (by decide) rfl | exact wka_imm0 | exact wka_pur (Enc.pure_enc _) | exact wka_pur pur_enc_sl | exact wka_pur pur_enc_fl | exact .und _ | (refine wka_pur ?_; simp only [pur, purL, purL_enc, Bool.and_self, Bool.and_true]; done) | (refine .same _ ?_; simp only [okB, okBL, okBL_enc, Bool.and_self, Bool.and_true, decide_true, sevalprocAttr]; done) | (refine .le _ _ ?_ (okB_pur ?_); (focus (repeat' (first | exact le_same _ | exact le_enc | exact le_nil | exact le_imm (.inl rfl) | exact le_imm (.inr rfl) | refine le_agg ?_ | exact trivial | apply And.intro))); (simp only [pur, purL, purL_enc, Bool.and_self, Bool.and_true]; done)))))
    | (cases h
       try simp -implicitDefEqProofs only [avm, reduceCtorEq, ↓reduceIte, sevalprocAttr, encs]
       first | refine retLt (by first | exact .inr rfl | exact .inl rfl) (by rfl) ?_ | refine retL1 (by first | exact .inr rfl | exact .inl rfl) (by rfl) ?_
       repeat' (first | exact trivial | apply And.intro)
       all_goals first | exact .same _ rfl | exact reta_imm | exact reta_nil | (refine .imm _ _ _ ?_; simp only [pur, purL, purL_enc, Bool.and_self, Bool.and_true]; done) | exact .same _ (Enc.pure_enc _) | exact .same _ pur_enc_sl | exact .same _ pur_enc_fl | (refine .same _ ?_; simp only [pur, purL, purL_enc, Bool.and_self, Bool.and_true]; done) | (refine .le _ _ ?_ ?_; (focus (repeat' (first | exact le_same _ | exact le_enc | exact le_nil | exact le_imm (.inl rfl) | exact le_imm (.inr rfl) | refine le_agg ?_ | exact trivial | apply And.intro))); (simp only [pur, purL, purL_enc, Bool.and_self, Bool.and_true]; done)))
    | fail)
theorem a_slices_Index___int_int {a0 : (List Int)} {a1 : Int} {r : Int} (h : m_slices_Index___int_int a0 a1 = some r) : ACt Try.prog 98 [Enc.enc a0, Enc.enc a1] (Enc.enc r) [] := by
  refine act_of p_slices_Index___int_int (by simp [c_slices_Index___int_int]) ?_
  show AW _ b_slices_Index___int_int (RetOk [.tmp 4] _ _) { n := 19, tm := [(0, _), (1, _)], box := [], fr := [] }
  unfold b_slices_Index___int_int
  unfold m_slices_Index___int_int at h
  try simp -implicitDefEqProofs only [avm, reduceCtorEq, ↓reduceIte, sevalprocAttr, encs] at h
  repeat' (first
    | (refine (hκ _).mpr ?_; clear hκ)
    | refine kn1 ?_
    | refine kr1 ?_
    | refine ke1 ?_
    | refine kn2 ?_
    | refine kr2 ?_
    | refine kx2 ?_
    | refine ke2 rfl ?_
    | refine kr5 ?_
    | refine ke5 ?_
    | refine kr6 ?_
    | refine ke6 ?_
    | (refine w_loopm [0, 1, 7] (fun (j : (Int)) => [(8, (.int .i64 j))]) (fun (j : (Int)) => []) (fun (j : (Int)) => []) (fun (j : (Int)) => []) (show loopC (s_slices_Index___int_int1 _ _) _ BIG _ = some _ from h) ?_ ?_
       · try simp -implicitDefEqProofs only [pats, avm, reduceCtorEq, ↓reduceIte, sevalprocAttr, encs]
         (first
          | (refine wk_m 0 _ rfl ?_ rfl rfl ?_ ?_ ?_ ?_
             · first | exact Nat.le_refl _ | exact Nat.zero_le _ | (simp; done)
             · first | exact Nat.zero_le _ | exact Nat.le_refl _ | (simp; done)
             · first | exact Nat.zero_le _ | exact Nat.le_refl _ | (simp; done)
             all_goals (repeat' (first | exact trivial | apply And.intro))
             all_goals first | exact rfl | exact wkc_kv | exact wkc_FL | exact wka_full | exact wka_full0 | exact .same _ rfl | exact wka_imm | exact wka_app (by decide) | exact wka_tag (by decide) rfl | exact wka_tagn (by decide) rfl | exact wka_tagr (by decide) rfl (by simp only [pur, purL, purL_enc, Bool.and_self, Bool.and_true]) | exact wka_immn | (refine .imm _ _ _ _ (.inl rfl) (okBL_pur ?_); simp only [pur, purL, purL_enc, Bool.and_self, Bool.and_true]; done) | exact wka_tag0 (by decide) rfl | exact wka_imm0 | exact wka_pur (Enc.pure_enc _) | exact wka_pur pur_enc_sl | exact wka_pur pur_enc_fl | exact .und _ | (refine wka_pur ?_; simp only [pur, purL, purL_enc, Bool.and_self, Bool.and_true]; done) | (refine .same _ ?_; simp only [okB, okBL, okBL_enc, Bool.and_self, Bool.and_true, decide_true, sevalprocAttr]; done) | (refine .le _ _ ?_ (okB_pur ?_); (focus (repeat' (first | exact le_same _ | exact le_enc | exact le_nil | exact le_imm (.inl rfl) | exact le_imm (.inr rfl) | refine le_agg ?_ | exact trivial | apply And.intro))); (simp only [pur, purL, purL_enc, Bool.and_self, Bool.and_true]; done))))
       clear h
       intro n st h
       simp -implicitDefEqProofs only [s_slices_Index___int_int1.eq_1, pats, avm, reduceCtorEq, ↓reduceIte, sevalprocAttr, encs] at h ⊢)
    | refine w_seq ?_
    | refine w_block ?_
    | refine w_scope ?_
    | refine kn7 ?_
    | refine kr7 ?_
    | refine ke7 ?_
    | (refine aw_regk fun κ hκ => ?_; simp -implicitDefEqProofs only [avm, reduceCtorEq, ↓reduceIte, sevalprocAttr, encs])
    | refine aw_exit ?_
    | refine aw_ret ?_
    | refine aw_skip ?_
    | refine aw_label ?_
    | refine condc_t ?_
    | refine condc_f ?_
    | (refine aw_cond2 (by simp -implicitDefEqProofs only [avm, reduceCtorEq, ↓reduceIte, sevalprocAttr, encs]; rfl) ?_)
    | ((first | refine gkc_fork ?_ ?_ | refine pkc_fork ?_ ?_ | refine condc_fork ?_ ?_) <;> intro hq <;> (first | contradiction | simp -implicitDefEqProofs only [eq_false hq, Decidable.not_not, avm, reduceCtorEq, ↓reduceIte, sevalprocAttr, encs] at h ⊢ | simp -implicitDefEqProofs only [eq_true hq, avm, reduceCtorEq, ↓reduceIte, sevalprocAttr, encs] at h ⊢))
    | ((first | refine gkc_split ?_ ?_ | refine pkc_split ?_ ?_ | refine condc_bool ?_ ?_) <;> intro hq <;> (first | exact bcontra (by assumption) hq | exact bcontra hq (by assumption) | simp -implicitDefEqProofs only [hq, avm, reduceCtorEq, ↓reduceIte, sevalprocAttr, encs] at h ⊢))
    | (refine bd_go h fun y hy h => ?_; refine ixc hy ?_; simp -implicitDefEqProofs only [avm, reduceCtorEq, ↓reduceIte, sevalprocAttr, encs])
    | (first | refine kn6 ⟨_, h, ?_⟩ | refine kn5 ⟨_, h, ?_⟩
       try simp -implicitDefEqProofs only [pats, avm, reduceCtorEq, ↓reduceIte, sevalprocAttr, encs]
       (first
          | (refine wk_m 0 _ rfl ?_ rfl rfl ?_ ?_ ?_ ?_
             · first | exact Nat.le_refl _ | exact Nat.zero_le _ | (simp; done)
             · first | exact Nat.zero_le _ | exact Nat.le_refl _ | (simp; done)
             · first | exact Nat.zero_le _ | exact Nat.le_refl _ | (simp; done)
             all_goals (repeat' (first | exact trivial | apply And.intro))
             all_goals first | exact rfl | exact wkc_kv | exact wkc_FL | exact wka_full | exact wka_full0 | exact .same _ rfl | exact wka_imm | exact wka_app (by decide) | exact wka_tag (by decide) rfl | exact wka_tagn (by decide) rfl | exact wka_tagr (by decide) rfl (by simp only [pur, purL, purL_enc, Bool.and_self, Bool.and_true]) | exact wka_immn | (refine .imm _ _ _ _ (.inl rfl) (okBL_pur ?_); simp only [pur, purL, purL_enc, Bool.and_self, Bool.and_true]; done) | exact wka_tag0 (by decide) rfl | exact wka_imm0 | exact wka_pur (Enc.pure_enc _) | exact wka_pur pur_enc_sl | exact wka_pur pur_enc_fl | exact .und _ | (refine wka_pur ?_; simp only [pur, purL, purL_enc, Bool.and_self, Bool.and_true]; done) | (refine .same _ ?_; simp only [okB, okBL, okBL_enc, Bool.and_self, Bool.and_true, decide_true, sevalprocAttr]; done) | (refine .le _ _ ?_ (okB_pur ?_); (focus (repeat' (first | exact le_same _ | exact le_enc | exact le_nil | exact le_imm (.inl rfl) | exact le_imm (.inr rfl) | refine le_agg ?_ | exact trivial | apply And.intro))); (simp only [pur, purL, purL_enc, Bool.and_self, Bool.and_true]; done)))))
    | (first | refine kn6 ⟨_, h, ?_⟩ | refine kn5 ⟨_, h, ?_⟩
       try simp -implicitDefEqProofs only [*, pats, avm, reduceCtorEq, ↓reduceIte, sevalprocAttr, encs]
       (first
          | (refine wk_m 0 _ rfl ?_ rfl rfl ?_ ?_ ?_ ?_
             · first | exact Nat.le_refl _ | exact Nat.zero_le _ | (simp; done)
             · first | exact Nat.zero_le _ | exact Nat.le_refl _ | (simp; done)
             · first | exact Nat.zero_le _ | exact Nat.le_refl _ | (simp; done)
             all_goals (repeat' (first | exact trivial | apply And.intro))
             all_goals first | exact rfl | exact wkc_kv | exact wkc_FL | exact wka_full | exact wka_full0 | exact .same _ rfl | exact wka_imm | exact wka_app (by decide) | exact wka_tag (by decide) rfl | exact wka_tagn (by decide) rfl | exact wka_tagr (by decide) rfl (by simp only [pur, purL, purL_enc, Bool.and_self, Bool.and_true]) | exact wka_immn | (refine .imm _ _ _ _ (.inl rfl) (okBL_pur ?_); simp only [pur, purL, purL_enc, Bool.and_self, Bool.and_true]; done) | exact wka_tag0 (by decide) rfl | exact wka_imm0 | exact wka_pur (Enc.pure_enc _) | exact wka_pur pur_enc_sl | exact wka_pur pur_enc_fl | exact .und _ | (refine wka_pur ?_; simp only [pur, purL, purL_enc, Bool.and_self, Bool.and_true]; done) | (refine .same _ ?_; simp only [okB, okBL, okBL_enc, Bool.and_self, Bool.and_true, decide_true, sevalprocAttr]; done) | (refine .le _ _ ?_ (okB_pur ?_); (focus (repeat' (first | exact le_same _ | exact le_enc | exact le_nil | exact le_imm (.inl rfl) | exact le_imm (.inr rfl) | refine le_agg ?_ | exact trivial | apply And.intro))); (simp only [pur, purL, purL_enc, Bool.and_self, Bool.and_true]; done)))))
    | (cases h
       try simp -implicitDefEqProofs only [avm, reduceCtorEq, ↓reduceIte, sevalprocAttr, encs]
       first | refine retLt (by first | exact .inr rfl | exact .inl rfl) (by rfl) ?_ | refine retL1 (by first | exact .inr rfl | exact .inl rfl) (by rfl) ?_
       repeat' (first | exact trivial | apply And.intro)
       all_goals first | exact .same _ rfl | exact reta_imm | exact reta_nil | (refine .imm _ _ _ ?_; simp only [pur, purL, purL_enc, Bool.and_self, Bool.and_true]; done) | exact .same _ (Enc.pure_enc _) | exact .same _ pur_enc_sl | exact .same _ pur_enc_fl | (refine .same _ ?_; simp only [pur, purL, purL_enc, Bool.and_self, Bool.and_true]; done) | (refine .le _ _ ?_ ?_; (focus (repeat' (first | exact le_same _ | exact le_enc | exact le_nil | exact le_imm (.inl rfl) | exact le_imm (.inr rfl) | refine le_agg ?_ | exact trivial | apply And.intro))); (simp only [pur, purL, purL_enc, Bool.and_self, Bool.and_true]; done)))
    | fail)
theorem a_slices_Contains___int_int {a0 : (List Int)} {a1 : Int} {r : Bool} (h : m_slices_Contains___int_int a0 a1 = some r) : ACt Try.prog 47 [Enc.enc a0, Enc.enc a1] (Enc.enc r) [] := by
  refine act_of p_slices_Contains___int_int (by simp [c_slices_Contains___int_int]) ?_
  show AW _ b_slices_Contains___int_int (RetOk [.tmp 4] _ _) { n := 9, tm := [(0, _), (1, _)], box := [], fr := [] }
  unfold b_slices_Contains___int_int
  unfold m_slices_Contains___int_int at h
  try simp -implicitDefEqProofs only [avm, reduceCtorEq, ↓reduceIte, sevalprocAttr, encs] at h
  repeat' (first
    | (refine (hκ _).mpr ?_; clear hκ)
    | refine kn1 ?_
    | refine kr1 ?_
    | refine ke1 ?_
    | refine kn2 ?_
    | refine kr2 ?_
    | refine kx2 ?_
    | refine ke2 rfl ?_
    | refine kr5 ?_
    | refine ke5 ?_
    | refine kr6 ?_
    | refine ke6 ?_
    | refine w_seq ?_
    | refine w_block ?_
    | refine w_scope ?_
    | refine kn7 ?_
    | refine kr7 ?_
    | refine ke7 ?_
    | (refine aw_regk fun κ hκ => ?_; simp -implicitDefEqProofs only [avm, reduceCtorEq, ↓reduceIte, sevalprocAttr, encs])
    | refine aw_exit ?_
    | refine aw_ret ?_
    | refine aw_skip ?_
    | refine aw_label ?_
    | refine condc_t ?_
    | refine condc_f ?_
    | (refine aw_cond2 (by simp -implicitDefEqProofs only [avm, reduceCtorEq, ↓reduceIte, sevalprocAttr, encs]; rfl) ?_)
    | ((first | refine gkc_fork ?_ ?_ | refine pkc_fork ?_ ?_ | refine condc_fork ?_ ?_) <;> intro hq <;> (first | contradiction | simp -implicitDefEqProofs only [eq_false hq, Decidable.not_not, avm, reduceCtorEq, ↓reduceIte, sevalprocAttr, encs] at h ⊢ | simp -implicitDefEqProofs only [eq_true hq, avm, reduceCtorEq, ↓reduceIte, sevalprocAttr, encs] at h ⊢))
    | ((first | refine gkc_split ?_ ?_ | refine pkc_split ?_ ?_ | refine condc_bool ?_ ?_) <;> intro hq <;> (first | exact bcontra (by assumption) hq | exact bcontra hq (by assumption) | simp -implicitDefEqProofs only [hq, avm, reduceCtorEq, ↓reduceIte, sevalprocAttr, encs] at h ⊢))
    | (refine bd_go h fun y hy h => ?_
       first | refine callsc (a_slices_Index___int_int hy) ?_ ?_ | refine callc (a_slices_Index___int_int hy) ?_ ?_ | ((first | refine callsc (act_le (a_slices_Index___int_int hy) ?_) ?_ ?_ | refine callc (act_le (a_slices_Index___int_int hy) ?_) ?_ ?_); (focus (repeat' (first | exact trivial | exact le_same _ | exact le_enc | exact le_nil | exact le_imm (.inl rfl) | exact le_imm (.inr rfl) | (refine le_agg ?_) | apply And.intro | (refine le_eq ?_; simp only [*]; done)))))
       focus (first | rfl | (simp only [purL, pur, purL_enc, Enc.pure_enc, Bool.and_self, Bool.and_true]; done))
       simp -implicitDefEqProofs only [avm, reduceCtorEq, ↓reduceIte, sevalprocAttr, encs])
    | (cases h
       try simp -implicitDefEqProofs only [avm, reduceCtorEq, ↓reduceIte, sevalprocAttr, encs]
       first | refine retLt (by first | exact .inr rfl | exact .inl rfl) (by rfl) ?_ | refine retL1 (by first | exact .inr rfl | exact .inl rfl) (by rfl) ?_
       repeat' (first | exact trivial | apply And.intro)
       all_goals first | exact .same _ rfl | exact reta_imm | exact reta_nil | (refine .imm _ _ _ ?_; simp only [pur, purL, purL_enc, Bool.and_self, Bool.and_true]; done) | exact .same _ (Enc.pure_enc _) | exact .same _ pur_enc_sl | exact .same _ pur_enc_fl | (refine .same _ ?_; simp only [pur, purL, purL_enc, Bool.and_self, Bool.and_true]; done) | (refine .le _ _ ?_ ?_; (focus (repeat' (first | exact le_same _ | exact le_enc | exact le_nil | exact le_imm (.inl rfl) | exact le_imm (.inr rfl) | refine le_agg ?_ | exact trivial | apply And.intro))); (simp only [pur, purL, purL_enc, Bool.and_self, Bool.and_true]; done)))
    | fail)
theorem a_role_In {a0 : Int} {a1 : Int} {a2 : Int} {r : (Int × Bool)} (h : m_role_In a0 a1 a2 = some r) : ACt Try.prog 50 [Enc.enc a0, Enc.enc a1, Enc.enc a2] (.tup [Enc.enc r.1, Enc.enc r.2]) [] := by
  refine act_of p_role_In (by simp [c_role_In]) ?_
  show AW _ b_role_In (RetOk [.tmp 6, .tmp 7] _ _) { n := 38, tm := [(0, _), (1, _), (2, _)], box := [], fr := [] }
  unfold b_role_In
  unfold m_role_In at h
  try simp -implicitDefEqProofs only [avm, reduceCtorEq, ↓reduceIte, sevalprocAttr, encs] at h
  repeat' (first
    | (refine (hκ _).mpr ?_; clear hκ)
    | refine kn1 ?_
    | refine kr1 ?_
    | refine ke1 ?_
    | refine kn2 ?_
    | refine kr2 ?_
    | refine kx2 ?_
    | refine ke2 rfl ?_
    | refine kr5 ?_
    | refine ke5 ?_
    | refine kr6 ?_
    | refine ke6 ?_
    | (refine w_cutm (x := (.seq (.reg _) (.cond (.tmp 15) _ _))) [0, 1, 2] (fun (j : (Bool)) => [(15, (.bool j))]) (fun (j : (Bool)) => []) (fun (j : (Bool)) => []) (fun (j : (Bool)) => []) (show jn 1 _ _ = some _ from h) ?_ ?_
       rotate_left
       intro j h
       simp -implicitDefEqProofs only [pats, avm, reduceCtorEq, ↓reduceIte, sevalprocAttr, encs] at h ⊢
       rotate_left
       intro k' h
       try simp -implicitDefEqProofs only [avm, reduceCtorEq, ↓reduceIte, sevalprocAttr, encs] at h)
    | (refine w_cutm (x := (.seq (.reg _) (.cond (.tmp 15) _ _))) [0, 1, 2] (fun (j : (Bool)) => [(15, (.bool j))]) (fun (j : (Bool)) => []) (fun (j : (Bool)) => []) (fun (j : (Bool)) => []) (show jn 2 _ _ = some _ from h) ?_ ?_
       rotate_left
       intro j h
       simp -implicitDefEqProofs only [pats, avm, reduceCtorEq, ↓reduceIte, sevalprocAttr, encs] at h ⊢
       rotate_left
       intro k' h
       try simp -implicitDefEqProofs only [avm, reduceCtorEq, ↓reduceIte, sevalprocAttr, encs] at h)
    | refine w_seq ?_
    | refine w_block ?_
    | refine w_scope ?_
    | refine kn7 ?_
    | refine kr7 ?_
    | refine ke7 ?_
    | (refine aw_regk fun κ hκ => ?_; simp -implicitDefEqProofs only [avm, reduceCtorEq, ↓reduceIte, sevalprocAttr, encs])
    | refine aw_exit ?_
    | refine aw_ret ?_
    | refine aw_skip ?_
    | refine aw_label ?_
    | refine condc_t ?_
    | refine condc_f ?_
    | (refine aw_cond2 (by simp -implicitDefEqProofs only [avm, reduceCtorEq, ↓reduceIte, sevalprocAttr, encs]; rfl) ?_)
    | ((first | refine gkc_fork ?_ ?_ | refine pkc_fork ?_ ?_ | refine condc_fork ?_ ?_) <;> intro hq <;> (first | contradiction | simp -implicitDefEqProofs only [eq_false hq, Decidable.not_not, avm, reduceCtorEq, ↓reduceIte, sevalprocAttr, encs] at h ⊢ | simp -implicitDefEqProofs only [eq_true hq, avm, reduceCtorEq, ↓reduceIte, sevalprocAttr, encs] at h ⊢))
    | ((first | refine gkc_split ?_ ?_ | refine pkc_split ?_ ?_ | refine condc_bool ?_ ?_) <;> intro hq <;> (first | exact bcontra (by assumption) hq | exact bcontra hq (by assumption) | simp -implicitDefEqProofs only [hq, avm, reduceCtorEq, ↓reduceIte, sevalprocAttr, encs] at h ⊢))
    | (first | refine kn6 ⟨_, h, ?_⟩ | refine kn5 ⟨_, h, ?_⟩
       try simp -implicitDefEqProofs only [pats, avm, reduceCtorEq, ↓reduceIte, sevalprocAttr, encs]
       (first
          | (refine wk_m 0 _ rfl ?_ rfl rfl ?_ ?_ ?_ ?_
             · first | exact Nat.le_refl _ | exact Nat.zero_le _ | (simp; done)
             · first | exact Nat.zero_le _ | exact Nat.le_refl _ | (simp; done)
             · first | exact Nat.zero_le _ | exact Nat.le_refl _ | (simp; done)
             all_goals (repeat' (first | exact trivial | apply And.intro))
             all_goals first | exact rfl | exact wkc_kv | exact wkc_FL | exact wka_full | exact wka_full0 | exact .same _ rfl | exact wka_imm | exact wka_app (by decide) | exact wka_tag (by decide) rfl | exact wka_tagn (by decide) rfl | exact wka_tagr (by decide) rfl (by simp only [pur, purL, purL_enc, Bool.and_self, Bool.and_true]) | exact wka_immn | (refine .imm _ _ _ _ (.inl rfl) (okBL_pur ?_); simp only [pur, purL, purL_enc, Bool.and_self, Bool.and_true]; done) | exact wka_tag0 (by decide) rfl | exact wka_imm0 | exact wka_pur (Enc.pure_enc _) | exact wka_pur pur_enc_sl | exact wka_pur pur_enc_fl | exact .und _ | (refine wka_pur ?_; simp only [pur, purL, purL_enc, Bool.and_self, Bool.and_true]; done) | (refine .same _ ?_; simp only [okB, okBL, okBL_enc, Bool.and_self, Bool.and_true, decide_true, sevalprocAttr]; done) | (refine .le _ _ ?_ (okB_pur ?_); (focus (repeat' (first | exact le_same _ | exact le_enc | exact le_nil | exact le_imm (.inl rfl) | exact le_imm (.inr rfl) | refine le_agg ?_ | exact trivial | apply And.intro))); (simp only [pur, purL, purL_enc, Bool.and_self, Bool.and_true]; done)))))
    | (first | refine kn6 ⟨_, h, ?_⟩ | refine kn5 ⟨_, h, ?_⟩
       try simp -implicitDefEqProofs only [*, pats, avm, reduceCtorEq, ↓reduceIte, sevalprocAttr, encs]
       (first
          | (refine wk_m 0 _ rfl ?_ rfl rfl ?_ ?_ ?_ ?_
             · first | exact Nat.le_refl _ | exact Nat.zero_le _ | (simp; done)
             · first | exact Nat.zero_le _ | exact Nat.le_refl _ | (simp; done)
             · first | exact Nat.zero_le _ | exact Nat.le_refl _ | (simp; done)
             all_goals (repeat' (first | exact trivial | apply And.intro))
             all_goals first | exact rfl | exact wkc_kv | exact wkc_FL | exact wka_full | exact wka_full0 | exact .same _ rfl | exact wka_imm | exact wka_app (by decide) | exact wka_tag (by decide) rfl | exact wka_tagn (by decide) rfl | exact wka_tagr (by decide) rfl (by simp only [pur, purL, purL_enc, Bool.and_self, Bool.and_true]) | exact wka_immn | (refine .imm _ _ _ _ (.inl rfl) (okBL_pur ?_); simp only [pur, purL, purL_enc, Bool.and_self, Bool.and_true]; done) | exact wka_tag0 (by decide) rfl | exact wka_imm0 | exact wka_pur (Enc.pure_enc _) | exact wka_pur pur_enc_sl | exact wka_pur pur_enc_fl | exact .und _ | (refine wka_pur ?_; simp only [pur, purL, purL_enc, Bool.and_self, Bool.and_true]; done) | (refine .same _ ?_; simp only [okB, okBL, okBL_enc, Bool.and_self, Bool.and_true, decide_true, sevalprocAttr]; done) | (refine .le _ _ ?_ (okB_pur ?_); (focus (repeat' (first | exact le_same _ | exact le_enc | exact le_nil | exact le_imm (.inl rfl) | exact le_imm (.inr rfl) | refine le_agg ?_ | exact trivial | apply And.intro))); (simp only [pur, purL, purL_enc, Bool.and_self, Bool.and_true]; done)))))
    | (cases h
       try simp -implicitDefEqProofs only [avm, reduceCtorEq, ↓reduceIte, sevalprocAttr, encs]
       first | refine retLt (by first | exact .inr rfl | exact .inl rfl) (by rfl) ?_ | refine retL1 (by first | exact .inr rfl | exact .inl rfl) (by rfl) ?_
       repeat' (first | exact trivial | apply And.intro)
       all_goals first | exact .same _ rfl | exact reta_imm | exact reta_nil | (refine .imm _ _ _ ?_; simp only [pur, purL, purL_enc, Bool.and_self, Bool.and_true]; done) | exact .same _ (Enc.pure_enc _) | exact .same _ pur_enc_sl | exact .same _ pur_enc_fl | (refine .same _ ?_; simp only [pur, purL, purL_enc, Bool.and_self, Bool.and_true]; done) | (refine .le _ _ ?_ ?_; (focus (repeat' (first | exact le_same _ | exact le_enc | exact le_nil | exact le_imm (.inl rfl) | exact le_imm (.inr rfl) | refine le_agg ?_ | exact trivial | apply And.intro))); (simp only [pur, purL, purL_enc, Bool.and_self, Bool.and_true]; done)))
    | fail)
theorem a_policy_fits_1 {a0 : Rule} {a1 : View} {r : Bool} (h : m_policy_fits_1 a0 a1 = some r) : ACt Try.prog 142 [Enc.enc a0, Enc.enc a1] (Enc.enc r) [] := by
  refine act_of p_policy_fits_1 (by simp [c_policy_fits_1]) ?_
  show AW _ b_policy_fits_1 (RetOk [.tmp 4] _ _) { n := 5, tm := [(0, _), (1, _)], box := [], fr := [] }
  unfold b_policy_fits_1
  unfold m_policy_fits_1 at h
  try simp -implicitDefEqProofs only [avm, reduceCtorEq, ↓reduceIte, sevalprocAttr, encs] at h
  repeat' (first
    | (refine (hκ _).mpr ?_; clear hκ)
    | refine kn1 ?_
    | refine kr1 ?_
    | refine ke1 ?_
    | refine kn2 ?_
    | refine kr2 ?_
    | refine kx2 ?_
    | refine ke2 rfl ?_
    | refine kr5 ?_
    | refine ke5 ?_
    | refine kr6 ?_
    | refine ke6 ?_
    | refine w_seq ?_
    | refine w_block ?_
    | refine w_scope ?_
    | refine kn7 ?_
    | refine kr7 ?_
    | refine ke7 ?_
    | (refine aw_regk fun κ hκ => ?_; simp -implicitDefEqProofs only [avm, reduceCtorEq, ↓reduceIte, sevalprocAttr, encs])
    | refine aw_exit ?_
    | refine aw_ret ?_
    | refine aw_skip ?_
    | refine aw_label ?_
    | refine condc_t ?_
    | refine condc_f ?_
    | (refine aw_cond2 (by simp -implicitDefEqProofs only [avm, reduceCtorEq, ↓reduceIte, sevalprocAttr, encs]; rfl) ?_)
    | ((first | refine gkc_fork ?_ ?_ | refine pkc_fork ?_ ?_ | refine condc_fork ?_ ?_) <;> intro hq <;> (first | contradiction | simp -implicitDefEqProofs only [eq_false hq, Decidable.not_not, avm, reduceCtorEq, ↓reduceIte, sevalprocAttr, encs] at h ⊢ | simp -implicitDefEqProofs only [eq_true hq, avm, reduceCtorEq, ↓reduceIte, sevalprocAttr, encs] at h ⊢))
    | ((first | refine gkc_split ?_ ?_ | refine pkc_split ?_ ?_ | refine condc_bool ?_ ?_) <;> intro hq <;> (first | exact bcontra (by assumption) hq | exact bcontra hq (by assumption) | simp -implicitDefEqProofs only [hq, avm, reduceCtorEq, ↓reduceIte, sevalprocAttr, encs] at h ⊢))
    | (cases h
       try simp -implicitDefEqProofs only [avm, reduceCtorEq, ↓reduceIte, sevalprocAttr, encs]
       first | refine retLt (by first | exact .inr rfl | exact .inl rfl) (by rfl) ?_ | refine retL1 (by first | exact .inr rfl | exact .inl rfl) (by rfl) ?_
       repeat' (first | exact trivial | apply And.intro)
       all_goals first | exact .same _ rfl | exact reta_imm | exact reta_nil | (refine .imm _ _ _ ?_; simp only [pur, purL, purL_enc, Bool.and_self, Bool.and_true]; done) | exact .same _ (Enc.pure_enc _) | exact .same _ pur_enc_sl | exact .same _ pur_enc_fl | (refine .same _ ?_; simp only [pur, purL, purL_enc, Bool.and_self, Bool.and_true]; done) | (refine .le _ _ ?_ ?_; (focus (repeat' (first | exact le_same _ | exact le_enc | exact le_nil | exact le_imm (.inl rfl) | exact le_imm (.inr rfl) | refine le_agg ?_ | exact trivial | apply And.intro))); (simp only [pur, purL, purL_enc, Bool.and_self, Bool.and_true]; done)))
    | fail)
theorem a_prefix_Has {a0 : Prefix} {a1 : Prefix} {r : Bool} (h : m_prefix_Has a0 a1 = some r) : ACt Try.prog 144 [Enc.enc a0, Enc.enc a1] (Enc.enc r) [] := by
  refine act_of p_prefix_Has (by simp [c_prefix_Has]) ?_
  show AW _ b_prefix_Has (RetOk [.tmp 4] _ _) { n := 28, tm := [(0, _), (1, _)], box := [], fr := [] }
  unfold b_prefix_Has
  unfold m_prefix_Has at h
  try simp -implicitDefEqProofs only [avm, reduceCtorEq, ↓reduceIte, sevalprocAttr, encs] at h
  repeat' (first
    | (refine (hκ _).mpr ?_; clear hκ)
    | refine kn1 ?_
    | refine kr1 ?_
    | refine ke1 ?_
    | refine kn2 ?_
    | refine kr2 ?_
    | refine kx2 ?_
    | refine ke2 rfl ?_
    | refine kr5 ?_
    | refine ke5 ?_
    | refine kr6 ?_
    | refine ke6 ?_
    | refine w_seq ?_
    | refine w_block ?_
    | refine w_scope ?_
    | refine kn7 ?_
    | refine kr7 ?_
    | refine ke7 ?_
    | (refine aw_regk fun κ hκ => ?_; simp -implicitDefEqProofs only [avm, reduceCtorEq, ↓reduceIte, sevalprocAttr, encs])
    | refine aw_exit ?_
    | refine aw_ret ?_
    | refine aw_skip ?_
    | refine aw_label ?_
    | refine condc_t ?_
    | refine condc_f ?_
    | (refine aw_cond2 (by simp -implicitDefEqProofs only [avm, reduceCtorEq, ↓reduceIte, sevalprocAttr, encs]; rfl) ?_)
    | ((first | refine gkc_fork ?_ ?_ | refine pkc_fork ?_ ?_ | refine condc_fork ?_ ?_) <;> intro hq <;> (first | contradiction | simp -implicitDefEqProofs only [eq_false hq, Decidable.not_not, avm, reduceCtorEq, ↓reduceIte, sevalprocAttr, encs] at h ⊢ | simp -implicitDefEqProofs only [eq_true hq, avm, reduceCtorEq, ↓reduceIte, sevalprocAttr, encs] at h ⊢))
    | ((first | refine gkc_split ?_ ?_ | refine pkc_split ?_ ?_ | refine condc_bool ?_ ?_) <;> intro hq <;> (first | exact bcontra (by assumption) hq | exact bcontra hq (by assumption) | simp -implicitDefEqProofs only [hq, avm, reduceCtorEq, ↓reduceIte, sevalprocAttr, encs] at h ⊢))
    | (refine bd_go h fun y hy h => ?_
       first | refine callsc (a_prefix_Sane hy) ?_ ?_ | refine callc (a_prefix_Sane hy) ?_ ?_ | ((first | refine callsc (act_le (a_prefix_Sane hy) ?_) ?_ ?_ | refine callc (act_le (a_prefix_Sane hy) ?_) ?_ ?_); (focus (repeat' (first | exact trivial | exact le_same _ | exact le_enc | exact le_nil | exact le_imm (.inl rfl) | exact le_imm (.inr rfl) | (refine le_agg ?_) | apply And.intro | (refine le_eq ?_; simp only [*]; done)))))
       focus (first | rfl | (simp only [purL, pur, purL_enc, Enc.pure_enc, Bool.and_self, Bool.and_true]; done))
       simp -implicitDefEqProofs only [avm, reduceCtorEq, ↓reduceIte, sevalprocAttr, encs])
    | (refine bd_go h fun y hy h => ?_
       first | refine callsc (a_prefix_Mask hy) ?_ ?_ | refine callc (a_prefix_Mask hy) ?_ ?_ | ((first | refine callsc (act_le (a_prefix_Mask hy) ?_) ?_ ?_ | refine callc (act_le (a_prefix_Mask hy) ?_) ?_ ?_); (focus (repeat' (first | exact trivial | exact le_same _ | exact le_enc | exact le_nil | exact le_imm (.inl rfl) | exact le_imm (.inr rfl) | (refine le_agg ?_) | apply And.intro | (refine le_eq ?_; simp only [*]; done)))))
       focus (first | rfl | (simp only [purL, pur, purL_enc, Enc.pure_enc, Bool.and_self, Bool.and_true]; done))
       simp -implicitDefEqProofs only [avm, reduceCtorEq, ↓reduceIte, sevalprocAttr, encs])
    | (cases h
       try simp -implicitDefEqProofs only [avm, reduceCtorEq, ↓reduceIte, sevalprocAttr, encs]
       first | refine retLt (by first | exact .inr rfl | exact .inl rfl) (by rfl) ?_ | refine retL1 (by first | exact .inr rfl | exact .inl rfl) (by rfl) ?_
       repeat' (first | exact trivial | apply And.intro)
       all_goals first | exact .same _ rfl | exact reta_imm | exact reta_nil | (refine .imm _ _ _ ?_; simp only [pur, purL, purL_enc, Bool.and_self, Bool.and_true]; done) | exact .same _ (Enc.pure_enc _) | exact .same _ pur_enc_sl | exact .same _ pur_enc_fl | (refine .same _ ?_; simp only [pur, purL, purL_enc, Bool.and_self, Bool.and_true]; done) | (refine .le _ _ ?_ ?_; (focus (repeat' (first | exact le_same _ | exact le_enc | exact le_nil | exact le_imm (.inl rfl) | exact le_imm (.inr rfl) | refine le_agg ?_ | exact trivial | apply And.intro))); (simp only [pur, purL, purL_enc, Bool.and_self, Bool.and_true]; done)))
    | fail)
theorem a_policy_fits_2 {a0 : Rule} {a1 : View} {r : Bool} (h : m_policy_fits_2 a0 a1 = some r) : ACt Try.prog 143 [Enc.enc a0, Enc.enc a1] (Enc.enc r) [] := by
  refine act_of p_policy_fits_2 (by simp [c_policy_fits_2]) ?_
  show AW _ b_policy_fits_2 (RetOk [.tmp 4] _ _) { n := 10, tm := [(0, _), (1, _)], box := [], fr := [] }
  unfold b_policy_fits_2
  unfold m_policy_fits_2 at h
  try simp -implicitDefEqProofs only [avm, reduceCtorEq, ↓reduceIte, sevalprocAttr, encs] at h
  repeat' (first
    | (refine (hκ _).mpr ?_; clear hκ)
    | refine kn1 ?_
    | refine kr1 ?_
    | refine ke1 ?_
    | refine kn2 ?_
    | refine kr2 ?_
    | refine kx2 ?_
    | refine ke2 rfl ?_
    | refine kr5 ?_
    | refine ke5 ?_
    | refine kr6 ?_
    | refine ke6 ?_
    | refine w_seq ?_
    | refine w_block ?_
    | refine w_scope ?_
    | refine kn7 ?_
    | refine kr7 ?_
    | refine ke7 ?_
    | (refine aw_regk fun κ hκ => ?_; simp -implicitDefEqProofs only [avm, reduceCtorEq, ↓reduceIte, sevalprocAttr, encs])
    | refine aw_exit ?_
    | refine aw_ret ?_
    | refine aw_skip ?_
    | refine aw_label ?_
    | refine condc_t ?_
    | refine condc_f ?_
    | (refine aw_cond2 (by simp -implicitDefEqProofs only [avm, reduceCtorEq, ↓reduceIte, sevalprocAttr, encs]; rfl) ?_)
    | ((first | refine gkc_fork ?_ ?_ | refine pkc_fork ?_ ?_ | refine condc_fork ?_ ?_) <;> intro hq <;> (first | contradiction | simp -implicitDefEqProofs only [eq_false hq, Decidable.not_not, avm, reduceCtorEq, ↓reduceIte, sevalprocAttr, encs] at h ⊢ | simp -implicitDefEqProofs only [eq_true hq, avm, reduceCtorEq, ↓reduceIte, sevalprocAttr, encs] at h ⊢))
    | ((first | refine gkc_split ?_ ?_ | refine pkc_split ?_ ?_ | refine condc_bool ?_ ?_) <;> intro hq <;> (first | exact bcontra (by assumption) hq | exact bcontra hq (by assumption) | simp -implicitDefEqProofs only [hq, avm, reduceCtorEq, ↓reduceIte, sevalprocAttr, encs] at h ⊢))
    | (refine bd_go h fun y hy h => ?_
       first | refine callsc (a_prefix_Has hy) ?_ ?_ | refine callc (a_prefix_Has hy) ?_ ?_ | ((first | refine callsc (act_le (a_prefix_Has hy) ?_) ?_ ?_ | refine callc (act_le (a_prefix_Has hy) ?_) ?_ ?_); (focus (repeat' (first | exact trivial | exact le_same _ | exact le_enc | exact le_nil | exact le_imm (.inl rfl) | exact le_imm (.inr rfl) | (refine le_agg ?_) | apply And.intro | (refine le_eq ?_; simp only [*]; done)))))
       focus (first | rfl | (simp only [purL, pur, purL_enc, Enc.pure_enc, Bool.and_self, Bool.and_true]; done))
       simp -implicitDefEqProofs only [avm, reduceCtorEq, ↓reduceIte, sevalprocAttr, encs])
    | (cases h
       try simp -implicitDefEqProofs only [avm, reduceCtorEq, ↓reduceIte, sevalprocAttr, encs]
       first | refine retLt (by first | exact .inr rfl | exact .inl rfl) (by rfl) ?_ | refine retL1 (by first | exact .inr rfl | exact .inl rfl) (by rfl) ?_
       repeat' (first | exact trivial | apply And.intro)
       all_goals first | exact .same _ rfl | exact reta_imm | exact reta_nil | (refine .imm _ _ _ ?_; simp only [pur, purL, purL_enc, Bool.and_self, Bool.and_true]; done) | exact .same _ (Enc.pure_enc _) | exact .same _ pur_enc_sl | exact .same _ pur_enc_fl | (refine .same _ ?_; simp only [pur, purL, purL_enc, Bool.and_self, Bool.and_true]; done) | (refine .le _ _ ?_ ?_; (focus (repeat' (first | exact le_same _ | exact le_enc | exact le_nil | exact le_imm (.inl rfl) | exact le_imm (.inr rfl) | refine le_agg ?_ | exact trivial | apply And.intro))); (simp only [pur, purL, purL_enc, Bool.and_self, Bool.and_true]; done)))
    | fail)
theorem a_policy_fits_3 {a0 : Rule} {a1 : View} {r : Bool} (h : m_policy_fits_3 a0 a1 = some r) : ACt Try.prog 145 [Enc.enc a0, Enc.enc a1] (Enc.enc r) [] := by
  refine act_of p_policy_fits_3 (by simp [c_policy_fits_3]) ?_
  show AW _ b_policy_fits_3 (RetOk [.tmp 4] _ _) { n := 10, tm := [(0, _), (1, _)], box := [], fr := [] }
  unfold b_policy_fits_3
  unfold m_policy_fits_3 at h
  try simp -implicitDefEqProofs only [avm, reduceCtorEq, ↓reduceIte, sevalprocAttr, encs] at h
  repeat' (first
    | (refine (hκ _).mpr ?_; clear hκ)
    | refine kn1 ?_
    | refine kr1 ?_
    | refine ke1 ?_
    | refine kn2 ?_
    | refine kr2 ?_
    | refine kx2 ?_
    | refine ke2 rfl ?_
    | refine kr5 ?_
    | refine ke5 ?_
    | refine kr6 ?_
    | refine ke6 ?_
    | refine w_seq ?_
    | refine w_block ?_
    | refine w_scope ?_
    | refine kn7 ?_
    | refine kr7 ?_
    | refine ke7 ?_
    | (refine aw_regk fun κ hκ => ?_; simp -implicitDefEqProofs only [avm, reduceCtorEq, ↓reduceIte, sevalprocAttr, encs])
    | refine aw_exit ?_
    | refine aw_ret ?_
    | refine aw_skip ?_
    | refine aw_label ?_
    | refine condc_t ?_
    | refine condc_f ?_
    | (refine aw_cond2 (by simp -implicitDefEqProofs only [avm, reduceCtorEq, ↓reduceIte, sevalprocAttr, encs]; rfl) ?_)
    | ((first | refine gkc_fork ?_ ?_ | refine pkc_fork ?_ ?_ | refine condc_fork ?_ ?_) <;> intro hq <;> (first | contradiction | simp -implicitDefEqProofs only [eq_false hq, Decidable.not_not, avm, reduceCtorEq, ↓reduceIte, sevalprocAttr, encs] at h ⊢ | simp -implicitDefEqProofs only [eq_true hq, avm, reduceCtorEq, ↓reduceIte, sevalprocAttr, encs] at h ⊢))
    | ((first | refine gkc_split ?_ ?_ | refine pkc_split ?_ ?_ | refine condc_bool ?_ ?_) <;> intro hq <;> (first | exact bcontra (by assumption) hq | exact bcontra hq (by assumption) | simp -implicitDefEqProofs only [hq, avm, reduceCtorEq, ↓reduceIte, sevalprocAttr, encs] at h ⊢))
    | (refine bd_go h fun y hy h => ?_
       first | refine callsc (a_slices_Contains___int_int hy) ?_ ?_ | refine callc (a_slices_Contains___int_int hy) ?_ ?_ | ((first | refine callsc (act_le (a_slices_Contains___int_int hy) ?_) ?_ ?_ | refine callc (act_le (a_slices_Contains___int_int hy) ?_) ?_ ?_); (focus (repeat' (first | exact trivial | exact le_same _ | exact le_enc | exact le_nil | exact le_imm (.inl rfl) | exact le_imm (.inr rfl) | (refine le_agg ?_) | apply And.intro | (refine le_eq ?_; simp only [*]; done)))))
       focus (first | rfl | (simp only [purL, pur, purL_enc, Enc.pure_enc, Bool.and_self, Bool.and_true]; done))
       simp -implicitDefEqProofs only [avm, reduceCtorEq, ↓reduceIte, sevalprocAttr, encs])
    | (cases h
       try simp -implicitDefEqProofs only [avm, reduceCtorEq, ↓reduceIte, sevalprocAttr, encs]
       first | refine retLt (by first | exact .inr rfl | exact .inl rfl) (by rfl) ?_ | refine retL1 (by first | exact .inr rfl | exact .inl rfl) (by rfl) ?_
       repeat' (first | exact trivial | apply And.intro)
       all_goals first | exact .same _ rfl | exact reta_imm | exact reta_nil | (refine .imm _ _ _ ?_; simp only [pur, purL, purL_enc, Bool.and_self, Bool.and_true]; done) | exact .same _ (Enc.pure_enc _) | exact .same _ pur_enc_sl | exact .same _ pur_enc_fl | (refine .same _ ?_; simp only [pur, purL, purL_enc, Bool.and_self, Bool.and_true]; done) | (refine .le _ _ ?_ ?_; (focus (repeat' (first | exact le_same _ | exact le_enc | exact le_nil | exact le_imm (.inl rfl) | exact le_imm (.inr rfl) | refine le_agg ?_ | exact trivial | apply And.intro))); (simp only [pur, purL, purL_enc, Bool.and_self, Bool.and_true]; done)))
    | fail)
theorem a_policy_fits_4 {a0 : Rule} {a1 : View} {r : Bool} (h : m_policy_fits_4 a0 a1 = some r) : ACt Try.prog 146 [Enc.enc a0, Enc.enc a1] (Enc.enc r) [] := by
  refine act_of p_policy_fits_4 (by simp [c_policy_fits_4]) ?_
  show AW _ b_policy_fits_4 (RetOk [.tmp 4] _ _) { n := 11, tm := [(0, _), (1, _)], box := [], fr := [] }
  unfold b_policy_fits_4
  unfold m_policy_fits_4 at h
  try simp -implicitDefEqProofs only [avm, reduceCtorEq, ↓reduceIte, sevalprocAttr, encs] at h
  repeat' (first
    | (refine (hκ _).mpr ?_; clear hκ)
    | refine kn1 ?_
    | refine kr1 ?_
    | refine ke1 ?_
    | refine kn2 ?_
    | refine kr2 ?_
    | refine kx2 ?_
    | refine ke2 rfl ?_
    | refine kr5 ?_
    | refine ke5 ?_
    | refine kr6 ?_
    | refine ke6 ?_
    | refine w_seq ?_
    | refine w_block ?_
    | refine w_scope ?_
    | refine kn7 ?_
    | refine kr7 ?_
    | refine ke7 ?_
    | (refine aw_regk fun κ hκ => ?_; simp -implicitDefEqProofs only [avm, reduceCtorEq, ↓reduceIte, sevalprocAttr, encs])
    | refine aw_exit ?_
    | refine aw_ret ?_
    | refine aw_skip ?_
    | refine aw_label ?_
    | refine condc_t ?_
    | refine condc_f ?_
    | (refine aw_cond2 (by simp -implicitDefEqProofs only [avm, reduceCtorEq, ↓reduceIte, sevalprocAttr, encs]; rfl) ?_)
    | ((first | refine gkc_fork ?_ ?_ | refine pkc_fork ?_ ?_ | refine condc_fork ?_ ?_) <;> intro hq <;> (first | contradiction | simp -implicitDefEqProofs only [eq_false hq, Decidable.not_not, avm, reduceCtorEq, ↓reduceIte, sevalprocAttr, encs] at h ⊢ | simp -implicitDefEqProofs only [eq_true hq, avm, reduceCtorEq, ↓reduceIte, sevalprocAttr, encs] at h ⊢))
    | ((first | refine gkc_split ?_ ?_ | refine pkc_split ?_ ?_ | refine condc_bool ?_ ?_) <;> intro hq <;> (first | exact bcontra (by assumption) hq | exact bcontra hq (by assumption) | simp -implicitDefEqProofs only [hq, avm, reduceCtorEq, ↓reduceIte, sevalprocAttr, encs] at h ⊢))
    | (cases h
       try simp -implicitDefEqProofs only [avm, reduceCtorEq, ↓reduceIte, sevalprocAttr, encs]
       first | refine retLt (by first | exact .inr rfl | exact .inl rfl) (by rfl) ?_ | refine retL1 (by first | exact .inr rfl | exact .inl rfl) (by rfl) ?_
       repeat' (first | exact trivial | apply And.intro)
       all_goals first | exact .same _ rfl | exact reta_imm | exact reta_nil | (refine .imm _ _ _ ?_; simp only [pur, purL, purL_enc, Bool.and_self, Bool.and_true]; done) | exact .same _ (Enc.pure_enc _) | exact .same _ pur_enc_sl | exact .same _ pur_enc_fl | (refine .same _ ?_; simp only [pur, purL, purL_enc, Bool.and_self, Bool.and_true]; done) | (refine .le _ _ ?_ ?_; (focus (repeat' (first | exact le_same _ | exact le_enc | exact le_nil | exact le_imm (.inl rfl) | exact le_imm (.inr rfl) | refine le_agg ?_ | exact trivial | apply And.intro))); (simp only [pur, purL, purL_enc, Bool.and_self, Bool.and_true]; done)))
    | fail)
theorem a_policy_fits_5 {a0 : Rule} {a1 : View} {r : Bool} (h : m_policy_fits_5 a0 a1 = some r) : ACt Try.prog 147 [Enc.enc a0, Enc.enc a1] (Enc.enc r) [] := by
  refine act_of p_policy_fits_5 (by simp [c_policy_fits_5]) ?_
  show AW _ b_policy_fits_5 (RetOk [.tmp 4] _ _) { n := 10, tm := [(0, _), (1, _)], box := [], fr := [] }
  unfold b_policy_fits_5
  unfold m_policy_fits_5 at h
  try simp -implicitDefEqProofs only [avm, reduceCtorEq, ↓reduceIte, sevalprocAttr, encs] at h
  repeat' (first
    | (refine (hκ _).mpr ?_; clear hκ)
    | refine kn1 ?_
    | refine kr1 ?_
    | refine ke1 ?_
    | refine kn2 ?_
    | refine kr2 ?_
    | refine kx2 ?_
    | refine ke2 rfl ?_
    | refine kr5 ?_
    | refine ke5 ?_
    | refine kr6 ?_
    | refine ke6 ?_
    | refine w_seq ?_
    | refine w_block ?_
    | refine w_scope ?_
    | refine kn7 ?_
    | refine kr7 ?_
    | refine ke7 ?_
    | (refine aw_regk fun κ hκ => ?_; simp -implicitDefEqProofs only [avm, reduceCtorEq, ↓reduceIte, sevalprocAttr, encs])
    | refine aw_exit ?_
    | refine aw_ret ?_
    | refine aw_skip ?_
    | refine aw_label ?_
    | refine condc_t ?_
    | refine condc_f ?_
    | (refine aw_cond2 (by simp -implicitDefEqProofs only [avm, reduceCtorEq, ↓reduceIte, sevalprocAttr, encs]; rfl) ?_)
    | ((first | refine gkc_fork ?_ ?_ | refine pkc_fork ?_ ?_ | refine condc_fork ?_ ?_) <;> intro hq <;> (first | contradiction | simp -implicitDefEqProofs only [eq_false hq, Decidable.not_not, avm, reduceCtorEq, ↓reduceIte, sevalprocAttr, encs] at h ⊢ | simp -implicitDefEqProofs only [eq_true hq, avm, reduceCtorEq, ↓reduceIte, sevalprocAttr, encs] at h ⊢))
    | ((first | refine gkc_split ?_ ?_ | refine pkc_split ?_ ?_ | refine condc_bool ?_ ?_) <;> intro hq <;> (first | exact bcontra (by assumption) hq | exact bcontra hq (by assumption) | simp -implicitDefEqProofs only [hq, avm, reduceCtorEq, ↓reduceIte, sevalprocAttr, encs] at h ⊢))
    | (cases h
       try simp -implicitDefEqProofs only [avm, reduceCtorEq, ↓reduceIte, sevalprocAttr, encs]
       first | refine retLt (by first | exact .inr rfl | exact .inl rfl) (by rfl) ?_ | refine retL1 (by first | exact .inr rfl | exact .inl rfl) (by rfl) ?_
       repeat' (first | exact trivial | apply And.intro)
       all_goals first | exact .same _ rfl | exact reta_imm | exact reta_nil | (refine .imm _ _ _ ?_; simp only [pur, purL, purL_enc, Bool.and_self, Bool.and_true]; done) | exact .same _ (Enc.pure_enc _) | exact .same _ pur_enc_sl | exact .same _ pur_enc_fl | (refine .same _ ?_; simp only [pur, purL, purL_enc, Bool.and_self, Bool.and_true]; done) | (refine .le _ _ ?_ ?_; (focus (repeat' (first | exact le_same _ | exact le_enc | exact le_nil | exact le_imm (.inl rfl) | exact le_imm (.inr rfl) | refine le_agg ?_ | exact trivial | apply And.intro))); (simp only [pur, purL, purL_enc, Bool.and_self, Bool.and_true]; done)))
    | fail)
theorem a_policy_Fits {a0 : Rule} {a1 : View} {r : Bool} (h : m_policy_Fits a0 a1 = some r) : ACt Try.prog 99 [Enc.enc a0, Enc.enc a1] (Enc.enc r) [] := by
  refine act_of p_policy_Fits (by simp [c_policy_Fits]) ?_
  show AW _ b_policy_Fits (RetOk [.tmp 4] _ _) { n := 20, tm := [(0, _), (1, _)], box := [], fr := [] }
  unfold b_policy_Fits
  unfold m_policy_Fits at h
  try simp -implicitDefEqProofs only [avm, reduceCtorEq, ↓reduceIte, sevalprocAttr, encs] at h
  repeat' (first
    | (refine (hκ _).mpr ?_; clear hκ)
    | refine kn1 ?_
    | refine kr1 ?_
    | refine ke1 ?_
    | refine kn2 ?_
    | refine kr2 ?_
    | refine kx2 ?_
    | refine ke2 rfl ?_
    | refine kr5 ?_
    | refine ke5 ?_
    | refine kr6 ?_
    | refine ke6 ?_
    | refine w_seq ?_
    | refine w_block ?_
    | refine w_scope ?_
    | refine kn7 ?_
    | refine kr7 ?_
    | refine ke7 ?_
    | (refine aw_regk fun κ hκ => ?_; simp -implicitDefEqProofs only [avm, reduceCtorEq, ↓reduceIte, sevalprocAttr, encs])
    | refine aw_exit ?_
    | refine aw_ret ?_
    | refine aw_skip ?_
    | refine aw_label ?_
    | refine condc_t ?_
    | refine condc_f ?_
    | (refine aw_cond2 (by simp -implicitDefEqProofs only [avm, reduceCtorEq, ↓reduceIte, sevalprocAttr, encs]; rfl) ?_)
    | ((first | refine gkc_fork ?_ ?_ | refine pkc_fork ?_ ?_ | refine condc_fork ?_ ?_) <;> intro hq <;> (first | contradiction | simp -implicitDefEqProofs only [eq_false hq, Decidable.not_not, avm, reduceCtorEq, ↓reduceIte, sevalprocAttr, encs] at h ⊢ | simp -implicitDefEqProofs only [eq_true hq, avm, reduceCtorEq, ↓reduceIte, sevalprocAttr, encs] at h ⊢))
    | ((first | refine gkc_split ?_ ?_ | refine pkc_split ?_ ?_ | refine condc_bool ?_ ?_) <;> intro hq <;> (first | exact bcontra (by assumption) hq | exact bcontra hq (by assumption) | simp -implicitDefEqProofs only [hq, avm, reduceCtorEq, ↓reduceIte, sevalprocAttr, encs] at h ⊢))
    | (refine stc_plain rfl ?_; simp -implicitDefEqProofs only [putCells.eq_1, avm, reduceCtorEq, ↓reduceIte, sevalprocAttr, encs])
    | ((first | refine callsc k_policy_fits rfl ?_ | refine callc k_policy_fits rfl ?_); simp -implicitDefEqProofs only [avm, reduceCtorEq, ↓reduceIte, sevalprocAttr, encs])
    | (refine bd_go h fun y hy h => ?_
       first | refine callsc (a_policy_fits_1 hy) ?_ ?_ | refine callc (a_policy_fits_1 hy) ?_ ?_ | ((first | refine callsc (act_le (a_policy_fits_1 hy) ?_) ?_ ?_ | refine callc (act_le (a_policy_fits_1 hy) ?_) ?_ ?_); (focus (repeat' (first | exact trivial | exact le_same _ | exact le_enc | exact le_nil | exact le_imm (.inl rfl) | exact le_imm (.inr rfl) | (refine le_agg ?_) | apply And.intro | (refine le_eq ?_; simp only [*]; done)))))
       focus (first | rfl | (simp only [purL, pur, purL_enc, Enc.pure_enc, Bool.and_self, Bool.and_true]; done))
       simp -implicitDefEqProofs only [avm, reduceCtorEq, ↓reduceIte, sevalprocAttr, encs])
    | (refine bd_go h fun y hy h => ?_
       first | refine callsc (a_policy_fits_2 hy) ?_ ?_ | refine callc (a_policy_fits_2 hy) ?_ ?_ | ((first | refine callsc (act_le (a_policy_fits_2 hy) ?_) ?_ ?_ | refine callc (act_le (a_policy_fits_2 hy) ?_) ?_ ?_); (focus (repeat' (first | exact trivial | exact le_same _ | exact le_enc | exact le_nil | exact le_imm (.inl rfl) | exact le_imm (.inr rfl) | (refine le_agg ?_) | apply And.intro | (refine le_eq ?_; simp only [*]; done)))))
       focus (first | rfl | (simp only [purL, pur, purL_enc, Enc.pure_enc, Bool.and_self, Bool.and_true]; done))
       simp -implicitDefEqProofs only [avm, reduceCtorEq, ↓reduceIte, sevalprocAttr, encs])
    | (refine bd_go h fun y hy h => ?_
       first | refine callsc (a_policy_fits_3 hy) ?_ ?_ | refine callc (a_policy_fits_3 hy) ?_ ?_ | ((first | refine callsc (act_le (a_policy_fits_3 hy) ?_) ?_ ?_ | refine callc (act_le (a_policy_fits_3 hy) ?_) ?_ ?_); (focus (repeat' (first | exact trivial | exact le_same _ | exact le_enc | exact le_nil | exact le_imm (.inl rfl) | exact le_imm (.inr rfl) | (refine le_agg ?_) | apply And.intro | (refine le_eq ?_; simp only [*]; done)))))
       focus (first | rfl | (simp only [purL, pur, purL_enc, Enc.pure_enc, Bool.and_self, Bool.and_true]; done))
       simp -implicitDefEqProofs only [avm, reduceCtorEq, ↓reduceIte, sevalprocAttr, encs])
    | (refine bd_go h fun y hy h => ?_
       first | refine callsc (a_policy_fits_4 hy) ?_ ?_ | refine callc (a_policy_fits_4 hy) ?_ ?_ | ((first | refine callsc (act_le (a_policy_fits_4 hy) ?_) ?_ ?_ | refine callc (act_le (a_policy_fits_4 hy) ?_) ?_ ?_); (focus (repeat' (first | exact trivial | exact le_same _ | exact le_enc | exact le_nil | exact le_imm (.inl rfl) | exact le_imm (.inr rfl) | (refine le_agg ?_) | apply And.intro | (refine le_eq ?_; simp only [*]; done)))))
       focus (first | rfl | (simp only [purL, pur, purL_enc, Enc.pure_enc, Bool.and_self, Bool.and_true]; done))
       simp -implicitDefEqProofs only [avm, reduceCtorEq, ↓reduceIte, sevalprocAttr, encs])
    | (refine bd_go h fun y hy h => ?_
       first | refine callsc (a_policy_fits_5 hy) ?_ ?_ | refine callc (a_policy_fits_5 hy) ?_ ?_ | ((first | refine callsc (act_le (a_policy_fits_5 hy) ?_) ?_ ?_ | refine callc (act_le (a_policy_fits_5 hy) ?_) ?_ ?_); (focus (repeat' (first | exact trivial | exact le_same _ | exact le_enc | exact le_nil | exact le_imm (.inl rfl) | exact le_imm (.inr rfl) | (refine le_agg ?_) | apply And.intro | (refine le_eq ?_; simp only [*]; done)))))
       focus (first | rfl | (simp only [purL, pur, purL_enc, Enc.pure_enc, Bool.and_self, Bool.and_true]; done))
       simp -implicitDefEqProofs only [avm, reduceCtorEq, ↓reduceIte, sevalprocAttr, encs])
    | (cases h
       try simp -implicitDefEqProofs only [avm, reduceCtorEq, ↓reduceIte, sevalprocAttr, encs]
       first | refine retLt (by first | exact .inr rfl | exact .inl rfl) (by rfl) ?_ | refine retL1 (by first | exact .inr rfl | exact .inl rfl) (by rfl) ?_
       repeat' (first | exact trivial | apply And.intro)
       all_goals first | exact .same _ rfl | exact reta_imm | exact reta_nil | (refine .imm _ _ _ ?_; simp only [pur, purL, purL_enc, Bool.and_self, Bool.and_true]; done) | exact .same _ (Enc.pure_enc _) | exact .same _ pur_enc_sl | exact .same _ pur_enc_fl | (refine .same _ ?_; simp only [pur, purL, purL_enc, Bool.and_self, Bool.and_true]; done) | (refine .le _ _ ?_ ?_; (focus (repeat' (first | exact le_same _ | exact le_enc | exact le_nil | exact le_imm (.inl rfl) | exact le_imm (.inr rfl) | refine le_agg ?_ | exact trivial | apply And.intro))); (simp only [pur, purL, purL_enc, Bool.and_self, Bool.and_true]; done)))
    | (cases h; done)
    | ((refine sw_fork h (fun hq h => ?_) (fun hq h => ?_)) <;> (first | contradiction | simp -implicitDefEqProofs only [eq_false hq, Decidable.not_not, avm, reduceCtorEq, ↓reduceIte, sevalprocAttr, encs] at h ⊢ | simp -implicitDefEqProofs only [hq, avm, reduceCtorEq, ↓reduceIte, sevalprocAttr, encs] at h ⊢ | skip))
    | fail)
theorem a_policy_Pick {a0 : (List Rule)} {a1 : View} {r : (Rule × Bool)} (h : m_policy_Pick a0 a1 = some r) : ACt Try.prog 52 [Enc.enc a0, Enc.enc a1] (.tup [Enc.enc r.1, Enc.enc r.2]) [] := by
  refine act_of p_policy_Pick (by simp [c_policy_Pick]) ?_
  show AW _ b_policy_Pick (RetOk [.cell 4 (some 6), .tmp 5] _ _) { n := 20, tm := [(0, _), (1, _)], box := [], fr := [] }
  unfold b_policy_Pick
  unfold m_policy_Pick at h
  try simp -implicitDefEqProofs only [avm, reduceCtorEq, ↓reduceIte, sevalprocAttr, encs] at h
  repeat' (first
    | (refine (hκ _).mpr ?_; clear hκ)
    | refine kn1 ?_
    | refine kr1 ?_
    | refine ke1 ?_
    | refine kn2 ?_
    | refine kr2 ?_
    | refine kx2 ?_
    | refine ke2 rfl ?_
    | refine kr5 ?_
    | refine ke5 ?_
    | refine kr6 ?_
    | refine ke6 ?_
    | (refine w_loopm [3, 4, 8, 9] (fun (j : (Int)) => [(10, (.int .i64 j))]) (fun (j : (Int)) => []) (fun (j : (Int)) => []) (fun (j : (Int)) => []) (show loopC (s_policy_Pick1 _ _) _ BIG _ = some _ from h) ?_ ?_
       · try simp -implicitDefEqProofs only [pats, avm, reduceCtorEq, ↓reduceIte, sevalprocAttr, encs]
         (first
          | (refine wk_m 0 _ rfl ?_ rfl rfl ?_ ?_ ?_ ?_
             · first | exact Nat.le_refl _ | exact Nat.zero_le _ | (simp; done)
             · first | exact Nat.zero_le _ | exact Nat.le_refl _ | (simp; done)
             · first | exact Nat.zero_le _ | exact Nat.le_refl _ | (simp; done)
             all_goals (repeat' (first | exact trivial | apply And.intro))
             all_goals first | exact rfl | exact wkc_kv | exact wkc_FL | exact wka_full | exact wka_full0 | exact .same _ rfl | exact wka_imm | exact wka_app (by decide) | exact wka_tag (by decide) rfl | exact wka_tagn (by decide) rfl | exact wka_tagr (by decide) rfl (by simp only [pur, purL, purL_enc, Bool.and_self, Bool.and_true]) | exact wka_immn | (refine .imm _ _ _ _ (.inl rfl) (okBL_pur ?_); simp only [pur, purL, purL_enc, Bool.and_self, Bool.and_true]; done) | exact wka_tag0 (by decide) rfl | exact wka_imm0 | exact wka_pur (Enc.pure_enc _) | exact wka_pur pur_enc_sl | exact wka_pur pur_enc_fl | exact .und _ | (refine wka_pur ?_; simp only [pur, purL, purL_enc, Bool.and_self, Bool.and_true]; done) | (refine .same _ ?_; simp only [okB, okBL, okBL_enc, Bool.and_self, Bool.and_true, decide_true, sevalprocAttr]; done) | (refine .le _ _ ?_ (okB_pur ?_); (focus (repeat' (first | exact le_same _ | exact le_enc | exact le_nil | exact le_imm (.inl rfl) | exact le_imm (.inr rfl) | refine le_agg ?_ | exact trivial | apply And.intro))); (simp only [pur, purL, purL_enc, Bool.and_self, Bool.and_true]; done))))
       clear h
       intro n st h
       simp -implicitDefEqProofs only [s_policy_Pick1.eq_1, pats, avm, reduceCtorEq, ↓reduceIte, sevalprocAttr, encs] at h ⊢)
    | refine w_seq ?_
    | refine w_block ?_
    | refine w_scope ?_
    | refine kn7 ?_
    | refine kr7 ?_
    | refine ke7 ?_
    | (refine aw_regk fun κ hκ => ?_; simp -implicitDefEqProofs only [avm, reduceCtorEq, ↓reduceIte, sevalprocAttr, encs])
    | refine aw_exit ?_
    | refine aw_ret ?_
    | refine aw_skip ?_
    | refine aw_label ?_
    | refine condc_t ?_
    | refine condc_f ?_
    | (refine aw_cond2 (by simp -implicitDefEqProofs only [avm, reduceCtorEq, ↓reduceIte, sevalprocAttr, encs]; rfl) ?_)
    | ((first | refine gkc_fork ?_ ?_ | refine pkc_fork ?_ ?_ | refine condc_fork ?_ ?_) <;> intro hq <;> (first | contradiction | simp -implicitDefEqProofs only [eq_false hq, Decidable.not_not, avm, reduceCtorEq, ↓reduceIte, sevalprocAttr, encs] at h ⊢ | simp -implicitDefEqProofs only [eq_true hq, avm, reduceCtorEq, ↓reduceIte, sevalprocAttr, encs] at h ⊢))
    | ((first | refine gkc_split ?_ ?_ | refine pkc_split ?_ ?_ | refine condc_bool ?_ ?_) <;> intro hq <;> (first | exact bcontra (by assumption) hq | exact bcontra hq (by assumption) | simp -implicitDefEqProofs only [hq, avm, reduceCtorEq, ↓reduceIte, sevalprocAttr, encs] at h ⊢))
    | (refine stc_plain rfl ?_; simp -implicitDefEqProofs only [putCells.eq_1, avm, reduceCtorEq, ↓reduceIte, sevalprocAttr, encs])
    | (refine bd_go h fun y hy h => ?_; refine ixc hy ?_; simp -implicitDefEqProofs only [avm, reduceCtorEq, ↓reduceIte, sevalprocAttr, encs])
    | (refine bd_go h fun y hy h => ?_
       first | refine callsc (a_policy_Fits hy) ?_ ?_ | refine callc (a_policy_Fits hy) ?_ ?_ | ((first | refine callsc (act_le (a_policy_Fits hy) ?_) ?_ ?_ | refine callc (act_le (a_policy_Fits hy) ?_) ?_ ?_); (focus (repeat' (first | exact trivial | exact le_same _ | exact le_enc | exact le_nil | exact le_imm (.inl rfl) | exact le_imm (.inr rfl) | (refine le_agg ?_) | apply And.intro | (refine le_eq ?_; simp only [*]; done)))))
       focus (first | rfl | (simp only [purL, pur, purL_enc, Enc.pure_enc, Bool.and_self, Bool.and_true]; done))
       simp -implicitDefEqProofs only [avm, reduceCtorEq, ↓reduceIte, sevalprocAttr, encs])
    | (first | refine kn6 ⟨_, h, ?_⟩ | refine kn5 ⟨_, h, ?_⟩
       try simp -implicitDefEqProofs only [pats, avm, reduceCtorEq, ↓reduceIte, sevalprocAttr, encs]
       (first
          | (refine wk_m 0 _ rfl ?_ rfl rfl ?_ ?_ ?_ ?_
             · first | exact Nat.le_refl _ | exact Nat.zero_le _ | (simp; done)
             · first | exact Nat.zero_le _ | exact Nat.le_refl _ | (simp; done)
             · first | exact Nat.zero_le _ | exact Nat.le_refl _ | (simp; done)
             all_goals (repeat' (first | exact trivial | apply And.intro))
             all_goals first | exact rfl | exact wkc_kv | exact wkc_FL | exact wka_full | exact wka_full0 | exact .same _ rfl | exact wka_imm | exact wka_app (by decide) | exact wka_tag (by decide) rfl | exact wka_tagn (by decide) rfl | exact wka_tagr (by decide) rfl (by simp only [pur, purL, purL_enc, Bool.and_self, Bool.and_true]) | exact wka_immn | (refine .imm _ _ _ _ (.inl rfl) (okBL_pur ?_); simp only [pur, purL, purL_enc, Bool.and_self, Bool.and_true]; done) | exact wka_tag0 (by decide) rfl | exact wka_imm0 | exact wka_pur (Enc.pure_enc _) | exact wka_pur pur_enc_sl | exact wka_pur pur_enc_fl | exact .und _ | (refine wka_pur ?_; simp only [pur, purL, purL_enc, Bool.and_self, Bool.and_true]; done) | (refine .same _ ?_; simp only [okB, okBL, okBL_enc, Bool.and_self, Bool.and_true, decide_true, sevalprocAttr]; done) | (refine .le _ _ ?_ (okB_pur ?_); (focus (repeat' (first | exact le_same _ | exact le_enc | exact le_nil | exact le_imm (.inl rfl) | exact le_imm (.inr rfl) | refine le_agg ?_ | exact trivial | apply And.intro))); (simp only [pur, purL, purL_enc, Bool.and_self, Bool.and_true]; done)))))
    | (first | refine kn6 ⟨_, h, ?_⟩ | refine kn5 ⟨_, h, ?_⟩
       try simp -implicitDefEqProofs only [*, pats, avm, reduceCtorEq, ↓reduceIte, sevalprocAttr, encs]
       (first
          | (refine wk_m 0 _ rfl ?_ rfl rfl ?_ ?_ ?_ ?_
             · first | exact Nat.le_refl _ | exact Nat.zero_le _ | (simp; done)
             · first | exact Nat.zero_le _ | exact Nat.le_refl _ | (simp; done)
             · first | exact Nat.zero_le _ | exact Nat.le_refl _ | (simp; done)
             all_goals (repeat' (first | exact trivial | apply And.intro))
             all_goals first | exact rfl | exact wkc_kv | exact wkc_FL | exact wka_full | exact wka_full0 | exact .same _ rfl | exact wka_imm | exact wka_app (by decide) | exact wka_tag (by decide) rfl | exact wka_tagn (by decide) rfl | exact wka_tagr (by decide) rfl (by simp only [pur, purL, purL_enc, Bool.and_self, Bool.and_true]) | exact wka_immn | (refine .imm _ _ _ _ (.inl rfl) (okBL_pur ?_); simp only [pur, purL, purL_enc, Bool.and_self, Bool.and_true]; done) | exact wka_tag0 (by decide) rfl | exact wka_imm0 | exact wka_pur (Enc.pure_enc _) | exact wka_pur pur_enc_sl | exact wka_pur pur_enc_fl | exact .und _ | (refine wka_pur ?_; simp only [pur, purL, purL_enc, Bool.and_self, Bool.and_true]; done) | (refine .same _ ?_; simp only [okB, okBL, okBL_enc, Bool.and_self, Bool.and_true, decide_true, sevalprocAttr]; done) | (refine .le _ _ ?_ (okB_pur ?_); (focus (repeat' (first | exact le_same _ | exact le_enc | exact le_nil | exact le_imm (.inl rfl) | exact le_imm (.inr rfl) | refine le_agg ?_ | exact trivial | apply And.intro))); (simp only [pur, purL, purL_enc, Bool.and_self, Bool.and_true]; done)))))
    | (cases h
       try simp -implicitDefEqProofs only [avm, reduceCtorEq, ↓reduceIte, sevalprocAttr, encs]
       first | refine retLt (by first | exact .inr rfl | exact .inl rfl) (by rfl) ?_ | refine retL1 (by first | exact .inr rfl | exact .inl rfl) (by rfl) ?_
       repeat' (first | exact trivial | apply And.intro)
       all_goals first | exact .same _ rfl | exact reta_imm | exact reta_nil | (refine .imm _ _ _ ?_; simp only [pur, purL, purL_enc, Bool.and_self, Bool.and_true]; done) | exact .same _ (Enc.pure_enc _) | exact .same _ pur_enc_sl | exact .same _ pur_enc_fl | (refine .same _ ?_; simp only [pur, purL, purL_enc, Bool.and_self, Bool.and_true]; done) | (refine .le _ _ ?_ ?_; (focus (repeat' (first | exact le_same _ | exact le_enc | exact le_nil | exact le_imm (.inl rfl) | exact le_imm (.inr rfl) | refine le_agg ?_ | exact trivial | apply And.intro))); (simp only [pur, purL, purL_enc, Bool.and_self, Bool.and_true]; done)))
    | fail)
theorem a_edge_accepts {a0 : Rule} {a1 : Bool} {r : Bool} (h : m_edge_accepts a0 a1 = some r) : ACt Try.prog 53 [Enc.enc a0, Enc.enc a1] (Enc.enc r) [] := by
  refine act_of p_edge_accepts (by simp [c_edge_accepts]) ?_
  show AW _ b_edge_accepts (RetOk [.tmp 4] _ _) { n := 11, tm := [(0, _), (1, _)], box := [], fr := [] }
  unfold b_edge_accepts
  unfold m_edge_accepts at h
  try simp -implicitDefEqProofs only [avm, reduceCtorEq, ↓reduceIte, sevalprocAttr, encs] at h
  repeat' (first
    | (refine (hκ _).mpr ?_; clear hκ)
    | refine kn1 ?_
    | refine kr1 ?_
    | refine ke1 ?_
    | refine kn2 ?_
    | refine kr2 ?_
    | refine kx2 ?_
    | refine ke2 rfl ?_
    | refine kr5 ?_
    | refine ke5 ?_
    | refine kr6 ?_
    | refine ke6 ?_
    | refine w_seq ?_
    | refine w_block ?_
    | refine w_scope ?_
    | refine kn7 ?_
    | refine kr7 ?_
    | refine ke7 ?_
    | (refine aw_regk fun κ hκ => ?_; simp -implicitDefEqProofs only [avm, reduceCtorEq, ↓reduceIte, sevalprocAttr, encs])
    | refine aw_exit ?_
    | refine aw_ret ?_
    | refine aw_skip ?_
    | refine aw_label ?_
    | refine condc_t ?_
    | refine condc_f ?_
    | (refine aw_cond2 (by simp -implicitDefEqProofs only [avm, reduceCtorEq, ↓reduceIte, sevalprocAttr, encs]; rfl) ?_)
    | ((first | refine gkc_fork ?_ ?_ | refine pkc_fork ?_ ?_ | refine condc_fork ?_ ?_) <;> intro hq <;> (first | contradiction | simp -implicitDefEqProofs only [eq_false hq, Decidable.not_not, avm, reduceCtorEq, ↓reduceIte, sevalprocAttr, encs] at h ⊢ | simp -implicitDefEqProofs only [eq_true hq, avm, reduceCtorEq, ↓reduceIte, sevalprocAttr, encs] at h ⊢))
    | ((first | refine gkc_split ?_ ?_ | refine pkc_split ?_ ?_ | refine condc_bool ?_ ?_) <;> intro hq <;> (first | exact bcontra (by assumption) hq | exact bcontra hq (by assumption) | simp -implicitDefEqProofs only [hq, avm, reduceCtorEq, ↓reduceIte, sevalprocAttr, encs] at h ⊢))
    | (cases h
       try simp -implicitDefEqProofs only [avm, reduceCtorEq, ↓reduceIte, sevalprocAttr, encs]
       first | refine retLt (by first | exact .inr rfl | exact .inl rfl) (by rfl) ?_ | refine retL1 (by first | exact .inr rfl | exact .inl rfl) (by rfl) ?_
       repeat' (first | exact trivial | apply And.intro)
       all_goals first | exact .same _ rfl | exact reta_imm | exact reta_nil | (refine .imm _ _ _ ?_; simp only [pur, purL, purL_enc, Bool.and_self, Bool.and_true]; done) | exact .same _ (Enc.pure_enc _) | exact .same _ pur_enc_sl | exact .same _ pur_enc_fl | (refine .same _ ?_; simp only [pur, purL, purL_enc, Bool.and_self, Bool.and_true]; done) | (refine .le _ _ ?_ ?_; (focus (repeat' (first | exact le_same _ | exact le_enc | exact le_nil | exact le_imm (.inl rfl) | exact le_imm (.inr rfl) | refine le_agg ?_ | exact trivial | apply And.intro))); (simp only [pur, purL, purL_enc, Bool.and_self, Bool.and_true]; done)))
    | fail)
theorem a_edge_In {a0 : Conf} {a1 : Int} {a2 : Prefix} {a3 : Path} {r : (Route × Bool)} (h : m_edge_In a0 a1 a2 a3 = some r) : ACt Try.prog 16 [Enc.enc a0, Enc.enc a1, Enc.enc a2, Enc.enc a3] (.tup [Enc.enc r.1, Enc.enc r.2]) [] := by
  refine act_of p_edge_In (by simp [c_edge_In]) ?_
  show AW _ b_edge_In (RetOk [.cell 8 (some 6), .tmp 9] _ _) { n := 47, tm := [(0, _), (1, _), (2, _), (3, _)], box := [], fr := [] }
  unfold b_edge_In
  unfold m_edge_In at h
  try simp -implicitDefEqProofs only [avm, reduceCtorEq, ↓reduceIte, sevalprocAttr, encs] at h
  repeat' (first
    | (refine (hκ _).mpr ?_; clear hκ)
    | refine kn1 ?_
    | refine kr1 ?_
    | refine ke1 ?_
    | refine kn2 ?_
    | refine kr2 ?_
    | refine kx2 ?_
    | refine ke2 rfl ?_
    | refine kr5 ?_
    | refine ke5 ?_
    | refine kr6 ?_
    | refine ke6 ?_
    | refine w_seq ?_
    | refine w_block ?_
    | refine w_scope ?_
    | refine kn7 ?_
    | refine kr7 ?_
    | refine ke7 ?_
    | (refine aw_regk fun κ hκ => ?_; simp -implicitDefEqProofs only [avm, reduceCtorEq, ↓reduceIte, sevalprocAttr, encs])
    | refine aw_exit ?_
    | refine aw_ret ?_
    | refine aw_skip ?_
    | refine aw_label ?_
    | refine condc_t ?_
    | refine condc_f ?_
    | (refine aw_cond2 (by simp -implicitDefEqProofs only [avm, reduceCtorEq, ↓reduceIte, sevalprocAttr, encs]; rfl) ?_)
    | ((first | refine gkc_fork ?_ ?_ | refine pkc_fork ?_ ?_ | refine condc_fork ?_ ?_) <;> intro hq <;> (first | contradiction | simp -implicitDefEqProofs only [eq_false hq, Decidable.not_not, avm, reduceCtorEq, ↓reduceIte, sevalprocAttr, encs] at h ⊢ | simp -implicitDefEqProofs only [eq_true hq, avm, reduceCtorEq, ↓reduceIte, sevalprocAttr, encs] at h ⊢))
    | ((first | refine gkc_split ?_ ?_ | refine pkc_split ?_ ?_ | refine condc_bool ?_ ?_) <;> intro hq <;> (first | exact bcontra (by assumption) hq | exact bcontra hq (by assumption) | simp -implicitDefEqProofs only [hq, avm, reduceCtorEq, ↓reduceIte, sevalprocAttr, encs] at h ⊢))
    | (refine stc_plain rfl ?_; simp -implicitDefEqProofs only [putCells.eq_1, avm, reduceCtorEq, ↓reduceIte, sevalprocAttr, encs])
    | (refine bd_go h fun y hy h => ?_; refine ixc hy ?_; simp -implicitDefEqProofs only [avm, reduceCtorEq, ↓reduceIte, sevalprocAttr, encs])
    | (refine call_cut p_edge_through (by simp [c_edge_through]) (fun (j : (Bool × Int × Int × Int × Int × Int × Int × Int)) => (.bool j.1)) (fun (j : (Bool × Int × Int × Int × Int × Int × Int × Int)) => [(5, 0, (.int .i64 j.2.1)), (5, 1, (.int .i64 j.2.2.1)), (5, 2, (.int .i64 j.2.2.2.1)), (5, 3, (.int .i64 j.2.2.2.2.1)), (5, 4, (.int .i64 j.2.2.2.2.2.1)), (5, 5, (.int .i64 j.2.2.2.2.2.2.1)), (6, 0, (.int .i64 j.2.2.2.2.2.2.2))]) (fun (j : (Bool × Int × Int × Int × Int × Int × Int × Int)) => []) (show jn 101 _ _ = some _ from h) ?_ ?_
       rotate_left
       intro j h
       simp -implicitDefEqProofs only [pats, avm, reduceCtorEq, ↓reduceIte, sevalprocAttr, encs] at h ⊢
       rotate_left
       clear h
       intro k' h
       simp -implicitDefEqProofs only [c_edge_through, b_edge_through, pats, avm, reduceCtorEq, ↓reduceIte, sevalprocAttr, encs] at h ⊢)
    | (refine call_cut p_edge_In_1 (by simp [c_edge_In_1]) (fun (j : (Bool)) => (.bool j)) (fun (j : (Bool)) => []) (fun (j : (Bool)) => []) (show jn 102 _ _ = some _ from h) ?_ ?_
       rotate_left
       intro j h
       simp -implicitDefEqProofs only [pats, avm, reduceCtorEq, ↓reduceIte, sevalprocAttr, encs] at h ⊢
       rotate_left
       clear h
       intro k' h
       simp -implicitDefEqProofs only [c_edge_In_1, b_edge_In_1, pats, avm, reduceCtorEq, ↓reduceIte, sevalprocAttr, encs] at h ⊢)
    | (refine call_in p_edge_In_2 (by simp [c_edge_In_2]) ?_
       simp -implicitDefEqProofs only [c_edge_In_2, b_edge_In_2, avm, reduceCtorEq, ↓reduceIte, sevalprocAttr, encs])
    | (refine call_in p_edge_In_3 (by simp [c_edge_In_3]) ?_
       simp -implicitDefEqProofs only [c_edge_In_3, b_edge_In_3, avm, reduceCtorEq, ↓reduceIte, sevalprocAttr, encs])
    | (refine call_in p_edge_In_4 (by simp [c_edge_In_4]) ?_
       simp -implicitDefEqProofs only [c_edge_In_4, b_edge_In_4, avm, reduceCtorEq, ↓reduceIte, sevalprocAttr, encs])
    | (refine call_in p_edge_In_5 (by simp [c_edge_In_5]) ?_
       simp -implicitDefEqProofs only [c_edge_In_5, b_edge_In_5, avm, reduceCtorEq, ↓reduceIte, sevalprocAttr, encs])
    | (refine bd_go h fun y hy h => ?_
       first | refine callsc (a_edge_at hy) ?_ ?_ | refine callc (a_edge_at hy) ?_ ?_ | ((first | refine callsc (act_le (a_edge_at hy) ?_) ?_ ?_ | refine callc (act_le (a_edge_at hy) ?_) ?_ ?_); (focus (repeat' (first | exact trivial | exact le_same _ | exact le_enc | exact le_nil | exact le_imm (.inl rfl) | exact le_imm (.inr rfl) | (refine le_agg ?_) | apply And.intro | (refine le_eq ?_; simp only [*]; done)))))
       focus (first | rfl | (simp only [purL, pur, purL_enc, Enc.pure_enc, Bool.and_self, Bool.and_true]; done))
       simp -implicitDefEqProofs only [avm, reduceCtorEq, ↓reduceIte, sevalprocAttr, encs])
    | (refine bd_go h fun y hy h => ?_
       first | refine callsc (a_attr_Sane hy) ?_ ?_ | refine callc (a_attr_Sane hy) ?_ ?_ | ((first | refine callsc (act_le (a_attr_Sane hy) ?_) ?_ ?_ | refine callc (act_le (a_attr_Sane hy) ?_) ?_ ?_); (focus (repeat' (first | exact trivial | exact le_same _ | exact le_enc | exact le_nil | exact le_imm (.inl rfl) | exact le_imm (.inr rfl) | (refine le_agg ?_) | apply And.intro | (refine le_eq ?_; simp only [*]; done)))))
       focus (first | rfl | (simp only [purL, pur, purL_enc, Enc.pure_enc, Bool.and_self, Bool.and_true]; done))
       simp -implicitDefEqProofs only [avm, reduceCtorEq, ↓reduceIte, sevalprocAttr, encs])
    | (refine bd_go h fun y hy h => ?_
       first | refine callsc (a_slices_Contains___int_int hy) ?_ ?_ | refine callc (a_slices_Contains___int_int hy) ?_ ?_ | ((first | refine callsc (act_le (a_slices_Contains___int_int hy) ?_) ?_ ?_ | refine callc (act_le (a_slices_Contains___int_int hy) ?_) ?_ ?_); (focus (repeat' (first | exact trivial | exact le_same _ | exact le_enc | exact le_nil | exact le_imm (.inl rfl) | exact le_imm (.inr rfl) | (refine le_agg ?_) | apply And.intro | (refine le_eq ?_; simp only [*]; done)))))
       focus (first | rfl | (simp only [purL, pur, purL_enc, Enc.pure_enc, Bool.and_self, Bool.and_true]; done))
       simp -implicitDefEqProofs only [avm, reduceCtorEq, ↓reduceIte, sevalprocAttr, encs])
    | (refine bd_go h fun y hy h => ?_
       first | refine callsc (a_role_In hy) ?_ ?_ | refine callc (a_role_In hy) ?_ ?_ | ((first | refine callsc (act_le (a_role_In hy) ?_) ?_ ?_ | refine callc (act_le (a_role_In hy) ?_) ?_ ?_); (focus (repeat' (first | exact trivial | exact le_same _ | exact le_enc | exact le_nil | exact le_imm (.inl rfl) | exact le_imm (.inr rfl) | (refine le_agg ?_) | apply And.intro | (refine le_eq ?_; simp only [*]; done)))))
       focus (first | rfl | (simp only [purL, pur, purL_enc, Enc.pure_enc, Bool.and_self, Bool.and_true]; done))
       simp -implicitDefEqProofs only [avm, reduceCtorEq, ↓reduceIte, sevalprocAttr, encs])
    | (refine bd_go h fun y hy h => ?_
       first | refine callsc (a_policy_Pick hy) ?_ ?_ | refine callc (a_policy_Pick hy) ?_ ?_ | ((first | refine callsc (act_le (a_policy_Pick hy) ?_) ?_ ?_ | refine callc (act_le (a_policy_Pick hy) ?_) ?_ ?_); (focus (repeat' (first | exact trivial | exact le_same _ | exact le_enc | exact le_nil | exact le_imm (.inl rfl) | exact le_imm (.inr rfl) | (refine le_agg ?_) | apply And.intro | (refine le_eq ?_; simp only [*]; done)))))
       focus (first | rfl | (simp only [purL, pur, purL_enc, Enc.pure_enc, Bool.and_self, Bool.and_true]; done))
       simp -implicitDefEqProofs only [avm, reduceCtorEq, ↓reduceIte, sevalprocAttr, encs])
    | (refine bd_go h fun y hy h => ?_
       first | refine callsc (a_edge_accepts hy) ?_ ?_ | refine callc (a_edge_accepts hy) ?_ ?_ | ((first | refine callsc (act_le (a_edge_accepts hy) ?_) ?_ ?_ | refine callc (act_le (a_edge_accepts hy) ?_) ?_ ?_); (focus (repeat' (first | exact trivial | exact le_same _ | exact le_enc | exact le_nil | exact le_imm (.inl rfl) | exact le_imm (.inr rfl) | (refine le_agg ?_) | apply And.intro | (refine le_eq ?_; simp only [*]; done)))))
       focus (first | rfl | (simp only [purL, pur, purL_enc, Enc.pure_enc, Bool.and_self, Bool.and_true]; done))
       simp -implicitDefEqProofs only [avm, reduceCtorEq, ↓reduceIte, sevalprocAttr, encs])
    | (refine ixr (by rfl) (by decide) ?_; simp -implicitDefEqProofs only [avm, reduceCtorEq, ↓reduceIte, sevalprocAttr, encs])
    | refine w_unroll ?_
    | refine kn4 ?_
    | refine kr4 ?_
    | refine ke4 ?_
    | refine al_round ?_
    | (refine rets_in (by first | exact .inr rfl | exact .inl rfl) rfl ?_; simp -implicitDefEqProofs only [avm, reduceCtorEq, ↓reduceIte, sevalprocAttr, encs])
    | (refine retj_one 0 (by first | exact .inr rfl | exact .inl rfl) h rfl ?_ ?_ ?_ rfl rfl ?_ ?_
       · first | exact Nat.le_refl _ | exact Nat.zero_le _ | (simp; done)
       · first | exact Nat.zero_le _ | exact Nat.le_refl _ | (simp; done)
       · first | exact Nat.zero_le _ | exact Nat.le_refl _ | (simp; done)
       all_goals (try simp -implicitDefEqProofs only [pats, avm, reduceCtorEq, ↓reduceIte, sevalprocAttr, encs])
       all_goals (repeat' (first | exact trivial | apply And.intro))
       all_goals first | exact rfl | exact wkc_kv | exact wkc_FL | exact wka_full | exact wka_full0 | exact .same _ rfl | exact wka_imm | exact wka_app (by decide) | exact wka_tag (by decide) rfl | exact wka_tagn (by decide) rfl | exact wka_tagr (by decide) rfl (by simp only [pur, purL, purL_enc, Bool.and_self, Bool.and_true]) | exact wka_immn | (refine .imm _ _ _ _ (.inl rfl) (okBL_pur ?_); simp only [pur, purL, purL_enc, Bool.and_self, Bool.and_true]; done) | exact wka_tag0 (by decide) rfl | exact wka_imm0 | exact wka_pur (Enc.pure_enc _) | exact wka_pur pur_enc_sl | exact wka_pur pur_enc_fl | exact .und _ | (refine wka_pur ?_; simp only [pur, purL, purL_enc, Bool.and_self, Bool.and_true]; done) | (refine .same _ ?_; simp only [okB, okBL, okBL_enc, Bool.and_self, Bool.and_true, decide_true, sevalprocAttr]; done) | (refine .le _ _ ?_ (okB_pur ?_); (focus (repeat' (first | exact le_same _ | exact le_enc | exact le_nil | exact le_imm (.inl rfl) | exact le_imm (.inr rfl) | refine le_agg ?_ | exact trivial | apply And.intro))); (simp only [pur, purL, purL_enc, Bool.and_self, Bool.and_true]; done)))
    | (refine retj_tup 0 (by first | exact .inr rfl | exact .inl rfl) h rfl ?_ ?_ ?_ rfl rfl ?_ ?_
       · first | exact Nat.le_refl _ | exact Nat.zero_le _ | (simp; done)
       · first | exact Nat.zero_le _ | exact Nat.le_refl _ | (simp; done)
       · first | exact Nat.zero_le _ | exact Nat.le_refl _ | (simp; done)
       all_goals (try simp -implicitDefEqProofs only [pats, avm, reduceCtorEq, ↓reduceIte, sevalprocAttr, encs])
       all_goals (repeat' (first | exact trivial | apply And.intro))
       all_goals first | exact rfl | exact wkc_kv | exact wkc_FL | exact wka_full | exact wka_full0 | exact .same _ rfl | exact wka_imm | exact wka_app (by decide) | exact wka_tag (by decide) rfl | exact wka_tagn (by decide) rfl | exact wka_tagr (by decide) rfl (by simp only [pur, purL, purL_enc, Bool.and_self, Bool.and_true]) | exact wka_immn | (refine .imm _ _ _ _ (.inl rfl) (okBL_pur ?_); simp only [pur, purL, purL_enc, Bool.and_self, Bool.and_true]; done) | exact wka_tag0 (by decide) rfl | exact wka_imm0 | exact wka_pur (Enc.pure_enc _) | exact wka_pur pur_enc_sl | exact wka_pur pur_enc_fl | exact .und _ | (refine wka_pur ?_; simp only [pur, purL, purL_enc, Bool.and_self, Bool.and_true]; done) | (refine .same _ ?_; simp only [okB, okBL, okBL_enc, Bool.and_self, Bool.and_true, decide_true, sevalprocAttr]; done) | (refine .le _ _ ?_ (okB_pur ?_); (focus (repeat' (first | exact le_same _ | exact le_enc | exact le_nil | exact le_imm (.inl rfl) | exact le_imm (.inr rfl) | refine le_agg ?_ | exact trivial | apply And.intro))); (simp only [pur, purL, purL_enc, Bool.and_self, Bool.and_true]; done)))
    | (refine retj_nil 0 (by first | exact .inr rfl | exact .inl rfl) h rfl ?_ ?_ ?_ rfl rfl ?_
       · first | exact Nat.le_refl _ | exact Nat.zero_le _ | (simp; done)
       · first | exact Nat.zero_le _ | exact Nat.le_refl _ | (simp; done)
       · first | exact Nat.zero_le _ | exact Nat.le_refl _ | (simp; done)
       all_goals (try simp -implicitDefEqProofs only [pats, avm, reduceCtorEq, ↓reduceIte, sevalprocAttr, encs])
       all_goals (repeat' (first | exact trivial | apply And.intro))
       all_goals first | exact rfl | exact wkc_kv | exact wkc_FL | exact wka_full | exact wka_full0 | exact .same _ rfl | exact wka_imm | exact wka_app (by decide) | exact wka_tag (by decide) rfl | exact wka_tagn (by decide) rfl | exact wka_tagr (by decide) rfl (by simp only [pur, purL, purL_enc, Bool.and_self, Bool.and_true]) | exact wka_immn | (refine .imm _ _ _ _ (.inl rfl) (okBL_pur ?_); simp only [pur, purL, purL_enc, Bool.and_self, Bool.and_true]; done) | exact wka_tag0 (by decide) rfl | exact wka_imm0 | exact wka_pur (Enc.pure_enc _) | exact wka_pur pur_enc_sl | exact wka_pur pur_enc_fl | exact .und _ | (refine wka_pur ?_; simp only [pur, purL, purL_enc, Bool.and_self, Bool.and_true]; done) | (refine .same _ ?_; simp only [okB, okBL, okBL_enc, Bool.and_self, Bool.and_true, decide_true, sevalprocAttr]; done) | (refine .le _ _ ?_ (okB_pur ?_); (focus (repeat' (first | exact le_same _ | exact le_enc | exact le_nil | exact le_imm (.inl rfl) | exact le_imm (.inr rfl) | refine le_agg ?_ | exact trivial | apply And.intro))); (simp only [pur, purL, purL_enc, Bool.and_self, Bool.and_true]; done)))
    | (cases h
       try simp -implicitDefEqProofs only [avm, reduceCtorEq, ↓reduceIte, sevalprocAttr, encs]
       first | refine retLt (by first | exact .inr rfl | exact .inl rfl) (by rfl) ?_ | refine retL1 (by first | exact .inr rfl | exact .inl rfl) (by rfl) ?_
       repeat' (first | exact trivial | apply And.intro)
       all_goals first | exact .same _ rfl | exact reta_imm | exact reta_nil | (refine .imm _ _ _ ?_; simp only [pur, purL, purL_enc, Bool.and_self, Bool.and_true]; done) | exact .same _ (Enc.pure_enc _) | exact .same _ pur_enc_sl | exact .same _ pur_enc_fl | (refine .same _ ?_; simp only [pur, purL, purL_enc, Bool.and_self, Bool.and_true]; done) | (refine .le _ _ ?_ ?_; (focus (repeat' (first | exact le_same _ | exact le_enc | exact le_nil | exact le_imm (.inl rfl) | exact le_imm (.inr rfl) | refine le_agg ?_ | exact trivial | apply And.intro))); (simp only [pur, purL, purL_enc, Bool.and_self, Bool.and_true]; done)))
    | fail)
theorem a_edge_Class {a0 : Conf} {a1 : Int} {r : Int} (h : m_edge_Class a0 a1 = some r) : ACt Try.prog 17 [Enc.enc a0, Enc.enc a1] (Enc.enc r) [] := by
  refine act_of p_edge_Class (by simp [c_edge_Class]) ?_
  show AW _ b_edge_Class (RetOk [.tmp 4] _ _) { n := 20, tm := [(0, _), (1, _)], box := [], fr := [] }
  unfold b_edge_Class
  unfold m_edge_Class at h
  try simp -implicitDefEqProofs only [avm, reduceCtorEq, ↓reduceIte, sevalprocAttr, encs] at h
  repeat' (first
    | (refine (hκ _).mpr ?_; clear hκ)
    | refine kn1 ?_
    | refine kr1 ?_
    | refine ke1 ?_
    | refine kn2 ?_
    | refine kr2 ?_
    | refine kx2 ?_
    | refine ke2 rfl ?_
    | refine kr5 ?_
    | refine ke5 ?_
    | refine kr6 ?_
    | refine ke6 ?_
    | refine w_seq ?_
    | refine w_block ?_
    | refine w_scope ?_
    | refine kn7 ?_
    | refine kr7 ?_
    | refine ke7 ?_
    | (refine aw_regk fun κ hκ => ?_; simp -implicitDefEqProofs only [avm, reduceCtorEq, ↓reduceIte, sevalprocAttr, encs])
    | refine aw_exit ?_
    | refine aw_ret ?_
    | refine aw_skip ?_
    | refine aw_label ?_
    | refine condc_t ?_
    | refine condc_f ?_
    | (refine aw_cond2 (by simp -implicitDefEqProofs only [avm, reduceCtorEq, ↓reduceIte, sevalprocAttr, encs]; rfl) ?_)
    | ((first | refine gkc_fork ?_ ?_ | refine pkc_fork ?_ ?_ | refine condc_fork ?_ ?_) <;> intro hq <;> (first | contradiction | simp -implicitDefEqProofs only [eq_false hq, Decidable.not_not, avm, reduceCtorEq, ↓reduceIte, sevalprocAttr, encs] at h ⊢ | simp -implicitDefEqProofs only [eq_true hq, avm, reduceCtorEq, ↓reduceIte, sevalprocAttr, encs] at h ⊢))
    | ((first | refine gkc_split ?_ ?_ | refine pkc_split ?_ ?_ | refine condc_bool ?_ ?_) <;> intro hq <;> (first | exact bcontra (by assumption) hq | exact bcontra hq (by assumption) | simp -implicitDefEqProofs only [hq, avm, reduceCtorEq, ↓reduceIte, sevalprocAttr, encs] at h ⊢))
    | (refine bd_go h fun y hy h => ?_; refine ixc hy ?_; simp -implicitDefEqProofs only [avm, reduceCtorEq, ↓reduceIte, sevalprocAttr, encs])
    | (cases h
       try simp -implicitDefEqProofs only [avm, reduceCtorEq, ↓reduceIte, sevalprocAttr, encs]
       first | refine retLt (by first | exact .inr rfl | exact .inl rfl) (by rfl) ?_ | refine retL1 (by first | exact .inr rfl | exact .inl rfl) (by rfl) ?_
       repeat' (first | exact trivial | apply And.intro)
       all_goals first | exact .same _ rfl | exact reta_imm | exact reta_nil | (refine .imm _ _ _ ?_; simp only [pur, purL, purL_enc, Bool.and_self, Bool.and_true]; done) | exact .same _ (Enc.pure_enc _) | exact .same _ pur_enc_sl | exact .same _ pur_enc_fl | (refine .same _ ?_; simp only [pur, purL, purL_enc, Bool.and_self, Bool.and_true]; done) | (refine .le _ _ ?_ ?_; (focus (repeat' (first | exact le_same _ | exact le_enc | exact le_nil | exact le_imm (.inl rfl) | exact le_imm (.inr rfl) | refine le_agg ?_ | exact trivial | apply And.intro))); (simp only [pur, purL, purL_enc, Bool.and_self, Bool.and_true]; done)))
    | fail)
theorem a_route_Sane {a0 : Route} {r : Bool} (h : m_route_Sane a0 = some r) : ACt Try.prog 57 [Enc.enc a0] (Enc.enc r) [] := by
  refine act_of p_route_Sane (by simp [c_route_Sane]) ?_
  show AW _ b_route_Sane (RetOk [.tmp 2] _ _) { n := 57, tm := [(0, _)], box := [], fr := [] }
  unfold b_route_Sane
  unfold m_route_Sane at h
  try simp -implicitDefEqProofs only [avm, reduceCtorEq, ↓reduceIte, sevalprocAttr, encs] at h
  repeat' (first
    | (refine (hκ _).mpr ?_; clear hκ)
    | refine kn1 ?_
    | refine kr1 ?_
    | refine ke1 ?_
    | refine kn2 ?_
    | refine kr2 ?_
    | refine kx2 ?_
    | refine ke2 rfl ?_
    | refine kr5 ?_
    | refine ke5 ?_
    | refine kr6 ?_
    | refine ke6 ?_
    | refine w_seq ?_
    | refine w_block ?_
    | refine w_scope ?_
    | refine kn7 ?_
    | refine kr7 ?_
    | refine ke7 ?_
    | (refine aw_regk fun κ hκ => ?_; simp -implicitDefEqProofs only [avm, reduceCtorEq, ↓reduceIte, sevalprocAttr, encs])
    | refine aw_exit ?_
    | refine aw_ret ?_
    | refine aw_skip ?_
    | refine aw_label ?_
    | refine condc_t ?_
    | refine condc_f ?_
    | (refine aw_cond2 (by simp -implicitDefEqProofs only [avm, reduceCtorEq, ↓reduceIte, sevalprocAttr, encs]; rfl) ?_)
    | ((first | refine gkc_fork ?_ ?_ | refine pkc_fork ?_ ?_ | refine condc_fork ?_ ?_) <;> intro hq <;> (first | contradiction | simp -implicitDefEqProofs only [eq_false hq, Decidable.not_not, avm, reduceCtorEq, ↓reduceIte, sevalprocAttr, encs] at h ⊢ | simp -implicitDefEqProofs only [eq_true hq, avm, reduceCtorEq, ↓reduceIte, sevalprocAttr, encs] at h ⊢))
    | ((first | refine gkc_split ?_ ?_ | refine pkc_split ?_ ?_ | refine condc_bool ?_ ?_) <;> intro hq <;> (first | exact bcontra (by assumption) hq | exact bcontra hq (by assumption) | simp -implicitDefEqProofs only [hq, avm, reduceCtorEq, ↓reduceIte, sevalprocAttr, encs] at h ⊢))
    | (refine bd_go h fun y hy h => ?_
       first | refine callsc (a_attr_Sane hy) ?_ ?_ | refine callc (a_attr_Sane hy) ?_ ?_ | ((first | refine callsc (act_le (a_attr_Sane hy) ?_) ?_ ?_ | refine callc (act_le (a_attr_Sane hy) ?_) ?_ ?_); (focus (repeat' (first | exact trivial | exact le_same _ | exact le_enc | exact le_nil | exact le_imm (.inl rfl) | exact le_imm (.inr rfl) | (refine le_agg ?_) | apply And.intro | (refine le_eq ?_; simp only [*]; done)))))
       focus (first | rfl | (simp only [purL, pur, purL_enc, Enc.pure_enc, Bool.and_self, Bool.and_true]; done))
       simp -implicitDefEqProofs only [avm, reduceCtorEq, ↓reduceIte, sevalprocAttr, encs])
    | (cases h
       try simp -implicitDefEqProofs only [avm, reduceCtorEq, ↓reduceIte, sevalprocAttr, encs]
       first | refine retLt (by first | exact .inr rfl | exact .inl rfl) (by rfl) ?_ | refine retL1 (by first | exact .inr rfl | exact .inl rfl) (by rfl) ?_
       repeat' (first | exact trivial | apply And.intro)
       all_goals first | exact .same _ rfl | exact reta_imm | exact reta_nil | (refine .imm _ _ _ ?_; simp only [pur, purL, purL_enc, Bool.and_self, Bool.and_true]; done) | exact .same _ (Enc.pure_enc _) | exact .same _ pur_enc_sl | exact .same _ pur_enc_fl | (refine .same _ ?_; simp only [pur, purL, purL_enc, Bool.and_self, Bool.and_true]; done) | (refine .le _ _ ?_ ?_; (focus (repeat' (first | exact le_same _ | exact le_enc | exact le_nil | exact le_imm (.inl rfl) | exact le_imm (.inr rfl) | refine le_agg ?_ | exact trivial | apply And.intro))); (simp only [pur, purL, purL_enc, Bool.and_self, Bool.and_true]; done)))
    | fail)
theorem a_math_bits_Mul32 {a0 : U32} {a1 : U32} {r : (U32 × U32)} (h : m_math_bits_Mul32 a0 a1 = some r) : ACt Try.prog 148 [Enc.enc a0, Enc.enc a1] (.tup [Enc.enc r.1, Enc.enc r.2]) [] := by
  refine act_of p_math_bits_Mul32 (by simp [c_math_bits_Mul32]) ?_
  show AW _ b_math_bits_Mul32 (RetOk [.tmp 4, .tmp 5] _ _) { n := 17, tm := [(0, _), (1, _)], box := [], fr := [] }
  unfold b_math_bits_Mul32
  unfold m_math_bits_Mul32 at h
  try simp -implicitDefEqProofs only [avm, reduceCtorEq, ↓reduceIte, sevalprocAttr, encs] at h
  repeat' (first
    | (refine (hκ _).mpr ?_; clear hκ)
    | refine kn1 ?_
    | refine kr1 ?_
    | refine ke1 ?_
    | refine kn2 ?_
    | refine kr2 ?_
    | refine kx2 ?_
    | refine ke2 rfl ?_
    | refine kr5 ?_
    | refine ke5 ?_
    | refine kr6 ?_
    | refine ke6 ?_
    | refine w_seq ?_
    | refine w_block ?_
    | refine w_scope ?_
    | refine kn7 ?_
    | refine kr7 ?_
    | refine ke7 ?_
    | (refine aw_regk fun κ hκ => ?_; simp -implicitDefEqProofs only [avm, reduceCtorEq, ↓reduceIte, sevalprocAttr, encs])
    | refine aw_exit ?_
    | refine aw_ret ?_
    | refine aw_skip ?_
    | refine aw_label ?_
    | refine condc_t ?_
    | refine condc_f ?_
    | (refine aw_cond2 (by simp -implicitDefEqProofs only [avm, reduceCtorEq, ↓reduceIte, sevalprocAttr, encs]; rfl) ?_)
    | ((first | refine gkc_fork ?_ ?_ | refine pkc_fork ?_ ?_ | refine condc_fork ?_ ?_) <;> intro hq <;> (first | contradiction | simp -implicitDefEqProofs only [eq_false hq, Decidable.not_not, avm, reduceCtorEq, ↓reduceIte, sevalprocAttr, encs] at h ⊢ | simp -implicitDefEqProofs only [eq_true hq, avm, reduceCtorEq, ↓reduceIte, sevalprocAttr, encs] at h ⊢))
    | ((first | refine gkc_split ?_ ?_ | refine pkc_split ?_ ?_ | refine condc_bool ?_ ?_) <;> intro hq <;> (first | exact bcontra (by assumption) hq | exact bcontra hq (by assumption) | simp -implicitDefEqProofs only [hq, avm, reduceCtorEq, ↓reduceIte, sevalprocAttr, encs] at h ⊢))
    | (cases h
       try simp -implicitDefEqProofs only [avm, reduceCtorEq, ↓reduceIte, sevalprocAttr, encs]
       first | refine retLt (by first | exact .inr rfl | exact .inl rfl) (by rfl) ?_ | refine retL1 (by first | exact .inr rfl | exact .inl rfl) (by rfl) ?_
       repeat' (first | exact trivial | apply And.intro)
       all_goals first | exact .same _ rfl | exact reta_imm | exact reta_nil | (refine .imm _ _ _ ?_; simp only [pur, purL, purL_enc, Bool.and_self, Bool.and_true]; done) | exact .same _ (Enc.pure_enc _) | exact .same _ pur_enc_sl | exact .same _ pur_enc_fl | (refine .same _ ?_; simp only [pur, purL, purL_enc, Bool.and_self, Bool.and_true]; done) | (refine .le _ _ ?_ ?_; (focus (repeat' (first | exact le_same _ | exact le_enc | exact le_nil | exact le_imm (.inl rfl) | exact le_imm (.inr rfl) | refine le_agg ?_ | exact trivial | apply And.intro))); (simp only [pur, purL, purL_enc, Bool.and_self, Bool.and_true]; done)))
    | fail)
theorem a_math_bits_Mul64 {a0 : U64} {a1 : U64} {r : (U64 × U64)} (h : m_math_bits_Mul64 a0 a1 = some r) : ACt Try.prog 149 [Enc.enc a0, Enc.enc a1] (.tup [Enc.enc r.1, Enc.enc r.2]) [] := by
  refine act_of p_math_bits_Mul64 (by simp [c_math_bits_Mul64]) ?_
  show AW _ b_math_bits_Mul64 (RetOk [.tmp 4, .tmp 5] _ _) { n := 51, tm := [(0, _), (1, _)], box := [], fr := [] }
  unfold b_math_bits_Mul64
  unfold m_math_bits_Mul64 at h
  try simp -implicitDefEqProofs only [avm, reduceCtorEq, ↓reduceIte, sevalprocAttr, encs] at h
  repeat' (first
    | (refine (hκ _).mpr ?_; clear hκ)
    | refine kn1 ?_
    | refine kr1 ?_
    | refine ke1 ?_
    | refine kn2 ?_
    | refine kr2 ?_
    | refine kx2 ?_
    | refine ke2 rfl ?_
    | refine kr5 ?_
    | refine ke5 ?_
    | refine kr6 ?_
    | refine ke6 ?_
    | refine w_seq ?_
    | refine w_block ?_
    | refine w_scope ?_
    | refine kn7 ?_
    | refine kr7 ?_
    | refine ke7 ?_
    | (refine aw_regk fun κ hκ => ?_; simp -implicitDefEqProofs only [avm, reduceCtorEq, ↓reduceIte, sevalprocAttr, encs])
    | refine aw_exit ?_
    | refine aw_ret ?_
    | refine aw_skip ?_
    | refine aw_label ?_
    | refine condc_t ?_
    | refine condc_f ?_
    | (refine aw_cond2 (by simp -implicitDefEqProofs only [avm, reduceCtorEq, ↓reduceIte, sevalprocAttr, encs]; rfl) ?_)
    | ((first | refine gkc_fork ?_ ?_ | refine pkc_fork ?_ ?_ | refine condc_fork ?_ ?_) <;> intro hq <;> (first | contradiction | simp -implicitDefEqProofs only [eq_false hq, Decidable.not_not, avm, reduceCtorEq, ↓reduceIte, sevalprocAttr, encs] at h ⊢ | simp -implicitDefEqProofs only [eq_true hq, avm, reduceCtorEq, ↓reduceIte, sevalprocAttr, encs] at h ⊢))
    | ((first | refine gkc_split ?_ ?_ | refine pkc_split ?_ ?_ | refine condc_bool ?_ ?_) <;> intro hq <;> (first | exact bcontra (by assumption) hq | exact bcontra hq (by assumption) | simp -implicitDefEqProofs only [hq, avm, reduceCtorEq, ↓reduceIte, sevalprocAttr, encs] at h ⊢))
    | (cases h
       try simp -implicitDefEqProofs only [avm, reduceCtorEq, ↓reduceIte, sevalprocAttr, encs]
       first | refine retLt (by first | exact .inr rfl | exact .inl rfl) (by rfl) ?_ | refine retL1 (by first | exact .inr rfl | exact .inl rfl) (by rfl) ?_
       repeat' (first | exact trivial | apply And.intro)
       all_goals first | exact .same _ rfl | exact reta_imm | exact reta_nil | (refine .imm _ _ _ ?_; simp only [pur, purL, purL_enc, Bool.and_self, Bool.and_true]; done) | exact .same _ (Enc.pure_enc _) | exact .same _ pur_enc_sl | exact .same _ pur_enc_fl | (refine .same _ ?_; simp only [pur, purL, purL_enc, Bool.and_self, Bool.and_true]; done) | (refine .le _ _ ?_ ?_; (focus (repeat' (first | exact le_same _ | exact le_enc | exact le_nil | exact le_imm (.inl rfl) | exact le_imm (.inr rfl) | refine le_agg ?_ | exact trivial | apply And.intro))); (simp only [pur, purL, purL_enc, Bool.and_self, Bool.and_true]; done)))
    | fail)
theorem a_math_bits_Mul {a0 : U64} {a1 : U64} {r : (U64 × U64)} (h : m_math_bits_Mul a0 a1 = some r) : ACt Try.prog 127 [Enc.enc a0, Enc.enc a1] (.tup [Enc.enc r.1, Enc.enc r.2]) [] := by
  refine act_of p_math_bits_Mul (by simp [c_math_bits_Mul]) ?_
  show AW _ b_math_bits_Mul (RetOk [.tmp 4, .tmp 5] _ _) { n := 30, tm := [(0, _), (1, _)], box := [], fr := [] }
  unfold b_math_bits_Mul
  unfold m_math_bits_Mul at h
  try simp -implicitDefEqProofs only [avm, reduceCtorEq, ↓reduceIte, sevalprocAttr, encs] at h
  repeat' (first
    | (refine (hκ _).mpr ?_; clear hκ)
    | refine kn1 ?_
    | refine kr1 ?_
    | refine ke1 ?_
    | refine kn2 ?_
    | refine kr2 ?_
    | refine kx2 ?_
    | refine ke2 rfl ?_
    | refine kr5 ?_
    | refine ke5 ?_
    | refine kr6 ?_
    | refine ke6 ?_
    | refine w_seq ?_
    | refine w_block ?_
    | refine w_scope ?_
    | refine kn7 ?_
    | refine kr7 ?_
    | refine ke7 ?_
    | (refine aw_regk fun κ hκ => ?_; simp -implicitDefEqProofs only [avm, reduceCtorEq, ↓reduceIte, sevalprocAttr, encs])
    | refine aw_exit ?_
    | refine aw_ret ?_
    | refine aw_skip ?_
    | refine aw_label ?_
    | refine condc_t ?_
    | refine condc_f ?_
    | (refine aw_cond2 (by simp -implicitDefEqProofs only [avm, reduceCtorEq, ↓reduceIte, sevalprocAttr, encs]; rfl) ?_)
    | ((first | refine gkc_fork ?_ ?_ | refine pkc_fork ?_ ?_ | refine condc_fork ?_ ?_) <;> intro hq <;> (first | contradiction | simp -implicitDefEqProofs only [eq_false hq, Decidable.not_not, avm, reduceCtorEq, ↓reduceIte, sevalprocAttr, encs] at h ⊢ | simp -implicitDefEqProofs only [eq_true hq, avm, reduceCtorEq, ↓reduceIte, sevalprocAttr, encs] at h ⊢))
    | ((first | refine gkc_split ?_ ?_ | refine pkc_split ?_ ?_ | refine condc_bool ?_ ?_) <;> intro hq <;> (first | exact bcontra (by assumption) hq | exact bcontra hq (by assumption) | simp -implicitDefEqProofs only [hq, avm, reduceCtorEq, ↓reduceIte, sevalprocAttr, encs] at h ⊢))
    | (refine bd_go h fun y hy h => ?_
       first | refine callsc (a_math_bits_Mul64 hy) ?_ ?_ | refine callc (a_math_bits_Mul64 hy) ?_ ?_ | ((first | refine callsc (act_le (a_math_bits_Mul64 hy) ?_) ?_ ?_ | refine callc (act_le (a_math_bits_Mul64 hy) ?_) ?_ ?_); (focus (repeat' (first | exact trivial | exact le_same _ | exact le_enc | exact le_nil | exact le_imm (.inl rfl) | exact le_imm (.inr rfl) | (refine le_agg ?_) | apply And.intro | (refine le_eq ?_; simp only [*]; done)))))
       focus (first | rfl | (simp only [purL, pur, purL_enc, Enc.pure_enc, Bool.and_self, Bool.and_true]; done))
       simp -implicitDefEqProofs only [avm, reduceCtorEq, ↓reduceIte, sevalprocAttr, encs])
    | (cases h
       try simp -implicitDefEqProofs only [avm, reduceCtorEq, ↓reduceIte, sevalprocAttr, encs]
       first | refine retLt (by first | exact .inr rfl | exact .inl rfl) (by rfl) ?_ | refine retL1 (by first | exact .inr rfl | exact .inl rfl) (by rfl) ?_
       repeat' (first | exact trivial | apply And.intro)
       all_goals first | exact .same _ rfl | exact reta_imm | exact reta_nil | (refine .imm _ _ _ ?_; simp only [pur, purL, purL_enc, Bool.and_self, Bool.and_true]; done) | exact .same _ (Enc.pure_enc _) | exact .same _ pur_enc_sl | exact .same _ pur_enc_fl | (refine .same _ ?_; simp only [pur, purL, purL_enc, Bool.and_self, Bool.and_true]; done) | (refine .le _ _ ?_ ?_; (focus (repeat' (first | exact le_same _ | exact le_enc | exact le_nil | exact le_imm (.inl rfl) | exact le_imm (.inr rfl) | refine le_agg ?_ | exact trivial | apply And.intro))); (simp only [pur, purL, purL_enc, Bool.and_self, Bool.and_true]; done)))
    | fail)
theorem a_slices_Repeat___int_int {a0 : (List Int)} {a1 : Int} {r : (List Int)} (h : m_slices_Repeat___int_int a0 a1 = some r) : ACt Try.prog 100 [Enc.enc a0, Enc.enc a1] (.slice .full 1 (List.map Enc.enc r)) [] := by
  refine act_of p_slices_Repeat___int_int (by simp [c_slices_Repeat___int_int]) ?_
  show AW _ b_slices_Repeat___int_int (RetOk [.tmp 4] _ _) { n := 48, tm := [(0, _), (1, _)], box := [], fr := [] }
  unfold b_slices_Repeat___int_int
  unfold m_slices_Repeat___int_int at h
  try simp -implicitDefEqProofs only [avm, reduceCtorEq, ↓reduceIte, sevalprocAttr, encs] at h
  repeat' (first
    | (refine (hκ _).mpr ?_; clear hκ)
    | refine kn1 ?_
    | refine kr1 ?_
    | refine ke1 ?_
    | refine kn2 ?_
    | refine kr2 ?_
    | refine kx2 ?_
    | refine ke2 rfl ?_
    | refine kr5 ?_
    | refine ke5 ?_
    | refine kr6 ?_
    | refine ke6 ?_
    | (refine w_loopm [7] (fun (j : (Int × (List Int))) => [(8, (.int .i64 j.1))]) (fun (j : (Int × (List Int))) => [(0, 1099511627776, (.tup (FL j.2)))]) (fun (j : (Int × (List Int))) => []) (fun (j : (Int × (List Int))) => []) (show loopC (s_slices_Repeat___int_int1 _) _ BIG _ = some _ from h) ?_ ?_
       · try simp -implicitDefEqProofs only [pats, avm, reduceCtorEq, ↓reduceIte, sevalprocAttr, encs]
         (first
          | (refine wk_m 0 _ rfl ?_ rfl rfl ?_ ?_ ?_ ?_
             · first | exact Nat.le_refl _ | exact Nat.zero_le _ | (simp; done)
             · first | exact Nat.zero_le _ | exact Nat.le_refl _ | (simp; done)
             · first | exact Nat.zero_le _ | exact Nat.le_refl _ | (simp; done)
             all_goals (repeat' (first | exact trivial | apply And.intro))
             all_goals first | exact rfl | exact wkc_kv | exact wkc_FL | exact wka_full | exact wka_full0 | exact .same _ rfl | exact wka_imm | exact wka_app (by decide) | exact wka_tag (by decide) rfl | exact wka_tagn (by decide) rfl | exact wka_tagr (by decide) rfl (by simp only [pur, purL, purL_enc, Bool.and_self, Bool.and_true]) | exact wka_immn | (refine .imm _ _ _ _ (.inl rfl) (okBL_pur ?_); simp only [pur, purL, purL_enc, Bool.and_self, Bool.and_true]; done) | exact wka_tag0 (by decide) rfl | exact wka_imm0 | exact wka_pur (Enc.pure_enc _) | exact wka_pur pur_enc_sl | exact wka_pur pur_enc_fl | exact .und _ | (refine wka_pur ?_; simp only [pur, purL, purL_enc, Bool.and_self, Bool.and_true]; done) | (refine .same _ ?_; simp only [okB, okBL, okBL_enc, Bool.and_self, Bool.and_true, decide_true, sevalprocAttr]; done) | (refine .le _ _ ?_ (okB_pur ?_); (focus (repeat' (first | exact le_same _ | exact le_enc | exact le_nil | exact le_imm (.inl rfl) | exact le_imm (.inr rfl) | refine le_agg ?_ | exact trivial | apply And.intro))); (simp only [pur, purL, purL_enc, Bool.and_self, Bool.and_true]; done))))
       clear h
       intro n st h
       simp -implicitDefEqProofs only [s_slices_Repeat___int_int1.eq_1, pats, avm, reduceCtorEq, ↓reduceIte, sevalprocAttr, encs] at h ⊢)
    | (refine bd_go h fun y hy h => ?_; have hl := fzn_get hy; refine aw_frzN _ rfl rfl (by decide) (Nat.zero_le _) ?_; simp -implicitDefEqProofs only [hl, avm, reduceCtorEq, ↓reduceIte, sevalprocAttr, encs, List.take_succ_cons, List.take_zero] at h ⊢)
    | refine w_seq ?_
    | refine w_block ?_
    | refine w_scope ?_
    | refine kn7 ?_
    | refine kr7 ?_
    | refine ke7 ?_
    | (refine aw_regk fun κ hκ => ?_; simp -implicitDefEqProofs only [avm, reduceCtorEq, ↓reduceIte, sevalprocAttr, encs])
    | refine aw_exit ?_
    | refine aw_ret ?_
    | refine aw_skip ?_
    | refine aw_label ?_
    | refine condc_t ?_
    | refine condc_f ?_
    | (refine aw_cond2 (by simp -implicitDefEqProofs only [avm, reduceCtorEq, ↓reduceIte, sevalprocAttr, encs]; rfl) ?_)
    | ((first | refine gkc_fork ?_ ?_ | refine pkc_fork ?_ ?_ | refine condc_fork ?_ ?_) <;> intro hq <;> (first | contradiction | simp -implicitDefEqProofs only [eq_false hq, Decidable.not_not, avm, reduceCtorEq, ↓reduceIte, sevalprocAttr, encs] at h ⊢ | simp -implicitDefEqProofs only [eq_true hq, avm, reduceCtorEq, ↓reduceIte, sevalprocAttr, encs] at h ⊢))
    | ((first | refine gkc_split ?_ ?_ | refine pkc_split ?_ ?_ | refine condc_bool ?_ ?_) <;> intro hq <;> (first | exact bcontra (by assumption) hq | exact bcontra hq (by assumption) | simp -implicitDefEqProofs only [hq, avm, reduceCtorEq, ↓reduceIte, sevalprocAttr, encs] at h ⊢))
    | (refine bd_go h fun y hy h => ?_; refine prc_make hy rfl (by decide) ?_; simp -implicitDefEqProofs only [avm, reduceCtorEq, ↓reduceIte, sevalprocAttr, encs])
    | (refine bd_go h fun y hy h => ?_; (first | refine slb10 hy ?_ | refine slb01 hy ?_); simp -implicitDefEqProofs only [avm, reduceCtorEq, ↓reduceIte, sevalprocAttr, encs])
    | (refine bd_go h fun y hy h => ?_; refine prc_cps hy (by rfl) (by rfl) (by rfl) (by first | exact .inl rfl | exact .inr rfl) (by decide) ?_; simp -implicitDefEqProofs only [avm, reduceCtorEq, ↓reduceIte, sevalprocAttr, encs])
    | (refine bd_go h fun y hy h => ?_; refine bd_go h fun z hz h => ?_; refine prc_cpb hy hz (by rfl) (by rfl) (by rfl) (by decide) (by decide) ?_; simp -implicitDefEqProofs only [avm, reduceCtorEq, ↓reduceIte, sevalprocAttr, encs])
    | (refine bd_go h fun y hy h => ?_; refine apn hy (by decide) ?_; simp -implicitDefEqProofs only [avm, reduceCtorEq, ↓reduceIte, sevalprocAttr, encs])
    | (refine ap_emp hq ?_; simp -implicitDefEqProofs only [avm, reduceCtorEq, ↓reduceIte, sevalprocAttr, encs])
    | (refine bd_go h fun y hy h => ?_; obtain ⟨hn, hy⟩ := ixn_get hy; refine ixb hy hn ?_; simp -implicitDefEqProofs only [avm, reduceCtorEq, ↓reduceIte, sevalprocAttr, encs])
    | ((first | refine qld_one (k := 0) (by assumption) rfl (by first | rfl | omega) rfl ?_ | refine qld_one (by assumption) rfl rfl rfl ?_); simp -implicitDefEqProofs only [avm, reduceCtorEq, ↓reduceIte, sevalprocAttr, encs])
    | ((first | refine qld_all (k := 0) (by assumption) rfl (by first | rfl | omega) (by first | (simp; done) | decide) ?_ | refine qld_all (by assumption) rfl rfl (by first | (simp; done) | decide) ?_); simp -implicitDefEqProofs only [avm, reduceCtorEq, ↓reduceIte, sevalprocAttr, encs])
    | (refine bd_go h fun y hy h => ?_; (first | refine stbL (k := 0) hy (by assumption) rfl rfl rfl (by first | rfl | omega) (by rfl) rfl (by first | exact le_same _ | exact le_enc | exact le_nil | exact le_imm (.inl rfl) | exact le_imm (.inr rfl)) (by rfl) (Nat.le_of_ble_eq_true rfl) (by rfl) (by decide) ?_ | refine stbL hy (by assumption) rfl rfl rfl rfl (by rfl) rfl (by first | exact le_same _ | exact le_enc | exact le_nil | exact le_imm (.inl rfl) | exact le_imm (.inr rfl)) (by rfl) (Nat.le_of_ble_eq_true rfl) (by rfl) (by decide) ?_ | refine stb (k := 0) hy (by assumption) rfl rfl rfl rfl (by first | rfl | omega) rfl (by first | (simp; done) | decide) (by first | rfl | (simp -implicitDefEqProofs only [putCells.eq_1, avm, reduceCtorEq, ↓reduceIte, sevalprocAttr, encs]; done)) (by decide) ?_ | refine stb hy (by assumption) rfl rfl rfl rfl rfl rfl (by first | (simp; done) | decide) (by first | rfl | (simp -implicitDefEqProofs only [putCells.eq_1, avm, reduceCtorEq, ↓reduceIte, sevalprocAttr, encs]; done)) (by decide) ?_ | fail); simp -implicitDefEqProofs only [avm, reduceCtorEq, ↓reduceIte, sevalprocAttr, encs] at h ⊢)
    | (refine bd_go h fun y hy h => ?_
       first | refine callsc (a_math_bits_Mul hy) ?_ ?_ | refine callc (a_math_bits_Mul hy) ?_ ?_ | ((first | refine callsc (act_le (a_math_bits_Mul hy) ?_) ?_ ?_ | refine callc (act_le (a_math_bits_Mul hy) ?_) ?_ ?_); (focus (repeat' (first | exact trivial | exact le_same _ | exact le_enc | exact le_nil | exact le_imm (.inl rfl) | exact le_imm (.inr rfl) | (refine le_agg ?_) | apply And.intro | (refine le_eq ?_; simp only [*]; done)))))
       focus (first | rfl | (simp only [purL, pur, purL_enc, Enc.pure_enc, Bool.and_self, Bool.and_true]; done))
       simp -implicitDefEqProofs only [avm, reduceCtorEq, ↓reduceIte, sevalprocAttr, encs])
    | (first | refine kn6 ⟨_, h, ?_⟩ | refine kn5 ⟨_, h, ?_⟩
       try simp -implicitDefEqProofs only [pats, avm, reduceCtorEq, ↓reduceIte, sevalprocAttr, encs]
       (first
          | (refine wk_m 0 _ rfl ?_ rfl rfl ?_ ?_ ?_ ?_
             · first | exact Nat.le_refl _ | exact Nat.zero_le _ | (simp; done)
             · first | exact Nat.zero_le _ | exact Nat.le_refl _ | (simp; done)
             · first | exact Nat.zero_le _ | exact Nat.le_refl _ | (simp; done)
             all_goals (repeat' (first | exact trivial | apply And.intro))
             all_goals first | exact rfl | exact wkc_kv | exact wkc_FL | exact wka_full | exact wka_full0 | exact .same _ rfl | exact wka_imm | exact wka_app (by decide) | exact wka_tag (by decide) rfl | exact wka_tagn (by decide) rfl | exact wka_tagr (by decide) rfl (by simp only [pur, purL, purL_enc, Bool.and_self, Bool.and_true]) | exact wka_immn | (refine .imm _ _ _ _ (.inl rfl) (okBL_pur ?_); simp only [pur, purL, purL_enc, Bool.and_self, Bool.and_true]; done) | exact wka_tag0 (by decide) rfl | exact wka_imm0 | exact wka_pur (Enc.pure_enc _) | exact wka_pur pur_enc_sl | exact wka_pur pur_enc_fl | exact .und _ | (refine wka_pur ?_; simp only [pur, purL, purL_enc, Bool.and_self, Bool.and_true]; done) | (refine .same _ ?_; simp only [okB, okBL, okBL_enc, Bool.and_self, Bool.and_true, decide_true, sevalprocAttr]; done) | (refine .le _ _ ?_ (okB_pur ?_); (focus (repeat' (first | exact le_same _ | exact le_enc | exact le_nil | exact le_imm (.inl rfl) | exact le_imm (.inr rfl) | refine le_agg ?_ | exact trivial | apply And.intro))); (simp only [pur, purL, purL_enc, Bool.and_self, Bool.and_true]; done)))))
    | (first | refine kn6 ⟨_, h, ?_⟩ | refine kn5 ⟨_, h, ?_⟩
       try simp -implicitDefEqProofs only [*, pats, avm, reduceCtorEq, ↓reduceIte, sevalprocAttr, encs]
       (first
          | (refine wk_m 0 _ rfl ?_ rfl rfl ?_ ?_ ?_ ?_
             · first | exact Nat.le_refl _ | exact Nat.zero_le _ | (simp; done)
             · first | exact Nat.zero_le _ | exact Nat.le_refl _ | (simp; done)
             · first | exact Nat.zero_le _ | exact Nat.le_refl _ | (simp; done)
             all_goals (repeat' (first | exact trivial | apply And.intro))
             all_goals first | exact rfl | exact wkc_kv | exact wkc_FL | exact wka_full | exact wka_full0 | exact .same _ rfl | exact wka_imm | exact wka_app (by decide) | exact wka_tag (by decide) rfl | exact wka_tagn (by decide) rfl | exact wka_tagr (by decide) rfl (by simp only [pur, purL, purL_enc, Bool.and_self, Bool.and_true]) | exact wka_immn | (refine .imm _ _ _ _ (.inl rfl) (okBL_pur ?_); simp only [pur, purL, purL_enc, Bool.and_self, Bool.and_true]; done) | exact wka_tag0 (by decide) rfl | exact wka_imm0 | exact wka_pur (Enc.pure_enc _) | exact wka_pur pur_enc_sl | exact wka_pur pur_enc_fl | exact .und _ | (refine wka_pur ?_; simp only [pur, purL, purL_enc, Bool.and_self, Bool.and_true]; done) | (refine .same _ ?_; simp only [okB, okBL, okBL_enc, Bool.and_self, Bool.and_true, decide_true, sevalprocAttr]; done) | (refine .le _ _ ?_ (okB_pur ?_); (focus (repeat' (first | exact le_same _ | exact le_enc | exact le_nil | exact le_imm (.inl rfl) | exact le_imm (.inr rfl) | refine le_agg ?_ | exact trivial | apply And.intro))); (simp only [pur, purL, purL_enc, Bool.and_self, Bool.and_true]; done)))))
    | (cases h
       try simp -implicitDefEqProofs only [avm, reduceCtorEq, ↓reduceIte, sevalprocAttr, encs]
       first | refine retLt (by first | exact .inr rfl | exact .inl rfl) (by rfl) ?_ | refine retL1 (by first | exact .inr rfl | exact .inl rfl) (by rfl) ?_
       repeat' (first | exact trivial | apply And.intro)
       all_goals first | exact .same _ rfl | exact reta_imm | exact reta_nil | (refine .imm _ _ _ ?_; simp only [pur, purL, purL_enc, Bool.and_self, Bool.and_true]; done) | exact .same _ (Enc.pure_enc _) | exact .same _ pur_enc_sl | exact .same _ pur_enc_fl | (refine .same _ ?_; simp only [pur, purL, purL_enc, Bool.and_self, Bool.and_true]; done) | (refine .le _ _ ?_ ?_; (focus (repeat' (first | exact le_same _ | exact le_enc | exact le_nil | exact le_imm (.inl rfl) | exact le_imm (.inr rfl) | refine le_agg ?_ | exact trivial | apply And.intro))); (simp only [pur, purL, purL_enc, Bool.and_self, Bool.and_true]; done)))
    | (cases h; done)
    | ((refine sw_fork h (fun hq h => ?_) (fun hq h => ?_)) <;> (first | contradiction | simp -implicitDefEqProofs only [eq_false hq, Decidable.not_not, avm, reduceCtorEq, ↓reduceIte, sevalprocAttr, encs] at h ⊢ | simp -implicitDefEqProofs only [hq, avm, reduceCtorEq, ↓reduceIte, sevalprocAttr, encs] at h ⊢ | skip))
    | fail)
theorem a_edge_longer {a0 : Int} {a1 : Rule} {a2 : (List Int)} {r : (List Int)} (h : m_edge_longer a0 a1 a2 = some r) : ACt Try.prog 60 [Enc.enc a0, Enc.enc a1, Enc.enc a2] (.slice (.app 0) 1 (List.map Enc.enc r)) [(3, r.length)] := by
  refine act_of p_edge_longer (by simp [c_edge_longer]) ?_
  show AW _ b_edge_longer (RetOk [.tmp 6] _ _) { n := 21, tm := [(0, _), (1, _), (2, _)], box := [], fr := [] }
  unfold b_edge_longer
  unfold m_edge_longer at h
  try simp -implicitDefEqProofs only [avm, reduceCtorEq, ↓reduceIte, sevalprocAttr, encs] at h
  repeat' (first
    | (refine (hκ _).mpr ?_; clear hκ)
    | refine kn1 ?_
    | refine kr1 ?_
    | refine ke1 ?_
    | refine kn2 ?_
    | refine kr2 ?_
    | refine kx2 ?_
    | refine ke2 rfl ?_
    | refine kr5 ?_
    | refine ke5 ?_
    | refine kr6 ?_
    | refine ke6 ?_
    | refine w_seq ?_
    | refine w_block ?_
    | refine w_scope ?_
    | refine kn7 ?_
    | refine kr7 ?_
    | refine ke7 ?_
    | (refine aw_regk fun κ hκ => ?_; simp -implicitDefEqProofs only [avm, reduceCtorEq, ↓reduceIte, sevalprocAttr, encs])
    | (cases h; exact aw_ret_full rfl rfl rfl)
    | refine aw_exit ?_
    | refine aw_ret ?_
    | refine aw_skip ?_
    | refine aw_label ?_
    | refine condc_t ?_
    | refine condc_f ?_
    | (refine aw_cond2 (by simp -implicitDefEqProofs only [avm, reduceCtorEq, ↓reduceIte, sevalprocAttr, encs]; rfl) ?_)
    | ((first | refine gkc_fork ?_ ?_ | refine pkc_fork ?_ ?_ | refine condc_fork ?_ ?_) <;> intro hq <;> (first | contradiction | simp -implicitDefEqProofs only [eq_false hq, Decidable.not_not, avm, reduceCtorEq, ↓reduceIte, sevalprocAttr, encs] at h ⊢ | simp -implicitDefEqProofs only [eq_true hq, avm, reduceCtorEq, ↓reduceIte, sevalprocAttr, encs] at h ⊢))
    | ((first | refine gkc_split ?_ ?_ | refine pkc_split ?_ ?_ | refine condc_bool ?_ ?_) <;> intro hq <;> (first | exact bcontra (by assumption) hq | exact bcontra hq (by assumption) | simp -implicitDefEqProofs only [hq, avm, reduceCtorEq, ↓reduceIte, sevalprocAttr, encs] at h ⊢))
    | (refine bd_go h fun y hy h => ?_
       refine apc hy (by first | rfl | (simp -implicitDefEqProofs only [avm, reduceCtorEq, ↓reduceIte, sevalprocAttr, encs]; done)) (by first | rfl | (simp -implicitDefEqProofs only [avm, reduceCtorEq, ↓reduceIte, sevalprocAttr, encs]; done)) (by first | exact .inl rfl | exact .inr rfl) (by first | exact .inl rfl | exact .inr rfl) (by simp only [apTag, List.getElem?_cons_zero, List.getElem?_cons_succ, ↓reduceIte, List.set_cons_zero, List.set_cons_succ, List.nil_append, List.cons_append, List.length_nil, List.length_cons, sevalprocAttr]; rfl) ?_
       simp -implicitDefEqProofs only [avm, reduceCtorEq, ↓reduceIte, sevalprocAttr, encs])
    | (refine bd_go h fun y hy h => ?_
       first | refine callsc (a_slices_Repeat___int_int hy) ?_ ?_ | refine callc (a_slices_Repeat___int_int hy) ?_ ?_ | ((first | refine callsc (act_le (a_slices_Repeat___int_int hy) ?_) ?_ ?_ | refine callc (act_le (a_slices_Repeat___int_int hy) ?_) ?_ ?_); (focus (repeat' (first | exact trivial | exact le_same _ | exact le_enc | exact le_nil | exact le_imm (.inl rfl) | exact le_imm (.inr rfl) | (refine le_agg ?_) | apply And.intro | (refine le_eq ?_; simp only [*]; done)))))
       focus (first | rfl | (simp only [purL, pur, purL_enc, Enc.pure_enc, Bool.and_self, Bool.and_true]; done))
       simp -implicitDefEqProofs only [avm, reduceCtorEq, ↓reduceIte, sevalprocAttr, encs])
    | (cases h
       (exact ret_app rfl rfl (purL_enc _)))
    | fail)
theorem a_role_Out {a0 : Int} {a1 : Int} {a2 : Int} {r : (Int × Bool)} (h : m_role_Out a0 a1 a2 = some r) : ACt Try.prog 62 [Enc.enc a0, Enc.enc a1, Enc.enc a2] (.tup [Enc.enc r.1, Enc.enc r.2]) [] := by
  refine act_of p_role_Out (by simp [c_role_Out]) ?_
  show AW _ b_role_Out (RetOk [.tmp 6, .tmp 7] _ _) { n := 35, tm := [(0, _), (1, _), (2, _)], box := [], fr := [] }
  unfold b_role_Out
  unfold m_role_Out at h
  try simp -implicitDefEqProofs only [avm, reduceCtorEq, ↓reduceIte, sevalprocAttr, encs] at h
  repeat' (first
    | (refine (hκ _).mpr ?_; clear hκ)
    | refine kn1 ?_
    | refine kr1 ?_
    | refine ke1 ?_
    | refine kn2 ?_
    | refine kr2 ?_
    | refine kx2 ?_
    | refine ke2 rfl ?_
    | refine kr5 ?_
    | refine ke5 ?_
    | refine kr6 ?_
    | refine ke6 ?_
    | refine w_seq ?_
    | refine w_block ?_
    | refine w_scope ?_
    | refine kn7 ?_
    | refine kr7 ?_
    | refine ke7 ?_
    | (refine aw_regk fun κ hκ => ?_; simp -implicitDefEqProofs only [avm, reduceCtorEq, ↓reduceIte, sevalprocAttr, encs])
    | refine aw_exit ?_
    | refine aw_ret ?_
    | refine aw_skip ?_
    | refine aw_label ?_
    | refine condc_t ?_
    | refine condc_f ?_
    | (refine aw_cond2 (by simp -implicitDefEqProofs only [avm, reduceCtorEq, ↓reduceIte, sevalprocAttr, encs]; rfl) ?_)
    | ((first | refine gkc_fork ?_ ?_ | refine pkc_fork ?_ ?_ | refine condc_fork ?_ ?_) <;> intro hq <;> (first | contradiction | simp -implicitDefEqProofs only [eq_false hq, Decidable.not_not, avm, reduceCtorEq, ↓reduceIte, sevalprocAttr, encs] at h ⊢ | simp -implicitDefEqProofs only [eq_true hq, avm, reduceCtorEq, ↓reduceIte, sevalprocAttr, encs] at h ⊢))
    | ((first | refine gkc_split ?_ ?_ | refine pkc_split ?_ ?_ | refine condc_bool ?_ ?_) <;> intro hq <;> (first | exact bcontra (by assumption) hq | exact bcontra hq (by assumption) | simp -implicitDefEqProofs only [hq, avm, reduceCtorEq, ↓reduceIte, sevalprocAttr, encs] at h ⊢))
    | (cases h
       try simp -implicitDefEqProofs only [avm, reduceCtorEq, ↓reduceIte, sevalprocAttr, encs]
       first | refine retLt (by first | exact .inr rfl | exact .inl rfl) (by rfl) ?_ | refine retL1 (by first | exact .inr rfl | exact .inl rfl) (by rfl) ?_
       repeat' (first | exact trivial | apply And.intro)
       all_goals first | exact .same _ rfl | exact reta_imm | exact reta_nil | (refine .imm _ _ _ ?_; simp only [pur, purL, purL_enc, Bool.and_self, Bool.and_true]; done) | exact .same _ (Enc.pure_enc _) | exact .same _ pur_enc_sl | exact .same _ pur_enc_fl | (refine .same _ ?_; simp only [pur, purL, purL_enc, Bool.and_self, Bool.and_true]; done) | (refine .le _ _ ?_ ?_; (focus (repeat' (first | exact le_same _ | exact le_enc | exact le_nil | exact le_imm (.inl rfl) | exact le_imm (.inr rfl) | refine le_agg ?_ | exact trivial | apply And.intro))); (simp only [pur, purL, purL_enc, Bool.and_self, Bool.and_true]; done)))
    | fail)
theorem a_edge_Out {a0 : Conf} {a1 : Int} {a2 : Prefix} {a3 : Route} {r : (Path × Bool)} (h : m_edge_Out a0 a1 a2 a3 = some r) : ACt Try.prog 20 [Enc.enc a0, Enc.enc a1, Enc.enc a2, Enc.enc a3] (.tup [Enc.enc r.1, Enc.enc r.2]) [] := by
  refine act_of p_edge_Out (by simp [c_edge_Out]) ?_
  show AW _ b_edge_Out (RetOk [.cell 8 (some 4), .tmp 9] _ _) { n := 47, tm := [(0, _), (1, _), (2, _), (3, _)], box := [], fr := [] }
  unfold b_edge_Out
  unfold m_edge_Out at h
  try simp -implicitDefEqProofs only [avm, reduceCtorEq, ↓reduceIte, sevalprocAttr, encs] at h
  repeat' (first
    | (refine (hκ _).mpr ?_; clear hκ)
    | refine kn1 ?_
    | refine kr1 ?_
    | refine ke1 ?_
    | refine kn2 ?_
    | refine kr2 ?_
    | refine kx2 ?_
    | refine ke2 rfl ?_
    | refine kr5 ?_
    | refine ke5 ?_
    | refine kr6 ?_
    | refine ke6 ?_
    | refine w_seq ?_
    | refine w_block ?_
    | refine w_scope ?_
    | refine kn7 ?_
    | refine kr7 ?_
    | refine ke7 ?_
    | (refine aw_regk fun κ hκ => ?_; simp -implicitDefEqProofs only [avm, reduceCtorEq, ↓reduceIte, sevalprocAttr, encs])
    | refine aw_exit ?_
    | refine aw_ret ?_
    | refine aw_skip ?_
    | refine aw_label ?_
    | refine condc_t ?_
    | refine condc_f ?_
    | (refine aw_cond2 (by simp -implicitDefEqProofs only [avm, reduceCtorEq, ↓reduceIte, sevalprocAttr, encs]; rfl) ?_)
    | ((first | refine gkc_fork ?_ ?_ | refine pkc_fork ?_ ?_ | refine condc_fork ?_ ?_) <;> intro hq <;> (first | contradiction | simp -implicitDefEqProofs only [eq_false hq, Decidable.not_not, avm, reduceCtorEq, ↓reduceIte, sevalprocAttr, encs] at h ⊢ | simp -implicitDefEqProofs only [eq_true hq, avm, reduceCtorEq, ↓reduceIte, sevalprocAttr, encs] at h ⊢))
    | ((first | refine gkc_split ?_ ?_ | refine pkc_split ?_ ?_ | refine condc_bool ?_ ?_) <;> intro hq <;> (first | exact bcontra (by assumption) hq | exact bcontra hq (by assumption) | simp -implicitDefEqProofs only [hq, avm, reduceCtorEq, ↓reduceIte, sevalprocAttr, encs] at h ⊢))
    | (refine stc_plain rfl ?_; simp -implicitDefEqProofs only [putCells.eq_1, avm, reduceCtorEq, ↓reduceIte, sevalprocAttr, encs])
    | (refine bd_go h fun y hy h => ?_; refine ixc hy ?_; simp -implicitDefEqProofs only [avm, reduceCtorEq, ↓reduceIte, sevalprocAttr, encs])
    | (refine call_cut p_edge_through (by simp [c_edge_through]) (fun (j : (Bool × (List Int) × Int)) => (.bool j.1)) (fun (j : (Bool × (List Int) × Int)) => [(6, 0, (.slice .imm 1 (List.map Enc.enc j.2.1))), (7, 0, (.int .i64 j.2.2))]) (fun (j : (Bool × (List Int) × Int)) => []) (show jn 101 _ _ = some _ from h) ?_ ?_
       rotate_left
       intro j h
       simp -implicitDefEqProofs only [pats, avm, reduceCtorEq, ↓reduceIte, sevalprocAttr, encs] at h ⊢
       rotate_left
       clear h
       intro k' h
       simp -implicitDefEqProofs only [c_edge_through, b_edge_through, pats, avm, reduceCtorEq, ↓reduceIte, sevalprocAttr, encs] at h ⊢)
    | (refine call_cut p_edge_Out_1 (by simp [c_edge_Out_1]) (fun (j : (Bool)) => (.bool j)) (fun (j : (Bool)) => []) (fun (j : (Bool)) => []) (show jn 102 _ _ = some _ from h) ?_ ?_
       rotate_left
       intro j h
       simp -implicitDefEqProofs only [pats, avm, reduceCtorEq, ↓reduceIte, sevalprocAttr, encs] at h ⊢
       rotate_left
       clear h
       intro k' h
       simp -implicitDefEqProofs only [c_edge_Out_1, b_edge_Out_1, pats, avm, reduceCtorEq, ↓reduceIte, sevalprocAttr, encs] at h ⊢)
    | (refine call_in p_edge_Out_2 (by simp [c_edge_Out_2]) ?_
       simp -implicitDefEqProofs only [c_edge_Out_2, b_edge_Out_2, avm, reduceCtorEq, ↓reduceIte, sevalprocAttr, encs])
    | (refine call_in p_edge_Out_3 (by simp [c_edge_Out_3]) ?_
       simp -implicitDefEqProofs only [c_edge_Out_3, b_edge_Out_3, avm, reduceCtorEq, ↓reduceIte, sevalprocAttr, encs])
    | (refine call_in p_edge_Out_4 (by simp [c_edge_Out_4]) ?_
       simp -implicitDefEqProofs only [c_edge_Out_4, b_edge_Out_4, avm, reduceCtorEq, ↓reduceIte, sevalprocAttr, encs])
    | (refine bd_go h fun y hy h => ?_
       first | refine callsc (a_edge_at hy) ?_ ?_ | refine callc (a_edge_at hy) ?_ ?_ | ((first | refine callsc (act_le (a_edge_at hy) ?_) ?_ ?_ | refine callc (act_le (a_edge_at hy) ?_) ?_ ?_); (focus (repeat' (first | exact trivial | exact le_same _ | exact le_enc | exact le_nil | exact le_imm (.inl rfl) | exact le_imm (.inr rfl) | (refine le_agg ?_) | apply And.intro | (refine le_eq ?_; simp only [*]; done)))))
       focus (first | rfl | (simp only [purL, pur, purL_enc, Enc.pure_enc, Bool.and_self, Bool.and_true]; done))
       simp -implicitDefEqProofs only [avm, reduceCtorEq, ↓reduceIte, sevalprocAttr, encs])
    | (refine bd_go h fun y hy h => ?_
       first | refine callsc (a_route_Sane hy) ?_ ?_ | refine callc (a_route_Sane hy) ?_ ?_ | ((first | refine callsc (act_le (a_route_Sane hy) ?_) ?_ ?_ | refine callc (act_le (a_route_Sane hy) ?_) ?_ ?_); (focus (repeat' (first | exact trivial | exact le_same _ | exact le_enc | exact le_nil | exact le_imm (.inl rfl) | exact le_imm (.inr rfl) | (refine le_agg ?_) | apply And.intro | (refine le_eq ?_; simp only [*]; done)))))
       focus (first | rfl | (simp only [purL, pur, purL_enc, Enc.pure_enc, Bool.and_self, Bool.and_true]; done))
       simp -implicitDefEqProofs only [avm, reduceCtorEq, ↓reduceIte, sevalprocAttr, encs])
    | (refine bd_go h fun y hy h => ?_
       first | refine callsc (a_edge_Class hy) ?_ ?_ | refine callc (a_edge_Class hy) ?_ ?_ | ((first | refine callsc (act_le (a_edge_Class hy) ?_) ?_ ?_ | refine callc (act_le (a_edge_Class hy) ?_) ?_ ?_); (focus (repeat' (first | exact trivial | exact le_same _ | exact le_enc | exact le_nil | exact le_imm (.inl rfl) | exact le_imm (.inr rfl) | (refine le_agg ?_) | apply And.intro | (refine le_eq ?_; simp only [*]; done)))))
       focus (first | rfl | (simp only [purL, pur, purL_enc, Enc.pure_enc, Bool.and_self, Bool.and_true]; done))
       simp -implicitDefEqProofs only [avm, reduceCtorEq, ↓reduceIte, sevalprocAttr, encs])
    | (refine bd_go h fun y hy h => ?_
       first | refine callsc (a_policy_Pick hy) ?_ ?_ | refine callc (a_policy_Pick hy) ?_ ?_ | ((first | refine callsc (act_le (a_policy_Pick hy) ?_) ?_ ?_ | refine callc (act_le (a_policy_Pick hy) ?_) ?_ ?_); (focus (repeat' (first | exact trivial | exact le_same _ | exact le_enc | exact le_nil | exact le_imm (.inl rfl) | exact le_imm (.inr rfl) | (refine le_agg ?_) | apply And.intro | (refine le_eq ?_; simp only [*]; done)))))
       focus (first | rfl | (simp only [purL, pur, purL_enc, Enc.pure_enc, Bool.and_self, Bool.and_true]; done))
       simp -implicitDefEqProofs only [avm, reduceCtorEq, ↓reduceIte, sevalprocAttr, encs])
    | (refine bd_go h fun y hy h => ?_
       first | refine callsc (a_edge_longer hy) ?_ ?_ | refine callc (a_edge_longer hy) ?_ ?_ | ((first | refine callsc (act_le (a_edge_longer hy) ?_) ?_ ?_ | refine callc (act_le (a_edge_longer hy) ?_) ?_ ?_); (focus (repeat' (first | exact trivial | exact le_same _ | exact le_enc | exact le_nil | exact le_imm (.inl rfl) | exact le_imm (.inr rfl) | (refine le_agg ?_) | apply And.intro | (refine le_eq ?_; simp only [*]; done)))))
       focus (first | rfl | (simp only [purL, pur, purL_enc, Enc.pure_enc, Bool.and_self, Bool.and_true]; done))
       simp -implicitDefEqProofs only [avm, reduceCtorEq, ↓reduceIte, sevalprocAttr, encs])
    | (refine bd_go h fun y hy h => ?_
       first | refine callsc (a_edge_accepts hy) ?_ ?_ | refine callc (a_edge_accepts hy) ?_ ?_ | ((first | refine callsc (act_le (a_edge_accepts hy) ?_) ?_ ?_ | refine callc (act_le (a_edge_accepts hy) ?_) ?_ ?_); (focus (repeat' (first | exact trivial | exact le_same _ | exact le_enc | exact le_nil | exact le_imm (.inl rfl) | exact le_imm (.inr rfl) | (refine le_agg ?_) | apply And.intro | (refine le_eq ?_; simp only [*]; done)))))
       focus (first | rfl | (simp only [purL, pur, purL_enc, Enc.pure_enc, Bool.and_self, Bool.and_true]; done))
       simp -implicitDefEqProofs only [avm, reduceCtorEq, ↓reduceIte, sevalprocAttr, encs])
    | (refine bd_go h fun y hy h => ?_
       first | refine callsc (a_role_Out hy) ?_ ?_ | refine callc (a_role_Out hy) ?_ ?_ | ((first | refine callsc (act_le (a_role_Out hy) ?_) ?_ ?_ | refine callc (act_le (a_role_Out hy) ?_) ?_ ?_); (focus (repeat' (first | exact trivial | exact le_same _ | exact le_enc | exact le_nil | exact le_imm (.inl rfl) | exact le_imm (.inr rfl) | (refine le_agg ?_) | apply And.intro | (refine le_eq ?_; simp only [*]; done)))))
       focus (first | rfl | (simp only [purL, pur, purL_enc, Enc.pure_enc, Bool.and_self, Bool.and_true]; done))
       simp -implicitDefEqProofs only [avm, reduceCtorEq, ↓reduceIte, sevalprocAttr, encs])
    | (refine ixr (by rfl) (by decide) ?_; simp -implicitDefEqProofs only [avm, reduceCtorEq, ↓reduceIte, sevalprocAttr, encs])
    | refine w_unroll ?_
    | refine kn4 ?_
    | refine kr4 ?_
    | refine ke4 ?_
    | refine al_round ?_
    | (refine rets_in (by first | exact .inr rfl | exact .inl rfl) rfl ?_; simp -implicitDefEqProofs only [avm, reduceCtorEq, ↓reduceIte, sevalprocAttr, encs])
    | (refine retj_one 0 (by first | exact .inr rfl | exact .inl rfl) h rfl ?_ ?_ ?_ rfl rfl ?_ ?_
       · first | exact Nat.le_refl _ | exact Nat.zero_le _ | (simp; done)
       · first | exact Nat.zero_le _ | exact Nat.le_refl _ | (simp; done)
       · first | exact Nat.zero_le _ | exact Nat.le_refl _ | (simp; done)
       all_goals (try simp -implicitDefEqProofs only [pats, avm, reduceCtorEq, ↓reduceIte, sevalprocAttr, encs])
       all_goals (repeat' (first | exact trivial | apply And.intro))
       all_goals first | exact rfl | exact wkc_kv | exact wkc_FL | exact wka_full | exact wka_full0 | exact .same _ rfl | exact wka_imm | exact wka_app (by decide) | exact wka_tag (by decide) rfl | exact wka_tagn (by decide) rfl | exact wka_tagr (by decide) rfl (by simp only [pur, purL, purL_enc, Bool.and_self, Bool.and_true]) | exact wka_immn | (refine .imm _ _ _ _ (.inl rfl) (okBL_pur ?_); simp only [pur, purL, purL_enc, Bool.and_self, Bool.and_true]; done) | exact wka_tag0 (by decide) rfl | exact wka_imm0 | exact wka_pur (Enc.pure_enc _) | exact wka_pur pur_enc_sl | exact wka_pur pur_enc_fl | exact .und _ | (refine wka_pur ?_; simp only [pur, purL, purL_enc, Bool.and_self, Bool.and_true]; done) | (refine .same _ ?_; simp only [okB, okBL, okBL_enc, Bool.and_self, Bool.and_true, decide_true, sevalprocAttr]; done) | (refine .le _ _ ?_ (okB_pur ?_); (focus (repeat' (first | exact le_same _ | exact le_enc | exact le_nil | exact le_imm (.inl rfl) | exact le_imm (.inr rfl) | refine le_agg ?_ | exact trivial | apply And.intro))); (simp only [pur, purL, purL_enc, Bool.and_self, Bool.and_true]; done)))
    | (refine retj_tup 0 (by first | exact .inr rfl | exact .inl rfl) h rfl ?_ ?_ ?_ rfl rfl ?_ ?_
       · first | exact Nat.le_refl _ | exact Nat.zero_le _ | (simp; done)
       · first | exact Nat.zero_le _ | exact Nat.le_refl _ | (simp; done)
       · first | exact Nat.zero_le _ | exact Nat.le_refl _ | (simp; done)
       all_goals (try simp -implicitDefEqProofs only [pats, avm, reduceCtorEq, ↓reduceIte, sevalprocAttr, encs])
       all_goals (repeat' (first | exact trivial | apply And.intro))
       all_goals first | exact rfl | exact wkc_kv | exact wkc_FL | exact wka_full | exact wka_full0 | exact .same _ rfl | exact wka_imm | exact wka_app (by decide) | exact wka_tag (by decide) rfl | exact wka_tagn (by decide) rfl | exact wka_tagr (by decide) rfl (by simp only [pur, purL, purL_enc, Bool.and_self, Bool.and_true]) | exact wka_immn | (refine .imm _ _ _ _ (.inl rfl) (okBL_pur ?_); simp only [pur, purL, purL_enc, Bool.and_self, Bool.and_true]; done) | exact wka_tag0 (by decide) rfl | exact wka_imm0 | exact wka_pur (Enc.pure_enc _) | exact wka_pur pur_enc_sl | exact wka_pur pur_enc_fl | exact .und _ | (refine wka_pur ?_; simp only [pur, purL, purL_enc, Bool.and_self, Bool.and_true]; done) | (refine .same _ ?_; simp only [okB, okBL, okBL_enc, Bool.and_self, Bool.and_true, decide_true, sevalprocAttr]; done) | (refine .le _ _ ?_ (okB_pur ?_); (focus (repeat' (first | exact le_same _ | exact le_enc | exact le_nil | exact le_imm (.inl rfl) | exact le_imm (.inr rfl) | refine le_agg ?_ | exact trivial | apply And.intro))); (simp only [pur, purL, purL_enc, Bool.and_self, Bool.and_true]; done)))
    | (refine retj_nil 0 (by first | exact .inr rfl | exact .inl rfl) h rfl ?_ ?_ ?_ rfl rfl ?_
       · first | exact Nat.le_refl _ | exact Nat.zero_le _ | (simp; done)
       · first | exact Nat.zero_le _ | exact Nat.le_refl _ | (simp; done)
       · first | exact Nat.zero_le _ | exact Nat.le_refl _ | (simp; done)
       all_goals (try simp -implicitDefEqProofs only [pats, avm, reduceCtorEq, ↓reduceIte, sevalprocAttr, encs])
       all_goals (repeat' (first | exact trivial | apply And.intro))
       all_goals first | exact rfl | exact wkc_kv | exact wkc_FL | exact wka_full | exact wka_full0 | exact .same _ rfl | exact wka_imm | exact wka_app (by decide) | exact wka_tag (by decide) rfl | exact wka_tagn (by decide) rfl | exact wka_tagr (by decide) rfl (by simp only [pur, purL, purL_enc, Bool.and_self, Bool.and_true]) | exact wka_immn | (refine .imm _ _ _ _ (.inl rfl) (okBL_pur ?_); simp only [pur, purL, purL_enc, Bool.and_self, Bool.and_true]; done) | exact wka_tag0 (by decide) rfl | exact wka_imm0 | exact wka_pur (Enc.pure_enc _) | exact wka_pur pur_enc_sl | exact wka_pur pur_enc_fl | exact .und _ | (refine wka_pur ?_; simp only [pur, purL, purL_enc, Bool.and_self, Bool.and_true]; done) | (refine .same _ ?_; simp only [okB, okBL, okBL_enc, Bool.and_self, Bool.and_true, decide_true, sevalprocAttr]; done) | (refine .le _ _ ?_ (okB_pur ?_); (focus (repeat' (first | exact le_same _ | exact le_enc | exact le_nil | exact le_imm (.inl rfl) | exact le_imm (.inr rfl) | refine le_agg ?_ | exact trivial | apply And.intro))); (simp only [pur, purL, purL_enc, Bool.and_self, Bool.and_true]; done)))
    | (cases h
       try simp -implicitDefEqProofs only [avm, reduceCtorEq, ↓reduceIte, sevalprocAttr, encs]
       first | refine retLt (by first | exact .inr rfl | exact .inl rfl) (by rfl) ?_ | refine retL1 (by first | exact .inr rfl | exact .inl rfl) (by rfl) ?_
       repeat' (first | exact trivial | apply And.intro)
       all_goals first | exact .same _ rfl | exact reta_imm | exact reta_nil | (refine .imm _ _ _ ?_; simp only [pur, purL, purL_enc, Bool.and_self, Bool.and_true]; done) | exact .same _ (Enc.pure_enc _) | exact .same _ pur_enc_sl | exact .same _ pur_enc_fl | (refine .same _ ?_; simp only [pur, purL, purL_enc, Bool.and_self, Bool.and_true]; done) | (refine .le _ _ ?_ ?_; (focus (repeat' (first | exact le_same _ | exact le_enc | exact le_nil | exact le_imm (.inl rfl) | exact le_imm (.inr rfl) | refine le_agg ?_ | exact trivial | apply And.intro))); (simp only [pur, purL, purL_enc, Bool.and_self, Bool.and_true]; done)))
    | fail)
theorem a_route_Own {a0 : Int} {r : Route} (h : m_route_Own a0 = some r) : ACt Try.prog 24 [Enc.enc a0] (Enc.enc r) [] := by
  refine act_of p_route_Own (by simp [c_route_Own]) ?_
  show AW _ b_route_Own (RetOk [.cell 2 (some 6)] _ _) { n := 6, tm := [(0, _)], box := [], fr := [] }
  unfold b_route_Own
  unfold m_route_Own at h
  try simp -implicitDefEqProofs only [avm, reduceCtorEq, ↓reduceIte, sevalprocAttr, encs] at h
  repeat' (first
    | (refine (hκ _).mpr ?_; clear hκ)
    | refine kn1 ?_
    | refine kr1 ?_
    | refine ke1 ?_
    | refine kn2 ?_
    | refine kr2 ?_
    | refine kx2 ?_
    | refine ke2 rfl ?_
    | refine kr5 ?_
    | refine ke5 ?_
    | refine kr6 ?_
    | refine ke6 ?_
    | refine w_seq ?_
    | refine w_block ?_
    | refine w_scope ?_
    | refine kn7 ?_
    | refine kr7 ?_
    | refine ke7 ?_
    | (refine aw_regk fun κ hκ => ?_; simp -implicitDefEqProofs only [avm, reduceCtorEq, ↓reduceIte, sevalprocAttr, encs])
    | refine aw_exit ?_
    | refine aw_ret ?_
    | refine aw_skip ?_
    | refine aw_label ?_
    | refine condc_t ?_
    | refine condc_f ?_
    | (refine aw_cond2 (by simp -implicitDefEqProofs only [avm, reduceCtorEq, ↓reduceIte, sevalprocAttr, encs]; rfl) ?_)
    | ((first | refine gkc_fork ?_ ?_ | refine pkc_fork ?_ ?_ | refine condc_fork ?_ ?_) <;> intro hq <;> (first | contradiction | simp -implicitDefEqProofs only [eq_false hq, Decidable.not_not, avm, reduceCtorEq, ↓reduceIte, sevalprocAttr, encs] at h ⊢ | simp -implicitDefEqProofs only [eq_true hq, avm, reduceCtorEq, ↓reduceIte, sevalprocAttr, encs] at h ⊢))
    | ((first | refine gkc_split ?_ ?_ | refine pkc_split ?_ ?_ | refine condc_bool ?_ ?_) <;> intro hq <;> (first | exact bcontra (by assumption) hq | exact bcontra hq (by assumption) | simp -implicitDefEqProofs only [hq, avm, reduceCtorEq, ↓reduceIte, sevalprocAttr, encs] at h ⊢))
    | (refine stc_plain rfl ?_; simp -implicitDefEqProofs only [putCells.eq_1, avm, reduceCtorEq, ↓reduceIte, sevalprocAttr, encs])
    | (cases h
       try simp -implicitDefEqProofs only [avm, reduceCtorEq, ↓reduceIte, sevalprocAttr, encs]
       first | refine retLt (by first | exact .inr rfl | exact .inl rfl) (by rfl) ?_ | refine retL1 (by first | exact .inr rfl | exact .inl rfl) (by rfl) ?_
       repeat' (first | exact trivial | apply And.intro)
       all_goals first | exact .same _ rfl | exact reta_imm | exact reta_nil | (refine .imm _ _ _ ?_; simp only [pur, purL, purL_enc, Bool.and_self, Bool.and_true]; done) | exact .same _ (Enc.pure_enc _) | exact .same _ pur_enc_sl | exact .same _ pur_enc_fl | (refine .same _ ?_; simp only [pur, purL, purL_enc, Bool.and_self, Bool.and_true]; done) | (refine .le _ _ ?_ ?_; (focus (repeat' (first | exact le_same _ | exact le_enc | exact le_nil | exact le_imm (.inl rfl) | exact le_imm (.inr rfl) | refine le_agg ?_ | exact trivial | apply And.intro))); (simp only [pur, purL, purL_enc, Bool.and_self, Bool.and_true]; done)))
    | fail)
theorem a_cmp_isNaN_int {a0 : Int} {r : Bool} (h : m_cmp_isNaN_int a0 = some r) : ACt Try.prog 128 [Enc.enc a0] (Enc.enc r) [] := by
  refine act_of p_cmp_isNaN_int (by simp [c_cmp_isNaN_int]) ?_
  show AW _ b_cmp_isNaN_int (RetOk [.tmp 2] _ _) { n := 6, tm := [(0, _)], box := [], fr := [] }
  unfold b_cmp_isNaN_int
  unfold m_cmp_isNaN_int at h
  try simp -implicitDefEqProofs only [avm, reduceCtorEq, ↓reduceIte, sevalprocAttr, encs] at h
  repeat' (first
    | (refine (hκ _).mpr ?_; clear hκ)
    | refine kn1 ?_
    | refine kr1 ?_
    | refine ke1 ?_
    | refine kn2 ?_
    | refine kr2 ?_
    | refine kx2 ?_
    | refine ke2 rfl ?_
    | refine kr5 ?_
    | refine ke5 ?_
    | refine kr6 ?_
    | refine ke6 ?_
    | refine w_seq ?_
    | refine w_block ?_
    | refine w_scope ?_
    | refine kn7 ?_
    | refine kr7 ?_
    | refine ke7 ?_
    | (refine aw_regk fun κ hκ => ?_; simp -implicitDefEqProofs only [avm, reduceCtorEq, ↓reduceIte, sevalprocAttr, encs])
    | refine aw_exit ?_
    | refine aw_ret ?_
    | refine aw_skip ?_
    | refine aw_label ?_
    | refine condc_t ?_
    | refine condc_f ?_
    | (refine aw_cond2 (by simp -implicitDefEqProofs only [avm, reduceCtorEq, ↓reduceIte, sevalprocAttr, encs]; rfl) ?_)
    | ((first | refine gkc_fork ?_ ?_ | refine pkc_fork ?_ ?_ | refine condc_fork ?_ ?_) <;> intro hq <;> (first | contradiction | simp -implicitDefEqProofs only [eq_false hq, Decidable.not_not, avm, reduceCtorEq, ↓reduceIte, sevalprocAttr, encs] at h ⊢ | simp -implicitDefEqProofs only [eq_true hq, avm, reduceCtorEq, ↓reduceIte, sevalprocAttr, encs] at h ⊢))
    | ((first | refine gkc_split ?_ ?_ | refine pkc_split ?_ ?_ | refine condc_bool ?_ ?_) <;> intro hq <;> (first | exact bcontra (by assumption) hq | exact bcontra hq (by assumption) | simp -implicitDefEqProofs only [hq, avm, reduceCtorEq, ↓reduceIte, sevalprocAttr, encs] at h ⊢))
    | (cases h
       try simp -implicitDefEqProofs only [avm, reduceCtorEq, ↓reduceIte, sevalprocAttr, encs]
       first | refine retLt (by first | exact .inr rfl | exact .inl rfl) (by rfl) ?_ | refine retL1 (by first | exact .inr rfl | exact .inl rfl) (by rfl) ?_
       repeat' (first | exact trivial | apply And.intro)
       all_goals first | exact .same _ rfl | exact reta_imm | exact reta_nil | (refine .imm _ _ _ ?_; simp only [pur, purL, purL_enc, Bool.and_self, Bool.and_true]; done) | exact .same _ (Enc.pure_enc _) | exact .same _ pur_enc_sl | exact .same _ pur_enc_fl | (refine .same _ ?_; simp only [pur, purL, purL_enc, Bool.and_self, Bool.and_true]; done) | (refine .le _ _ ?_ ?_; (focus (repeat' (first | exact le_same _ | exact le_enc | exact le_nil | exact le_imm (.inl rfl) | exact le_imm (.inr rfl) | refine le_agg ?_ | exact trivial | apply And.intro))); (simp only [pur, purL, purL_enc, Bool.and_self, Bool.and_true]; done)))
    | fail)
theorem a_cmp_Compare_int {a0 : Int} {a1 : Int} {r : Int} (h : m_cmp_Compare_int a0 a1 = some r) : ACt Try.prog 104 [Enc.enc a0, Enc.enc a1] (Enc.enc r) [] := by
  refine act_of p_cmp_Compare_int (by simp [c_cmp_Compare_int]) ?_
  show AW _ b_cmp_Compare_int (RetOk [.tmp 4] _ _) { n := 20, tm := [(0, _), (1, _)], box := [], fr := [] }
  unfold b_cmp_Compare_int
  unfold m_cmp_Compare_int at h
  try simp -implicitDefEqProofs only [avm, reduceCtorEq, ↓reduceIte, sevalprocAttr, encs] at h
  repeat' (first
    | (refine (hκ _).mpr ?_; clear hκ)
    | refine kn1 ?_
    | refine kr1 ?_
    | refine ke1 ?_
    | refine kn2 ?_
    | refine kr2 ?_
    | refine kx2 ?_
    | refine ke2 rfl ?_
    | refine kr5 ?_
    | refine ke5 ?_
    | refine kr6 ?_
    | refine ke6 ?_
    | refine w_seq ?_
    | refine w_block ?_
    | refine w_scope ?_
    | refine kn7 ?_
    | refine kr7 ?_
    | refine ke7 ?_
    | (refine aw_regk fun κ hκ => ?_; simp -implicitDefEqProofs only [avm, reduceCtorEq, ↓reduceIte, sevalprocAttr, encs])
    | refine aw_exit ?_
    | refine aw_ret ?_
    | refine aw_skip ?_
    | refine aw_label ?_
    | refine condc_t ?_
    | refine condc_f ?_
    | (refine aw_cond2 (by simp -implicitDefEqProofs only [avm, reduceCtorEq, ↓reduceIte, sevalprocAttr, encs]; rfl) ?_)
    | ((first | refine gkc_fork ?_ ?_ | refine pkc_fork ?_ ?_ | refine condc_fork ?_ ?_) <;> intro hq <;> (first | contradiction | simp -implicitDefEqProofs only [eq_false hq, Decidable.not_not, avm, reduceCtorEq, ↓reduceIte, sevalprocAttr, encs] at h ⊢ | simp -implicitDefEqProofs only [eq_true hq, avm, reduceCtorEq, ↓reduceIte, sevalprocAttr, encs] at h ⊢))
    | ((first | refine gkc_split ?_ ?_ | refine pkc_split ?_ ?_ | refine condc_bool ?_ ?_) <;> intro hq <;> (first | exact bcontra (by assumption) hq | exact bcontra hq (by assumption) | simp -implicitDefEqProofs only [hq, avm, reduceCtorEq, ↓reduceIte, sevalprocAttr, encs] at h ⊢))
    | (refine bd_go h fun y hy h => ?_
       first | refine callsc (a_cmp_isNaN_int hy) ?_ ?_ | refine callc (a_cmp_isNaN_int hy) ?_ ?_ | ((first | refine callsc (act_le (a_cmp_isNaN_int hy) ?_) ?_ ?_ | refine callc (act_le (a_cmp_isNaN_int hy) ?_) ?_ ?_); (focus (repeat' (first | exact trivial | exact le_same _ | exact le_enc | exact le_nil | exact le_imm (.inl rfl) | exact le_imm (.inr rfl) | (refine le_agg ?_) | apply And.intro | (refine le_eq ?_; simp only [*]; done)))))
       focus (first | rfl | (simp only [purL, pur, purL_enc, Enc.pure_enc, Bool.and_self, Bool.and_true]; done))
       simp -implicitDefEqProofs only [avm, reduceCtorEq, ↓reduceIte, sevalprocAttr, encs])
    | (cases h
       try simp -implicitDefEqProofs only [avm, reduceCtorEq, ↓reduceIte, sevalprocAttr, encs]
       first | refine retLt (by first | exact .inr rfl | exact .inl rfl) (by rfl) ?_ | refine retL1 (by first | exact .inr rfl | exact .inl rfl) (by rfl) ?_
       repeat' (first | exact trivial | apply And.intro)
       all_goals first | exact .same _ rfl | exact reta_imm | exact reta_nil | (refine .imm _ _ _ ?_; simp only [pur, purL, purL_enc, Bool.and_self, Bool.and_true]; done) | exact .same _ (Enc.pure_enc _) | exact .same _ pur_enc_sl | exact .same _ pur_enc_fl | (refine .same _ ?_; simp only [pur, purL, purL_enc, Bool.and_self, Bool.and_true]; done) | (refine .le _ _ ?_ ?_; (focus (repeat' (first | exact le_same _ | exact le_enc | exact le_nil | exact le_imm (.inl rfl) | exact le_imm (.inr rfl) | refine le_agg ?_ | exact trivial | apply And.intro))); (simp only [pur, purL, purL_enc, Bool.and_self, Bool.and_true]; done)))
    | fail)
theorem a_route_pair__pref {a0 : RoutePair} {r : Int} (h : m_route_pair__pref a0 = some r) : ACt Try.prog 71 [Enc.enc a0] (Enc.enc r) [] := by
  refine act_of p_route_pair__pref (by simp [c_route_pair__pref]) ?_
  show AW _ b_route_pair__pref (RetOk [.tmp 2] _ _) { n := 10, tm := [(0, _)], box := [], fr := [] }
  unfold b_route_pair__pref
  unfold m_route_pair__pref at h
  try simp -implicitDefEqProofs only [avm, reduceCtorEq, ↓reduceIte, sevalprocAttr, encs] at h
  repeat' (first
    | (refine (hκ _).mpr ?_; clear hκ)
    | refine kn1 ?_
    | refine kr1 ?_
    | refine ke1 ?_
    | refine kn2 ?_
    | refine kr2 ?_
    | refine kx2 ?_
    | refine ke2 rfl ?_
    | refine kr5 ?_
    | refine ke5 ?_
    | refine kr6 ?_
    | refine ke6 ?_
    | refine w_seq ?_
    | refine w_block ?_
    | refine w_scope ?_
    | refine kn7 ?_
    | refine kr7 ?_
    | refine ke7 ?_
    | (refine aw_regk fun κ hκ => ?_; simp -implicitDefEqProofs only [avm, reduceCtorEq, ↓reduceIte, sevalprocAttr, encs])
    | refine aw_exit ?_
    | refine aw_ret ?_
    | refine aw_skip ?_
    | refine aw_label ?_
    | refine condc_t ?_
    | refine condc_f ?_
    | (refine aw_cond2 (by simp -implicitDefEqProofs only [avm, reduceCtorEq, ↓reduceIte, sevalprocAttr, encs]; rfl) ?_)
    | ((first | refine gkc_fork ?_ ?_ | refine pkc_fork ?_ ?_ | refine condc_fork ?_ ?_) <;> intro hq <;> (first | contradiction | simp -implicitDefEqProofs only [eq_false hq, Decidable.not_not, avm, reduceCtorEq, ↓reduceIte, sevalprocAttr, encs] at h ⊢ | simp -implicitDefEqProofs only [eq_true hq, avm, reduceCtorEq, ↓reduceIte, sevalprocAttr, encs] at h ⊢))
    | ((first | refine gkc_split ?_ ?_ | refine pkc_split ?_ ?_ | refine condc_bool ?_ ?_) <;> intro hq <;> (first | exact bcontra (by assumption) hq | exact bcontra hq (by assumption) | simp -implicitDefEqProofs only [hq, avm, reduceCtorEq, ↓reduceIte, sevalprocAttr, encs] at h ⊢))
    | (refine bd_go h fun y hy h => ?_
       first | refine callsc (a_cmp_Compare_int hy) ?_ ?_ | refine callc (a_cmp_Compare_int hy) ?_ ?_ | ((first | refine callsc (act_le (a_cmp_Compare_int hy) ?_) ?_ ?_ | refine callc (act_le (a_cmp_Compare_int hy) ?_) ?_ ?_); (focus (repeat' (first | exact trivial | exact le_same _ | exact le_enc | exact le_nil | exact le_imm (.inl rfl) | exact le_imm (.inr rfl) | (refine le_agg ?_) | apply And.intro | (refine le_eq ?_; simp only [*]; done)))))
       focus (first | rfl | (simp only [purL, pur, purL_enc, Enc.pure_enc, Bool.and_self, Bool.and_true]; done))
       simp -implicitDefEqProofs only [avm, reduceCtorEq, ↓reduceIte, sevalprocAttr, encs])
    | (cases h
       try simp -implicitDefEqProofs only [avm, reduceCtorEq, ↓reduceIte, sevalprocAttr, encs]
       first | refine retLt (by first | exact .inr rfl | exact .inl rfl) (by rfl) ?_ | refine retL1 (by first | exact .inr rfl | exact .inl rfl) (by rfl) ?_
       repeat' (first | exact trivial | apply And.intro)
       all_goals first | exact .same _ rfl | exact reta_imm | exact reta_nil | (refine .imm _ _ _ ?_; simp only [pur, purL, purL_enc, Bool.and_self, Bool.and_true]; done) | exact .same _ (Enc.pure_enc _) | exact .same _ pur_enc_sl | exact .same _ pur_enc_fl | (refine .same _ ?_; simp only [pur, purL, purL_enc, Bool.and_self, Bool.and_true]; done) | (refine .le _ _ ?_ ?_; (focus (repeat' (first | exact le_same _ | exact le_enc | exact le_nil | exact le_imm (.inl rfl) | exact le_imm (.inr rfl) | refine le_agg ?_ | exact trivial | apply And.intro))); (simp only [pur, purL, purL_enc, Bool.and_self, Bool.and_true]; done)))
    | fail)
theorem a_route_pair__length {a0 : RoutePair} {r : Int} (h : m_route_pair__length a0 = some r) : ACt Try.prog 72 [Enc.enc a0] (Enc.enc r) [] := by
  refine act_of p_route_pair__length (by simp [c_route_pair__length]) ?_
  show AW _ b_route_pair__length (RetOk [.tmp 2] _ _) { n := 14, tm := [(0, _)], box := [], fr := [] }
  unfold b_route_pair__length
  unfold m_route_pair__length at h
  try simp -implicitDefEqProofs only [avm, reduceCtorEq, ↓reduceIte, sevalprocAttr, encs] at h
  repeat' (first
    | (refine (hκ _).mpr ?_; clear hκ)
    | refine kn1 ?_
    | refine kr1 ?_
    | refine ke1 ?_
    | refine kn2 ?_
    | refine kr2 ?_
    | refine kx2 ?_
    | refine ke2 rfl ?_
    | refine kr5 ?_
    | refine ke5 ?_
    | refine kr6 ?_
    | refine ke6 ?_
    | refine w_seq ?_
    | refine w_block ?_
    | refine w_scope ?_
    | refine kn7 ?_
    | refine kr7 ?_
    | refine ke7 ?_
    | (refine aw_regk fun κ hκ => ?_; simp -implicitDefEqProofs only [avm, reduceCtorEq, ↓reduceIte, sevalprocAttr, encs])
    | refine aw_exit ?_
    | refine aw_ret ?_
    | refine aw_skip ?_
    | refine aw_label ?_
    | refine condc_t ?_
    | refine condc_f ?_
    | (refine aw_cond2 (by simp -implicitDefEqProofs only [avm, reduceCtorEq, ↓reduceIte, sevalprocAttr, encs]; rfl) ?_)
    | ((first | refine gkc_fork ?_ ?_ | refine pkc_fork ?_ ?_ | refine condc_fork ?_ ?_) <;> intro hq <;> (first | contradiction | simp -implicitDefEqProofs only [eq_false hq, Decidable.not_not, avm, reduceCtorEq, ↓reduceIte, sevalprocAttr, encs] at h ⊢ | simp -implicitDefEqProofs only [eq_true hq, avm, reduceCtorEq, ↓reduceIte, sevalprocAttr, encs] at h ⊢))
    | ((first | refine gkc_split ?_ ?_ | refine pkc_split ?_ ?_ | refine condc_bool ?_ ?_) <;> intro hq <;> (first | exact bcontra (by assumption) hq | exact bcontra hq (by assumption) | simp -implicitDefEqProofs only [hq, avm, reduceCtorEq, ↓reduceIte, sevalprocAttr, encs] at h ⊢))
    | (refine bd_go h fun y hy h => ?_
       first | refine callsc (a_cmp_Compare_int hy) ?_ ?_ | refine callc (a_cmp_Compare_int hy) ?_ ?_ | ((first | refine callsc (act_le (a_cmp_Compare_int hy) ?_) ?_ ?_ | refine callc (act_le (a_cmp_Compare_int hy) ?_) ?_ ?_); (focus (repeat' (first | exact trivial | exact le_same _ | exact le_enc | exact le_nil | exact le_imm (.inl rfl) | exact le_imm (.inr rfl) | (refine le_agg ?_) | apply And.intro | (refine le_eq ?_; simp only [*]; done)))))
       focus (first | rfl | (simp only [purL, pur, purL_enc, Enc.pure_enc, Bool.and_self, Bool.and_true]; done))
       simp -implicitDefEqProofs only [avm, reduceCtorEq, ↓reduceIte, sevalprocAttr, encs])
    | (cases h
       try simp -implicitDefEqProofs only [avm, reduceCtorEq, ↓reduceIte, sevalprocAttr, encs]
       first | refine retLt (by first | exact .inr rfl | exact .inl rfl) (by rfl) ?_ | refine retL1 (by first | exact .inr rfl | exact .inl rfl) (by rfl) ?_
       repeat' (first | exact trivial | apply And.intro)
       all_goals first | exact .same _ rfl | exact reta_imm | exact reta_nil | (refine .imm _ _ _ ?_; simp only [pur, purL, purL_enc, Bool.and_self, Bool.and_true]; done) | exact .same _ (Enc.pure_enc _) | exact .same _ pur_enc_sl | exact .same _ pur_enc_fl | (refine .same _ ?_; simp only [pur, purL, purL_enc, Bool.and_self, Bool.and_true]; done) | (refine .le _ _ ?_ ?_; (focus (repeat' (first | exact le_same _ | exact le_enc | exact le_nil | exact le_imm (.inl rfl) | exact le_imm (.inr rfl) | refine le_agg ?_ | exact trivial | apply And.intro))); (simp only [pur, purL, purL_enc, Bool.and_self, Bool.and_true]; done)))
    | fail)
theorem a_route_pair__origin {a0 : RoutePair} {r : Int} (h : m_route_pair__origin a0 = some r) : ACt Try.prog 73 [Enc.enc a0] (Enc.enc r) [] := by
  refine act_of p_route_pair__origin (by simp [c_route_pair__origin]) ?_
  show AW _ b_route_pair__origin (RetOk [.tmp 2] _ _) { n := 12, tm := [(0, _)], box := [], fr := [] }
  unfold b_route_pair__origin
  unfold m_route_pair__origin at h
  try simp -implicitDefEqProofs only [avm, reduceCtorEq, ↓reduceIte, sevalprocAttr, encs] at h
  repeat' (first
    | (refine (hκ _).mpr ?_; clear hκ)
    | refine kn1 ?_
    | refine kr1 ?_
    | refine ke1 ?_
    | refine kn2 ?_
    | refine kr2 ?_
    | refine kx2 ?_
    | refine ke2 rfl ?_
    | refine kr5 ?_
    | refine ke5 ?_
    | refine kr6 ?_
    | refine ke6 ?_
    | refine w_seq ?_
    | refine w_block ?_
    | refine w_scope ?_
    | refine kn7 ?_
    | refine kr7 ?_
    | refine ke7 ?_
    | (refine aw_regk fun κ hκ => ?_; simp -implicitDefEqProofs only [avm, reduceCtorEq, ↓reduceIte, sevalprocAttr, encs])
    | refine aw_exit ?_
    | refine aw_ret ?_
    | refine aw_skip ?_
    | refine aw_label ?_
    | refine condc_t ?_
    | refine condc_f ?_
    | (refine aw_cond2 (by simp -implicitDefEqProofs only [avm, reduceCtorEq, ↓reduceIte, sevalprocAttr, encs]; rfl) ?_)
    | ((first | refine gkc_fork ?_ ?_ | refine pkc_fork ?_ ?_ | refine condc_fork ?_ ?_) <;> intro hq <;> (first | contradiction | simp -implicitDefEqProofs only [eq_false hq, Decidable.not_not, avm, reduceCtorEq, ↓reduceIte, sevalprocAttr, encs] at h ⊢ | simp -implicitDefEqProofs only [eq_true hq, avm, reduceCtorEq, ↓reduceIte, sevalprocAttr, encs] at h ⊢))
    | ((first | refine gkc_split ?_ ?_ | refine pkc_split ?_ ?_ | refine condc_bool ?_ ?_) <;> intro hq <;> (first | exact bcontra (by assumption) hq | exact bcontra hq (by assumption) | simp -implicitDefEqProofs only [hq, avm, reduceCtorEq, ↓reduceIte, sevalprocAttr, encs] at h ⊢))
    | (refine bd_go h fun y hy h => ?_
       first | refine callsc (a_cmp_Compare_int hy) ?_ ?_ | refine callc (a_cmp_Compare_int hy) ?_ ?_ | ((first | refine callsc (act_le (a_cmp_Compare_int hy) ?_) ?_ ?_ | refine callc (act_le (a_cmp_Compare_int hy) ?_) ?_ ?_); (focus (repeat' (first | exact trivial | exact le_same _ | exact le_enc | exact le_nil | exact le_imm (.inl rfl) | exact le_imm (.inr rfl) | (refine le_agg ?_) | apply And.intro | (refine le_eq ?_; simp only [*]; done)))))
       focus (first | rfl | (simp only [purL, pur, purL_enc, Enc.pure_enc, Bool.and_self, Bool.and_true]; done))
       simp -implicitDefEqProofs only [avm, reduceCtorEq, ↓reduceIte, sevalprocAttr, encs])
    | (cases h
       try simp -implicitDefEqProofs only [avm, reduceCtorEq, ↓reduceIte, sevalprocAttr, encs]
       first | refine retLt (by first | exact .inr rfl | exact .inl rfl) (by rfl) ?_ | refine retL1 (by first | exact .inr rfl | exact .inl rfl) (by rfl) ?_
       repeat' (first | exact trivial | apply And.intro)
       all_goals first | exact .same _ rfl | exact reta_imm | exact reta_nil | (refine .imm _ _ _ ?_; simp only [pur, purL, purL_enc, Bool.and_self, Bool.and_true]; done) | exact .same _ (Enc.pure_enc _) | exact .same _ pur_enc_sl | exact .same _ pur_enc_fl | (refine .same _ ?_; simp only [pur, purL, purL_enc, Bool.and_self, Bool.and_true]; done) | (refine .le _ _ ?_ ?_; (focus (repeat' (first | exact le_same _ | exact le_enc | exact le_nil | exact le_imm (.inl rfl) | exact le_imm (.inr rfl) | refine le_agg ?_ | exact trivial | apply And.intro))); (simp only [pur, purL, purL_enc, Bool.and_self, Bool.and_true]; done)))
    | fail)
theorem a_slices_Compare___int_int {a0 : (List Int)} {a1 : (List Int)} {r : Int} (h : m_slices_Compare___int_int a0 a1 = some r) : ACt Try.prog 105 [Enc.enc a0, Enc.enc a1] (Enc.enc r) [] := by
  refine act_of p_slices_Compare___int_int (by simp [c_slices_Compare___int_int]) ?_
  show AW _ b_slices_Compare___int_int (RetOk [.tmp 4] _ _) { n := 36, tm := [(0, _), (1, _)], box := [], fr := [] }
  unfold b_slices_Compare___int_int
  unfold m_slices_Compare___int_int at h
  try simp -implicitDefEqProofs only [avm, reduceCtorEq, ↓reduceIte, sevalprocAttr, encs] at h
  repeat' (first
    | (refine (hκ _).mpr ?_; clear hκ)
    | refine kn1 ?_
    | refine kr1 ?_
    | refine ke1 ?_
    | refine kn2 ?_
    | refine kr2 ?_
    | refine kx2 ?_
    | refine ke2 rfl ?_
    | refine kr5 ?_
    | refine ke5 ?_
    | refine kr6 ?_
    | refine ke6 ?_
    | (refine w_loopm [0, 1, 9, 10] (fun (j : (Int)) => [(11, (.int .i64 j))]) (fun (j : (Int)) => []) (fun (j : (Int)) => []) (fun (j : (Int)) => []) (show loopC (s_slices_Compare___int_int1 _ _) _ BIG _ = some _ from h) ?_ ?_
       · try simp -implicitDefEqProofs only [pats, avm, reduceCtorEq, ↓reduceIte, sevalprocAttr, encs]
         (first
          | (refine wk_m 0 _ rfl ?_ rfl rfl ?_ ?_ ?_ ?_
             · first | exact Nat.le_refl _ | exact Nat.zero_le _ | (simp; done)
             · first | exact Nat.zero_le _ | exact Nat.le_refl _ | (simp; done)
             · first | exact Nat.zero_le _ | exact Nat.le_refl _ | (simp; done)
             all_goals (repeat' (first | exact trivial | apply And.intro))
             all_goals first | exact rfl | exact wkc_kv | exact wkc_FL | exact wka_full | exact wka_full0 | exact .same _ rfl | exact wka_imm | exact wka_app (by decide) | exact wka_tag (by decide) rfl | exact wka_tagn (by decide) rfl | exact wka_tagr (by decide) rfl (by simp only [pur, purL, purL_enc, Bool.and_self, Bool.and_true]) | exact wka_immn | (refine .imm _ _ _ _ (.inl rfl) (okBL_pur ?_); simp only [pur, purL, purL_enc, Bool.and_self, Bool.and_true]; done) | exact wka_tag0 (by decide) rfl | exact wka_imm0 | exact wka_pur (Enc.pure_enc _) | exact wka_pur pur_enc_sl | exact wka_pur pur_enc_fl | exact .und _ | (refine wka_pur ?_; simp only [pur, purL, purL_enc, Bool.and_self, Bool.and_true]; done) | (refine .same _ ?_; simp only [okB, okBL, okBL_enc, Bool.and_self, Bool.and_true, decide_true, sevalprocAttr]; done) | (refine .le _ _ ?_ (okB_pur ?_); (focus (repeat' (first | exact le_same _ | exact le_enc | exact le_nil | exact le_imm (.inl rfl) | exact le_imm (.inr rfl) | refine le_agg ?_ | exact trivial | apply And.intro))); (simp only [pur, purL, purL_enc, Bool.and_self, Bool.and_true]; done))))
       clear h
       intro n st h
       simp -implicitDefEqProofs only [s_slices_Compare___int_int1.eq_1, pats, avm, reduceCtorEq, ↓reduceIte, sevalprocAttr, encs] at h ⊢)
    | refine w_seq ?_
    | refine w_block ?_
    | refine w_scope ?_
    | refine kn7 ?_
    | refine kr7 ?_
    | refine ke7 ?_
    | (refine aw_regk fun κ hκ => ?_; simp -implicitDefEqProofs only [avm, reduceCtorEq, ↓reduceIte, sevalprocAttr, encs])
    | refine aw_exit ?_
    | refine aw_ret ?_
    | refine aw_skip ?_
    | refine aw_label ?_
    | refine condc_t ?_
    | refine condc_f ?_
    | (refine aw_cond2 (by simp -implicitDefEqProofs only [avm, reduceCtorEq, ↓reduceIte, sevalprocAttr, encs]; rfl) ?_)
    | ((first | refine gkc_fork ?_ ?_ | refine pkc_fork ?_ ?_ | refine condc_fork ?_ ?_) <;> intro hq <;> (first | contradiction | simp -implicitDefEqProofs only [eq_false hq, Decidable.not_not, avm, reduceCtorEq, ↓reduceIte, sevalprocAttr, encs] at h ⊢ | simp -implicitDefEqProofs only [eq_true hq, avm, reduceCtorEq, ↓reduceIte, sevalprocAttr, encs] at h ⊢))
    | ((first | refine gkc_split ?_ ?_ | refine pkc_split ?_ ?_ | refine condc_bool ?_ ?_) <;> intro hq <;> (first | exact bcontra (by assumption) hq | exact bcontra hq (by assumption) | simp -implicitDefEqProofs only [hq, avm, reduceCtorEq, ↓reduceIte, sevalprocAttr, encs] at h ⊢))
    | (refine bd_go h fun y hy h => ?_; refine ixc hy ?_; simp -implicitDefEqProofs only [avm, reduceCtorEq, ↓reduceIte, sevalprocAttr, encs])
    | (refine bd_go h fun y hy h => ?_
       first | refine callsc (a_cmp_Compare_int hy) ?_ ?_ | refine callc (a_cmp_Compare_int hy) ?_ ?_ | ((first | refine callsc (act_le (a_cmp_Compare_int hy) ?_) ?_ ?_ | refine callc (act_le (a_cmp_Compare_int hy) ?_) ?_ ?_); (focus (repeat' (first | exact trivial | exact le_same _ | exact le_enc | exact le_nil | exact le_imm (.inl rfl) | exact le_imm (.inr rfl) | (refine le_agg ?_) | apply And.intro | (refine le_eq ?_; simp only [*]; done)))))
       focus (first | rfl | (simp only [purL, pur, purL_enc, Enc.pure_enc, Bool.and_self, Bool.and_true]; done))
       simp -implicitDefEqProofs only [avm, reduceCtorEq, ↓reduceIte, sevalprocAttr, encs])
    | (first | refine kn6 ⟨_, h, ?_⟩ | refine kn5 ⟨_, h, ?_⟩
       try simp -implicitDefEqProofs only [pats, avm, reduceCtorEq, ↓reduceIte, sevalprocAttr, encs]
       (first
          | (refine wk_m 0 _ rfl ?_ rfl rfl ?_ ?_ ?_ ?_
             · first | exact Nat.le_refl _ | exact Nat.zero_le _ | (simp; done)
             · first | exact Nat.zero_le _ | exact Nat.le_refl _ | (simp; done)
             · first | exact Nat.zero_le _ | exact Nat.le_refl _ | (simp; done)
             all_goals (repeat' (first | exact trivial | apply And.intro))
             all_goals first | exact rfl | exact wkc_kv | exact wkc_FL | exact wka_full | exact wka_full0 | exact .same _ rfl | exact wka_imm | exact wka_app (by decide) | exact wka_tag (by decide) rfl | exact wka_tagn (by decide) rfl | exact wka_tagr (by decide) rfl (by simp only [pur, purL, purL_enc, Bool.and_self, Bool.and_true]) | exact wka_immn | (refine .imm _ _ _ _ (.inl rfl) (okBL_pur ?_); simp only [pur, purL, purL_enc, Bool.and_self, Bool.and_true]; done) | exact wka_tag0 (by decide) rfl | exact wka_imm0 | exact wka_pur (Enc.pure_enc _) | exact wka_pur pur_enc_sl | exact wka_pur pur_enc_fl | exact .und _ | (refine wka_pur ?_; simp only [pur, purL, purL_enc, Bool.and_self, Bool.and_true]; done) | (refine .same _ ?_; simp only [okB, okBL, okBL_enc, Bool.and_self, Bool.and_true, decide_true, sevalprocAttr]; done) | (refine .le _ _ ?_ (okB_pur ?_); (focus (repeat' (first | exact le_same _ | exact le_enc | exact le_nil | exact le_imm (.inl rfl) | exact le_imm (.inr rfl) | refine le_agg ?_ | exact trivial | apply And.intro))); (simp only [pur, purL, purL_enc, Bool.and_self, Bool.and_true]; done)))))
    | (first | refine kn6 ⟨_, h, ?_⟩ | refine kn5 ⟨_, h, ?_⟩
       try simp -implicitDefEqProofs only [*, pats, avm, reduceCtorEq, ↓reduceIte, sevalprocAttr, encs]
       (first
          | (refine wk_m 0 _ rfl ?_ rfl rfl ?_ ?_ ?_ ?_
             · first | exact Nat.le_refl _ | exact Nat.zero_le _ | (simp; done)
             · first | exact Nat.zero_le _ | exact Nat.le_refl _ | (simp; done)
             · first | exact Nat.zero_le _ | exact Nat.le_refl _ | (simp; done)
             all_goals (repeat' (first | exact trivial | apply And.intro))
             all_goals first | exact rfl | exact wkc_kv | exact wkc_FL | exact wka_full | exact wka_full0 | exact .same _ rfl | exact wka_imm | exact wka_app (by decide) | exact wka_tag (by decide) rfl | exact wka_tagn (by decide) rfl | exact wka_tagr (by decide) rfl (by simp only [pur, purL, purL_enc, Bool.and_self, Bool.and_true]) | exact wka_immn | (refine .imm _ _ _ _ (.inl rfl) (okBL_pur ?_); simp only [pur, purL, purL_enc, Bool.and_self, Bool.and_true]; done) | exact wka_tag0 (by decide) rfl | exact wka_imm0 | exact wka_pur (Enc.pure_enc _) | exact wka_pur pur_enc_sl | exact wka_pur pur_enc_fl | exact .und _ | (refine wka_pur ?_; simp only [pur, purL, purL_enc, Bool.and_self, Bool.and_true]; done) | (refine .same _ ?_; simp only [okB, okBL, okBL_enc, Bool.and_self, Bool.and_true, decide_true, sevalprocAttr]; done) | (refine .le _ _ ?_ (okB_pur ?_); (focus (repeat' (first | exact le_same _ | exact le_enc | exact le_nil | exact le_imm (.inl rfl) | exact le_imm (.inr rfl) | refine le_agg ?_ | exact trivial | apply And.intro))); (simp only [pur, purL, purL_enc, Bool.and_self, Bool.and_true]; done)))))
    | (cases h
       try simp -implicitDefEqProofs only [avm, reduceCtorEq, ↓reduceIte, sevalprocAttr, encs]
       first | refine retLt (by first | exact .inr rfl | exact .inl rfl) (by rfl) ?_ | refine retL1 (by first | exact .inr rfl | exact .inl rfl) (by rfl) ?_
       repeat' (first | exact trivial | apply And.intro)
       all_goals first | exact .same _ rfl | exact reta_imm | exact reta_nil | (refine .imm _ _ _ ?_; simp only [pur, purL, purL_enc, Bool.and_self, Bool.and_true]; done) | exact .same _ (Enc.pure_enc _) | exact .same _ pur_enc_sl | exact .same _ pur_enc_fl | (refine .same _ ?_; simp only [pur, purL, purL_enc, Bool.and_self, Bool.and_true]; done) | (refine .le _ _ ?_ ?_; (focus (repeat' (first | exact le_same _ | exact le_enc | exact le_nil | exact le_imm (.inl rfl) | exact le_imm (.inr rfl) | refine le_agg ?_ | exact trivial | apply And.intro))); (simp only [pur, purL, purL_enc, Bool.and_self, Bool.and_true]; done)))
    | fail)
theorem a_route_pair__as {a0 : RoutePair} {r : Int} (h : m_route_pair__as a0 = some r) : ACt Try.prog 74 [Enc.enc a0] (Enc.enc r) [] := by
  refine act_of p_route_pair__as (by simp [c_route_pair__as]) ?_
  show AW _ b_route_pair__as (RetOk [.tmp 2] _ _) { n := 12, tm := [(0, _)], box := [], fr := [] }
  unfold b_route_pair__as
  unfold m_route_pair__as at h
  try simp -implicitDefEqProofs only [avm, reduceCtorEq, ↓reduceIte, sevalprocAttr, encs] at h
  repeat' (first
    | (refine (hκ _).mpr ?_; clear hκ)
    | refine kn1 ?_
    | refine kr1 ?_
    | refine ke1 ?_
    | refine kn2 ?_
    | refine kr2 ?_
    | refine kx2 ?_
    | refine ke2 rfl ?_
    | refine kr5 ?_
    | refine ke5 ?_
    | refine kr6 ?_
    | refine ke6 ?_
    | refine w_seq ?_
    | refine w_block ?_
    | refine w_scope ?_
    | refine kn7 ?_
    | refine kr7 ?_
    | refine ke7 ?_
    | (refine aw_regk fun κ hκ => ?_; simp -implicitDefEqProofs only [avm, reduceCtorEq, ↓reduceIte, sevalprocAttr, encs])
    | refine aw_exit ?_
    | refine aw_ret ?_
    | refine aw_skip ?_
    | refine aw_label ?_
    | refine condc_t ?_
    | refine condc_f ?_
    | (refine aw_cond2 (by simp -implicitDefEqProofs only [avm, reduceCtorEq, ↓reduceIte, sevalprocAttr, encs]; rfl) ?_)
    | ((first | refine gkc_fork ?_ ?_ | refine pkc_fork ?_ ?_ | refine condc_fork ?_ ?_) <;> intro hq <;> (first | contradiction | simp -implicitDefEqProofs only [eq_false hq, Decidable.not_not, avm, reduceCtorEq, ↓reduceIte, sevalprocAttr, encs] at h ⊢ | simp -implicitDefEqProofs only [eq_true hq, avm, reduceCtorEq, ↓reduceIte, sevalprocAttr, encs] at h ⊢))
    | ((first | refine gkc_split ?_ ?_ | refine pkc_split ?_ ?_ | refine condc_bool ?_ ?_) <;> intro hq <;> (first | exact bcontra (by assumption) hq | exact bcontra hq (by assumption) | simp -implicitDefEqProofs only [hq, avm, reduceCtorEq, ↓reduceIte, sevalprocAttr, encs] at h ⊢))
    | (refine bd_go h fun y hy h => ?_
       first | refine callsc (a_slices_Compare___int_int hy) ?_ ?_ | refine callc (a_slices_Compare___int_int hy) ?_ ?_ | ((first | refine callsc (act_le (a_slices_Compare___int_int hy) ?_) ?_ ?_ | refine callc (act_le (a_slices_Compare___int_int hy) ?_) ?_ ?_); (focus (repeat' (first | exact trivial | exact le_same _ | exact le_enc | exact le_nil | exact le_imm (.inl rfl) | exact le_imm (.inr rfl) | (refine le_agg ?_) | apply And.intro | (refine le_eq ?_; simp only [*]; done)))))
       focus (first | rfl | (simp only [purL, pur, purL_enc, Enc.pure_enc, Bool.and_self, Bool.and_true]; done))
       simp -implicitDefEqProofs only [avm, reduceCtorEq, ↓reduceIte, sevalprocAttr, encs])
    | (cases h
       try simp -implicitDefEqProofs only [avm, reduceCtorEq, ↓reduceIte, sevalprocAttr, encs]
       first | refine retLt (by first | exact .inr rfl | exact .inl rfl) (by rfl) ?_ | refine retL1 (by first | exact .inr rfl | exact .inl rfl) (by rfl) ?_
       repeat' (first | exact trivial | apply And.intro)
       all_goals first | exact .same _ rfl | exact reta_imm | exact reta_nil | (refine .imm _ _ _ ?_; simp only [pur, purL, purL_enc, Bool.and_self, Bool.and_true]; done) | exact .same _ (Enc.pure_enc _) | exact .same _ pur_enc_sl | exact .same _ pur_enc_fl | (refine .same _ ?_; simp only [pur, purL, purL_enc, Bool.and_self, Bool.and_true]; done) | (refine .le _ _ ?_ ?_; (focus (repeat' (first | exact le_same _ | exact le_enc | exact le_nil | exact le_imm (.inl rfl) | exact le_imm (.inr rfl) | refine le_agg ?_ | exact trivial | apply And.intro))); (simp only [pur, purL, purL_enc, Bool.and_self, Bool.and_true]; done)))
    | fail)
theorem a_route_pair__hop {a0 : RoutePair} {r : Int} (h : m_route_pair__hop a0 = some r) : ACt Try.prog 75 [Enc.enc a0] (Enc.enc r) [] := by
  refine act_of p_route_pair__hop (by simp [c_route_pair__hop]) ?_
  show AW _ b_route_pair__hop (RetOk [.tmp 2] _ _) { n := 12, tm := [(0, _)], box := [], fr := [] }
  unfold b_route_pair__hop
  unfold m_route_pair__hop at h
  try simp -implicitDefEqProofs only [avm, reduceCtorEq, ↓reduceIte, sevalprocAttr, encs] at h
  repeat' (first
    | (refine (hκ _).mpr ?_; clear hκ)
    | refine kn1 ?_
    | refine kr1 ?_
    | refine ke1 ?_
    | refine kn2 ?_
    | refine kr2 ?_
    | refine kx2 ?_
    | refine ke2 rfl ?_
    | refine kr5 ?_
    | refine ke5 ?_
    | refine kr6 ?_
    | refine ke6 ?_
    | refine w_seq ?_
    | refine w_block ?_
    | refine w_scope ?_
    | refine kn7 ?_
    | refine kr7 ?_
    | refine ke7 ?_
    | (refine aw_regk fun κ hκ => ?_; simp -implicitDefEqProofs only [avm, reduceCtorEq, ↓reduceIte, sevalprocAttr, encs])
    | refine aw_exit ?_
    | refine aw_ret ?_
    | refine aw_skip ?_
    | refine aw_label ?_
    | refine condc_t ?_
    | refine condc_f ?_
    | (refine aw_cond2 (by simp -implicitDefEqProofs only [avm, reduceCtorEq, ↓reduceIte, sevalprocAttr, encs]; rfl) ?_)
    | ((first | refine gkc_fork ?_ ?_ | refine pkc_fork ?_ ?_ | refine condc_fork ?_ ?_) <;> intro hq <;> (first | contradiction | simp -implicitDefEqProofs only [eq_false hq, Decidable.not_not, avm, reduceCtorEq, ↓reduceIte, sevalprocAttr, encs] at h ⊢ | simp -implicitDefEqProofs only [eq_true hq, avm, reduceCtorEq, ↓reduceIte, sevalprocAttr, encs] at h ⊢))
    | ((first | refine gkc_split ?_ ?_ | refine pkc_split ?_ ?_ | refine condc_bool ?_ ?_) <;> intro hq <;> (first | exact bcontra (by assumption) hq | exact bcontra hq (by assumption) | simp -implicitDefEqProofs only [hq, avm, reduceCtorEq, ↓reduceIte, sevalprocAttr, encs] at h ⊢))
    | (refine bd_go h fun y hy h => ?_
       first | refine callsc (a_cmp_Compare_int hy) ?_ ?_ | refine callc (a_cmp_Compare_int hy) ?_ ?_ | ((first | refine callsc (act_le (a_cmp_Compare_int hy) ?_) ?_ ?_ | refine callc (act_le (a_cmp_Compare_int hy) ?_) ?_ ?_); (focus (repeat' (first | exact trivial | exact le_same _ | exact le_enc | exact le_nil | exact le_imm (.inl rfl) | exact le_imm (.inr rfl) | (refine le_agg ?_) | apply And.intro | (refine le_eq ?_; simp only [*]; done)))))
       focus (first | rfl | (simp only [purL, pur, purL_enc, Enc.pure_enc, Bool.and_self, Bool.and_true]; done))
       simp -implicitDefEqProofs only [avm, reduceCtorEq, ↓reduceIte, sevalprocAttr, encs])
    | (cases h
       try simp -implicitDefEqProofs only [avm, reduceCtorEq, ↓reduceIte, sevalprocAttr, encs]
       first | refine retLt (by first | exact .inr rfl | exact .inl rfl) (by rfl) ?_ | refine retL1 (by first | exact .inr rfl | exact .inl rfl) (by rfl) ?_
       repeat' (first | exact trivial | apply And.intro)
       all_goals first | exact .same _ rfl | exact reta_imm | exact reta_nil | (refine .imm _ _ _ ?_; simp only [pur, purL, purL_enc, Bool.and_self, Bool.and_true]; done) | exact .same _ (Enc.pure_enc _) | exact .same _ pur_enc_sl | exact .same _ pur_enc_fl | (refine .same _ ?_; simp only [pur, purL, purL_enc, Bool.and_self, Bool.and_true]; done) | (refine .le _ _ ?_ ?_; (focus (repeat' (first | exact le_same _ | exact le_enc | exact le_nil | exact le_imm (.inl rfl) | exact le_imm (.inr rfl) | refine le_agg ?_ | exact trivial | apply And.intro))); (simp only [pur, purL, purL_enc, Bool.and_self, Bool.and_true]; done)))
    | fail)
theorem a_route_pair__otc {a0 : RoutePair} {r : Int} (h : m_route_pair__otc a0 = some r) : ACt Try.prog 76 [Enc.enc a0] (Enc.enc r) [] := by
  refine act_of p_route_pair__otc (by simp [c_route_pair__otc]) ?_
  show AW _ b_route_pair__otc (RetOk [.tmp 2] _ _) { n := 12, tm := [(0, _)], box := [], fr := [] }
  unfold b_route_pair__otc
  unfold m_route_pair__otc at h
  try simp -implicitDefEqProofs only [avm, reduceCtorEq, ↓reduceIte, sevalprocAttr, encs] at h
  repeat' (first
    | (refine (hκ _).mpr ?_; clear hκ)
    | refine kn1 ?_
    | refine kr1 ?_
    | refine ke1 ?_
    | refine kn2 ?_
    | refine kr2 ?_
    | refine kx2 ?_
    | refine ke2 rfl ?_
    | refine kr5 ?_
    | refine ke5 ?_
    | refine kr6 ?_
    | refine ke6 ?_
    | refine w_seq ?_
    | refine w_block ?_
    | refine w_scope ?_
    | refine kn7 ?_
    | refine kr7 ?_
    | refine ke7 ?_
    | (refine aw_regk fun κ hκ => ?_; simp -implicitDefEqProofs only [avm, reduceCtorEq, ↓reduceIte, sevalprocAttr, encs])
    | refine aw_exit ?_
    | refine aw_ret ?_
    | refine aw_skip ?_
    | refine aw_label ?_
    | refine condc_t ?_
    | refine condc_f ?_
    | (refine aw_cond2 (by simp -implicitDefEqProofs only [avm, reduceCtorEq, ↓reduceIte, sevalprocAttr, encs]; rfl) ?_)
    | ((first | refine gkc_fork ?_ ?_ | refine pkc_fork ?_ ?_ | refine condc_fork ?_ ?_) <;> intro hq <;> (first | contradiction | simp -implicitDefEqProofs only [eq_false hq, Decidable.not_not, avm, reduceCtorEq, ↓reduceIte, sevalprocAttr, encs] at h ⊢ | simp -implicitDefEqProofs only [eq_true hq, avm, reduceCtorEq, ↓reduceIte, sevalprocAttr, encs] at h ⊢))
    | ((first | refine gkc_split ?_ ?_ | refine pkc_split ?_ ?_ | refine condc_bool ?_ ?_) <;> intro hq <;> (first | exact bcontra (by assumption) hq | exact bcontra hq (by assumption) | simp -implicitDefEqProofs only [hq, avm, reduceCtorEq, ↓reduceIte, sevalprocAttr, encs] at h ⊢))
    | (refine bd_go h fun y hy h => ?_
       first | refine callsc (a_cmp_Compare_int hy) ?_ ?_ | refine callc (a_cmp_Compare_int hy) ?_ ?_ | ((first | refine callsc (act_le (a_cmp_Compare_int hy) ?_) ?_ ?_ | refine callc (act_le (a_cmp_Compare_int hy) ?_) ?_ ?_); (focus (repeat' (first | exact trivial | exact le_same _ | exact le_enc | exact le_nil | exact le_imm (.inl rfl) | exact le_imm (.inr rfl) | (refine le_agg ?_) | apply And.intro | (refine le_eq ?_; simp only [*]; done)))))
       focus (first | rfl | (simp only [purL, pur, purL_enc, Enc.pure_enc, Bool.and_self, Bool.and_true]; done))
       simp -implicitDefEqProofs only [avm, reduceCtorEq, ↓reduceIte, sevalprocAttr, encs])
    | (cases h
       try simp -implicitDefEqProofs only [avm, reduceCtorEq, ↓reduceIte, sevalprocAttr, encs]
       first | refine retLt (by first | exact .inr rfl | exact .inl rfl) (by rfl) ?_ | refine retL1 (by first | exact .inr rfl | exact .inl rfl) (by rfl) ?_
       repeat' (first | exact trivial | apply And.intro)
       all_goals first | exact .same _ rfl | exact reta_imm | exact reta_nil | (refine .imm _ _ _ ?_; simp only [pur, purL, purL_enc, Bool.and_self, Bool.and_true]; done) | exact .same _ (Enc.pure_enc _) | exact .same _ pur_enc_sl | exact .same _ pur_enc_fl | (refine .same _ ?_; simp only [pur, purL, purL_enc, Bool.and_self, Bool.and_true]; done) | (refine .le _ _ ?_ ?_; (focus (repeat' (first | exact le_same _ | exact le_enc | exact le_nil | exact le_imm (.inl rfl) | exact le_imm (.inr rfl) | refine le_agg ?_ | exact trivial | apply And.intro))); (simp only [pur, purL, purL_enc, Bool.and_self, Bool.and_true]; done)))
    | fail)
theorem a_route_pair__from {a0 : RoutePair} {r : Int} (h : m_route_pair__from a0 = some r) : ACt Try.prog 77 [Enc.enc a0] (Enc.enc r) [] := by
  refine act_of p_route_pair__from (by simp [c_route_pair__from]) ?_
  show AW _ b_route_pair__from (RetOk [.tmp 2] _ _) { n := 10, tm := [(0, _)], box := [], fr := [] }
  unfold b_route_pair__from
  unfold m_route_pair__from at h
  try simp -implicitDefEqProofs only [avm, reduceCtorEq, ↓reduceIte, sevalprocAttr, encs] at h
  repeat' (first
    | (refine (hκ _).mpr ?_; clear hκ)
    | refine kn1 ?_
    | refine kr1 ?_
    | refine ke1 ?_
    | refine kn2 ?_
    | refine kr2 ?_
    | refine kx2 ?_
    | refine ke2 rfl ?_
    | refine kr5 ?_
    | refine ke5 ?_
    | refine kr6 ?_
    | refine ke6 ?_
    | refine w_seq ?_
    | refine w_block ?_
    | refine w_scope ?_
    | refine kn7 ?_
    | refine kr7 ?_
    | refine ke7 ?_
    | (refine aw_regk fun κ hκ => ?_; simp -implicitDefEqProofs only [avm, reduceCtorEq, ↓reduceIte, sevalprocAttr, encs])
    | refine aw_exit ?_
    | refine aw_ret ?_
    | refine aw_skip ?_
    | refine aw_label ?_
    | refine condc_t ?_
    | refine condc_f ?_
    | (refine aw_cond2 (by simp -implicitDefEqProofs only [avm, reduceCtorEq, ↓reduceIte, sevalprocAttr, encs]; rfl) ?_)
    | ((first | refine gkc_fork ?_ ?_ | refine pkc_fork ?_ ?_ | refine condc_fork ?_ ?_) <;> intro hq <;> (first | contradiction | simp -implicitDefEqProofs only [eq_false hq, Decidable.not_not, avm, reduceCtorEq, ↓reduceIte, sevalprocAttr, encs] at h ⊢ | simp -implicitDefEqProofs only [eq_true hq, avm, reduceCtorEq, ↓reduceIte, sevalprocAttr, encs] at h ⊢))
    | ((first | refine gkc_split ?_ ?_ | refine pkc_split ?_ ?_ | refine condc_bool ?_ ?_) <;> intro hq <;> (first | exact bcontra (by assumption) hq | exact bcontra hq (by assumption) | simp -implicitDefEqProofs only [hq, avm, reduceCtorEq, ↓reduceIte, sevalprocAttr, encs] at h ⊢))
    | (refine bd_go h fun y hy h => ?_
       first | refine callsc (a_cmp_Compare_int hy) ?_ ?_ | refine callc (a_cmp_Compare_int hy) ?_ ?_ | ((first | refine callsc (act_le (a_cmp_Compare_int hy) ?_) ?_ ?_ | refine callc (act_le (a_cmp_Compare_int hy) ?_) ?_ ?_); (focus (repeat' (first | exact trivial | exact le_same _ | exact le_enc | exact le_nil | exact le_imm (.inl rfl) | exact le_imm (.inr rfl) | (refine le_agg ?_) | apply And.intro | (refine le_eq ?_; simp only [*]; done)))))
       focus (first | rfl | (simp only [purL, pur, purL_enc, Enc.pure_enc, Bool.and_self, Bool.and_true]; done))
       simp -implicitDefEqProofs only [avm, reduceCtorEq, ↓reduceIte, sevalprocAttr, encs])
    | (cases h
       try simp -implicitDefEqProofs only [avm, reduceCtorEq, ↓reduceIte, sevalprocAttr, encs]
       first | refine retLt (by first | exact .inr rfl | exact .inl rfl) (by rfl) ?_ | refine retL1 (by first | exact .inr rfl | exact .inl rfl) (by rfl) ?_
       repeat' (first | exact trivial | apply And.intro)
       all_goals first | exact .same _ rfl | exact reta_imm | exact reta_nil | (refine .imm _ _ _ ?_; simp only [pur, purL, purL_enc, Bool.and_self, Bool.and_true]; done) | exact .same _ (Enc.pure_enc _) | exact .same _ pur_enc_sl | exact .same _ pur_enc_fl | (refine .same _ ?_; simp only [pur, purL, purL_enc, Bool.and_self, Bool.and_true]; done) | (refine .le _ _ ?_ ?_; (focus (repeat' (first | exact le_same _ | exact le_enc | exact le_nil | exact le_imm (.inl rfl) | exact le_imm (.inr rfl) | refine le_agg ?_ | exact trivial | apply And.intro))); (simp only [pur, purL, purL_enc, Bool.and_self, Bool.and_true]; done)))
    | fail)
theorem a_route_Compare {a0 : Route} {a1 : Route} {r : Int} (h : m_route_Compare a0 a1 = some r) : ACt Try.prog 25 [Enc.enc a0, Enc.enc a1] (Enc.enc r) [] := by
  refine act_of p_route_Compare (by simp [c_route_Compare]) ?_
  show AW _ b_route_Compare (RetOk [.tmp 4] _ _) { n := 38, tm := [(0, _), (1, _)], box := [], fr := [] }
  unfold b_route_Compare
  unfold m_route_Compare at h
  try simp -implicitDefEqProofs only [avm, reduceCtorEq, ↓reduceIte, sevalprocAttr, encs] at h
  repeat' (first
    | (refine (hκ _).mpr ?_; clear hκ)
    | refine kn1 ?_
    | refine kr1 ?_
    | refine ke1 ?_
    | refine kn2 ?_
    | refine kr2 ?_
    | refine kx2 ?_
    | refine ke2 rfl ?_
    | refine kr5 ?_
    | refine ke5 ?_
    | refine kr6 ?_
    | refine ke6 ?_
    | refine w_seq ?_
    | refine w_block ?_
    | refine w_scope ?_
    | refine kn7 ?_
    | refine kr7 ?_
    | refine ke7 ?_
    | (refine aw_regk fun κ hκ => ?_; simp -implicitDefEqProofs only [avm, reduceCtorEq, ↓reduceIte, sevalprocAttr, encs])
    | refine aw_exit ?_
    | refine aw_ret ?_
    | refine aw_skip ?_
    | refine aw_label ?_
    | refine condc_t ?_
    | refine condc_f ?_
    | (refine aw_cond2 (by simp -implicitDefEqProofs only [avm, reduceCtorEq, ↓reduceIte, sevalprocAttr, encs]; rfl) ?_)
    | ((first | refine gkc_fork ?_ ?_ | refine pkc_fork ?_ ?_ | refine condc_fork ?_ ?_) <;> intro hq <;> (first | contradiction | simp -implicitDefEqProofs only [eq_false hq, Decidable.not_not, avm, reduceCtorEq, ↓reduceIte, sevalprocAttr, encs] at h ⊢ | simp -implicitDefEqProofs only [eq_true hq, avm, reduceCtorEq, ↓reduceIte, sevalprocAttr, encs] at h ⊢))
    | ((first | refine gkc_split ?_ ?_ | refine pkc_split ?_ ?_ | refine condc_bool ?_ ?_) <;> intro hq <;> (first | exact bcontra (by assumption) hq | exact bcontra hq (by assumption) | simp -implicitDefEqProofs only [hq, avm, reduceCtorEq, ↓reduceIte, sevalprocAttr, encs] at h ⊢))
    | (refine stc_plain rfl ?_; simp -implicitDefEqProofs only [putCells.eq_1, avm, reduceCtorEq, ↓reduceIte, sevalprocAttr, encs])
    | (refine bd_go h fun y hy h => ?_; refine ixc hy ?_; simp -implicitDefEqProofs only [avm, reduceCtorEq, ↓reduceIte, sevalprocAttr, encs])
    | (refine bd_go h fun y hy h => ?_
       first | refine callsc (a_route_pair__pref hy) ?_ ?_ | refine callc (a_route_pair__pref hy) ?_ ?_ | ((first | refine callsc (act_le (a_route_pair__pref hy) ?_) ?_ ?_ | refine callc (act_le (a_route_pair__pref hy) ?_) ?_ ?_); (focus (repeat' (first | exact trivial | exact le_same _ | exact le_enc | exact le_nil | exact le_imm (.inl rfl) | exact le_imm (.inr rfl) | (refine le_agg ?_) | apply And.intro | (refine le_eq ?_; simp only [*]; done)))))
       focus (first | rfl | (simp only [purL, pur, purL_enc, Enc.pure_enc, Bool.and_self, Bool.and_true]; done))
       simp -implicitDefEqProofs only [avm, reduceCtorEq, ↓reduceIte, sevalprocAttr, encs])
    | (refine bd_go h fun y hy h => ?_
       first | refine callsc (a_route_pair__length hy) ?_ ?_ | refine callc (a_route_pair__length hy) ?_ ?_ | ((first | refine callsc (act_le (a_route_pair__length hy) ?_) ?_ ?_ | refine callc (act_le (a_route_pair__length hy) ?_) ?_ ?_); (focus (repeat' (first | exact trivial | exact le_same _ | exact le_enc | exact le_nil | exact le_imm (.inl rfl) | exact le_imm (.inr rfl) | (refine le_agg ?_) | apply And.intro | (refine le_eq ?_; simp only [*]; done)))))
       focus (first | rfl | (simp only [purL, pur, purL_enc, Enc.pure_enc, Bool.and_self, Bool.and_true]; done))
       simp -implicitDefEqProofs only [avm, reduceCtorEq, ↓reduceIte, sevalprocAttr, encs])
    | (refine bd_go h fun y hy h => ?_
       first | refine callsc (a_route_pair__origin hy) ?_ ?_ | refine callc (a_route_pair__origin hy) ?_ ?_ | ((first | refine callsc (act_le (a_route_pair__origin hy) ?_) ?_ ?_ | refine callc (act_le (a_route_pair__origin hy) ?_) ?_ ?_); (focus (repeat' (first | exact trivial | exact le_same _ | exact le_enc | exact le_nil | exact le_imm (.inl rfl) | exact le_imm (.inr rfl) | (refine le_agg ?_) | apply And.intro | (refine le_eq ?_; simp only [*]; done)))))
       focus (first | rfl | (simp only [purL, pur, purL_enc, Enc.pure_enc, Bool.and_self, Bool.and_true]; done))
       simp -implicitDefEqProofs only [avm, reduceCtorEq, ↓reduceIte, sevalprocAttr, encs])
    | (refine bd_go h fun y hy h => ?_
       first | refine callsc (a_route_pair__as hy) ?_ ?_ | refine callc (a_route_pair__as hy) ?_ ?_ | ((first | refine callsc (act_le (a_route_pair__as hy) ?_) ?_ ?_ | refine callc (act_le (a_route_pair__as hy) ?_) ?_ ?_); (focus (repeat' (first | exact trivial | exact le_same _ | exact le_enc | exact le_nil | exact le_imm (.inl rfl) | exact le_imm (.inr rfl) | (refine le_agg ?_) | apply And.intro | (refine le_eq ?_; simp only [*]; done)))))
       focus (first | rfl | (simp only [purL, pur, purL_enc, Enc.pure_enc, Bool.and_self, Bool.and_true]; done))
       simp -implicitDefEqProofs only [avm, reduceCtorEq, ↓reduceIte, sevalprocAttr, encs])
    | (refine bd_go h fun y hy h => ?_
       first | refine callsc (a_route_pair__hop hy) ?_ ?_ | refine callc (a_route_pair__hop hy) ?_ ?_ | ((first | refine callsc (act_le (a_route_pair__hop hy) ?_) ?_ ?_ | refine callc (act_le (a_route_pair__hop hy) ?_) ?_ ?_); (focus (repeat' (first | exact trivial | exact le_same _ | exact le_enc | exact le_nil | exact le_imm (.inl rfl) | exact le_imm (.inr rfl) | (refine le_agg ?_) | apply And.intro | (refine le_eq ?_; simp only [*]; done)))))
       focus (first | rfl | (simp only [purL, pur, purL_enc, Enc.pure_enc, Bool.and_self, Bool.and_true]; done))
       simp -implicitDefEqProofs only [avm, reduceCtorEq, ↓reduceIte, sevalprocAttr, encs])
    | (refine bd_go h fun y hy h => ?_
       first | refine callsc (a_route_pair__otc hy) ?_ ?_ | refine callc (a_route_pair__otc hy) ?_ ?_ | ((first | refine callsc (act_le (a_route_pair__otc hy) ?_) ?_ ?_ | refine callc (act_le (a_route_pair__otc hy) ?_) ?_ ?_); (focus (repeat' (first | exact trivial | exact le_same _ | exact le_enc | exact le_nil | exact le_imm (.inl rfl) | exact le_imm (.inr rfl) | (refine le_agg ?_) | apply And.intro | (refine le_eq ?_; simp only [*]; done)))))
       focus (first | rfl | (simp only [purL, pur, purL_enc, Enc.pure_enc, Bool.and_self, Bool.and_true]; done))
       simp -implicitDefEqProofs only [avm, reduceCtorEq, ↓reduceIte, sevalprocAttr, encs])
    | (refine bd_go h fun y hy h => ?_
       first | refine callsc (a_route_pair__from hy) ?_ ?_ | refine callc (a_route_pair__from hy) ?_ ?_ | ((first | refine callsc (act_le (a_route_pair__from hy) ?_) ?_ ?_ | refine callc (act_le (a_route_pair__from hy) ?_) ?_ ?_); (focus (repeat' (first | exact trivial | exact le_same _ | exact le_enc | exact le_nil | exact le_imm (.inl rfl) | exact le_imm (.inr rfl) | (refine le_agg ?_) | apply And.intro | (refine le_eq ?_; simp only [*]; done)))))
       focus (first | rfl | (simp only [purL, pur, purL_enc, Enc.pure_enc, Bool.and_self, Bool.and_true]; done))
       simp -implicitDefEqProofs only [avm, reduceCtorEq, ↓reduceIte, sevalprocAttr, encs])
    | (refine ixr (by rfl) (by decide) ?_; simp -implicitDefEqProofs only [avm, reduceCtorEq, ↓reduceIte, sevalprocAttr, encs])
    | refine w_unroll ?_
    | refine kn4 ?_
    | refine kr4 ?_
    | refine ke4 ?_
    | refine al_round ?_
    | (cases h
       try simp -implicitDefEqProofs only [avm, reduceCtorEq, ↓reduceIte, sevalprocAttr, encs]
       first | refine retLt (by first | exact .inr rfl | exact .inl rfl) (by rfl) ?_ | refine retL1 (by first | exact .inr rfl | exact .inl rfl) (by rfl) ?_
       repeat' (first | exact trivial | apply And.intro)
       all_goals first | exact .same _ rfl | exact reta_imm | exact reta_nil | (refine .imm _ _ _ ?_; simp only [pur, purL, purL_enc, Bool.and_self, Bool.and_true]; done) | exact .same _ (Enc.pure_enc _) | exact .same _ pur_enc_sl | exact .same _ pur_enc_fl | (refine .same _ ?_; simp only [pur, purL, purL_enc, Bool.and_self, Bool.and_true]; done) | (refine .le _ _ ?_ ?_; (focus (repeat' (first | exact le_same _ | exact le_enc | exact le_nil | exact le_imm (.inl rfl) | exact le_imm (.inr rfl) | refine le_agg ?_ | exact trivial | apply And.intro))); (simp only [pur, purL, purL_enc, Bool.and_self, Bool.and_true]; done)))
    | fail)
theorem a_ridgewaylaw15_RiseWorse {a0 : Conf} {a1 : Conf} {a2 : Int} {a3 : Prefix} {a4 : Path} {a5 : Bool} {r : Bool} (h : m_ridgewaylaw15_RiseWorse a0 a1 a2 a3 a4 a5 = some r) : ACt Try.prog 4 [Enc.enc a0, Enc.enc a1, Enc.enc a2, Enc.enc a3, Enc.enc a4, Enc.enc a5] (Enc.enc r) [] := by
  refine act_of p_ridgewaylaw15_RiseWorse (by simp [c_ridgewaylaw15_RiseWorse]) ?_
  show AW _ b_ridgewaylaw15_RiseWorse (RetOk [.tmp 12] _ _) { n := 113, tm := [(0, _), (1, _), (2, _), (3, _), (4, _), (5, _)], box := [], fr := [] }
  unfold b_ridgewaylaw15_RiseWorse
  unfold m_ridgewaylaw15_RiseWorse at h
  try simp -implicitDefEqProofs only [avm, reduceCtorEq, ↓reduceIte, sevalprocAttr, encs] at h
  repeat' (first
    | (refine (hκ _).mpr ?_; clear hκ)
    | refine kn1 ?_
    | refine kr1 ?_
    | refine ke1 ?_
    | refine kn2 ?_
    | refine kr2 ?_
    | refine kx2 ?_
    | refine ke2 rfl ?_
    | refine kr5 ?_
    | refine ke5 ?_
    | refine kr6 ?_
    | refine ke6 ?_
    | (refine w_cutm (x := (.seq (.reg _) (.cond (.tmp 68) _ _))) [6, 7, 9, 13, 14, 15, 16, 17, 18] (fun (j : (Bool × Int × Int × (List Int) × Int × Int × Int)) => [(19, (.bool j.1))]) (fun (j : (Bool × Int × Int × (List Int) × Int × Int × Int)) => [(4, 0, (.int .i64 j.2.1)), (4, 1, (.int .i64 j.2.2.1)), (4, 2, (.slice .imm 1 (List.map Enc.enc j.2.2.2.1))), (4, 3, (.int .i64 j.2.2.2.2.1)), (4, 4, (.int .i64 j.2.2.2.2.2.1)), (4, 5, (.int .i64 j.2.2.2.2.2.2))]) (fun (j : (Bool × Int × Int × (List Int) × Int × Int × Int)) => []) (fun (j : (Bool × Int × Int × (List Int) × Int × Int × Int)) => []) (show jn 1 _ _ = some _ from h) ?_ ?_
       rotate_left
       intro j h
       simp -implicitDefEqProofs only [pats, avm, reduceCtorEq, ↓reduceIte, sevalprocAttr, encs] at h ⊢
       rotate_left
       intro k' h
       try simp -implicitDefEqProofs only [avm, reduceCtorEq, ↓reduceIte, sevalprocAttr, encs] at h)
    | refine w_seq ?_
    | refine w_block ?_
    | refine w_scope ?_
    | refine kn7 ?_
    | refine kr7 ?_
    | refine ke7 ?_
    | (refine aw_regk fun κ hκ => ?_; simp -implicitDefEqProofs only [avm, reduceCtorEq, ↓reduceIte, sevalprocAttr, encs])
    | refine aw_exit ?_
    | refine aw_ret ?_
    | refine aw_skip ?_
    | refine aw_label ?_
    | refine condc_t ?_
    | refine condc_f ?_
    | (refine aw_cond2 (by simp -implicitDefEqProofs only [avm, reduceCtorEq, ↓reduceIte, sevalprocAttr, encs]; rfl) ?_)
    | ((first | refine gkc_fork ?_ ?_ | refine pkc_fork ?_ ?_ | refine condc_fork ?_ ?_) <;> intro hq <;> (first | contradiction | simp -implicitDefEqProofs only [eq_false hq, Decidable.not_not, avm, reduceCtorEq, ↓reduceIte, sevalprocAttr, encs] at h ⊢ | simp -implicitDefEqProofs only [eq_true hq, avm, reduceCtorEq, ↓reduceIte, sevalprocAttr, encs] at h ⊢))
    | ((first | refine gkc_split ?_ ?_ | refine pkc_split ?_ ?_ | refine condc_bool ?_ ?_) <;> intro hq <;> (first | exact bcontra (by assumption) hq | exact bcontra hq (by assumption) | simp -implicitDefEqProofs only [hq, avm, reduceCtorEq, ↓reduceIte, sevalprocAttr, encs] at h ⊢))
    | (refine stc_plain rfl ?_; simp -implicitDefEqProofs only [putCells.eq_1, avm, reduceCtorEq, ↓reduceIte, sevalprocAttr, encs])
    | (refine bd_go h fun y hy h => ?_
       first | refine callsc (a_ridgewaylaw15_awake hy) ?_ ?_ | refine callc (a_ridgewaylaw15_awake hy) ?_ ?_ | ((first | refine callsc (act_le (a_ridgewaylaw15_awake hy) ?_) ?_ ?_ | refine callc (act_le (a_ridgewaylaw15_awake hy) ?_) ?_ ?_); (focus (repeat' (first | exact trivial | exact le_same _ | exact le_enc | exact le_nil | exact le_imm (.inl rfl) | exact le_imm (.inr rfl) | (refine le_agg ?_) | apply And.intro | (refine le_eq ?_; simp only [*]; done)))))
       focus (first | rfl | (simp only [purL, pur, purL_enc, Enc.pure_enc, Bool.and_self, Bool.and_true]; done))
       simp -implicitDefEqProofs only [avm, reduceCtorEq, ↓reduceIte, sevalprocAttr, encs])
    | (refine bd_go h fun y hy h => ?_
       first | refine callsc (a_ridgewayref12_Few hy) ?_ ?_ | refine callc (a_ridgewayref12_Few hy) ?_ ?_ | ((first | refine callsc (act_le (a_ridgewayref12_Few hy) ?_) ?_ ?_ | refine callc (act_le (a_ridgewayref12_Few hy) ?_) ?_ ?_); (focus (repeat' (first | exact trivial | exact le_same _ | exact le_enc | exact le_nil | exact le_imm (.inl rfl) | exact le_imm (.inr rfl) | (refine le_agg ?_) | apply And.intro | (refine le_eq ?_; simp only [*]; done)))))
       focus (first | rfl | (simp only [purL, pur, purL_enc, Enc.pure_enc, Bool.and_self, Bool.and_true]; done))
       simp -implicitDefEqProofs only [avm, reduceCtorEq, ↓reduceIte, sevalprocAttr, encs])
    | (refine bd_go h fun y hy h => ?_
       first | refine callsc (a_rise_Rises hy) ?_ ?_ | refine callc (a_rise_Rises hy) ?_ ?_ | ((first | refine callsc (act_le (a_rise_Rises hy) ?_) ?_ ?_ | refine callc (act_le (a_rise_Rises hy) ?_) ?_ ?_); (focus (repeat' (first | exact trivial | exact le_same _ | exact le_enc | exact le_nil | exact le_imm (.inl rfl) | exact le_imm (.inr rfl) | (refine le_agg ?_) | apply And.intro | (refine le_eq ?_; simp only [*]; done)))))
       focus (first | rfl | (simp only [purL, pur, purL_enc, Enc.pure_enc, Bool.and_self, Bool.and_true]; done))
       simp -implicitDefEqProofs only [avm, reduceCtorEq, ↓reduceIte, sevalprocAttr, encs])
    | (refine bd_go h fun y hy h => ?_
       first | refine callsc (a_rise_Side hy) ?_ ?_ | refine callc (a_rise_Side hy) ?_ ?_ | ((first | refine callsc (act_le (a_rise_Side hy) ?_) ?_ ?_ | refine callc (act_le (a_rise_Side hy) ?_) ?_ ?_); (focus (repeat' (first | exact trivial | exact le_same _ | exact le_enc | exact le_nil | exact le_imm (.inl rfl) | exact le_imm (.inr rfl) | (refine le_agg ?_) | apply And.intro | (refine le_eq ?_; simp only [*]; done)))))
       focus (first | rfl | (simp only [purL, pur, purL_enc, Enc.pure_enc, Bool.and_self, Bool.and_true]; done))
       simp -implicitDefEqProofs only [avm, reduceCtorEq, ↓reduceIte, sevalprocAttr, encs])
    | (refine bd_go h fun y hy h => ?_
       first | refine callsc (a_edge_In hy) ?_ ?_ | refine callc (a_edge_In hy) ?_ ?_ | ((first | refine callsc (act_le (a_edge_In hy) ?_) ?_ ?_ | refine callc (act_le (a_edge_In hy) ?_) ?_ ?_); (focus (repeat' (first | exact trivial | exact le_same _ | exact le_enc | exact le_nil | exact le_imm (.inl rfl) | exact le_imm (.inr rfl) | (refine le_agg ?_) | apply And.intro | (refine le_eq ?_; simp only [*]; done)))))
       focus (first | rfl | (simp only [purL, pur, purL_enc, Enc.pure_enc, Bool.and_self, Bool.and_true]; done))
       simp -implicitDefEqProofs only [avm, reduceCtorEq, ↓reduceIte, sevalprocAttr, encs])
    | (refine bd_go h fun y hy h => ?_
       first | refine callsc (a_route_Own hy) ?_ ?_ | refine callc (a_route_Own hy) ?_ ?_ | ((first | refine callsc (act_le (a_route_Own hy) ?_) ?_ ?_ | refine callc (act_le (a_route_Own hy) ?_) ?_ ?_); (focus (repeat' (first | exact trivial | exact le_same _ | exact le_enc | exact le_nil | exact le_imm (.inl rfl) | exact le_imm (.inr rfl) | (refine le_agg ?_) | apply And.intro | (refine le_eq ?_; simp only [*]; done)))))
       focus (first | rfl | (simp only [purL, pur, purL_enc, Enc.pure_enc, Bool.and_self, Bool.and_true]; done))
       simp -implicitDefEqProofs only [avm, reduceCtorEq, ↓reduceIte, sevalprocAttr, encs])
    | (refine bd_go h fun y hy h => ?_
       first | refine callsc (a_edge_Out hy) ?_ ?_ | refine callc (a_edge_Out hy) ?_ ?_ | ((first | refine callsc (act_le (a_edge_Out hy) ?_) ?_ ?_ | refine callc (act_le (a_edge_Out hy) ?_) ?_ ?_); (focus (repeat' (first | exact trivial | exact le_same _ | exact le_enc | exact le_nil | exact le_imm (.inl rfl) | exact le_imm (.inr rfl) | (refine le_agg ?_) | apply And.intro | (refine le_eq ?_; simp only [*]; done)))))
       focus (first | rfl | (simp only [purL, pur, purL_enc, Enc.pure_enc, Bool.and_self, Bool.and_true]; done))
       simp -implicitDefEqProofs only [avm, reduceCtorEq, ↓reduceIte, sevalprocAttr, encs])
    | (refine bd_go h fun y hy h => ?_
       first | refine callsc (a_route_Compare hy) ?_ ?_ | refine callc (a_route_Compare hy) ?_ ?_ | ((first | refine callsc (act_le (a_route_Compare hy) ?_) ?_ ?_ | refine callc (act_le (a_route_Compare hy) ?_) ?_ ?_); (focus (repeat' (first | exact trivial | exact le_same _ | exact le_enc | exact le_nil | exact le_imm (.inl rfl) | exact le_imm (.inr rfl) | (refine le_agg ?_) | apply And.intro | (refine le_eq ?_; simp only [*]; done)))))
       focus (first | rfl | (simp only [purL, pur, purL_enc, Enc.pure_enc, Bool.and_self, Bool.and_true]; done))
       simp -implicitDefEqProofs only [avm, reduceCtorEq, ↓reduceIte, sevalprocAttr, encs])
    | (first | refine kn6 ⟨_, h, ?_⟩ | refine kn5 ⟨_, h, ?_⟩
       try simp -implicitDefEqProofs only [pats, avm, reduceCtorEq, ↓reduceIte, sevalprocAttr, encs]
       (first
          | (refine wk_m 0 _ rfl ?_ rfl rfl ?_ ?_ ?_ ?_
             · first | exact Nat.le_refl _ | exact Nat.zero_le _ | (simp; done)
             · first | exact Nat.zero_le _ | exact Nat.le_refl _ | (simp; done)
             · first | exact Nat.zero_le _ | exact Nat.le_refl _ | (simp; done)
             all_goals (repeat' (first | exact trivial | apply And.intro))
             all_goals first | exact rfl | exact wkc_kv | exact wkc_FL | exact wka_full | exact wka_full0 | exact .same _ rfl | exact wka_imm | exact wka_app (by decide) | exact wka_tag (by decide) rfl | exact wka_tagn (by decide) rfl | exact wka_tagr (by decide) rfl (by simp only [pur, purL, purL_enc, Bool.and_self, Bool.and_true]) | exact wka_immn | (refine .imm _ _ _ _ (.inl rfl) (okBL_pur ?_); simp only [pur, purL, purL_enc, Bool.and_self, Bool.and_true]; done) | exact wka_tag0 (by decide) rfl | exact wka_imm0 | exact wka_pur (Enc.pure_enc _) | exact wka_pur pur_enc_sl | exact wka_pur pur_enc_fl | exact .und _ | (refine wka_pur ?_; simp only [pur, purL, purL_enc, Bool.and_self, Bool.and_true]; done) | (refine .same _ ?_; simp only [okB, okBL, okBL_enc, Bool.and_self, Bool.and_true, decide_true, sevalprocAttr]; done) | (refine .le _ _ ?_ (okB_pur ?_); (focus (repeat' (first | exact le_same _ | exact le_enc | exact le_nil | exact le_imm (.inl rfl) | exact le_imm (.inr rfl) | refine le_agg ?_ | exact trivial | apply And.intro))); (simp only [pur, purL, purL_enc, Bool.and_self, Bool.and_true]; done)))))
    | (first | refine kn6 ⟨_, h, ?_⟩ | refine kn5 ⟨_, h, ?_⟩
       try simp -implicitDefEqProofs only [*, pats, avm, reduceCtorEq, ↓reduceIte, sevalprocAttr, encs]
       (first
          | (refine wk_m 0 _ rfl ?_ rfl rfl ?_ ?_ ?_ ?_
             · first | exact Nat.le_refl _ | exact Nat.zero_le _ | (simp; done)
             · first | exact Nat.zero_le _ | exact Nat.le_refl _ | (simp; done)
             · first | exact Nat.zero_le _ | exact Nat.le_refl _ | (simp; done)
             all_goals (repeat' (first | exact trivial | apply And.intro))
             all_goals first | exact rfl | exact wkc_kv | exact wkc_FL | exact wka_full | exact wka_full0 | exact .same _ rfl | exact wka_imm | exact wka_app (by decide) | exact wka_tag (by decide) rfl | exact wka_tagn (by decide) rfl | exact wka_tagr (by decide) rfl (by simp only [pur, purL, purL_enc, Bool.and_self, Bool.and_true]) | exact wka_immn | (refine .imm _ _ _ _ (.inl rfl) (okBL_pur ?_); simp only [pur, purL, purL_enc, Bool.and_self, Bool.and_true]; done) | exact wka_tag0 (by decide) rfl | exact wka_imm0 | exact wka_pur (Enc.pure_enc _) | exact wka_pur pur_enc_sl | exact wka_pur pur_enc_fl | exact .und _ | (refine wka_pur ?_; simp only [pur, purL, purL_enc, Bool.and_self, Bool.and_true]; done) | (refine .same _ ?_; simp only [okB, okBL, okBL_enc, Bool.and_self, Bool.and_true, decide_true, sevalprocAttr]; done) | (refine .le _ _ ?_ (okB_pur ?_); (focus (repeat' (first | exact le_same _ | exact le_enc | exact le_nil | exact le_imm (.inl rfl) | exact le_imm (.inr rfl) | refine le_agg ?_ | exact trivial | apply And.intro))); (simp only [pur, purL, purL_enc, Bool.and_self, Bool.and_true]; done)))))
    | (cases h
       try simp -implicitDefEqProofs only [avm, reduceCtorEq, ↓reduceIte, sevalprocAttr, encs]
       first | refine retLt (by first | exact .inr rfl | exact .inl rfl) (by rfl) ?_ | refine retL1 (by first | exact .inr rfl | exact .inl rfl) (by rfl) ?_
       repeat' (first | exact trivial | apply And.intro)
       all_goals first | exact .same _ rfl | exact reta_imm | exact reta_nil | (refine .imm _ _ _ ?_; simp only [pur, purL, purL_enc, Bool.and_self, Bool.and_true]; done) | exact .same _ (Enc.pure_enc _) | exact .same _ pur_enc_sl | exact .same _ pur_enc_fl | (refine .same _ ?_; simp only [pur, purL, purL_enc, Bool.and_self, Bool.and_true]; done) | (refine .le _ _ ?_ ?_; (focus (repeat' (first | exact le_same _ | exact le_enc | exact le_nil | exact le_imm (.inl rfl) | exact le_imm (.inr rfl) | refine le_agg ?_ | exact trivial | apply And.intro))); (simp only [pur, purL, purL_enc, Bool.and_self, Bool.and_true]; done)))
    | fail)
end Go.Proofs.Ytpclfdndjillnaa
