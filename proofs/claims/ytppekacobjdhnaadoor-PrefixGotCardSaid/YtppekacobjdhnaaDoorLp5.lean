/- Functions compute what their models do. -/
import Derived.Test.YtppekacobjdhnaaDoorLfa
import Derived.Test.YtppekacobjdhnaaDoorAcp5
import Derived.Test.YtppekacobjdhnaaDoorMp5
import Derived.Test.YtppekacobjdhnaaDoorAwP
namespace Go.Proofs.YtppekacobjdhnaaDoor
open Go.RowKit
set_option maxHeartbeats 8000000
set_option maxRecDepth 100000
set_option linter.unusedSimpArgs false
set_option linter.unusedVariables false
theorem pats : type_of% (And.intro @patOf.eq_1 (And.intro @setB.eq_1 (And.intro @setB.eq_2 (And.intro @setF.eq_1 (And.intro @setF.eq_2 (And.intro @List.map_cons.{0, 0} (And.intro @List.map_nil.{0, 0} (And.intro @List.modify_zero_cons.{0} (And.intro @List.modify_succ_cons.{0} (And.intro @List.set_cons_zero.{0} (And.intro @List.set_cons_succ.{0} (And.intro @List.append_nil.{0} (And.intro @List.nil_append.{0} (And.intro @List.cons_append.{0} (And.intro @setO.eq_1 (@tupC.eq_1)))))))))))))))) := And.intro @patOf.eq_1 (And.intro @setB.eq_1 (And.intro @setB.eq_2 (And.intro @setF.eq_1 (And.intro @setF.eq_2 (And.intro @List.map_cons.{0, 0} (And.intro @List.map_nil.{0, 0} (And.intro @List.modify_zero_cons.{0} (And.intro @List.modify_succ_cons.{0} (And.intro @List.set_cons_zero.{0} (And.intro @List.set_cons_succ.{0} (And.intro @List.append_nil.{0} (And.intro @List.nil_append.{0} (And.intro @List.cons_append.{0} (And.intro @setO.eq_1 (@tupC.eq_1)))))))))))))))
theorem prs : type_of% (And.intro @pur.eq_1 (And.intro @pur.eq_2 (And.intro @pur.eq_3 (And.intro @pur.eq_4 (And.intro @pur.eq_5 (And.intro @pur.eq_6 (And.intro @pur.eq_7 (And.intro @pur.eq_8 (And.intro @pur.eq_9 (And.intro @pur.eq_10 (And.intro @pur.eq_11 (And.intro @pur.eq_12 (And.intro @purL.eq_1 (And.intro @purL.eq_2 (And.intro @purL_enc (And.intro @Bool.and_self (@Bool.and_true))))))))))))))))) := And.intro @pur.eq_1 (And.intro @pur.eq_2 (And.intro @pur.eq_3 (And.intro @pur.eq_4 (And.intro @pur.eq_5 (And.intro @pur.eq_6 (And.intro @pur.eq_7 (And.intro @pur.eq_8 (And.intro @pur.eq_9 (And.intro @pur.eq_10 (And.intro @pur.eq_11 (And.intro @pur.eq_12 (And.intro @purL.eq_1 (And.intro @purL.eq_2 (And.intro @purL_enc (And.intro @Bool.and_self (@Bool.and_true))))))))))))))))
theorem a_ridgewaylaw02_awake {r : Bool} (h : m_ridgewaylaw02_awake = some r) : ACt Tryd.prog 10 [] (Enc.enc r) [] := by
  cases h
  exact k_awake
theorem a_prefix_Mask {a0 : Int} {a1 : Int} {r : Int} (h : m_prefix_Mask a0 a1 = some r) : ACt Tryd.prog 18 [Enc.enc a0, Enc.enc a1] (Enc.enc r) [] := by
  refine act_of p_prefix_Mask (by simp [c_prefix_Mask]) ?_
  show AW _ b_prefix_Mask (RetOk [.tmp 4] _ _) { n := 16, tm := [(0, _), (1, _)], box := [], fr := [] }
  unfold b_prefix_Mask
  unfold m_prefix_Mask at h
  try simp -implicitDefEqProofs only [avm, reduceCtorEq, ↓reduceIte, sevalprocAttr, encs] at h
  repeat' (first
    | (refine (hκ _).mpr ?_; clear hκ)
    | refine kn1 ?_
    | refine kr1 ?_
    | refine ke1 ?_
    | refine kn2 ?_
    | refine kr2 ?_
    | refine kx2 ?_
    | refine ke2 rfl ?_
    | refine kr5 ?_
    | refine ke5 ?_
    | refine kr6 ?_
    | refine ke6 ?_
    | refine w_seq ?_
    | refine w_block ?_
    | refine w_scope ?_
    | refine kn7 ?_
    | refine kr7 ?_
    | refine ke7 ?_
    | (refine aw_regk fun κ hκ => ?_; simp -implicitDefEqProofs only [avm, reduceCtorEq, ↓reduceIte, sevalprocAttr, encs])
    | refine aw_exit ?_
    | refine aw_ret ?_
    | refine aw_skip ?_
    | refine aw_label ?_
    | refine condc_t ?_
    | refine condc_f ?_
    | (refine aw_cond2 (by simp -implicitDefEqProofs only [avm, reduceCtorEq, ↓reduceIte, sevalprocAttr, encs]; rfl) ?_)
    | ((first | refine gkc_fork ?_ ?_ | refine pkc_fork ?_ ?_ | refine condc_fork ?_ ?_) <;> intro hq <;> (first | contradiction | simp -implicitDefEqProofs only [eq_false hq, Decidable.not_not, avm, reduceCtorEq, ↓reduceIte, sevalprocAttr, encs] at h ⊢ | simp -implicitDefEqProofs only [eq_true hq, avm, reduceCtorEq, ↓reduceIte, sevalprocAttr, encs] at h ⊢))
    | ((first | refine gkc_split ?_ ?_ | refine pkc_split ?_ ?_ | refine condc_bool ?_ ?_) <;> intro hq <;> (first | exact bcontra (by assumption) hq | exact bcontra hq (by assumption) | simp -implicitDefEqProofs only [hq, avm, reduceCtorEq, ↓reduceIte, sevalprocAttr, encs] at h ⊢))
    | (refine nn_go h fun hb h => ?_; simp -implicitDefEqProofs only [eq_false hb, avm, reduceCtorEq, ↓reduceIte, sevalprocAttr, encs] at h ⊢)
    | (cases h
       try simp -implicitDefEqProofs only [avm, reduceCtorEq, ↓reduceIte, sevalprocAttr, encs]
       first | refine retLt (by first | exact .inr rfl | exact .inl rfl) (by rfl) ?_ | refine retL1 (by first | exact .inr rfl | exact .inl rfl) (by rfl) ?_
       repeat' (first | exact trivial | apply And.intro)
       all_goals first | exact .same _ rfl | exact reta_imm | exact reta_nil | (refine .imm _ _ _ ?_; simp only [prs]; done) | exact .same _ (Enc.pure_enc _) | exact .same _ pur_enc_sl | exact .same _ pur_enc_fl | (refine .same _ ?_; simp only [prs]; done) | (refine .le _ _ ?_ ?_; (focus (repeat' (first | exact le_same _ | exact le_enc | exact le_nil | exact le_imm (.inl rfl) | exact le_imm (.inr rfl) | refine le_agg ?_ | exact trivial | apply And.intro))); (simp only [prs]; done)))
    | fail)
theorem a_octet_Take {a0 : (List UInt8)} {a1 : Int} {r : ((List UInt8) × (List UInt8) × Bool)} (h : m_octet_Take a0 a1 = some r) : ACt Tryd.prog 46 [Enc.enc a0, Enc.enc a1] (.tup [Enc.enc r.1, Enc.enc r.2.1, Enc.enc r.2.2]) [] := by
  refine act_of p_octet_Take (by simp [c_octet_Take]) ?_
  show AW _ b_octet_Take (RetOk [.tmp 4, .tmp 5, .tmp 6] _ _) { n := 22, tm := [(0, _), (1, _)], box := [], fr := [] }
  unfold b_octet_Take
  unfold m_octet_Take at h
  try simp -implicitDefEqProofs only [avm, reduceCtorEq, ↓reduceIte, sevalprocAttr, encs] at h
  repeat' (first
    | (refine (hκ _).mpr ?_; clear hκ)
    | refine kn1 ?_
    | refine kr1 ?_
    | refine ke1 ?_
    | refine kn2 ?_
    | refine kr2 ?_
    | refine kx2 ?_
    | refine ke2 rfl ?_
    | refine kr5 ?_
    | refine ke5 ?_
    | refine kr6 ?_
    | refine ke6 ?_
    | refine w_seq ?_
    | refine w_block ?_
    | refine w_scope ?_
    | refine kn7 ?_
    | refine kr7 ?_
    | refine ke7 ?_
    | (refine aw_regk fun κ hκ => ?_; simp -implicitDefEqProofs only [avm, reduceCtorEq, ↓reduceIte, sevalprocAttr, encs])
    | refine aw_exit ?_
    | refine aw_ret ?_
    | refine aw_skip ?_
    | refine aw_label ?_
    | refine condc_t ?_
    | refine condc_f ?_
    | (refine aw_cond2 (by simp -implicitDefEqProofs only [avm, reduceCtorEq, ↓reduceIte, sevalprocAttr, encs]; rfl) ?_)
    | ((first | refine gkc_fork ?_ ?_ | refine pkc_fork ?_ ?_ | refine condc_fork ?_ ?_) <;> intro hq <;> (first | contradiction | simp -implicitDefEqProofs only [eq_false hq, Decidable.not_not, avm, reduceCtorEq, ↓reduceIte, sevalprocAttr, encs] at h ⊢ | simp -implicitDefEqProofs only [eq_true hq, avm, reduceCtorEq, ↓reduceIte, sevalprocAttr, encs] at h ⊢))
    | ((first | refine gkc_split ?_ ?_ | refine pkc_split ?_ ?_ | refine condc_bool ?_ ?_) <;> intro hq <;> (first | exact bcontra (by assumption) hq | exact bcontra hq (by assumption) | simp -implicitDefEqProofs only [hq, avm, reduceCtorEq, ↓reduceIte, sevalprocAttr, encs] at h ⊢))
    | (refine bd_go h fun y hy h => ?_; (first | refine slc_max hy rfl (.inl rfl) asn_none ?_ | refine slc_max hy rfl (.inl rfl) (asn_some (by first | decide | omega)) ?_ | refine slc11 hy rfl (.inl rfl) ?_ | refine slc01 hy rfl (.inl rfl) ?_ | refine slc10 hy rfl (.inl rfl) ?_ | refine slc00 hy rfl (.inl rfl) ?_ | refine slc11 hy rfl (.inr rfl) ?_ | refine slc01 hy rfl (.inr rfl) ?_ | refine slc10 hy rfl (.inr rfl) ?_ | refine slc00 hy rfl (.inr rfl) ?_); simp -implicitDefEqProofs only [avm, reduceCtorEq, ↓reduceIte, sevalprocAttr, encs])
    | (cases h
       try simp -implicitDefEqProofs only [avm, reduceCtorEq, ↓reduceIte, sevalprocAttr, encs]
       first | refine retLt (by first | exact .inr rfl | exact .inl rfl) (by rfl) ?_ | refine retL1 (by first | exact .inr rfl | exact .inl rfl) (by rfl) ?_
       repeat' (first | exact trivial | apply And.intro)
       all_goals first | exact .same _ rfl | exact reta_imm | exact reta_nil | (refine .imm _ _ _ ?_; simp only [prs]; done) | exact .same _ (Enc.pure_enc _) | exact .same _ pur_enc_sl | exact .same _ pur_enc_fl | (refine .same _ ?_; simp only [prs]; done) | (refine .le _ _ ?_ ?_; (focus (repeat' (first | exact le_same _ | exact le_enc | exact le_nil | exact le_imm (.inl rfl) | exact le_imm (.inr rfl) | refine le_agg ?_ | exact trivial | apply And.intro))); (simp only [prs]; done)))
    | fail)
theorem a_octet_Get {a0 : (List UInt8)} {a1 : Int} {r : (Int × (List UInt8) × Bool)} (h : m_octet_Get a0 a1 = some r) : ACt Tryd.prog 30 [Enc.enc a0, Enc.enc a1] (.tup [Enc.enc r.1, Enc.enc r.2.1, Enc.enc r.2.2]) [] := by
  refine act_of p_octet_Get (by simp [c_octet_Get]) ?_
  show AW _ b_octet_Get (RetOk [.tmp 4, .tmp 5, .tmp 6] _ _) { n := 41, tm := [(0, _), (1, _)], box := [], fr := [] }
  unfold b_octet_Get
  unfold m_octet_Get at h
  try simp -implicitDefEqProofs only [avm, reduceCtorEq, ↓reduceIte, sevalprocAttr, encs] at h
  repeat' (first
    | (refine (hκ _).mpr ?_; clear hκ)
    | refine kn1 ?_
    | refine kr1 ?_
    | refine ke1 ?_
    | refine kn2 ?_
    | refine kr2 ?_
    | refine kx2 ?_
    | refine ke2 rfl ?_
    | refine kr5 ?_
    | refine ke5 ?_
    | refine kr6 ?_
    | refine ke6 ?_
    | (refine w_loopm [8, 9, 26, 27] (fun (j : (Int × Int)) => [(10, (.int .i64 j.1)), (28, (.int .i64 j.2))]) (fun (j : (Int × Int)) => []) (fun (j : (Int × Int)) => []) (fun (j : (Int × Int)) => []) (show loopC (s_octet_Get1 _) _ BIG _ = some _ from h) ?_ ?_
       · try simp -implicitDefEqProofs only [pats, avm, reduceCtorEq, ↓reduceIte, sevalprocAttr, encs]
         (first
          | (refine wk_m 0 _ rfl ?_ rfl rfl ?_ ?_ ?_ ?_
             iterate 3 (first | exact Nat.zero_le _ | exact Nat.le_refl _ | (focus (simp; done)))
             all_goals (repeat' (first | exact trivial | apply And.intro))
             all_goals first | exact rfl | exact wkc_FL | exact wka_full | exact wka_full0 | exact .same _ rfl | exact wka_imm | exact wka_app (by decide) | exact wka_tag (by decide) rfl | exact wka_tagn (by decide) rfl | exact wka_tagr (by decide) rfl (by simp only [prs]) | exact wka_immn | (refine .imm _ _ _ _ (.inl rfl) (okBL_pur ?_); simp only [prs]; done) | exact wka_tag0 (by decide) rfl | exact wka_imm0 | exact wka_pur (Enc.pure_enc _) | exact wka_pur pur_enc_sl | exact wka_pur pur_enc_fl | exact .und _ | (refine wka_pur ?_; simp only [prs]; done) | (refine .same _ ?_; simp only [okB, okBL, okBL_enc, Bool.and_self, Bool.and_true, decide_true, sevalprocAttr]; done) | (refine .le _ _ ?_ (okB_pur ?_); (focus (repeat' (first | exact le_same _ | exact le_enc | exact le_nil | exact le_imm (.inl rfl) | exact le_imm (.inr rfl) | refine le_agg ?_ | exact trivial | apply And.intro))); (simp only [prs]; done))))
       clear h
       intro n st h
       simp -implicitDefEqProofs only [s_octet_Get1.eq_1, pats, avm, reduceCtorEq, ↓reduceIte, sevalprocAttr, encs] at h ⊢)
    | refine w_seq ?_
    | refine w_block ?_
    | refine w_scope ?_
    | refine kn7 ?_
    | refine kr7 ?_
    | refine ke7 ?_
    | (refine aw_regk fun κ hκ => ?_; simp -implicitDefEqProofs only [avm, reduceCtorEq, ↓reduceIte, sevalprocAttr, encs])
    | refine aw_exit ?_
    | refine aw_ret ?_
    | refine aw_skip ?_
    | refine aw_label ?_
    | refine condc_t ?_
    | refine condc_f ?_
    | (refine aw_cond2 (by simp -implicitDefEqProofs only [avm, reduceCtorEq, ↓reduceIte, sevalprocAttr, encs]; rfl) ?_)
    | ((first | refine gkc_fork ?_ ?_ | refine pkc_fork ?_ ?_ | refine condc_fork ?_ ?_) <;> intro hq <;> (first | contradiction | simp -implicitDefEqProofs only [eq_false hq, Decidable.not_not, avm, reduceCtorEq, ↓reduceIte, sevalprocAttr, encs] at h ⊢ | simp -implicitDefEqProofs only [eq_true hq, avm, reduceCtorEq, ↓reduceIte, sevalprocAttr, encs] at h ⊢))
    | ((first | refine gkc_split ?_ ?_ | refine pkc_split ?_ ?_ | refine condc_bool ?_ ?_) <;> intro hq <;> (first | exact bcontra (by assumption) hq | exact bcontra hq (by assumption) | simp -implicitDefEqProofs only [hq, avm, reduceCtorEq, ↓reduceIte, sevalprocAttr, encs] at h ⊢))
    | (refine bd_go h fun y hy h => ?_; refine ixc hy ?_; simp -implicitDefEqProofs only [avm, reduceCtorEq, ↓reduceIte, sevalprocAttr, encs])
    | (refine bd_go h fun y hy h => ?_
       first | refine callsc (a_octet_Take hy) ?_ ?_ | refine callc (a_octet_Take hy) ?_ ?_ | ((first | refine callsc (act_le (a_octet_Take hy) ?_) ?_ ?_ | refine callc (act_le (a_octet_Take hy) ?_) ?_ ?_); (focus (repeat' (first | exact trivial | exact le_same _ | exact le_enc | exact le_nil | exact le_imm (.inl rfl) | exact le_imm (.inr rfl) | (refine le_agg ?_) | apply And.intro | (refine le_eq ?_; simp only [*]; done)))))
       focus (first | rfl | (simp only [purL, pur, purL_enc, Enc.pure_enc, Bool.and_self, Bool.and_true]; done))
       simp -implicitDefEqProofs only [avm, reduceCtorEq, ↓reduceIte, sevalprocAttr, encs])
    | (first | refine kn6 ⟨_, h, ?_⟩ | refine kn5 ⟨_, h, ?_⟩
       try simp -implicitDefEqProofs only [pats, avm, reduceCtorEq, ↓reduceIte, sevalprocAttr, encs]
       (first
          | (refine wk_m 0 _ rfl ?_ rfl rfl ?_ ?_ ?_ ?_
             iterate 3 (first | exact Nat.zero_le _ | exact Nat.le_refl _ | (focus (simp; done)))
             all_goals (repeat' (first | exact trivial | apply And.intro))
             all_goals first | exact rfl | exact wkc_FL | exact wka_full | exact wka_full0 | exact .same _ rfl | exact wka_imm | exact wka_app (by decide) | exact wka_tag (by decide) rfl | exact wka_tagn (by decide) rfl | exact wka_tagr (by decide) rfl (by simp only [prs]) | exact wka_immn | (refine .imm _ _ _ _ (.inl rfl) (okBL_pur ?_); simp only [prs]; done) | exact wka_tag0 (by decide) rfl | exact wka_imm0 | exact wka_pur (Enc.pure_enc _) | exact wka_pur pur_enc_sl | exact wka_pur pur_enc_fl | exact .und _ | (refine wka_pur ?_; simp only [prs]; done) | (refine .same _ ?_; simp only [okB, okBL, okBL_enc, Bool.and_self, Bool.and_true, decide_true, sevalprocAttr]; done) | (refine .le _ _ ?_ (okB_pur ?_); (focus (repeat' (first | exact le_same _ | exact le_enc | exact le_nil | exact le_imm (.inl rfl) | exact le_imm (.inr rfl) | refine le_agg ?_ | exact trivial | apply And.intro))); (simp only [prs]; done)))))
    | (first | refine kn6 ⟨_, h, ?_⟩ | refine kn5 ⟨_, h, ?_⟩
       try simp -implicitDefEqProofs only [*, pats, avm, reduceCtorEq, ↓reduceIte, sevalprocAttr, encs]
       (first
          | (refine wk_m 0 _ rfl ?_ rfl rfl ?_ ?_ ?_ ?_
             iterate 3 (first | exact Nat.zero_le _ | exact Nat.le_refl _ | (focus (simp; done)))
             all_goals (repeat' (first | exact trivial | apply And.intro))
             all_goals first | exact rfl | exact wkc_FL | exact wka_full | exact wka_full0 | exact .same _ rfl | exact wka_imm | exact wka_app (by decide) | exact wka_tag (by decide) rfl | exact wka_tagn (by decide) rfl | exact wka_tagr (by decide) rfl (by simp only [prs]) | exact wka_immn | (refine .imm _ _ _ _ (.inl rfl) (okBL_pur ?_); simp only [prs]; done) | exact wka_tag0 (by decide) rfl | exact wka_imm0 | exact wka_pur (Enc.pure_enc _) | exact wka_pur pur_enc_sl | exact wka_pur pur_enc_fl | exact .und _ | (refine wka_pur ?_; simp only [prs]; done) | (refine .same _ ?_; simp only [okB, okBL, okBL_enc, Bool.and_self, Bool.and_true, decide_true, sevalprocAttr]; done) | (refine .le _ _ ?_ (okB_pur ?_); (focus (repeat' (first | exact le_same _ | exact le_enc | exact le_nil | exact le_imm (.inl rfl) | exact le_imm (.inr rfl) | refine le_agg ?_ | exact trivial | apply And.intro))); (simp only [prs]; done)))))
    | (cases h
       try simp -implicitDefEqProofs only [avm, reduceCtorEq, ↓reduceIte, sevalprocAttr, encs]
       first | refine retLt (by first | exact .inr rfl | exact .inl rfl) (by rfl) ?_ | refine retL1 (by first | exact .inr rfl | exact .inl rfl) (by rfl) ?_
       repeat' (first | exact trivial | apply And.intro)
       all_goals first | exact .same _ rfl | exact reta_imm | exact reta_nil | (refine .imm _ _ _ ?_; simp only [prs]; done) | exact .same _ (Enc.pure_enc _) | exact .same _ pur_enc_sl | exact .same _ pur_enc_fl | (refine .same _ ?_; simp only [prs]; done) | (refine .le _ _ ?_ ?_; (focus (repeat' (first | exact le_same _ | exact le_enc | exact le_nil | exact le_imm (.inl rfl) | exact le_imm (.inr rfl) | refine le_agg ?_ | exact trivial | apply And.intro))); (simp only [prs]; done)))
    | fail)
theorem a_prefix_size {a0 : Int} {r : Int} (h : m_prefix_size a0 = some r) : ACt Tryd.prog 31 [Enc.enc a0] (Enc.enc r) [] := by
  refine act_of p_prefix_size (by simp [c_prefix_size]) ?_
  show AW _ b_prefix_size (RetOk [.tmp 2] _ _) { n := 6, tm := [(0, _)], box := [], fr := [] }
  unfold b_prefix_size
  unfold m_prefix_size at h
  try simp -implicitDefEqProofs only [avm, reduceCtorEq, ↓reduceIte, sevalprocAttr, encs] at h
  repeat' (first
    | (refine (hκ _).mpr ?_; clear hκ)
    | refine kn1 ?_
    | refine kr1 ?_
    | refine ke1 ?_
    | refine kn2 ?_
    | refine kr2 ?_
    | refine kx2 ?_
    | refine ke2 rfl ?_
    | refine kr5 ?_
    | refine ke5 ?_
    | refine kr6 ?_
    | refine ke6 ?_
    | refine w_seq ?_
    | refine w_block ?_
    | refine w_scope ?_
    | refine kn7 ?_
    | refine kr7 ?_
    | refine ke7 ?_
    | (refine aw_regk fun κ hκ => ?_; simp -implicitDefEqProofs only [avm, reduceCtorEq, ↓reduceIte, sevalprocAttr, encs])
    | refine aw_exit ?_
    | refine aw_ret ?_
    | refine aw_skip ?_
    | refine aw_label ?_
    | refine condc_t ?_
    | refine condc_f ?_
    | (refine aw_cond2 (by simp -implicitDefEqProofs only [avm, reduceCtorEq, ↓reduceIte, sevalprocAttr, encs]; rfl) ?_)
    | ((first | refine gkc_fork ?_ ?_ | refine pkc_fork ?_ ?_ | refine condc_fork ?_ ?_) <;> intro hq <;> (first | contradiction | simp -implicitDefEqProofs only [eq_false hq, Decidable.not_not, avm, reduceCtorEq, ↓reduceIte, sevalprocAttr, encs] at h ⊢ | simp -implicitDefEqProofs only [eq_true hq, avm, reduceCtorEq, ↓reduceIte, sevalprocAttr, encs] at h ⊢))
    | ((first | refine gkc_split ?_ ?_ | refine pkc_split ?_ ?_ | refine condc_bool ?_ ?_) <;> intro hq <;> (first | exact bcontra (by assumption) hq | exact bcontra hq (by assumption) | simp -implicitDefEqProofs only [hq, avm, reduceCtorEq, ↓reduceIte, sevalprocAttr, encs] at h ⊢))
    | (cases h
       try simp -implicitDefEqProofs only [avm, reduceCtorEq, ↓reduceIte, sevalprocAttr, encs]
       first | refine retLt (by first | exact .inr rfl | exact .inl rfl) (by rfl) ?_ | refine retL1 (by first | exact .inr rfl | exact .inl rfl) (by rfl) ?_
       repeat' (first | exact trivial | apply And.intro)
       all_goals first | exact .same _ rfl | exact reta_imm | exact reta_nil | (refine .imm _ _ _ ?_; simp only [prs]; done) | exact .same _ (Enc.pure_enc _) | exact .same _ pur_enc_sl | exact .same _ pur_enc_fl | (refine .same _ ?_; simp only [prs]; done) | (refine .le _ _ ?_ ?_; (focus (repeat' (first | exact le_same _ | exact le_enc | exact le_nil | exact le_imm (.inl rfl) | exact le_imm (.inr rfl) | refine le_agg ?_ | exact trivial | apply And.intro))); (simp only [prs]; done)))
    | fail)
theorem a_prefix_Get {a0 : (List UInt8)} {r : (Prefix × (List UInt8) × Bool)} (h : m_prefix_Get a0 = some r) : ACt Tryd.prog 11 [Enc.enc a0] (.tup [Enc.enc r.1, Enc.enc r.2.1, Enc.enc r.2.2]) [] := by
  refine act_of p_prefix_Get (by simp [c_prefix_Get]) ?_
  show AW _ b_prefix_Get (RetOk [.cell 2 (some 2), .tmp 3, .tmp 4] _ _) { n := 49, tm := [(0, _)], box := [], fr := [] }
  unfold b_prefix_Get
  unfold m_prefix_Get at h
  try simp -implicitDefEqProofs only [avm, reduceCtorEq, ↓reduceIte, sevalprocAttr, encs] at h
  repeat' (first
    | (refine (hκ _).mpr ?_; clear hκ)
    | refine kn1 ?_
    | refine kr1 ?_
    | refine ke1 ?_
    | refine kn2 ?_
    | refine kr2 ?_
    | refine kx2 ?_
    | refine ke2 rfl ?_
    | refine kr5 ?_
    | refine ke5 ?_
    | refine kr6 ?_
    | refine ke6 ?_
    | refine w_seq ?_
    | refine w_block ?_
    | refine w_scope ?_
    | refine kn7 ?_
    | refine kr7 ?_
    | refine ke7 ?_
    | (refine aw_regk fun κ hκ => ?_; simp -implicitDefEqProofs only [avm, reduceCtorEq, ↓reduceIte, sevalprocAttr, encs])
    | refine aw_exit ?_
    | refine aw_ret ?_
    | refine aw_skip ?_
    | refine aw_label ?_
    | refine condc_t ?_
    | refine condc_f ?_
    | (refine aw_cond2 (by simp -implicitDefEqProofs only [avm, reduceCtorEq, ↓reduceIte, sevalprocAttr, encs]; rfl) ?_)
    | ((first | refine gkc_fork ?_ ?_ | refine pkc_fork ?_ ?_ | refine condc_fork ?_ ?_) <;> intro hq <;> (first | contradiction | simp -implicitDefEqProofs only [eq_false hq, Decidable.not_not, avm, reduceCtorEq, ↓reduceIte, sevalprocAttr, encs] at h ⊢ | simp -implicitDefEqProofs only [eq_true hq, avm, reduceCtorEq, ↓reduceIte, sevalprocAttr, encs] at h ⊢))
    | ((first | refine gkc_split ?_ ?_ | refine pkc_split ?_ ?_ | refine condc_bool ?_ ?_) <;> intro hq <;> (first | exact bcontra (by assumption) hq | exact bcontra hq (by assumption) | simp -implicitDefEqProofs only [hq, avm, reduceCtorEq, ↓reduceIte, sevalprocAttr, encs] at h ⊢))
    | (refine stc_plain rfl ?_; simp -implicitDefEqProofs only [putCells.eq_1, avm, reduceCtorEq, ↓reduceIte, sevalprocAttr, encs])
    | (refine bd_go h fun y hy h => ?_
       first | refine callsc (a_octet_Get hy) ?_ ?_ | refine callc (a_octet_Get hy) ?_ ?_ | ((first | refine callsc (act_le (a_octet_Get hy) ?_) ?_ ?_ | refine callc (act_le (a_octet_Get hy) ?_) ?_ ?_); (focus (repeat' (first | exact trivial | exact le_same _ | exact le_enc | exact le_nil | exact le_imm (.inl rfl) | exact le_imm (.inr rfl) | (refine le_agg ?_) | apply And.intro | (refine le_eq ?_; simp only [*]; done)))))
       focus (first | rfl | (simp only [purL, pur, purL_enc, Enc.pure_enc, Bool.and_self, Bool.and_true]; done))
       simp -implicitDefEqProofs only [avm, reduceCtorEq, ↓reduceIte, sevalprocAttr, encs])
    | (refine bd_go h fun y hy h => ?_
       first | refine callsc (a_prefix_size hy) ?_ ?_ | refine callc (a_prefix_size hy) ?_ ?_ | ((first | refine callsc (act_le (a_prefix_size hy) ?_) ?_ ?_ | refine callc (act_le (a_prefix_size hy) ?_) ?_ ?_); (focus (repeat' (first | exact trivial | exact le_same _ | exact le_enc | exact le_nil | exact le_imm (.inl rfl) | exact le_imm (.inr rfl) | (refine le_agg ?_) | apply And.intro | (refine le_eq ?_; simp only [*]; done)))))
       focus (first | rfl | (simp only [purL, pur, purL_enc, Enc.pure_enc, Bool.and_self, Bool.and_true]; done))
       simp -implicitDefEqProofs only [avm, reduceCtorEq, ↓reduceIte, sevalprocAttr, encs])
    | (refine bd_go h fun y hy h => ?_
       first | refine callsc (a_prefix_Mask hy) ?_ ?_ | refine callc (a_prefix_Mask hy) ?_ ?_ | ((first | refine callsc (act_le (a_prefix_Mask hy) ?_) ?_ ?_ | refine callc (act_le (a_prefix_Mask hy) ?_) ?_ ?_); (focus (repeat' (first | exact trivial | exact le_same _ | exact le_enc | exact le_nil | exact le_imm (.inl rfl) | exact le_imm (.inr rfl) | (refine le_agg ?_) | apply And.intro | (refine le_eq ?_; simp only [*]; done)))))
       focus (first | rfl | (simp only [purL, pur, purL_enc, Enc.pure_enc, Bool.and_self, Bool.and_true]; done))
       simp -implicitDefEqProofs only [avm, reduceCtorEq, ↓reduceIte, sevalprocAttr, encs])
    | (refine nn_go h fun hb h => ?_; simp -implicitDefEqProofs only [eq_false hb, avm, reduceCtorEq, ↓reduceIte, sevalprocAttr, encs] at h ⊢)
    | (cases h
       try simp -implicitDefEqProofs only [avm, reduceCtorEq, ↓reduceIte, sevalprocAttr, encs]
       first | refine retLt (by first | exact .inr rfl | exact .inl rfl) (by rfl) ?_ | refine retL1 (by first | exact .inr rfl | exact .inl rfl) (by rfl) ?_
       repeat' (first | exact trivial | apply And.intro)
       all_goals first | exact .same _ rfl | exact reta_imm | exact reta_nil | (refine .imm _ _ _ ?_; simp only [prs]; done) | exact .same _ (Enc.pure_enc _) | exact .same _ pur_enc_sl | exact .same _ pur_enc_fl | (refine .same _ ?_; simp only [prs]; done) | (refine .le _ _ ?_ ?_; (focus (repeat' (first | exact le_same _ | exact le_enc | exact le_nil | exact le_imm (.inl rfl) | exact le_imm (.inr rfl) | refine le_agg ?_ | exact trivial | apply And.intro))); (simp only [prs]; done)))
    | fail)
theorem a_prefix_All {a0 : (List UInt8)} {r : ((List Prefix) × Bool)} (h : m_prefix_All a0 = some r) : ACt Tryd.prog 13 [Enc.enc a0] (.tup [(.slice (.app 0) 2 (List.map Enc.enc r.1)), Enc.enc r.2]) [(23, r.1.length)] := by
  refine act_of p_prefix_All (by simp [c_prefix_All]) ?_
  show AW _ b_prefix_All (RetOk [.tmp 2, .tmp 3] _ _) { n := 26, tm := [(0, _)], box := [], fr := [] }
  unfold b_prefix_All
  unfold m_prefix_All at h
  try simp -implicitDefEqProofs only [avm, reduceCtorEq, ↓reduceIte, sevalprocAttr, encs] at h
  repeat' (first
    | (refine (hκ _).mpr ?_; clear hκ)
    | refine kn1 ?_
    | refine kr1 ?_
    | refine ke1 ?_
    | refine kn2 ?_
    | refine kr2 ?_
    | refine kx2 ?_
    | refine ke2 rfl ?_
    | refine kr5 ?_
    | refine ke5 ?_
    | refine kr6 ?_
    | refine ke6 ?_
    | (refine w_loopm [] (fun (j : ((List UInt8) × (List Prefix))) => [(0, (.slice .imm 1 (List.map Enc.enc j.1))), (4, (.slice (.app 0) 2 (List.map Enc.enc j.2)))]) (fun (j : ((List UInt8) × (List Prefix))) => []) (fun (j : ((List UInt8) × (List Prefix))) => []) (fun (j : ((List UInt8) × (List Prefix))) => [(23, j.2.length)]) (show loopC (s_prefix_All1) _ BIG _ = some _ from h) ?_ ?_
       · try simp -implicitDefEqProofs only [pats, avm, reduceCtorEq, ↓reduceIte, sevalprocAttr, encs]
         (first
          | (refine wk_m 0 _ rfl ?_ rfl rfl ?_ ?_ ?_ ?_
             iterate 3 (first | exact Nat.zero_le _ | exact Nat.le_refl _ | (focus (simp; done)))
             all_goals (repeat' (first | exact trivial | apply And.intro))
             all_goals first | exact rfl | exact wkc_FL | exact wka_full | exact wka_full0 | exact .same _ rfl | exact wka_imm | exact wka_app (by decide) | exact wka_tag (by decide) rfl | exact wka_tagn (by decide) rfl | exact wka_tagr (by decide) rfl (by simp only [prs]) | exact wka_immn | (refine .imm _ _ _ _ (.inl rfl) (okBL_pur ?_); simp only [prs]; done) | exact wka_tag0 (by decide) rfl | exact wka_imm0 | exact wka_pur (Enc.pure_enc _) | exact wka_pur pur_enc_sl | exact wka_pur pur_enc_fl | exact .und _ | (refine wka_pur ?_; simp only [prs]; done) | (refine .same _ ?_; simp only [okB, okBL, okBL_enc, Bool.and_self, Bool.and_true, decide_true, sevalprocAttr]; done) | (refine .le _ _ ?_ (okB_pur ?_); (focus (repeat' (first | exact le_same _ | exact le_enc | exact le_nil | exact le_imm (.inl rfl) | exact le_imm (.inr rfl) | refine le_agg ?_ | exact trivial | apply And.intro))); (simp only [prs]; done))))
       clear h
       intro n st h
       simp -implicitDefEqProofs only [s_prefix_All1.eq_1, pats, avm, reduceCtorEq, ↓reduceIte, sevalprocAttr, encs] at h ⊢)
    | refine w_seq ?_
    | refine w_block ?_
    | refine w_scope ?_
    | refine kn7 ?_
    | refine kr7 ?_
    | refine ke7 ?_
    | (refine aw_regk fun κ hκ => ?_; simp -implicitDefEqProofs only [avm, reduceCtorEq, ↓reduceIte, sevalprocAttr, encs])
    | (refine aw_ret_nil (k := 2) (k2 := 3) (sz := 2) (ty := 23) rfl rfl rfl rfl ?_; simp -implicitDefEqProofs only [List.length_cons, List.length_nil, List.cons_append, List.nil_append, avm, reduceCtorEq, ↓reduceIte, sevalprocAttr, encs])
    | refine aw_exit ?_
    | refine aw_ret ?_
    | refine aw_skip ?_
    | refine aw_label ?_
    | refine condc_t ?_
    | refine condc_f ?_
    | (refine aw_cond2 (by simp -implicitDefEqProofs only [avm, reduceCtorEq, ↓reduceIte, sevalprocAttr, encs]; rfl) ?_)
    | ((first | refine gkc_fork ?_ ?_ | refine pkc_fork ?_ ?_ | refine condc_fork ?_ ?_) <;> intro hq <;> (first | contradiction | simp -implicitDefEqProofs only [eq_false hq, Decidable.not_not, avm, reduceCtorEq, ↓reduceIte, sevalprocAttr, encs] at h ⊢ | simp -implicitDefEqProofs only [eq_true hq, avm, reduceCtorEq, ↓reduceIte, sevalprocAttr, encs] at h ⊢))
    | ((first | refine gkc_split ?_ ?_ | refine pkc_split ?_ ?_ | refine condc_bool ?_ ?_) <;> intro hq <;> (first | exact bcontra (by assumption) hq | exact bcontra hq (by assumption) | simp -implicitDefEqProofs only [hq, avm, reduceCtorEq, ↓reduceIte, sevalprocAttr, encs] at h ⊢))
    | (refine stc_plain rfl ?_; simp -implicitDefEqProofs only [putCells.eq_1, avm, reduceCtorEq, ↓reduceIte, sevalprocAttr, encs])
    | (refine bd_go h fun y hy h => ?_
       refine apc hy (by first | rfl | (simp -implicitDefEqProofs only [avm, reduceCtorEq, ↓reduceIte, sevalprocAttr, encs]; done)) (by first | rfl | (simp -implicitDefEqProofs only [avm, reduceCtorEq, ↓reduceIte, sevalprocAttr, encs]; done)) (by first | exact .inl rfl | exact .inr rfl) (by first | exact .inl rfl | exact .inr rfl) (by simp only [apTag, List.getElem?_cons_zero, List.getElem?_cons_succ, ↓reduceIte, List.set_cons_zero, List.set_cons_succ, List.nil_append, List.cons_append, List.length_nil, List.length_cons, sevalprocAttr]; rfl) ?_
       simp -implicitDefEqProofs only [avm, reduceCtorEq, ↓reduceIte, sevalprocAttr, encs])
    | (refine bd_go h fun y hy h => ?_
       first | refine callsc (a_prefix_Get hy) ?_ ?_ | refine callc (a_prefix_Get hy) ?_ ?_ | ((first | refine callsc (act_le (a_prefix_Get hy) ?_) ?_ ?_ | refine callc (act_le (a_prefix_Get hy) ?_) ?_ ?_); (focus (repeat' (first | exact trivial | exact le_same _ | exact le_enc | exact le_nil | exact le_imm (.inl rfl) | exact le_imm (.inr rfl) | (refine le_agg ?_) | apply And.intro | (refine le_eq ?_; simp only [*]; done)))))
       focus (first | rfl | (simp only [purL, pur, purL_enc, Enc.pure_enc, Bool.and_self, Bool.and_true]; done))
       simp -implicitDefEqProofs only [avm, reduceCtorEq, ↓reduceIte, sevalprocAttr, encs])
    | (first | refine kn6 ⟨_, h, ?_⟩ | refine kn5 ⟨_, h, ?_⟩
       try simp -implicitDefEqProofs only [pats, avm, reduceCtorEq, ↓reduceIte, sevalprocAttr, encs]
       (first
          | (refine wk_m 0 _ rfl ?_ rfl rfl ?_ ?_ ?_ ?_
             iterate 3 (first | exact Nat.zero_le _ | exact Nat.le_refl _ | (focus (simp; done)))
             all_goals (repeat' (first | exact trivial | apply And.intro))
             all_goals first | exact rfl | exact wkc_FL | exact wka_full | exact wka_full0 | exact .same _ rfl | exact wka_imm | exact wka_app (by decide) | exact wka_tag (by decide) rfl | exact wka_tagn (by decide) rfl | exact wka_tagr (by decide) rfl (by simp only [prs]) | exact wka_immn | (refine .imm _ _ _ _ (.inl rfl) (okBL_pur ?_); simp only [prs]; done) | exact wka_tag0 (by decide) rfl | exact wka_imm0 | exact wka_pur (Enc.pure_enc _) | exact wka_pur pur_enc_sl | exact wka_pur pur_enc_fl | exact .und _ | (refine wka_pur ?_; simp only [prs]; done) | (refine .same _ ?_; simp only [okB, okBL, okBL_enc, Bool.and_self, Bool.and_true, decide_true, sevalprocAttr]; done) | (refine .le _ _ ?_ (okB_pur ?_); (focus (repeat' (first | exact le_same _ | exact le_enc | exact le_nil | exact le_imm (.inl rfl) | exact le_imm (.inr rfl) | refine le_agg ?_ | exact trivial | apply And.intro))); (simp only [prs]; done)))
          | (refine wk_m 1 _ rfl ?_ rfl rfl ?_ ?_ ?_ ?_
             iterate 3 (first | exact Nat.zero_le _ | exact Nat.le_refl _ | (focus (simp; done)))
             all_goals (repeat' (first | exact trivial | apply And.intro))
             all_goals first | exact rfl | exact wkc_FL | exact wka_full | exact wka_full0 | exact .same _ rfl | exact wka_imm | exact wka_app (by decide) | exact wka_tag (by decide) rfl | exact wka_tagn (by decide) rfl | exact wka_tagr (by decide) rfl (by simp only [prs]) | exact wka_immn | (refine .imm _ _ _ _ (.inl rfl) (okBL_pur ?_); simp only [prs]; done) | exact wka_tag0 (by decide) rfl | exact wka_imm0 | exact wka_pur (Enc.pure_enc _) | exact wka_pur pur_enc_sl | exact wka_pur pur_enc_fl | exact .und _ | (refine wka_pur ?_; simp only [prs]; done) | (refine .same _ ?_; simp only [okB, okBL, okBL_enc, Bool.and_self, Bool.and_true, decide_true, sevalprocAttr]; done) | (refine .le _ _ ?_ (okB_pur ?_); (focus (repeat' (first | exact le_same _ | exact le_enc | exact le_nil | exact le_imm (.inl rfl) | exact le_imm (.inr rfl) | refine le_agg ?_ | exact trivial | apply And.intro))); (simp only [prs]; done)))))
    | (first | refine kn6 ⟨_, h, ?_⟩ | refine kn5 ⟨_, h, ?_⟩
       try simp -implicitDefEqProofs only [*, pats, avm, reduceCtorEq, ↓reduceIte, sevalprocAttr, encs]
       (first
          | (refine wk_m 0 _ rfl ?_ rfl rfl ?_ ?_ ?_ ?_
             iterate 3 (first | exact Nat.zero_le _ | exact Nat.le_refl _ | (focus (simp; done)))
             all_goals (repeat' (first | exact trivial | apply And.intro))
             all_goals first | exact rfl | exact wkc_FL | exact wka_full | exact wka_full0 | exact .same _ rfl | exact wka_imm | exact wka_app (by decide) | exact wka_tag (by decide) rfl | exact wka_tagn (by decide) rfl | exact wka_tagr (by decide) rfl (by simp only [prs]) | exact wka_immn | (refine .imm _ _ _ _ (.inl rfl) (okBL_pur ?_); simp only [prs]; done) | exact wka_tag0 (by decide) rfl | exact wka_imm0 | exact wka_pur (Enc.pure_enc _) | exact wka_pur pur_enc_sl | exact wka_pur pur_enc_fl | exact .und _ | (refine wka_pur ?_; simp only [prs]; done) | (refine .same _ ?_; simp only [okB, okBL, okBL_enc, Bool.and_self, Bool.and_true, decide_true, sevalprocAttr]; done) | (refine .le _ _ ?_ (okB_pur ?_); (focus (repeat' (first | exact le_same _ | exact le_enc | exact le_nil | exact le_imm (.inl rfl) | exact le_imm (.inr rfl) | refine le_agg ?_ | exact trivial | apply And.intro))); (simp only [prs]; done)))
          | (refine wk_m 1 _ rfl ?_ rfl rfl ?_ ?_ ?_ ?_
             iterate 3 (first | exact Nat.zero_le _ | exact Nat.le_refl _ | (focus (simp; done)))
             all_goals (repeat' (first | exact trivial | apply And.intro))
             all_goals first | exact rfl | exact wkc_FL | exact wka_full | exact wka_full0 | exact .same _ rfl | exact wka_imm | exact wka_app (by decide) | exact wka_tag (by decide) rfl | exact wka_tagn (by decide) rfl | exact wka_tagr (by decide) rfl (by simp only [prs]) | exact wka_immn | (refine .imm _ _ _ _ (.inl rfl) (okBL_pur ?_); simp only [prs]; done) | exact wka_tag0 (by decide) rfl | exact wka_imm0 | exact wka_pur (Enc.pure_enc _) | exact wka_pur pur_enc_sl | exact wka_pur pur_enc_fl | exact .und _ | (refine wka_pur ?_; simp only [prs]; done) | (refine .same _ ?_; simp only [okB, okBL, okBL_enc, Bool.and_self, Bool.and_true, decide_true, sevalprocAttr]; done) | (refine .le _ _ ?_ (okB_pur ?_); (focus (repeat' (first | exact le_same _ | exact le_enc | exact le_nil | exact le_imm (.inl rfl) | exact le_imm (.inr rfl) | refine le_agg ?_ | exact trivial | apply And.intro))); (simp only [prs]; done)))))
    | (cases h
       first | (refine retTt (j := 0) (by first | exact .inr rfl | exact .inl rfl) rfl rfl ?_; (repeat' (first | exact trivial | apply And.intro)); (all_goals first | exact .app _ 0 _ _ (purL_enc _) rfl (by simp) | exact .same _ rfl); done) | (refine retTt (j := 1) (by first | exact .inr rfl | exact .inl rfl) rfl rfl ?_; (repeat' (first | exact trivial | apply And.intro)); (all_goals first | exact .app _ 0 _ [] rfl rfl (by simp) | exact .same _ rfl); done))
    | fail)
theorem a_prefix_Sane {a0 : Prefix} {r : Bool} (h : m_prefix_Sane a0 = some r) : ACt Tryd.prog 20 [Enc.enc a0] (Enc.enc r) [] := by
  refine act_of p_prefix_Sane (by simp [c_prefix_Sane]) ?_
  show AW _ b_prefix_Sane (RetOk [.tmp 2] _ _) { n := 21, tm := [(0, _)], box := [], fr := [] }
  unfold b_prefix_Sane
  unfold m_prefix_Sane at h
  try simp -implicitDefEqProofs only [avm, reduceCtorEq, ↓reduceIte, sevalprocAttr, encs] at h
  repeat' (first
    | (refine (hκ _).mpr ?_; clear hκ)
    | refine kn1 ?_
    | refine kr1 ?_
    | refine ke1 ?_
    | refine kn2 ?_
    | refine kr2 ?_
    | refine kx2 ?_
    | refine ke2 rfl ?_
    | refine kr5 ?_
    | refine ke5 ?_
    | refine kr6 ?_
    | refine ke6 ?_
    | refine w_seq ?_
    | refine w_block ?_
    | refine w_scope ?_
    | refine kn7 ?_
    | refine kr7 ?_
    | refine ke7 ?_
    | (refine aw_regk fun κ hκ => ?_; simp -implicitDefEqProofs only [avm, reduceCtorEq, ↓reduceIte, sevalprocAttr, encs])
    | refine aw_exit ?_
    | refine aw_ret ?_
    | refine aw_skip ?_
    | refine aw_label ?_
    | refine condc_t ?_
    | refine condc_f ?_
    | (refine aw_cond2 (by simp -implicitDefEqProofs only [avm, reduceCtorEq, ↓reduceIte, sevalprocAttr, encs]; rfl) ?_)
    | ((first | refine gkc_fork ?_ ?_ | refine pkc_fork ?_ ?_ | refine condc_fork ?_ ?_) <;> intro hq <;> (first | contradiction | simp -implicitDefEqProofs only [eq_false hq, Decidable.not_not, avm, reduceCtorEq, ↓reduceIte, sevalprocAttr, encs] at h ⊢ | simp -implicitDefEqProofs only [eq_true hq, avm, reduceCtorEq, ↓reduceIte, sevalprocAttr, encs] at h ⊢))
    | ((first | refine gkc_split ?_ ?_ | refine pkc_split ?_ ?_ | refine condc_bool ?_ ?_) <;> intro hq <;> (first | exact bcontra (by assumption) hq | exact bcontra hq (by assumption) | simp -implicitDefEqProofs only [hq, avm, reduceCtorEq, ↓reduceIte, sevalprocAttr, encs] at h ⊢))
    | (refine bd_go h fun y hy h => ?_
       first | refine callsc (a_prefix_Mask hy) ?_ ?_ | refine callc (a_prefix_Mask hy) ?_ ?_ | ((first | refine callsc (act_le (a_prefix_Mask hy) ?_) ?_ ?_ | refine callc (act_le (a_prefix_Mask hy) ?_) ?_ ?_); (focus (repeat' (first | exact trivial | exact le_same _ | exact le_enc | exact le_nil | exact le_imm (.inl rfl) | exact le_imm (.inr rfl) | (refine le_agg ?_) | apply And.intro | (refine le_eq ?_; simp only [*]; done)))))
       focus (first | rfl | (simp only [purL, pur, purL_enc, Enc.pure_enc, Bool.and_self, Bool.and_true]; done))
       simp -implicitDefEqProofs only [avm, reduceCtorEq, ↓reduceIte, sevalprocAttr, encs])
    | (cases h
       try simp -implicitDefEqProofs only [avm, reduceCtorEq, ↓reduceIte, sevalprocAttr, encs]
       first | refine retLt (by first | exact .inr rfl | exact .inl rfl) (by rfl) ?_ | refine retL1 (by first | exact .inr rfl | exact .inl rfl) (by rfl) ?_
       repeat' (first | exact trivial | apply And.intro)
       all_goals first | exact .same _ rfl | exact reta_imm | exact reta_nil | (refine .imm _ _ _ ?_; simp only [prs]; done) | exact .same _ (Enc.pure_enc _) | exact .same _ pur_enc_sl | exact .same _ pur_enc_fl | (refine .same _ ?_; simp only [prs]; done) | (refine .le _ _ ?_ ?_; (focus (repeat' (first | exact le_same _ | exact le_enc | exact le_nil | exact le_imm (.inl rfl) | exact le_imm (.inr rfl) | refine le_agg ?_ | exact trivial | apply And.intro))); (simp only [prs]; done)))
    | fail)
theorem a_octet_Put {a0 : (List UInt8)} {a1 : Int} {a2 : Int} {r : (List UInt8)} (h : m_octet_Put a0 a1 a2 = some r) : ACt Tryd.prog 42 [Enc.enc a0, Enc.enc a1, Enc.enc a2] (Enc.enc r) [] := by
  refine act_of p_octet_Put (by simp [c_octet_Put]) ?_
  show AW _ b_octet_Put (RetOk [.tmp 6] _ _) { n := 39, tm := [(0, _), (1, _), (2, _)], box := [], fr := [] }
  unfold b_octet_Put
  unfold m_octet_Put at h
  try simp -implicitDefEqProofs only [avm, reduceCtorEq, ↓reduceIte, sevalprocAttr, encs] at h
  repeat' (first
    | (refine (hκ _).mpr ?_; clear hκ)
    | refine kn1 ?_
    | refine kr1 ?_
    | refine ke1 ?_
    | refine kn2 ?_
    | refine kr2 ?_
    | refine kx2 ?_
    | refine ke2 rfl ?_
    | refine kr5 ?_
    | refine ke5 ?_
    | refine kr6 ?_
    | refine ke6 ?_
    | (refine w_loopm [1, 2, 22] (fun (j : ((List UInt8) × Int)) => [(7, (.slice (.app 0) 1 (List.map Enc.enc j.1))), (23, (.int .i64 j.2))]) (fun (j : ((List UInt8) × Int)) => []) (fun (j : ((List UInt8) × Int)) => []) (fun (j : ((List UInt8) × Int)) => [(5, j.1.length)]) (show loopC (s_octet_Put1 _ _) _ BIG _ = some _ from h) ?_ ?_
       · try simp -implicitDefEqProofs only [pats, avm, reduceCtorEq, ↓reduceIte, sevalprocAttr, encs]
         (first
          | (refine wk_m 0 _ rfl ?_ rfl rfl ?_ ?_ ?_ ?_
             iterate 3 (first | exact Nat.zero_le _ | exact Nat.le_refl _ | (focus (simp; done)))
             all_goals (repeat' (first | exact trivial | apply And.intro))
             all_goals first | exact rfl | exact wkc_FL | exact wka_full | exact wka_full0 | exact .same _ rfl | exact wka_imm | exact wka_app (by decide) | exact wka_tag (by decide) rfl | exact wka_tagn (by decide) rfl | exact wka_tagr (by decide) rfl (by simp only [prs]) | exact wka_immn | (refine .imm _ _ _ _ (.inl rfl) (okBL_pur ?_); simp only [prs]; done) | exact wka_tag0 (by decide) rfl | exact wka_imm0 | exact wka_pur (Enc.pure_enc _) | exact wka_pur pur_enc_sl | exact wka_pur pur_enc_fl | exact .und _ | (refine wka_pur ?_; simp only [prs]; done) | (refine .same _ ?_; simp only [okB, okBL, okBL_enc, Bool.and_self, Bool.and_true, decide_true, sevalprocAttr]; done) | (refine .le _ _ ?_ (okB_pur ?_); (focus (repeat' (first | exact le_same _ | exact le_enc | exact le_nil | exact le_imm (.inl rfl) | exact le_imm (.inr rfl) | refine le_agg ?_ | exact trivial | apply And.intro))); (simp only [prs]; done))))
       clear h
       intro n st h
       simp -implicitDefEqProofs only [s_octet_Put1.eq_1, pats, avm, reduceCtorEq, ↓reduceIte, sevalprocAttr, encs] at h ⊢)
    | refine w_seq ?_
    | refine w_block ?_
    | refine w_scope ?_
    | refine kn7 ?_
    | refine kr7 ?_
    | refine ke7 ?_
    | (refine aw_regk fun κ hκ => ?_; simp -implicitDefEqProofs only [avm, reduceCtorEq, ↓reduceIte, sevalprocAttr, encs])
    | refine aw_exit ?_
    | refine aw_ret ?_
    | refine aw_skip ?_
    | refine aw_label ?_
    | refine condc_t ?_
    | refine condc_f ?_
    | (refine aw_cond2 (by simp -implicitDefEqProofs only [avm, reduceCtorEq, ↓reduceIte, sevalprocAttr, encs]; rfl) ?_)
    | ((first | refine gkc_fork ?_ ?_ | refine pkc_fork ?_ ?_ | refine condc_fork ?_ ?_) <;> intro hq <;> (first | contradiction | simp -implicitDefEqProofs only [eq_false hq, Decidable.not_not, avm, reduceCtorEq, ↓reduceIte, sevalprocAttr, encs] at h ⊢ | simp -implicitDefEqProofs only [eq_true hq, avm, reduceCtorEq, ↓reduceIte, sevalprocAttr, encs] at h ⊢))
    | ((first | refine gkc_split ?_ ?_ | refine pkc_split ?_ ?_ | refine condc_bool ?_ ?_) <;> intro hq <;> (first | exact bcontra (by assumption) hq | exact bcontra hq (by assumption) | simp -implicitDefEqProofs only [hq, avm, reduceCtorEq, ↓reduceIte, sevalprocAttr, encs] at h ⊢))
    | (refine bd_go h fun y hy h => ?_
       refine apc hy (by first | rfl | (simp -implicitDefEqProofs only [avm, reduceCtorEq, ↓reduceIte, sevalprocAttr, encs]; done)) (by first | rfl | (simp -implicitDefEqProofs only [avm, reduceCtorEq, ↓reduceIte, sevalprocAttr, encs]; done)) (by first | exact .inl rfl | exact .inr rfl) (by first | exact .inl rfl | exact .inr rfl) (by simp only [apTag, List.getElem?_cons_zero, List.getElem?_cons_succ, ↓reduceIte, List.set_cons_zero, List.set_cons_succ, List.nil_append, List.cons_append, List.length_nil, List.length_cons, sevalprocAttr]; rfl) ?_
       simp -implicitDefEqProofs only [avm, reduceCtorEq, ↓reduceIte, sevalprocAttr, encs])
    | (refine bd_go h fun y hy h => ?_; (first | refine slc_max hy rfl (.inl rfl) asn_none ?_ | refine slc_max hy rfl (.inl rfl) (asn_some (by first | decide | omega)) ?_ | refine slc11 hy rfl (.inl rfl) ?_ | refine slc01 hy rfl (.inl rfl) ?_ | refine slc10 hy rfl (.inl rfl) ?_ | refine slc00 hy rfl (.inl rfl) ?_ | refine slc11 hy rfl (.inr rfl) ?_ | refine slc01 hy rfl (.inr rfl) ?_ | refine slc10 hy rfl (.inr rfl) ?_ | refine slc00 hy rfl (.inr rfl) ?_); simp -implicitDefEqProofs only [avm, reduceCtorEq, ↓reduceIte, sevalprocAttr, encs])
    | (refine nn_go h fun hb h => ?_; simp -implicitDefEqProofs only [eq_false hb, avm, reduceCtorEq, ↓reduceIte, sevalprocAttr, encs] at h ⊢)
    | (first | refine kn6 ⟨_, h, ?_⟩ | refine kn5 ⟨_, h, ?_⟩
       try simp -implicitDefEqProofs only [pats, avm, reduceCtorEq, ↓reduceIte, sevalprocAttr, encs]
       (first
          | (refine wk_m 0 _ rfl ?_ rfl rfl ?_ ?_ ?_ ?_
             iterate 3 (first | exact Nat.zero_le _ | exact Nat.le_refl _ | (focus (simp; done)))
             all_goals (repeat' (first | exact trivial | apply And.intro))
             all_goals first | exact rfl | exact wkc_FL | exact wka_full | exact wka_full0 | exact .same _ rfl | exact wka_imm | exact wka_app (by decide) | exact wka_tag (by decide) rfl | exact wka_tagn (by decide) rfl | exact wka_tagr (by decide) rfl (by simp only [prs]) | exact wka_immn | (refine .imm _ _ _ _ (.inl rfl) (okBL_pur ?_); simp only [prs]; done) | exact wka_tag0 (by decide) rfl | exact wka_imm0 | exact wka_pur (Enc.pure_enc _) | exact wka_pur pur_enc_sl | exact wka_pur pur_enc_fl | exact .und _ | (refine wka_pur ?_; simp only [prs]; done) | (refine .same _ ?_; simp only [okB, okBL, okBL_enc, Bool.and_self, Bool.and_true, decide_true, sevalprocAttr]; done) | (refine .le _ _ ?_ (okB_pur ?_); (focus (repeat' (first | exact le_same _ | exact le_enc | exact le_nil | exact le_imm (.inl rfl) | exact le_imm (.inr rfl) | refine le_agg ?_ | exact trivial | apply And.intro))); (simp only [prs]; done)))
          | (refine wk_m 1 _ rfl ?_ rfl rfl ?_ ?_ ?_ ?_
             iterate 3 (first | exact Nat.zero_le _ | exact Nat.le_refl _ | (focus (simp; done)))
             all_goals (repeat' (first | exact trivial | apply And.intro))
             all_goals first | exact rfl | exact wkc_FL | exact wka_full | exact wka_full0 | exact .same _ rfl | exact wka_imm | exact wka_app (by decide) | exact wka_tag (by decide) rfl | exact wka_tagn (by decide) rfl | exact wka_tagr (by decide) rfl (by simp only [prs]) | exact wka_immn | (refine .imm _ _ _ _ (.inl rfl) (okBL_pur ?_); simp only [prs]; done) | exact wka_tag0 (by decide) rfl | exact wka_imm0 | exact wka_pur (Enc.pure_enc _) | exact wka_pur pur_enc_sl | exact wka_pur pur_enc_fl | exact .und _ | (refine wka_pur ?_; simp only [prs]; done) | (refine .same _ ?_; simp only [okB, okBL, okBL_enc, Bool.and_self, Bool.and_true, decide_true, sevalprocAttr]; done) | (refine .le _ _ ?_ (okB_pur ?_); (focus (repeat' (first | exact le_same _ | exact le_enc | exact le_nil | exact le_imm (.inl rfl) | exact le_imm (.inr rfl) | refine le_agg ?_ | exact trivial | apply And.intro))); (simp only [prs]; done)))))
    | (first | refine kn6 ⟨_, h, ?_⟩ | refine kn5 ⟨_, h, ?_⟩
       try simp -implicitDefEqProofs only [*, pats, avm, reduceCtorEq, ↓reduceIte, sevalprocAttr, encs]
       (first
          | (refine wk_m 0 _ rfl ?_ rfl rfl ?_ ?_ ?_ ?_
             iterate 3 (first | exact Nat.zero_le _ | exact Nat.le_refl _ | (focus (simp; done)))
             all_goals (repeat' (first | exact trivial | apply And.intro))
             all_goals first | exact rfl | exact wkc_FL | exact wka_full | exact wka_full0 | exact .same _ rfl | exact wka_imm | exact wka_app (by decide) | exact wka_tag (by decide) rfl | exact wka_tagn (by decide) rfl | exact wka_tagr (by decide) rfl (by simp only [prs]) | exact wka_immn | (refine .imm _ _ _ _ (.inl rfl) (okBL_pur ?_); simp only [prs]; done) | exact wka_tag0 (by decide) rfl | exact wka_imm0 | exact wka_pur (Enc.pure_enc _) | exact wka_pur pur_enc_sl | exact wka_pur pur_enc_fl | exact .und _ | (refine wka_pur ?_; simp only [prs]; done) | (refine .same _ ?_; simp only [okB, okBL, okBL_enc, Bool.and_self, Bool.and_true, decide_true, sevalprocAttr]; done) | (refine .le _ _ ?_ (okB_pur ?_); (focus (repeat' (first | exact le_same _ | exact le_enc | exact le_nil | exact le_imm (.inl rfl) | exact le_imm (.inr rfl) | refine le_agg ?_ | exact trivial | apply And.intro))); (simp only [prs]; done)))
          | (refine wk_m 1 _ rfl ?_ rfl rfl ?_ ?_ ?_ ?_
             iterate 3 (first | exact Nat.zero_le _ | exact Nat.le_refl _ | (focus (simp; done)))
             all_goals (repeat' (first | exact trivial | apply And.intro))
             all_goals first | exact rfl | exact wkc_FL | exact wka_full | exact wka_full0 | exact .same _ rfl | exact wka_imm | exact wka_app (by decide) | exact wka_tag (by decide) rfl | exact wka_tagn (by decide) rfl | exact wka_tagr (by decide) rfl (by simp only [prs]) | exact wka_immn | (refine .imm _ _ _ _ (.inl rfl) (okBL_pur ?_); simp only [prs]; done) | exact wka_tag0 (by decide) rfl | exact wka_imm0 | exact wka_pur (Enc.pure_enc _) | exact wka_pur pur_enc_sl | exact wka_pur pur_enc_fl | exact .und _ | (refine wka_pur ?_; simp only [prs]; done) | (refine .same _ ?_; simp only [okB, okBL, okBL_enc, Bool.and_self, Bool.and_true, decide_true, sevalprocAttr]; done) | (refine .le _ _ ?_ (okB_pur ?_); (focus (repeat' (first | exact le_same _ | exact le_enc | exact le_nil | exact le_imm (.inl rfl) | exact le_imm (.inr rfl) | refine le_agg ?_ | exact trivial | apply And.intro))); (simp only [prs]; done)))))
    | (cases h
       try simp -implicitDefEqProofs only [avm, reduceCtorEq, ↓reduceIte, sevalprocAttr, encs]
       first | refine retLt (by first | exact .inr rfl | exact .inl rfl) (by rfl) ?_ | refine retL1 (by first | exact .inr rfl | exact .inl rfl) (by rfl) ?_
       repeat' (first | exact trivial | apply And.intro)
       all_goals first | exact .same _ rfl | exact reta_imm | exact reta_nil | (refine .imm _ _ _ ?_; simp only [prs]; done) | exact .same _ (Enc.pure_enc _) | exact .same _ pur_enc_sl | exact .same _ pur_enc_fl | (refine .same _ ?_; simp only [prs]; done) | (refine .le _ _ ?_ ?_; (focus (repeat' (first | exact le_same _ | exact le_enc | exact le_nil | exact le_imm (.inl rfl) | exact le_imm (.inr rfl) | refine le_agg ?_ | exact trivial | apply And.intro))); (simp only [prs]; done)))
    | fail)
theorem a_octet_Put_app {a0 : (List UInt8)} {a1 : Int} {a2 : Int} {r : (List UInt8)} (h : m_octet_Put a0 a1 a2 = some r) (hc : ¬ (a2 < 1 ∨ a2 > 4)) : ACt Tryd.prog 42 [Enc.enc a0, Enc.enc a1, Enc.enc a2] (.slice (.app 0) 1 (List.map Enc.enc r)) [(5, r.length)] := by
  refine act_of p_octet_Put (by simp [c_octet_Put]) ?_
  show AW _ b_octet_Put (RetOk [.tmp 6] _ _) { n := 39, tm := [(0, _), (1, _), (2, _)], box := [], fr := [] }
  unfold b_octet_Put
  unfold m_octet_Put at h
  try simp -implicitDefEqProofs only [avm, reduceCtorEq, ↓reduceIte, sevalprocAttr, encs] at h
  repeat' (first
    | (refine (hκ _).mpr ?_; clear hκ)
    | refine kn1 ?_
    | refine kr1 ?_
    | refine ke1 ?_
    | refine kn2 ?_
    | refine kr2 ?_
    | refine kx2 ?_
    | refine ke2 rfl ?_
    | refine kr5 ?_
    | refine ke5 ?_
    | refine kr6 ?_
    | refine ke6 ?_
    | (refine w_loopm [1, 2, 22] (fun (j : ((List UInt8) × Int)) => [(7, (.slice (.app 0) 1 (List.map Enc.enc j.1))), (23, (.int .i64 j.2))]) (fun (j : ((List UInt8) × Int)) => []) (fun (j : ((List UInt8) × Int)) => []) (fun (j : ((List UInt8) × Int)) => [(5, j.1.length)]) (show loopC (s_octet_Put1 _ _) _ BIG _ = some _ from h) ?_ ?_
       · try simp -implicitDefEqProofs only [pats, avm, reduceCtorEq, ↓reduceIte, sevalprocAttr, encs]
         (first
          | (refine wk_m 0 _ rfl ?_ rfl rfl ?_ ?_ ?_ ?_
             iterate 3 (first | exact Nat.zero_le _ | exact Nat.le_refl _ | (focus (simp; done)))
             all_goals (repeat' (first | exact trivial | apply And.intro))
             all_goals first | exact rfl | exact wkc_FL | exact wka_full | exact wka_full0 | exact .same _ rfl | exact wka_imm | exact wka_app (by decide) | exact wka_tag (by decide) rfl | exact wka_tagn (by decide) rfl | exact wka_tagr (by decide) rfl (by simp only [prs]) | exact wka_immn | (refine .imm _ _ _ _ (.inl rfl) (okBL_pur ?_); simp only [prs]; done) | exact wka_tag0 (by decide) rfl | exact wka_imm0 | exact wka_pur (Enc.pure_enc _) | exact wka_pur pur_enc_sl | exact wka_pur pur_enc_fl | exact .und _ | (refine wka_pur ?_; simp only [prs]; done) | (refine .same _ ?_; simp only [okB, okBL, okBL_enc, Bool.and_self, Bool.and_true, decide_true, sevalprocAttr]; done) | (refine .le _ _ ?_ (okB_pur ?_); (focus (repeat' (first | exact le_same _ | exact le_enc | exact le_nil | exact le_imm (.inl rfl) | exact le_imm (.inr rfl) | refine le_agg ?_ | exact trivial | apply And.intro))); (simp only [prs]; done))))
       clear h
       intro n st h
       simp -implicitDefEqProofs only [s_octet_Put1.eq_1, pats, avm, reduceCtorEq, ↓reduceIte, sevalprocAttr, encs] at h ⊢)
    | refine w_seq ?_
    | refine w_block ?_
    | refine w_scope ?_
    | refine kn7 ?_
    | refine kr7 ?_
    | refine ke7 ?_
    | (refine aw_regk fun κ hκ => ?_; simp -implicitDefEqProofs only [avm, reduceCtorEq, ↓reduceIte, sevalprocAttr, encs])
    | (cases h; exact aw_ret_full rfl rfl rfl)
    | refine aw_exit ?_
    | refine aw_ret ?_
    | refine aw_skip ?_
    | refine aw_label ?_
    | refine condc_t ?_
    | refine condc_f ?_
    | (refine aw_cond2 (by simp -implicitDefEqProofs only [avm, reduceCtorEq, ↓reduceIte, sevalprocAttr, encs]; rfl) ?_)
    | ((first | refine gkc_fork ?_ ?_ | refine pkc_fork ?_ ?_ | refine condc_fork ?_ ?_) <;> intro hq <;> (first | contradiction | simp -implicitDefEqProofs only [eq_false hq, Decidable.not_not, avm, reduceCtorEq, ↓reduceIte, sevalprocAttr, encs] at h ⊢ | simp -implicitDefEqProofs only [eq_true hq, avm, reduceCtorEq, ↓reduceIte, sevalprocAttr, encs] at h ⊢))
    | ((first | refine gkc_split ?_ ?_ | refine pkc_split ?_ ?_ | refine condc_bool ?_ ?_) <;> intro hq <;> (first | exact bcontra (by assumption) hq | exact bcontra hq (by assumption) | simp -implicitDefEqProofs only [hq, avm, reduceCtorEq, ↓reduceIte, sevalprocAttr, encs] at h ⊢))
    | (refine bd_go h fun y hy h => ?_
       refine apc hy (by first | rfl | (simp -implicitDefEqProofs only [avm, reduceCtorEq, ↓reduceIte, sevalprocAttr, encs]; done)) (by first | rfl | (simp -implicitDefEqProofs only [avm, reduceCtorEq, ↓reduceIte, sevalprocAttr, encs]; done)) (by first | exact .inl rfl | exact .inr rfl) (by first | exact .inl rfl | exact .inr rfl) (by simp only [apTag, List.getElem?_cons_zero, List.getElem?_cons_succ, ↓reduceIte, List.set_cons_zero, List.set_cons_succ, List.nil_append, List.cons_append, List.length_nil, List.length_cons, sevalprocAttr]; rfl) ?_
       simp -implicitDefEqProofs only [avm, reduceCtorEq, ↓reduceIte, sevalprocAttr, encs])
    | (refine bd_go h fun y hy h => ?_; (first | refine slc_max hy rfl (.inl rfl) asn_none ?_ | refine slc_max hy rfl (.inl rfl) (asn_some (by first | decide | omega)) ?_ | refine slc11 hy rfl (.inl rfl) ?_ | refine slc01 hy rfl (.inl rfl) ?_ | refine slc10 hy rfl (.inl rfl) ?_ | refine slc00 hy rfl (.inl rfl) ?_ | refine slc11 hy rfl (.inr rfl) ?_ | refine slc01 hy rfl (.inr rfl) ?_ | refine slc10 hy rfl (.inr rfl) ?_ | refine slc00 hy rfl (.inr rfl) ?_); simp -implicitDefEqProofs only [avm, reduceCtorEq, ↓reduceIte, sevalprocAttr, encs])
    | (refine nn_go h fun hb h => ?_; simp -implicitDefEqProofs only [eq_false hb, avm, reduceCtorEq, ↓reduceIte, sevalprocAttr, encs] at h ⊢)
    | (first | refine kn6 ⟨_, h, ?_⟩ | refine kn5 ⟨_, h, ?_⟩
       try simp -implicitDefEqProofs only [pats, avm, reduceCtorEq, ↓reduceIte, sevalprocAttr, encs]
       (first
          | (refine wk_m 0 _ rfl ?_ rfl rfl ?_ ?_ ?_ ?_
             iterate 3 (first | exact Nat.zero_le _ | exact Nat.le_refl _ | (focus (simp; done)))
             all_goals (repeat' (first | exact trivial | apply And.intro))
             all_goals first | exact rfl | exact wkc_FL | exact wka_full | exact wka_full0 | exact .same _ rfl | exact wka_imm | exact wka_app (by decide) | exact wka_tag (by decide) rfl | exact wka_tagn (by decide) rfl | exact wka_tagr (by decide) rfl (by simp only [prs]) | exact wka_immn | (refine .imm _ _ _ _ (.inl rfl) (okBL_pur ?_); simp only [prs]; done) | exact wka_tag0 (by decide) rfl | exact wka_imm0 | exact wka_pur (Enc.pure_enc _) | exact wka_pur pur_enc_sl | exact wka_pur pur_enc_fl | exact .und _ | (refine wka_pur ?_; simp only [prs]; done) | (refine .same _ ?_; simp only [okB, okBL, okBL_enc, Bool.and_self, Bool.and_true, decide_true, sevalprocAttr]; done) | (refine .le _ _ ?_ (okB_pur ?_); (focus (repeat' (first | exact le_same _ | exact le_enc | exact le_nil | exact le_imm (.inl rfl) | exact le_imm (.inr rfl) | refine le_agg ?_ | exact trivial | apply And.intro))); (simp only [prs]; done)))
          | (refine wk_m 1 _ rfl ?_ rfl rfl ?_ ?_ ?_ ?_
             iterate 3 (first | exact Nat.zero_le _ | exact Nat.le_refl _ | (focus (simp; done)))
             all_goals (repeat' (first | exact trivial | apply And.intro))
             all_goals first | exact rfl | exact wkc_FL | exact wka_full | exact wka_full0 | exact .same _ rfl | exact wka_imm | exact wka_app (by decide) | exact wka_tag (by decide) rfl | exact wka_tagn (by decide) rfl | exact wka_tagr (by decide) rfl (by simp only [prs]) | exact wka_immn | (refine .imm _ _ _ _ (.inl rfl) (okBL_pur ?_); simp only [prs]; done) | exact wka_tag0 (by decide) rfl | exact wka_imm0 | exact wka_pur (Enc.pure_enc _) | exact wka_pur pur_enc_sl | exact wka_pur pur_enc_fl | exact .und _ | (refine wka_pur ?_; simp only [prs]; done) | (refine .same _ ?_; simp only [okB, okBL, okBL_enc, Bool.and_self, Bool.and_true, decide_true, sevalprocAttr]; done) | (refine .le _ _ ?_ (okB_pur ?_); (focus (repeat' (first | exact le_same _ | exact le_enc | exact le_nil | exact le_imm (.inl rfl) | exact le_imm (.inr rfl) | refine le_agg ?_ | exact trivial | apply And.intro))); (simp only [prs]; done)))))
    | (first | refine kn6 ⟨_, h, ?_⟩ | refine kn5 ⟨_, h, ?_⟩
       try simp -implicitDefEqProofs only [*, pats, avm, reduceCtorEq, ↓reduceIte, sevalprocAttr, encs]
       (first
          | (refine wk_m 0 _ rfl ?_ rfl rfl ?_ ?_ ?_ ?_
             iterate 3 (first | exact Nat.zero_le _ | exact Nat.le_refl _ | (focus (simp; done)))
             all_goals (repeat' (first | exact trivial | apply And.intro))
             all_goals first | exact rfl | exact wkc_FL | exact wka_full | exact wka_full0 | exact .same _ rfl | exact wka_imm | exact wka_app (by decide) | exact wka_tag (by decide) rfl | exact wka_tagn (by decide) rfl | exact wka_tagr (by decide) rfl (by simp only [prs]) | exact wka_immn | (refine .imm _ _ _ _ (.inl rfl) (okBL_pur ?_); simp only [prs]; done) | exact wka_tag0 (by decide) rfl | exact wka_imm0 | exact wka_pur (Enc.pure_enc _) | exact wka_pur pur_enc_sl | exact wka_pur pur_enc_fl | exact .und _ | (refine wka_pur ?_; simp only [prs]; done) | (refine .same _ ?_; simp only [okB, okBL, okBL_enc, Bool.and_self, Bool.and_true, decide_true, sevalprocAttr]; done) | (refine .le _ _ ?_ (okB_pur ?_); (focus (repeat' (first | exact le_same _ | exact le_enc | exact le_nil | exact le_imm (.inl rfl) | exact le_imm (.inr rfl) | refine le_agg ?_ | exact trivial | apply And.intro))); (simp only [prs]; done)))
          | (refine wk_m 1 _ rfl ?_ rfl rfl ?_ ?_ ?_ ?_
             iterate 3 (first | exact Nat.zero_le _ | exact Nat.le_refl _ | (focus (simp; done)))
             all_goals (repeat' (first | exact trivial | apply And.intro))
             all_goals first | exact rfl | exact wkc_FL | exact wka_full | exact wka_full0 | exact .same _ rfl | exact wka_imm | exact wka_app (by decide) | exact wka_tag (by decide) rfl | exact wka_tagn (by decide) rfl | exact wka_tagr (by decide) rfl (by simp only [prs]) | exact wka_immn | (refine .imm _ _ _ _ (.inl rfl) (okBL_pur ?_); simp only [prs]; done) | exact wka_tag0 (by decide) rfl | exact wka_imm0 | exact wka_pur (Enc.pure_enc _) | exact wka_pur pur_enc_sl | exact wka_pur pur_enc_fl | exact .und _ | (refine wka_pur ?_; simp only [prs]; done) | (refine .same _ ?_; simp only [okB, okBL, okBL_enc, Bool.and_self, Bool.and_true, decide_true, sevalprocAttr]; done) | (refine .le _ _ ?_ (okB_pur ?_); (focus (repeat' (first | exact le_same _ | exact le_enc | exact le_nil | exact le_imm (.inl rfl) | exact le_imm (.inr rfl) | refine le_agg ?_ | exact trivial | apply And.intro))); (simp only [prs]; done)))))
    | (exfalso; first | exact hc.1 hq | omega)
    | (cases h
       (exact ret_app rfl rfl (purL_enc _)))
    | fail)
theorem a_prefix_Put {a0 : (List UInt8)} {a1 : Prefix} {r : (List UInt8)} (h : m_prefix_Put a0 a1 = some r) : ACt Tryd.prog 26 [Enc.enc a0, Enc.enc a1] (Enc.enc r) [] := by
  refine act_of p_prefix_Put (by simp [c_prefix_Put]) ?_
  show AW _ b_prefix_Put (RetOk [.tmp 4] _ _) { n := 25, tm := [(0, _), (1, _)], box := [], fr := [] }
  unfold b_prefix_Put
  unfold m_prefix_Put at h
  try simp -implicitDefEqProofs only [avm, reduceCtorEq, ↓reduceIte, sevalprocAttr, encs] at h
  repeat' (first
    | (refine (hκ _).mpr ?_; clear hκ)
    | refine kn1 ?_
    | refine kr1 ?_
    | refine ke1 ?_
    | refine kn2 ?_
    | refine kr2 ?_
    | refine kx2 ?_
    | refine ke2 rfl ?_
    | refine kr5 ?_
    | refine ke5 ?_
    | refine kr6 ?_
    | refine ke6 ?_
    | refine w_seq ?_
    | refine w_block ?_
    | refine w_scope ?_
    | refine kn7 ?_
    | refine kr7 ?_
    | refine ke7 ?_
    | (refine aw_regk fun κ hκ => ?_; simp -implicitDefEqProofs only [avm, reduceCtorEq, ↓reduceIte, sevalprocAttr, encs])
    | refine aw_exit ?_
    | refine aw_ret ?_
    | refine aw_skip ?_
    | refine aw_label ?_
    | refine condc_t ?_
    | refine condc_f ?_
    | (refine aw_cond2 (by simp -implicitDefEqProofs only [avm, reduceCtorEq, ↓reduceIte, sevalprocAttr, encs]; rfl) ?_)
    | ((first | refine gkc_fork ?_ ?_ | refine pkc_fork ?_ ?_ | refine condc_fork ?_ ?_) <;> intro hq <;> (first | contradiction | simp -implicitDefEqProofs only [eq_false hq, Decidable.not_not, avm, reduceCtorEq, ↓reduceIte, sevalprocAttr, encs] at h ⊢ | simp -implicitDefEqProofs only [eq_true hq, avm, reduceCtorEq, ↓reduceIte, sevalprocAttr, encs] at h ⊢))
    | ((first | refine gkc_split ?_ ?_ | refine pkc_split ?_ ?_ | refine condc_bool ?_ ?_) <;> intro hq <;> (first | exact bcontra (by assumption) hq | exact bcontra hq (by assumption) | simp -implicitDefEqProofs only [hq, avm, reduceCtorEq, ↓reduceIte, sevalprocAttr, encs] at h ⊢))
    | (refine bd_go h fun y hy h => ?_
       first | refine callsc (a_prefix_Sane hy) ?_ ?_ | refine callc (a_prefix_Sane hy) ?_ ?_ | ((first | refine callsc (act_le (a_prefix_Sane hy) ?_) ?_ ?_ | refine callc (act_le (a_prefix_Sane hy) ?_) ?_ ?_); (focus (repeat' (first | exact trivial | exact le_same _ | exact le_enc | exact le_nil | exact le_imm (.inl rfl) | exact le_imm (.inr rfl) | (refine le_agg ?_) | apply And.intro | (refine le_eq ?_; simp only [*]; done)))))
       focus (first | rfl | (simp only [purL, pur, purL_enc, Enc.pure_enc, Bool.and_self, Bool.and_true]; done))
       simp -implicitDefEqProofs only [avm, reduceCtorEq, ↓reduceIte, sevalprocAttr, encs])
    | (refine bd_go h fun y hy h => ?_
       first | refine callsc (a_prefix_size hy) ?_ ?_ | refine callc (a_prefix_size hy) ?_ ?_ | ((first | refine callsc (act_le (a_prefix_size hy) ?_) ?_ ?_ | refine callc (act_le (a_prefix_size hy) ?_) ?_ ?_); (focus (repeat' (first | exact trivial | exact le_same _ | exact le_enc | exact le_nil | exact le_imm (.inl rfl) | exact le_imm (.inr rfl) | (refine le_agg ?_) | apply And.intro | (refine le_eq ?_; simp only [*]; done)))))
       focus (first | rfl | (simp only [purL, pur, purL_enc, Enc.pure_enc, Bool.and_self, Bool.and_true]; done))
       simp -implicitDefEqProofs only [avm, reduceCtorEq, ↓reduceIte, sevalprocAttr, encs])
    | (refine bd_go h fun y hy h => ?_
       first | refine callsc (a_octet_Put_app hy (by decide)) ?_ ?_ | refine callc (a_octet_Put_app hy (by decide)) ?_ ?_ | ((first | refine callsc (act_le (a_octet_Put_app hy (by decide)) ?_) ?_ ?_ | refine callc (act_le (a_octet_Put_app hy (by decide)) ?_) ?_ ?_); (focus (repeat' (first | exact trivial | exact le_same _ | exact le_enc | exact le_nil | exact le_imm (.inl rfl) | exact le_imm (.inr rfl) | (refine le_agg ?_) | apply And.intro | (refine le_eq ?_; simp only [*]; done)))))
       focus (first | rfl | (simp only [purL, pur, purL_enc, Enc.pure_enc, Bool.and_self, Bool.and_true]; done))
       simp -implicitDefEqProofs only [avm, reduceCtorEq, ↓reduceIte, sevalprocAttr, encs])
    | (refine bd_go h fun y hy h => ?_
       first | refine callsc (a_octet_Put hy) ?_ ?_ | refine callc (a_octet_Put hy) ?_ ?_ | ((first | refine callsc (act_le (a_octet_Put hy) ?_) ?_ ?_ | refine callc (act_le (a_octet_Put hy) ?_) ?_ ?_); (focus (repeat' (first | exact trivial | exact le_same _ | exact le_enc | exact le_nil | exact le_imm (.inl rfl) | exact le_imm (.inr rfl) | (refine le_agg ?_) | apply And.intro | (refine le_eq ?_; simp only [*]; done)))))
       focus (first | rfl | (simp only [purL, pur, purL_enc, Enc.pure_enc, Bool.and_self, Bool.and_true]; done))
       simp -implicitDefEqProofs only [avm, reduceCtorEq, ↓reduceIte, sevalprocAttr, encs])
    | (refine nn_go h fun hb h => ?_; simp -implicitDefEqProofs only [eq_false hb, avm, reduceCtorEq, ↓reduceIte, sevalprocAttr, encs] at h ⊢)
    | (cases h
       try simp -implicitDefEqProofs only [avm, reduceCtorEq, ↓reduceIte, sevalprocAttr, encs]
       first | refine retLt (by first | exact .inr rfl | exact .inl rfl) (by rfl) ?_ | refine retL1 (by first | exact .inr rfl | exact .inl rfl) (by rfl) ?_
       repeat' (first | exact trivial | apply And.intro)
       all_goals first | exact .same _ rfl | exact reta_imm | exact reta_nil | (refine .imm _ _ _ ?_; simp only [prs]; done) | exact .same _ (Enc.pure_enc _) | exact .same _ pur_enc_sl | exact .same _ pur_enc_fl | (refine .same _ ?_; simp only [prs]; done) | (refine .le _ _ ?_ ?_; (focus (repeat' (first | exact le_same _ | exact le_enc | exact le_nil | exact le_imm (.inl rfl) | exact le_imm (.inr rfl) | refine le_agg ?_ | exact trivial | apply And.intro))); (simp only [prs]; done)))
    | fail)
theorem a_ridgewaylaw02_PrefixGot {a0 : (List UInt8)} {r : Bool} (h : m_ridgewaylaw02_PrefixGot a0 = some r) : ACt Tryd.prog 5 [Enc.enc a0] (Enc.enc r) [] := by
  refine act_of p_ridgewaylaw02_PrefixGot (by simp [c_ridgewaylaw02_PrefixGot]) ?_
  show AW _ b_ridgewaylaw02_PrefixGot (RetOk [.tmp 2] _ _) { n := 101, tm := [(0, _)], box := [], fr := [] }
  unfold b_ridgewaylaw02_PrefixGot
  unfold m_ridgewaylaw02_PrefixGot at h
  try simp -implicitDefEqProofs only [avm, reduceCtorEq, ↓reduceIte, sevalprocAttr, encs] at h
  repeat' (first
    | (refine (hκ _).mpr ?_; clear hκ)
    | refine kn1 ?_
    | refine kr1 ?_
    | refine ke1 ?_
    | refine kn2 ?_
    | refine kr2 ?_
    | refine kx2 ?_
    | refine ke2 rfl ?_
    | refine kr5 ?_
    | refine ke5 ?_
    | refine kr6 ?_
    | refine ke6 ?_
    | (refine w_loopm [3, 4] (fun (j : (Bool × (List UInt8) × Int)) => [(5, (.bool j.1)), (6, (.slice .imm 1 (List.map Enc.enc j.2.1))), (7, (.int .i64 j.2.2))]) (fun (j : (Bool × (List UInt8) × Int)) => []) (fun (j : (Bool × (List UInt8) × Int)) => []) (fun (j : (Bool × (List UInt8) × Int)) => []) (show loopC (s_ridgewaylaw02_PrefixGot1 _ _) _ BIG _ = some _ from h) ?_ ?_
       · try simp -implicitDefEqProofs only [pats, avm, reduceCtorEq, ↓reduceIte, sevalprocAttr, encs]
         (first
          | (refine wk_m 1 _ rfl ?_ rfl rfl ?_ ?_ ?_ ?_
             iterate 3 (first | exact Nat.zero_le _ | exact Nat.le_refl _ | (focus (simp; done)))
             all_goals (repeat' (first | exact trivial | apply And.intro))
             all_goals first | exact rfl | exact wkc_FL | exact wka_full | exact wka_full0 | exact .same _ rfl | exact wka_imm | exact wka_app (by decide) | exact wka_tag (by decide) rfl | exact wka_tagn (by decide) rfl | exact wka_tagr (by decide) rfl (by simp only [prs]) | exact wka_immn | (refine .imm _ _ _ _ (.inl rfl) (okBL_pur ?_); simp only [prs]; done) | exact wka_tag0 (by decide) rfl | exact wka_imm0 | exact wka_pur (Enc.pure_enc _) | exact wka_pur pur_enc_sl | exact wka_pur pur_enc_fl | exact .und _ | (refine wka_pur ?_; simp only [prs]; done) | (refine .same _ ?_; simp only [okB, okBL, okBL_enc, Bool.and_self, Bool.and_true, decide_true, sevalprocAttr]; done) | (refine .le _ _ ?_ (okB_pur ?_); (focus (repeat' (first | exact le_same _ | exact le_enc | exact le_nil | exact le_imm (.inl rfl) | exact le_imm (.inr rfl) | refine le_agg ?_ | exact trivial | apply And.intro))); (simp only [prs]; done))))
       clear h
       intro n st h
       simp -implicitDefEqProofs only [s_ridgewaylaw02_PrefixGot1.eq_1, pats, avm, reduceCtorEq, ↓reduceIte, sevalprocAttr, encs] at h ⊢)
    | refine w_seq ?_
    | refine w_block ?_
    | refine w_scope ?_
    | refine kn7 ?_
    | refine kr7 ?_
    | refine ke7 ?_
    | (refine aw_regk fun κ hκ => ?_; simp -implicitDefEqProofs only [avm, reduceCtorEq, ↓reduceIte, sevalprocAttr, encs])
    | refine aw_exit ?_
    | refine aw_ret ?_
    | refine aw_skip ?_
    | refine aw_label ?_
    | refine condc_t ?_
    | refine condc_f ?_
    | (refine aw_cond2 (by simp -implicitDefEqProofs only [avm, reduceCtorEq, ↓reduceIte, sevalprocAttr, encs]; rfl) ?_)
    | ((first | refine gkc_fork ?_ ?_ | refine pkc_fork ?_ ?_ | refine condc_fork ?_ ?_) <;> intro hq <;> (first | contradiction | simp -implicitDefEqProofs only [eq_false hq, Decidable.not_not, avm, reduceCtorEq, ↓reduceIte, sevalprocAttr, encs] at h ⊢ | simp -implicitDefEqProofs only [eq_true hq, avm, reduceCtorEq, ↓reduceIte, sevalprocAttr, encs] at h ⊢))
    | ((first | refine gkc_split ?_ ?_ | refine pkc_split ?_ ?_ | refine condc_bool ?_ ?_) <;> intro hq <;> (first | exact bcontra (by assumption) hq | exact bcontra hq (by assumption) | simp -implicitDefEqProofs only [hq, avm, reduceCtorEq, ↓reduceIte, sevalprocAttr, encs] at h ⊢))
    | (refine stc_plain rfl ?_; simp -implicitDefEqProofs only [putCells.eq_1, avm, reduceCtorEq, ↓reduceIte, sevalprocAttr, encs])
    | (refine bd_go h fun y hy h => ?_; refine ixc hy ?_; simp -implicitDefEqProofs only [avm, reduceCtorEq, ↓reduceIte, sevalprocAttr, encs])
    | (refine bd_go h fun y hy h => ?_
       first | refine callsc (a_ridgewaylaw02_awake hy) ?_ ?_ | refine callc (a_ridgewaylaw02_awake hy) ?_ ?_ | ((first | refine callsc (act_le (a_ridgewaylaw02_awake hy) ?_) ?_ ?_ | refine callc (act_le (a_ridgewaylaw02_awake hy) ?_) ?_ ?_); (focus (repeat' (first | exact trivial | exact le_same _ | exact le_enc | exact le_nil | exact le_imm (.inl rfl) | exact le_imm (.inr rfl) | (refine le_agg ?_) | apply And.intro | (refine le_eq ?_; simp only [*]; done)))))
       focus (first | rfl | (simp only [purL, pur, purL_enc, Enc.pure_enc, Bool.and_self, Bool.and_true]; done))
       simp -implicitDefEqProofs only [avm, reduceCtorEq, ↓reduceIte, sevalprocAttr, encs])
    | (refine bd_go h fun y hy h => ?_
       first | refine callsc (a_prefix_All hy) ?_ ?_ | refine callc (a_prefix_All hy) ?_ ?_ | ((first | refine callsc (act_le (a_prefix_All hy) ?_) ?_ ?_ | refine callc (act_le (a_prefix_All hy) ?_) ?_ ?_); (focus (repeat' (first | exact trivial | exact le_same _ | exact le_enc | exact le_nil | exact le_imm (.inl rfl) | exact le_imm (.inr rfl) | (refine le_agg ?_) | apply And.intro | (refine le_eq ?_; simp only [*]; done)))))
       focus (first | rfl | (simp only [purL, pur, purL_enc, Enc.pure_enc, Bool.and_self, Bool.and_true]; done))
       simp -implicitDefEqProofs only [avm, reduceCtorEq, ↓reduceIte, sevalprocAttr, encs])
    | (refine bd_go h fun y hy h => ?_
       first | refine callsc (a_prefix_Get hy) ?_ ?_ | refine callc (a_prefix_Get hy) ?_ ?_ | ((first | refine callsc (act_le (a_prefix_Get hy) ?_) ?_ ?_ | refine callc (act_le (a_prefix_Get hy) ?_) ?_ ?_); (focus (repeat' (first | exact trivial | exact le_same _ | exact le_enc | exact le_nil | exact le_imm (.inl rfl) | exact le_imm (.inr rfl) | (refine le_agg ?_) | apply And.intro | (refine le_eq ?_; simp only [*]; done)))))
       focus (first | rfl | (simp only [purL, pur, purL_enc, Enc.pure_enc, Bool.and_self, Bool.and_true]; done))
       simp -implicitDefEqProofs only [avm, reduceCtorEq, ↓reduceIte, sevalprocAttr, encs])
    | (refine bd_go h fun y hy h => ?_
       first | refine callsc (a_prefix_Put hy) ?_ ?_ | refine callc (a_prefix_Put hy) ?_ ?_ | ((first | refine callsc (act_le (a_prefix_Put hy) ?_) ?_ ?_ | refine callc (act_le (a_prefix_Put hy) ?_) ?_ ?_); (focus (repeat' (first | exact trivial | exact le_same _ | exact le_enc | exact le_nil | exact le_imm (.inl rfl) | exact le_imm (.inr rfl) | (refine le_agg ?_) | apply And.intro | (refine le_eq ?_; simp only [*]; done)))))
       focus (first | rfl | (simp only [purL, pur, purL_enc, Enc.pure_enc, Bool.and_self, Bool.and_true]; done))
       simp -implicitDefEqProofs only [avm, reduceCtorEq, ↓reduceIte, sevalprocAttr, encs])
    | (refine bd_go h fun y hy h => ?_
       first | refine callsc (a_prefix_Sane hy) ?_ ?_ | refine callc (a_prefix_Sane hy) ?_ ?_ | ((first | refine callsc (act_le (a_prefix_Sane hy) ?_) ?_ ?_ | refine callc (act_le (a_prefix_Sane hy) ?_) ?_ ?_); (focus (repeat' (first | exact trivial | exact le_same _ | exact le_enc | exact le_nil | exact le_imm (.inl rfl) | exact le_imm (.inr rfl) | (refine le_agg ?_) | apply And.intro | (refine le_eq ?_; simp only [*]; done)))))
       focus (first | rfl | (simp only [purL, pur, purL_enc, Enc.pure_enc, Bool.and_self, Bool.and_true]; done))
       simp -implicitDefEqProofs only [avm, reduceCtorEq, ↓reduceIte, sevalprocAttr, encs])
    | (first | refine kn6 ⟨_, h, ?_⟩ | refine kn5 ⟨_, h, ?_⟩
       try simp -implicitDefEqProofs only [pats, avm, reduceCtorEq, ↓reduceIte, sevalprocAttr, encs]
       (first
          | (refine wk_m 1 _ rfl ?_ rfl rfl ?_ ?_ ?_ ?_
             iterate 3 (first | exact Nat.zero_le _ | exact Nat.le_refl _ | (focus (simp; done)))
             all_goals (repeat' (first | exact trivial | apply And.intro))
             all_goals first | exact rfl | exact wkc_FL | exact wka_full | exact wka_full0 | exact .same _ rfl | exact wka_imm | exact wka_app (by decide) | exact wka_tag (by decide) rfl | exact wka_tagn (by decide) rfl | exact wka_tagr (by decide) rfl (by simp only [prs]) | exact wka_immn | (refine .imm _ _ _ _ (.inl rfl) (okBL_pur ?_); simp only [prs]; done) | exact wka_tag0 (by decide) rfl | exact wka_imm0 | exact wka_pur (Enc.pure_enc _) | exact wka_pur pur_enc_sl | exact wka_pur pur_enc_fl | exact .und _ | (refine wka_pur ?_; simp only [prs]; done) | (refine .same _ ?_; simp only [okB, okBL, okBL_enc, Bool.and_self, Bool.and_true, decide_true, sevalprocAttr]; done) | (refine .le _ _ ?_ (okB_pur ?_); (focus (repeat' (first | exact le_same _ | exact le_enc | exact le_nil | exact le_imm (.inl rfl) | exact le_imm (.inr rfl) | refine le_agg ?_ | exact trivial | apply And.intro))); (simp only [prs]; done)))))
    | (first | refine kn6 ⟨_, h, ?_⟩ | refine kn5 ⟨_, h, ?_⟩
       try simp -implicitDefEqProofs only [*, pats, avm, reduceCtorEq, ↓reduceIte, sevalprocAttr, encs]
       (first
          | (refine wk_m 1 _ rfl ?_ rfl rfl ?_ ?_ ?_ ?_
             iterate 3 (first | exact Nat.zero_le _ | exact Nat.le_refl _ | (focus (simp; done)))
             all_goals (repeat' (first | exact trivial | apply And.intro))
             all_goals first | exact rfl | exact wkc_FL | exact wka_full | exact wka_full0 | exact .same _ rfl | exact wka_imm | exact wka_app (by decide) | exact wka_tag (by decide) rfl | exact wka_tagn (by decide) rfl | exact wka_tagr (by decide) rfl (by simp only [prs]) | exact wka_immn | (refine .imm _ _ _ _ (.inl rfl) (okBL_pur ?_); simp only [prs]; done) | exact wka_tag0 (by decide) rfl | exact wka_imm0 | exact wka_pur (Enc.pure_enc _) | exact wka_pur pur_enc_sl | exact wka_pur pur_enc_fl | exact .und _ | (refine wka_pur ?_; simp only [prs]; done) | (refine .same _ ?_; simp only [okB, okBL, okBL_enc, Bool.and_self, Bool.and_true, decide_true, sevalprocAttr]; done) | (refine .le _ _ ?_ (okB_pur ?_); (focus (repeat' (first | exact le_same _ | exact le_enc | exact le_nil | exact le_imm (.inl rfl) | exact le_imm (.inr rfl) | refine le_agg ?_ | exact trivial | apply And.intro))); (simp only [prs]; done)))))
    | (cases h
       try simp -implicitDefEqProofs only [avm, reduceCtorEq, ↓reduceIte, sevalprocAttr, encs]
       first | refine retLt (by first | exact .inr rfl | exact .inl rfl) (by rfl) ?_ | refine retL1 (by first | exact .inr rfl | exact .inl rfl) (by rfl) ?_
       repeat' (first | exact trivial | apply And.intro)
       all_goals first | exact .same _ rfl | exact reta_imm | exact reta_nil | (refine .imm _ _ _ ?_; simp only [prs]; done) | exact .same _ (Enc.pure_enc _) | exact .same _ pur_enc_sl | exact .same _ pur_enc_fl | (refine .same _ ?_; simp only [prs]; done) | (refine .le _ _ ?_ ?_; (focus (repeat' (first | exact le_same _ | exact le_enc | exact le_nil | exact le_imm (.inl rfl) | exact le_imm (.inr rfl) | refine le_agg ?_ | exact trivial | apply And.intro))); (simp only [prs]; done)))
    | fail)
end Go.Proofs.YtppekacobjdhnaaDoor
