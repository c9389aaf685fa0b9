/- Functions compute what their models do. -/
import Derived.Test.YtgakgilaikgboaaLfa
import Derived.Test.YtgakgilaikgboaaAc
import Derived.Test.YtgakgilaikgboaaMt7
namespace Go.Proofs.Ytgakgilaikgboaa
open Go.RowKit
set_option maxHeartbeats 8000000
set_option maxRecDepth 100000
set_option linter.unusedSimpArgs false
set_option linter.unusedVariables false
theorem a_msg_Least {a0 : Int} {r : Int} (h : m_msg_Least a0 = some r) : ACt Try.prog 55 [Enc.enc a0] (Enc.enc r) [] := by
  refine act_of p_msg_Least (by simp [c_msg_Least]) ?_
  show AW _ b_msg_Least (RetOk [.tmp 2] _ _) { n := 22, tm := [(0, _)], box := [], fr := [] }
  unfold b_msg_Least
  unfold m_msg_Least at h
  try simp -implicitDefEqProofs only [avm, reduceCtorEq, ↓reduceIte, sevalprocAttr, enc_Msg, sz_Msg, enc_OpenSaid, sz_OpenSaid, enc_Note, sz_Note, enc_Hello, sz_Hello] at h
  repeat' (first
    | (refine (hκ _).mpr ?_; clear hκ)
    | refine kn1 ?_
    | refine kr1 ?_
    | refine ke1 ?_
    | refine kn2 ?_
    | refine kr2 ?_
    | refine kx2 ?_
    | refine ke2 rfl ?_
    | refine kr5 ?_
    | refine ke5 ?_
    | refine kr6 ?_
    | refine ke6 ?_
    | refine w_seq ?_
    | refine w_block ?_
    | (refine aw_regk fun κ hκ => ?_; simp -implicitDefEqProofs only [avm, reduceCtorEq, ↓reduceIte, sevalprocAttr, enc_Msg, sz_Msg, enc_OpenSaid, sz_OpenSaid, enc_Note, sz_Note, enc_Hello, sz_Hello])
    | refine aw_exit ?_
    | refine aw_ret ?_
    | refine aw_skip ?_
    | refine aw_label ?_
    | refine condc_t ?_
    | refine condc_f ?_
    | (refine aw_cond2 (by simp -implicitDefEqProofs only [avm, reduceCtorEq, ↓reduceIte, sevalprocAttr, enc_Msg, sz_Msg, enc_OpenSaid, sz_OpenSaid, enc_Note, sz_Note, enc_Hello, sz_Hello]; rfl) ?_)
    | ((first | refine gkc_fork ?_ ?_ | refine pkc_fork ?_ ?_ | refine condc_fork ?_ ?_) <;> intro hq <;> (first | contradiction | simp -implicitDefEqProofs only [eq_false hq, Decidable.not_not, avm, reduceCtorEq, ↓reduceIte, sevalprocAttr, enc_Msg, sz_Msg, enc_OpenSaid, sz_OpenSaid, enc_Note, sz_Note, enc_Hello, sz_Hello] at h ⊢ | simp -implicitDefEqProofs only [eq_true hq, avm, reduceCtorEq, ↓reduceIte, sevalprocAttr, enc_Msg, sz_Msg, enc_OpenSaid, sz_OpenSaid, enc_Note, sz_Note, enc_Hello, sz_Hello] at h ⊢))
    | ((first | refine gkc_split ?_ ?_ | refine pkc_split ?_ ?_ | refine condc_bool ?_ ?_) <;> intro hq <;> (simp -implicitDefEqProofs only [hq, avm, reduceCtorEq, ↓reduceIte, sevalprocAttr, enc_Msg, sz_Msg, enc_OpenSaid, sz_OpenSaid, enc_Note, sz_Note, enc_Hello, sz_Hello] at h ⊢))
    | (refine stc_plain rfl ?_; simp -implicitDefEqProofs only [putCells.eq_1, avm, reduceCtorEq, ↓reduceIte, sevalprocAttr, enc_Msg, sz_Msg, enc_OpenSaid, sz_OpenSaid, enc_Note, sz_Note, enc_Hello, sz_Hello])
    | (refine bd_go h fun y hy h => ?_; refine isc hy ?_; simp -implicitDefEqProofs only [avm, reduceCtorEq, ↓reduceIte, sevalprocAttr, enc_Msg, sz_Msg, enc_OpenSaid, sz_OpenSaid, enc_Note, sz_Note, enc_Hello, sz_Hello])
    | (refine bd_go h fun y hy h => ?_; (first | refine ssc hy (asn_some (by first | decide | omega)) (asn_some (by first | decide | omega)) ?_ | refine ssc hy asn_none (asn_some (by first | decide | omega)) ?_ | refine ssc hy asn_none asl_none ?_ | refine ssc hy (asn_some (by first | decide | omega)) asl_none ?_ | refine ssc hy (asn_some (sl_get hy).1.1) asl_none ?_ | refine ssc hy asn_none (asn_some (sl_get hy).1.2.1) ?_ | refine ssc hy (asn_some (sl_get hy).1.1) (asn_some (Int.le_trans (sl_get hy).1.1 (sl_get hy).1.2.1)) ?_); simp -implicitDefEqProofs only [avm, reduceCtorEq, ↓reduceIte, sevalprocAttr, enc_Msg, sz_Msg, enc_OpenSaid, sz_OpenSaid, enc_Note, sz_Note, enc_Hello, sz_Hello])
    | (refine bd_go h fun y hy h => ?_; refine sac hy ?_; simp -implicitDefEqProofs only [avm, reduceCtorEq, ↓reduceIte, sevalprocAttr, enc_Msg, sz_Msg, enc_OpenSaid, sz_OpenSaid, enc_Note, sz_Note, enc_Hello, sz_Hello])
    | (refine bd_go h fun y hy h => ?_; refine ixc hy ?_; simp -implicitDefEqProofs only [avm, reduceCtorEq, ↓reduceIte, sevalprocAttr, enc_Msg, sz_Msg, enc_OpenSaid, sz_OpenSaid, enc_Note, sz_Note, enc_Hello, sz_Hello])
    | (refine bd_go h fun y hy h => ?_
       refine apc hy (by first | rfl | (simp -implicitDefEqProofs only [avm, reduceCtorEq, ↓reduceIte, sevalprocAttr, enc_Msg, sz_Msg, enc_OpenSaid, sz_OpenSaid, enc_Note, sz_Note, enc_Hello, sz_Hello]; done)) (by first | rfl | (simp -implicitDefEqProofs only [avm, reduceCtorEq, ↓reduceIte, sevalprocAttr, enc_Msg, sz_Msg, enc_OpenSaid, sz_OpenSaid, enc_Note, sz_Note, enc_Hello, sz_Hello]; done)) (by first | exact .inl rfl | exact .inr rfl) (by first | exact .inl rfl | exact .inr rfl) (by simp only [apTag, List.getElem?_cons_zero, List.getElem?_cons_succ, ↓reduceIte, List.set_cons_zero, List.set_cons_succ, List.nil_append, List.cons_append, List.length_nil, List.length_cons, sevalprocAttr]; rfl) ?_
       simp -implicitDefEqProofs only [avm, reduceCtorEq, ↓reduceIte, sevalprocAttr, enc_Msg, sz_Msg, enc_OpenSaid, sz_OpenSaid, enc_Note, sz_Note, enc_Hello, sz_Hello])
    | (refine bd_go h fun y hy h => ?_; (first | refine slc_max hy rfl (.inl rfl) asn_none ?_ | refine slc_max hy rfl (.inl rfl) (asn_some (by first | decide | omega)) ?_ | refine slc11 hy rfl (.inl rfl) ?_ | refine slc01 hy rfl (.inl rfl) ?_ | refine slc10 hy rfl (.inl rfl) ?_ | refine slc00 hy rfl (.inl rfl) ?_ | refine slc11 hy rfl (.inr rfl) ?_ | refine slc01 hy rfl (.inr rfl) ?_ | refine slc10 hy rfl (.inr rfl) ?_ | refine slc00 hy rfl (.inr rfl) ?_); simp -implicitDefEqProofs only [avm, reduceCtorEq, ↓reduceIte, sevalprocAttr, enc_Msg, sz_Msg, enc_OpenSaid, sz_OpenSaid, enc_Note, sz_Note, enc_Hello, sz_Hello])
    | (refine nz_go h fun hb h => ?_; simp -implicitDefEqProofs only [eq_false hb, avm, reduceCtorEq, ↓reduceIte, sevalprocAttr, enc_Msg, sz_Msg, enc_OpenSaid, sz_OpenSaid, enc_Note, sz_Note, enc_Hello, sz_Hello] at h ⊢)
    | (refine nn_go h fun hb h => ?_; simp -implicitDefEqProofs only [eq_false hb, avm, reduceCtorEq, ↓reduceIte, sevalprocAttr, enc_Msg, sz_Msg, enc_OpenSaid, sz_OpenSaid, enc_Note, sz_Note, enc_Hello, sz_Hello] at h ⊢)
    | (cases h
       try simp -implicitDefEqProofs only [avm, reduceCtorEq, ↓reduceIte, sevalprocAttr, enc_Msg, sz_Msg, enc_OpenSaid, sz_OpenSaid, enc_Note, sz_Note, enc_Hello, sz_Hello]
       first | refine retLt (by first | exact .inr rfl | exact .inl rfl) (by rfl) ?_ | refine retL1 (by first | exact .inr rfl | exact .inl rfl) (by rfl) ?_
       repeat' (first | exact trivial | apply And.intro)
       all_goals first | exact .same _ rfl | exact reta_imm | exact reta_nil | (refine .imm _ _ _ ?_; simp only [pur, purL, purL_enc, Bool.and_self, Bool.and_true]; done) | exact .same _ (Enc.pure_enc _) | exact .same _ pur_enc_sl | (refine .same _ ?_; simp only [pur, purL, purL_enc, Bool.and_self, Bool.and_true]; done) | (refine .le _ _ ?_ ?_; (focus (repeat' (first | exact le_same _ | exact le_enc | exact le_nil | exact le_imm (.inl rfl) | exact le_imm (.inr rfl) | refine le_agg ?_ | exact trivial | apply And.intro))); (simp only [pur, purL, purL_enc, Bool.and_self, Bool.and_true]; done)))
    | fail)
theorem a_msg_wrong {a0 : Int} {a1 : Int} {r : Bool} (h : m_msg_wrong a0 a1 = some r) : ACt Try.prog 56 [Enc.enc a0, Enc.enc a1] (Enc.enc r) [] := by
  refine act_of p_msg_wrong (by simp [c_msg_wrong]) ?_
  show AW _ b_msg_wrong (RetOk [.tmp 4] _ _) { n := 17, tm := [(0, _), (1, _)], box := [], fr := [] }
  unfold b_msg_wrong
  unfold m_msg_wrong at h
  try simp -implicitDefEqProofs only [avm, reduceCtorEq, ↓reduceIte, sevalprocAttr, enc_Msg, sz_Msg, enc_OpenSaid, sz_OpenSaid, enc_Note, sz_Note, enc_Hello, sz_Hello] at h
  repeat' (first
    | (refine (hκ _).mpr ?_; clear hκ)
    | refine kn1 ?_
    | refine kr1 ?_
    | refine ke1 ?_
    | refine kn2 ?_
    | refine kr2 ?_
    | refine kx2 ?_
    | refine ke2 rfl ?_
    | refine kr5 ?_
    | refine ke5 ?_
    | refine kr6 ?_
    | refine ke6 ?_
    | refine w_seq ?_
    | refine w_block ?_
    | (refine aw_regk fun κ hκ => ?_; simp -implicitDefEqProofs only [avm, reduceCtorEq, ↓reduceIte, sevalprocAttr, enc_Msg, sz_Msg, enc_OpenSaid, sz_OpenSaid, enc_Note, sz_Note, enc_Hello, sz_Hello])
    | refine aw_exit ?_
    | refine aw_ret ?_
    | refine aw_skip ?_
    | refine aw_label ?_
    | refine condc_t ?_
    | refine condc_f ?_
    | (refine aw_cond2 (by simp -implicitDefEqProofs only [avm, reduceCtorEq, ↓reduceIte, sevalprocAttr, enc_Msg, sz_Msg, enc_OpenSaid, sz_OpenSaid, enc_Note, sz_Note, enc_Hello, sz_Hello]; rfl) ?_)
    | ((first | refine gkc_fork ?_ ?_ | refine pkc_fork ?_ ?_ | refine condc_fork ?_ ?_) <;> intro hq <;> (first | contradiction | simp -implicitDefEqProofs only [eq_false hq, Decidable.not_not, avm, reduceCtorEq, ↓reduceIte, sevalprocAttr, enc_Msg, sz_Msg, enc_OpenSaid, sz_OpenSaid, enc_Note, sz_Note, enc_Hello, sz_Hello] at h ⊢ | simp -implicitDefEqProofs only [eq_true hq, avm, reduceCtorEq, ↓reduceIte, sevalprocAttr, enc_Msg, sz_Msg, enc_OpenSaid, sz_OpenSaid, enc_Note, sz_Note, enc_Hello, sz_Hello] at h ⊢))
    | ((first | refine gkc_split ?_ ?_ | refine pkc_split ?_ ?_ | refine condc_bool ?_ ?_) <;> intro hq <;> (simp -implicitDefEqProofs only [hq, avm, reduceCtorEq, ↓reduceIte, sevalprocAttr, enc_Msg, sz_Msg, enc_OpenSaid, sz_OpenSaid, enc_Note, sz_Note, enc_Hello, sz_Hello] at h ⊢))
    | (refine stc_plain rfl ?_; simp -implicitDefEqProofs only [putCells.eq_1, avm, reduceCtorEq, ↓reduceIte, sevalprocAttr, enc_Msg, sz_Msg, enc_OpenSaid, sz_OpenSaid, enc_Note, sz_Note, enc_Hello, sz_Hello])
    | (refine bd_go h fun y hy h => ?_; refine isc hy ?_; simp -implicitDefEqProofs only [avm, reduceCtorEq, ↓reduceIte, sevalprocAttr, enc_Msg, sz_Msg, enc_OpenSaid, sz_OpenSaid, enc_Note, sz_Note, enc_Hello, sz_Hello])
    | (refine bd_go h fun y hy h => ?_; (first | refine ssc hy (asn_some (by first | decide | omega)) (asn_some (by first | decide | omega)) ?_ | refine ssc hy asn_none (asn_some (by first | decide | omega)) ?_ | refine ssc hy asn_none asl_none ?_ | refine ssc hy (asn_some (by first | decide | omega)) asl_none ?_ | refine ssc hy (asn_some (sl_get hy).1.1) asl_none ?_ | refine ssc hy asn_none (asn_some (sl_get hy).1.2.1) ?_ | refine ssc hy (asn_some (sl_get hy).1.1) (asn_some (Int.le_trans (sl_get hy).1.1 (sl_get hy).1.2.1)) ?_); simp -implicitDefEqProofs only [avm, reduceCtorEq, ↓reduceIte, sevalprocAttr, enc_Msg, sz_Msg, enc_OpenSaid, sz_OpenSaid, enc_Note, sz_Note, enc_Hello, sz_Hello])
    | (refine bd_go h fun y hy h => ?_; refine sac hy ?_; simp -implicitDefEqProofs only [avm, reduceCtorEq, ↓reduceIte, sevalprocAttr, enc_Msg, sz_Msg, enc_OpenSaid, sz_OpenSaid, enc_Note, sz_Note, enc_Hello, sz_Hello])
    | (refine bd_go h fun y hy h => ?_; refine ixc hy ?_; simp -implicitDefEqProofs only [avm, reduceCtorEq, ↓reduceIte, sevalprocAttr, enc_Msg, sz_Msg, enc_OpenSaid, sz_OpenSaid, enc_Note, sz_Note, enc_Hello, sz_Hello])
    | (refine bd_go h fun y hy h => ?_
       refine apc hy (by first | rfl | (simp -implicitDefEqProofs only [avm, reduceCtorEq, ↓reduceIte, sevalprocAttr, enc_Msg, sz_Msg, enc_OpenSaid, sz_OpenSaid, enc_Note, sz_Note, enc_Hello, sz_Hello]; done)) (by first | rfl | (simp -implicitDefEqProofs only [avm, reduceCtorEq, ↓reduceIte, sevalprocAttr, enc_Msg, sz_Msg, enc_OpenSaid, sz_OpenSaid, enc_Note, sz_Note, enc_Hello, sz_Hello]; done)) (by first | exact .inl rfl | exact .inr rfl) (by first | exact .inl rfl | exact .inr rfl) (by simp only [apTag, List.getElem?_cons_zero, List.getElem?_cons_succ, ↓reduceIte, List.set_cons_zero, List.set_cons_succ, List.nil_append, List.cons_append, List.length_nil, List.length_cons, sevalprocAttr]; rfl) ?_
       simp -implicitDefEqProofs only [avm, reduceCtorEq, ↓reduceIte, sevalprocAttr, enc_Msg, sz_Msg, enc_OpenSaid, sz_OpenSaid, enc_Note, sz_Note, enc_Hello, sz_Hello])
    | (refine bd_go h fun y hy h => ?_; (first | refine slc_max hy rfl (.inl rfl) asn_none ?_ | refine slc_max hy rfl (.inl rfl) (asn_some (by first | decide | omega)) ?_ | refine slc11 hy rfl (.inl rfl) ?_ | refine slc01 hy rfl (.inl rfl) ?_ | refine slc10 hy rfl (.inl rfl) ?_ | refine slc00 hy rfl (.inl rfl) ?_ | refine slc11 hy rfl (.inr rfl) ?_ | refine slc01 hy rfl (.inr rfl) ?_ | refine slc10 hy rfl (.inr rfl) ?_ | refine slc00 hy rfl (.inr rfl) ?_); simp -implicitDefEqProofs only [avm, reduceCtorEq, ↓reduceIte, sevalprocAttr, enc_Msg, sz_Msg, enc_OpenSaid, sz_OpenSaid, enc_Note, sz_Note, enc_Hello, sz_Hello])
    | (refine bd_go h fun y hy h => ?_
       first | refine callsc (a_msg_Least hy) ?_ ?_ | refine callc (a_msg_Least hy) ?_ ?_ | ((first | refine callsc (act_le (a_msg_Least hy) ?_) ?_ ?_ | refine callc (act_le (a_msg_Least hy) ?_) ?_ ?_); (focus (repeat' (first | exact trivial | exact le_same _ | exact le_enc | exact le_nil | exact le_imm (.inl rfl) | exact le_imm (.inr rfl) | (refine le_agg ?_) | apply And.intro))))
       focus (first | rfl | (simp only [purL, pur, purL_enc, Enc.pure_enc, Bool.and_self, Bool.and_true]; done))
       simp -implicitDefEqProofs only [avm, reduceCtorEq, ↓reduceIte, sevalprocAttr, enc_Msg, sz_Msg, enc_OpenSaid, sz_OpenSaid, enc_Note, sz_Note, enc_Hello, sz_Hello])
    | (refine nz_go h fun hb h => ?_; simp -implicitDefEqProofs only [eq_false hb, avm, reduceCtorEq, ↓reduceIte, sevalprocAttr, enc_Msg, sz_Msg, enc_OpenSaid, sz_OpenSaid, enc_Note, sz_Note, enc_Hello, sz_Hello] at h ⊢)
    | (refine nn_go h fun hb h => ?_; simp -implicitDefEqProofs only [eq_false hb, avm, reduceCtorEq, ↓reduceIte, sevalprocAttr, enc_Msg, sz_Msg, enc_OpenSaid, sz_OpenSaid, enc_Note, sz_Note, enc_Hello, sz_Hello] at h ⊢)
    | (cases h
       try simp -implicitDefEqProofs only [avm, reduceCtorEq, ↓reduceIte, sevalprocAttr, enc_Msg, sz_Msg, enc_OpenSaid, sz_OpenSaid, enc_Note, sz_Note, enc_Hello, sz_Hello]
       first | refine retLt (by first | exact .inr rfl | exact .inl rfl) (by rfl) ?_ | refine retL1 (by first | exact .inr rfl | exact .inl rfl) (by rfl) ?_
       repeat' (first | exact trivial | apply And.intro)
       all_goals first | exact .same _ rfl | exact reta_imm | exact reta_nil | (refine .imm _ _ _ ?_; simp only [pur, purL, purL_enc, Bool.and_self, Bool.and_true]; done) | exact .same _ (Enc.pure_enc _) | exact .same _ pur_enc_sl | (refine .same _ ?_; simp only [pur, purL, purL_enc, Bool.and_self, Bool.and_true]; done) | (refine .le _ _ ?_ ?_; (focus (repeat' (first | exact le_same _ | exact le_enc | exact le_nil | exact le_imm (.inl rfl) | exact le_imm (.inr rfl) | refine le_agg ?_ | exact trivial | apply And.intro))); (simp only [pur, purL, purL_enc, Bool.and_self, Bool.and_true]; done)))
    | fail)
theorem a_msg_Sane {a0 : Msg} {r : Bool} (h : m_msg_Sane a0 = some r) : ACt Try.prog 24 [Enc.enc a0] (Enc.enc r) [] := by
  refine act_of p_msg_Sane (by simp [c_msg_Sane]) ?_
  show AW _ b_msg_Sane (RetOk [.tmp 2] _ _) { n := 24, tm := [(0, _)], box := [], fr := [] }
  unfold b_msg_Sane
  unfold m_msg_Sane at h
  try simp -implicitDefEqProofs only [avm, reduceCtorEq, ↓reduceIte, sevalprocAttr, enc_Msg, sz_Msg, enc_OpenSaid, sz_OpenSaid, enc_Note, sz_Note, enc_Hello, sz_Hello] at h
  repeat' (first
    | (refine (hκ _).mpr ?_; clear hκ)
    | refine kn1 ?_
    | refine kr1 ?_
    | refine ke1 ?_
    | refine kn2 ?_
    | refine kr2 ?_
    | refine kx2 ?_
    | refine ke2 rfl ?_
    | refine kr5 ?_
    | refine ke5 ?_
    | refine kr6 ?_
    | refine ke6 ?_
    | refine w_seq ?_
    | refine w_block ?_
    | (refine aw_regk fun κ hκ => ?_; simp -implicitDefEqProofs only [avm, reduceCtorEq, ↓reduceIte, sevalprocAttr, enc_Msg, sz_Msg, enc_OpenSaid, sz_OpenSaid, enc_Note, sz_Note, enc_Hello, sz_Hello])
    | refine aw_exit ?_
    | refine aw_ret ?_
    | refine aw_skip ?_
    | refine aw_label ?_
    | refine condc_t ?_
    | refine condc_f ?_
    | (refine aw_cond2 (by simp -implicitDefEqProofs only [avm, reduceCtorEq, ↓reduceIte, sevalprocAttr, enc_Msg, sz_Msg, enc_OpenSaid, sz_OpenSaid, enc_Note, sz_Note, enc_Hello, sz_Hello]; rfl) ?_)
    | ((first | refine gkc_fork ?_ ?_ | refine pkc_fork ?_ ?_ | refine condc_fork ?_ ?_) <;> intro hq <;> (first | contradiction | simp -implicitDefEqProofs only [eq_false hq, Decidable.not_not, avm, reduceCtorEq, ↓reduceIte, sevalprocAttr, enc_Msg, sz_Msg, enc_OpenSaid, sz_OpenSaid, enc_Note, sz_Note, enc_Hello, sz_Hello] at h ⊢ | simp -implicitDefEqProofs only [eq_true hq, avm, reduceCtorEq, ↓reduceIte, sevalprocAttr, enc_Msg, sz_Msg, enc_OpenSaid, sz_OpenSaid, enc_Note, sz_Note, enc_Hello, sz_Hello] at h ⊢))
    | ((first | refine gkc_split ?_ ?_ | refine pkc_split ?_ ?_ | refine condc_bool ?_ ?_) <;> intro hq <;> (simp -implicitDefEqProofs only [hq, avm, reduceCtorEq, ↓reduceIte, sevalprocAttr, enc_Msg, sz_Msg, enc_OpenSaid, sz_OpenSaid, enc_Note, sz_Note, enc_Hello, sz_Hello] at h ⊢))
    | (refine stc_plain rfl ?_; simp -implicitDefEqProofs only [putCells.eq_1, avm, reduceCtorEq, ↓reduceIte, sevalprocAttr, enc_Msg, sz_Msg, enc_OpenSaid, sz_OpenSaid, enc_Note, sz_Note, enc_Hello, sz_Hello])
    | (refine bd_go h fun y hy h => ?_; refine isc hy ?_; simp -implicitDefEqProofs only [avm, reduceCtorEq, ↓reduceIte, sevalprocAttr, enc_Msg, sz_Msg, enc_OpenSaid, sz_OpenSaid, enc_Note, sz_Note, enc_Hello, sz_Hello])
    | (refine bd_go h fun y hy h => ?_; (first | refine ssc hy (asn_some (by first | decide | omega)) (asn_some (by first | decide | omega)) ?_ | refine ssc hy asn_none (asn_some (by first | decide | omega)) ?_ | refine ssc hy asn_none asl_none ?_ | refine ssc hy (asn_some (by first | decide | omega)) asl_none ?_ | refine ssc hy (asn_some (sl_get hy).1.1) asl_none ?_ | refine ssc hy asn_none (asn_some (sl_get hy).1.2.1) ?_ | refine ssc hy (asn_some (sl_get hy).1.1) (asn_some (Int.le_trans (sl_get hy).1.1 (sl_get hy).1.2.1)) ?_); simp -implicitDefEqProofs only [avm, reduceCtorEq, ↓reduceIte, sevalprocAttr, enc_Msg, sz_Msg, enc_OpenSaid, sz_OpenSaid, enc_Note, sz_Note, enc_Hello, sz_Hello])
    | (refine bd_go h fun y hy h => ?_; refine sac hy ?_; simp -implicitDefEqProofs only [avm, reduceCtorEq, ↓reduceIte, sevalprocAttr, enc_Msg, sz_Msg, enc_OpenSaid, sz_OpenSaid, enc_Note, sz_Note, enc_Hello, sz_Hello])
    | (refine bd_go h fun y hy h => ?_; refine ixc hy ?_; simp -implicitDefEqProofs only [avm, reduceCtorEq, ↓reduceIte, sevalprocAttr, enc_Msg, sz_Msg, enc_OpenSaid, sz_OpenSaid, enc_Note, sz_Note, enc_Hello, sz_Hello])
    | (refine bd_go h fun y hy h => ?_
       refine apc hy (by first | rfl | (simp -implicitDefEqProofs only [avm, reduceCtorEq, ↓reduceIte, sevalprocAttr, enc_Msg, sz_Msg, enc_OpenSaid, sz_OpenSaid, enc_Note, sz_Note, enc_Hello, sz_Hello]; done)) (by first | rfl | (simp -implicitDefEqProofs only [avm, reduceCtorEq, ↓reduceIte, sevalprocAttr, enc_Msg, sz_Msg, enc_OpenSaid, sz_OpenSaid, enc_Note, sz_Note, enc_Hello, sz_Hello]; done)) (by first | exact .inl rfl | exact .inr rfl) (by first | exact .inl rfl | exact .inr rfl) (by simp only [apTag, List.getElem?_cons_zero, List.getElem?_cons_succ, ↓reduceIte, List.set_cons_zero, List.set_cons_succ, List.nil_append, List.cons_append, List.length_nil, List.length_cons, sevalprocAttr]; rfl) ?_
       simp -implicitDefEqProofs only [avm, reduceCtorEq, ↓reduceIte, sevalprocAttr, enc_Msg, sz_Msg, enc_OpenSaid, sz_OpenSaid, enc_Note, sz_Note, enc_Hello, sz_Hello])
    | (refine bd_go h fun y hy h => ?_; (first | refine slc_max hy rfl (.inl rfl) asn_none ?_ | refine slc_max hy rfl (.inl rfl) (asn_some (by first | decide | omega)) ?_ | refine slc11 hy rfl (.inl rfl) ?_ | refine slc01 hy rfl (.inl rfl) ?_ | refine slc10 hy rfl (.inl rfl) ?_ | refine slc00 hy rfl (.inl rfl) ?_ | refine slc11 hy rfl (.inr rfl) ?_ | refine slc01 hy rfl (.inr rfl) ?_ | refine slc10 hy rfl (.inr rfl) ?_ | refine slc00 hy rfl (.inr rfl) ?_); simp -implicitDefEqProofs only [avm, reduceCtorEq, ↓reduceIte, sevalprocAttr, enc_Msg, sz_Msg, enc_OpenSaid, sz_OpenSaid, enc_Note, sz_Note, enc_Hello, sz_Hello])
    | (refine bd_go h fun y hy h => ?_
       first | refine callsc (a_msg_Least hy) ?_ ?_ | refine callc (a_msg_Least hy) ?_ ?_ | ((first | refine callsc (act_le (a_msg_Least hy) ?_) ?_ ?_ | refine callc (act_le (a_msg_Least hy) ?_) ?_ ?_); (focus (repeat' (first | exact trivial | exact le_same _ | exact le_enc | exact le_nil | exact le_imm (.inl rfl) | exact le_imm (.inr rfl) | (refine le_agg ?_) | apply And.intro))))
       focus (first | rfl | (simp only [purL, pur, purL_enc, Enc.pure_enc, Bool.and_self, Bool.and_true]; done))
       simp -implicitDefEqProofs only [avm, reduceCtorEq, ↓reduceIte, sevalprocAttr, enc_Msg, sz_Msg, enc_OpenSaid, sz_OpenSaid, enc_Note, sz_Note, enc_Hello, sz_Hello])
    | (refine bd_go h fun y hy h => ?_
       first | refine callsc (a_msg_wrong hy) ?_ ?_ | refine callc (a_msg_wrong hy) ?_ ?_ | ((first | refine callsc (act_le (a_msg_wrong hy) ?_) ?_ ?_ | refine callc (act_le (a_msg_wrong hy) ?_) ?_ ?_); (focus (repeat' (first | exact trivial | exact le_same _ | exact le_enc | exact le_nil | exact le_imm (.inl rfl) | exact le_imm (.inr rfl) | (refine le_agg ?_) | apply And.intro))))
       focus (first | rfl | (simp only [purL, pur, purL_enc, Enc.pure_enc, Bool.and_self, Bool.and_true]; done))
       simp -implicitDefEqProofs only [avm, reduceCtorEq, ↓reduceIte, sevalprocAttr, enc_Msg, sz_Msg, enc_OpenSaid, sz_OpenSaid, enc_Note, sz_Note, enc_Hello, sz_Hello])
    | (refine nz_go h fun hb h => ?_; simp -implicitDefEqProofs only [eq_false hb, avm, reduceCtorEq, ↓reduceIte, sevalprocAttr, enc_Msg, sz_Msg, enc_OpenSaid, sz_OpenSaid, enc_Note, sz_Note, enc_Hello, sz_Hello] at h ⊢)
    | (refine nn_go h fun hb h => ?_; simp -implicitDefEqProofs only [eq_false hb, avm, reduceCtorEq, ↓reduceIte, sevalprocAttr, enc_Msg, sz_Msg, enc_OpenSaid, sz_OpenSaid, enc_Note, sz_Note, enc_Hello, sz_Hello] at h ⊢)
    | (cases h
       try simp -implicitDefEqProofs only [avm, reduceCtorEq, ↓reduceIte, sevalprocAttr, enc_Msg, sz_Msg, enc_OpenSaid, sz_OpenSaid, enc_Note, sz_Note, enc_Hello, sz_Hello]
       first | refine retLt (by first | exact .inr rfl | exact .inl rfl) (by rfl) ?_ | refine retL1 (by first | exact .inr rfl | exact .inl rfl) (by rfl) ?_
       repeat' (first | exact trivial | apply And.intro)
       all_goals first | exact .same _ rfl | exact reta_imm | exact reta_nil | (refine .imm _ _ _ ?_; simp only [pur, purL, purL_enc, Bool.and_self, Bool.and_true]; done) | exact .same _ (Enc.pure_enc _) | exact .same _ pur_enc_sl | (refine .same _ ?_; simp only [pur, purL, purL_enc, Bool.and_self, Bool.and_true]; done) | (refine .le _ _ ?_ ?_; (focus (repeat' (first | exact le_same _ | exact le_enc | exact le_nil | exact le_imm (.inl rfl) | exact le_imm (.inr rfl) | refine le_agg ?_ | exact trivial | apply And.intro))); (simp only [pur, purL, purL_enc, Bool.and_self, Bool.and_true]; done)))
    | fail)
theorem a_octet_Take {a0 : (List UInt8)} {a1 : Int} {r : ((List UInt8) × (List UInt8) × Bool)} (h : m_octet_Take a0 a1 = some r) : ACt Try.prog 57 [Enc.enc a0, Enc.enc a1] (.tup [Enc.enc r.1, Enc.enc r.2.1, Enc.enc r.2.2]) [] := by
  refine act_of p_octet_Take (by simp [c_octet_Take]) ?_
  show AW _ b_octet_Take (RetOk [.tmp 4, .tmp 5, .tmp 6] _ _) { n := 22, tm := [(0, _), (1, _)], box := [], fr := [] }
  unfold b_octet_Take
  unfold m_octet_Take at h
  try simp -implicitDefEqProofs only [avm, reduceCtorEq, ↓reduceIte, sevalprocAttr, enc_Msg, sz_Msg, enc_OpenSaid, sz_OpenSaid, enc_Note, sz_Note, enc_Hello, sz_Hello] at h
  repeat' (first
    | (refine (hκ _).mpr ?_; clear hκ)
    | refine kn1 ?_
    | refine kr1 ?_
    | refine ke1 ?_
    | refine kn2 ?_
    | refine kr2 ?_
    | refine kx2 ?_
    | refine ke2 rfl ?_
    | refine kr5 ?_
    | refine ke5 ?_
    | refine kr6 ?_
    | refine ke6 ?_
    | refine w_seq ?_
    | refine w_block ?_
    | (refine aw_regk fun κ hκ => ?_; simp -implicitDefEqProofs only [avm, reduceCtorEq, ↓reduceIte, sevalprocAttr, enc_Msg, sz_Msg, enc_OpenSaid, sz_OpenSaid, enc_Note, sz_Note, enc_Hello, sz_Hello])
    | refine aw_exit ?_
    | refine aw_ret ?_
    | refine aw_skip ?_
    | refine aw_label ?_
    | refine condc_t ?_
    | refine condc_f ?_
    | (refine aw_cond2 (by simp -implicitDefEqProofs only [avm, reduceCtorEq, ↓reduceIte, sevalprocAttr, enc_Msg, sz_Msg, enc_OpenSaid, sz_OpenSaid, enc_Note, sz_Note, enc_Hello, sz_Hello]; rfl) ?_)
    | ((first | refine gkc_fork ?_ ?_ | refine pkc_fork ?_ ?_ | refine condc_fork ?_ ?_) <;> intro hq <;> (first | contradiction | simp -implicitDefEqProofs only [eq_false hq, Decidable.not_not, avm, reduceCtorEq, ↓reduceIte, sevalprocAttr, enc_Msg, sz_Msg, enc_OpenSaid, sz_OpenSaid, enc_Note, sz_Note, enc_Hello, sz_Hello] at h ⊢ | simp -implicitDefEqProofs only [eq_true hq, avm, reduceCtorEq, ↓reduceIte, sevalprocAttr, enc_Msg, sz_Msg, enc_OpenSaid, sz_OpenSaid, enc_Note, sz_Note, enc_Hello, sz_Hello] at h ⊢))
    | ((first | refine gkc_split ?_ ?_ | refine pkc_split ?_ ?_ | refine condc_bool ?_ ?_) <;> intro hq <;> (simp -implicitDefEqProofs only [hq, avm, reduceCtorEq, ↓reduceIte, sevalprocAttr, enc_Msg, sz_Msg, enc_OpenSaid, sz_OpenSaid, enc_Note, sz_Note, enc_Hello, sz_Hello] at h ⊢))
    | (refine stc_plain rfl ?_; simp -implicitDefEqProofs only [putCells.eq_1, avm, reduceCtorEq, ↓reduceIte, sevalprocAttr, enc_Msg, sz_Msg, enc_OpenSaid, sz_OpenSaid, enc_Note, sz_Note, enc_Hello, sz_Hello])
    | (refine bd_go h fun y hy h => ?_; refine isc hy ?_; simp -implicitDefEqProofs only [avm, reduceCtorEq, ↓reduceIte, sevalprocAttr, enc_Msg, sz_Msg, enc_OpenSaid, sz_OpenSaid, enc_Note, sz_Note, enc_Hello, sz_Hello])
    | (refine bd_go h fun y hy h => ?_; (first | refine ssc hy (asn_some (by first | decide | omega)) (asn_some (by first | decide | omega)) ?_ | refine ssc hy asn_none (asn_some (by first | decide | omega)) ?_ | refine ssc hy asn_none asl_none ?_ | refine ssc hy (asn_some (by first | decide | omega)) asl_none ?_ | refine ssc hy (asn_some (sl_get hy).1.1) asl_none ?_ | refine ssc hy asn_none (asn_some (sl_get hy).1.2.1) ?_ | refine ssc hy (asn_some (sl_get hy).1.1) (asn_some (Int.le_trans (sl_get hy).1.1 (sl_get hy).1.2.1)) ?_); simp -implicitDefEqProofs only [avm, reduceCtorEq, ↓reduceIte, sevalprocAttr, enc_Msg, sz_Msg, enc_OpenSaid, sz_OpenSaid, enc_Note, sz_Note, enc_Hello, sz_Hello])
    | (refine bd_go h fun y hy h => ?_; refine sac hy ?_; simp -implicitDefEqProofs only [avm, reduceCtorEq, ↓reduceIte, sevalprocAttr, enc_Msg, sz_Msg, enc_OpenSaid, sz_OpenSaid, enc_Note, sz_Note, enc_Hello, sz_Hello])
    | (refine bd_go h fun y hy h => ?_; refine ixc hy ?_; simp -implicitDefEqProofs only [avm, reduceCtorEq, ↓reduceIte, sevalprocAttr, enc_Msg, sz_Msg, enc_OpenSaid, sz_OpenSaid, enc_Note, sz_Note, enc_Hello, sz_Hello])
    | (refine bd_go h fun y hy h => ?_
       refine apc hy (by first | rfl | (simp -implicitDefEqProofs only [avm, reduceCtorEq, ↓reduceIte, sevalprocAttr, enc_Msg, sz_Msg, enc_OpenSaid, sz_OpenSaid, enc_Note, sz_Note, enc_Hello, sz_Hello]; done)) (by first | rfl | (simp -implicitDefEqProofs only [avm, reduceCtorEq, ↓reduceIte, sevalprocAttr, enc_Msg, sz_Msg, enc_OpenSaid, sz_OpenSaid, enc_Note, sz_Note, enc_Hello, sz_Hello]; done)) (by first | exact .inl rfl | exact .inr rfl) (by first | exact .inl rfl | exact .inr rfl) (by simp only [apTag, List.getElem?_cons_zero, List.getElem?_cons_succ, ↓reduceIte, List.set_cons_zero, List.set_cons_succ, List.nil_append, List.cons_append, List.length_nil, List.length_cons, sevalprocAttr]; rfl) ?_
       simp -implicitDefEqProofs only [avm, reduceCtorEq, ↓reduceIte, sevalprocAttr, enc_Msg, sz_Msg, enc_OpenSaid, sz_OpenSaid, enc_Note, sz_Note, enc_Hello, sz_Hello])
    | (refine bd_go h fun y hy h => ?_; (first | refine slc_max hy rfl (.inl rfl) asn_none ?_ | refine slc_max hy rfl (.inl rfl) (asn_some (by first | decide | omega)) ?_ | refine slc11 hy rfl (.inl rfl) ?_ | refine slc01 hy rfl (.inl rfl) ?_ | refine slc10 hy rfl (.inl rfl) ?_ | refine slc00 hy rfl (.inl rfl) ?_ | refine slc11 hy rfl (.inr rfl) ?_ | refine slc01 hy rfl (.inr rfl) ?_ | refine slc10 hy rfl (.inr rfl) ?_ | refine slc00 hy rfl (.inr rfl) ?_); simp -implicitDefEqProofs only [avm, reduceCtorEq, ↓reduceIte, sevalprocAttr, enc_Msg, sz_Msg, enc_OpenSaid, sz_OpenSaid, enc_Note, sz_Note, enc_Hello, sz_Hello])
    | (refine nz_go h fun hb h => ?_; simp -implicitDefEqProofs only [eq_false hb, avm, reduceCtorEq, ↓reduceIte, sevalprocAttr, enc_Msg, sz_Msg, enc_OpenSaid, sz_OpenSaid, enc_Note, sz_Note, enc_Hello, sz_Hello] at h ⊢)
    | (refine nn_go h fun hb h => ?_; simp -implicitDefEqProofs only [eq_false hb, avm, reduceCtorEq, ↓reduceIte, sevalprocAttr, enc_Msg, sz_Msg, enc_OpenSaid, sz_OpenSaid, enc_Note, sz_Note, enc_Hello, sz_Hello] at h ⊢)
    | (cases h
       try simp -implicitDefEqProofs only [avm, reduceCtorEq, ↓reduceIte, sevalprocAttr, enc_Msg, sz_Msg, enc_OpenSaid, sz_OpenSaid, enc_Note, sz_Note, enc_Hello, sz_Hello]
       first | refine retLt (by first | exact .inr rfl | exact .inl rfl) (by rfl) ?_ | refine retL1 (by first | exact .inr rfl | exact .inl rfl) (by rfl) ?_
       repeat' (first | exact trivial | apply And.intro)
       all_goals first | exact .same _ rfl | exact reta_imm | exact reta_nil | (refine .imm _ _ _ ?_; simp only [pur, purL, purL_enc, Bool.and_self, Bool.and_true]; done) | exact .same _ (Enc.pure_enc _) | exact .same _ pur_enc_sl | (refine .same _ ?_; simp only [pur, purL, purL_enc, Bool.and_self, Bool.and_true]; done) | (refine .le _ _ ?_ ?_; (focus (repeat' (first | exact le_same _ | exact le_enc | exact le_nil | exact le_imm (.inl rfl) | exact le_imm (.inr rfl) | refine le_agg ?_ | exact trivial | apply And.intro))); (simp only [pur, purL, purL_enc, Bool.and_self, Bool.and_true]; done)))
    | fail)
theorem a_octet_Get {a0 : (List UInt8)} {a1 : Int} {r : (Int × (List UInt8) × Bool)} (h : m_octet_Get a0 a1 = some r) : ACt Try.prog 41 [Enc.enc a0, Enc.enc a1] (.tup [Enc.enc r.1, Enc.enc r.2.1, Enc.enc r.2.2]) [] := by
  refine act_of p_octet_Get (by simp [c_octet_Get]) ?_
  show AW _ b_octet_Get (RetOk [.tmp 4, .tmp 5, .tmp 6] _ _) { n := 41, tm := [(0, _), (1, _)], box := [], fr := [] }
  unfold b_octet_Get
  unfold m_octet_Get at h
  try simp -implicitDefEqProofs only [avm, reduceCtorEq, ↓reduceIte, sevalprocAttr, enc_Msg, sz_Msg, enc_OpenSaid, sz_OpenSaid, enc_Note, sz_Note, enc_Hello, sz_Hello] at h
  repeat' (first
    | (refine (hκ _).mpr ?_; clear hκ)
    | refine kn1 ?_
    | refine kr1 ?_
    | refine ke1 ?_
    | refine kn2 ?_
    | refine kr2 ?_
    | refine kx2 ?_
    | refine ke2 rfl ?_
    | refine kr5 ?_
    | refine ke5 ?_
    | refine kr6 ?_
    | refine ke6 ?_
    | (refine w_loopm [8, 9, 26, 27] (fun (j : (Int × Int)) => [(10, (.int .i64 j.1)), (28, (.int .i64 j.2))]) (fun (j : (Int × Int)) => []) (fun (j : (Int × Int)) => []) (fun (j : (Int × Int)) => []) (show loopC (s_octet_Get1 _) _ BIG _ = some _ from h) ?_ ?_
       · try simp -implicitDefEqProofs only [patOf, setB.eq_1, setB.eq_2, setF.eq_1, setF.eq_2, List.map_cons, List.map_nil, List.modify_zero_cons, List.modify_succ_cons, List.set_cons_zero, List.set_cons_succ, List.append_nil, List.nil_append, List.cons_append, avm, reduceCtorEq, ↓reduceIte, sevalprocAttr, enc_Msg, sz_Msg, enc_OpenSaid, sz_OpenSaid, enc_Note, sz_Note, enc_Hello, sz_Hello]
         (first
          | (refine wk_m 0 _ rfl ?_ rfl rfl ?_ ?_ ?_ ?_
             · first | exact Nat.le_refl _ | exact Nat.zero_le _ | (simp; done)
             · first | exact Nat.zero_le _ | exact Nat.le_refl _ | (simp; done)
             · first | exact Nat.zero_le _ | exact Nat.le_refl _ | (simp; done)
             all_goals (repeat' (first | exact trivial | apply And.intro))
             all_goals first | exact rfl | exact .same _ rfl | exact wka_imm | exact wka_app (by decide) | exact wka_tag (by decide) rfl | exact wka_tagn (by decide) rfl | exact wka_tagr (by decide) rfl (by simp only [pur, purL, purL_enc, Bool.and_self, Bool.and_true]) | exact wka_immn | (refine .imm _ _ _ _ (.inl rfl) (okBL_pur ?_); simp only [pur, purL, purL_enc, Bool.and_self, Bool.and_true]; done) | exact wka_tag0 (by decide) rfl | exact wka_imm0 | exact wka_pur (Enc.pure_enc _) | exact wka_pur pur_enc_sl | exact wka_pur pur_enc_fl | exact .und _ | (refine wka_pur ?_; simp only [pur, purL, purL_enc, Bool.and_self, Bool.and_true]; done) | (refine .same _ ?_; simp only [okB, okBL, okBL_enc, Bool.and_self, Bool.and_true, decide_true, sevalprocAttr]; done) | (refine .le _ _ ?_ (okB_pur ?_); (focus (repeat' (first | exact le_same _ | exact le_enc | exact le_nil | exact le_imm (.inl rfl) | exact le_imm (.inr rfl) | refine le_agg ?_ | exact trivial | apply And.intro))); (simp only [pur, purL, purL_enc, Bool.and_self, Bool.and_true]; done))))
       clear h
       intro n st h
       simp -implicitDefEqProofs only [s_octet_Get1.eq_1, patOf, setB.eq_1, setB.eq_2, setF.eq_1, setF.eq_2, List.map_cons, List.map_nil, List.modify_zero_cons, List.modify_succ_cons, List.set_cons_zero, List.set_cons_succ, List.append_nil, List.nil_append, List.cons_append, avm, reduceCtorEq, ↓reduceIte, sevalprocAttr, enc_Msg, sz_Msg, enc_OpenSaid, sz_OpenSaid, enc_Note, sz_Note, enc_Hello, sz_Hello] at h ⊢)
    | refine w_seq ?_
    | refine w_block ?_
    | (refine aw_regk fun κ hκ => ?_; simp -implicitDefEqProofs only [avm, reduceCtorEq, ↓reduceIte, sevalprocAttr, enc_Msg, sz_Msg, enc_OpenSaid, sz_OpenSaid, enc_Note, sz_Note, enc_Hello, sz_Hello])
    | refine aw_exit ?_
    | refine aw_ret ?_
    | refine aw_skip ?_
    | refine aw_label ?_
    | refine condc_t ?_
    | refine condc_f ?_
    | (refine aw_cond2 (by simp -implicitDefEqProofs only [avm, reduceCtorEq, ↓reduceIte, sevalprocAttr, enc_Msg, sz_Msg, enc_OpenSaid, sz_OpenSaid, enc_Note, sz_Note, enc_Hello, sz_Hello]; rfl) ?_)
    | ((first | refine gkc_fork ?_ ?_ | refine pkc_fork ?_ ?_ | refine condc_fork ?_ ?_) <;> intro hq <;> (first | contradiction | simp -implicitDefEqProofs only [eq_false hq, Decidable.not_not, avm, reduceCtorEq, ↓reduceIte, sevalprocAttr, enc_Msg, sz_Msg, enc_OpenSaid, sz_OpenSaid, enc_Note, sz_Note, enc_Hello, sz_Hello] at h ⊢ | simp -implicitDefEqProofs only [eq_true hq, avm, reduceCtorEq, ↓reduceIte, sevalprocAttr, enc_Msg, sz_Msg, enc_OpenSaid, sz_OpenSaid, enc_Note, sz_Note, enc_Hello, sz_Hello] at h ⊢))
    | ((first | refine gkc_split ?_ ?_ | refine pkc_split ?_ ?_ | refine condc_bool ?_ ?_) <;> intro hq <;> (simp -implicitDefEqProofs only [hq, avm, reduceCtorEq, ↓reduceIte, sevalprocAttr, enc_Msg, sz_Msg, enc_OpenSaid, sz_OpenSaid, enc_Note, sz_Note, enc_Hello, sz_Hello] at h ⊢))
    | (refine stc_plain rfl ?_; simp -implicitDefEqProofs only [putCells.eq_1, avm, reduceCtorEq, ↓reduceIte, sevalprocAttr, enc_Msg, sz_Msg, enc_OpenSaid, sz_OpenSaid, enc_Note, sz_Note, enc_Hello, sz_Hello])
    | (refine bd_go h fun y hy h => ?_; refine isc hy ?_; simp -implicitDefEqProofs only [avm, reduceCtorEq, ↓reduceIte, sevalprocAttr, enc_Msg, sz_Msg, enc_OpenSaid, sz_OpenSaid, enc_Note, sz_Note, enc_Hello, sz_Hello])
    | (refine bd_go h fun y hy h => ?_; (first | refine ssc hy (asn_some (by first | decide | omega)) (asn_some (by first | decide | omega)) ?_ | refine ssc hy asn_none (asn_some (by first | decide | omega)) ?_ | refine ssc hy asn_none asl_none ?_ | refine ssc hy (asn_some (by first | decide | omega)) asl_none ?_ | refine ssc hy (asn_some (sl_get hy).1.1) asl_none ?_ | refine ssc hy asn_none (asn_some (sl_get hy).1.2.1) ?_ | refine ssc hy (asn_some (sl_get hy).1.1) (asn_some (Int.le_trans (sl_get hy).1.1 (sl_get hy).1.2.1)) ?_); simp -implicitDefEqProofs only [avm, reduceCtorEq, ↓reduceIte, sevalprocAttr, enc_Msg, sz_Msg, enc_OpenSaid, sz_OpenSaid, enc_Note, sz_Note, enc_Hello, sz_Hello])
    | (refine bd_go h fun y hy h => ?_; refine sac hy ?_; simp -implicitDefEqProofs only [avm, reduceCtorEq, ↓reduceIte, sevalprocAttr, enc_Msg, sz_Msg, enc_OpenSaid, sz_OpenSaid, enc_Note, sz_Note, enc_Hello, sz_Hello])
    | (refine bd_go h fun y hy h => ?_; refine ixc hy ?_; simp -implicitDefEqProofs only [avm, reduceCtorEq, ↓reduceIte, sevalprocAttr, enc_Msg, sz_Msg, enc_OpenSaid, sz_OpenSaid, enc_Note, sz_Note, enc_Hello, sz_Hello])
    | (refine bd_go h fun y hy h => ?_
       refine apc hy (by first | rfl | (simp -implicitDefEqProofs only [avm, reduceCtorEq, ↓reduceIte, sevalprocAttr, enc_Msg, sz_Msg, enc_OpenSaid, sz_OpenSaid, enc_Note, sz_Note, enc_Hello, sz_Hello]; done)) (by first | rfl | (simp -implicitDefEqProofs only [avm, reduceCtorEq, ↓reduceIte, sevalprocAttr, enc_Msg, sz_Msg, enc_OpenSaid, sz_OpenSaid, enc_Note, sz_Note, enc_Hello, sz_Hello]; done)) (by first | exact .inl rfl | exact .inr rfl) (by first | exact .inl rfl | exact .inr rfl) (by simp only [apTag, List.getElem?_cons_zero, List.getElem?_cons_succ, ↓reduceIte, List.set_cons_zero, List.set_cons_succ, List.nil_append, List.cons_append, List.length_nil, List.length_cons, sevalprocAttr]; rfl) ?_
       simp -implicitDefEqProofs only [avm, reduceCtorEq, ↓reduceIte, sevalprocAttr, enc_Msg, sz_Msg, enc_OpenSaid, sz_OpenSaid, enc_Note, sz_Note, enc_Hello, sz_Hello])
    | (refine bd_go h fun y hy h => ?_; (first | refine slc_max hy rfl (.inl rfl) asn_none ?_ | refine slc_max hy rfl (.inl rfl) (asn_some (by first | decide | omega)) ?_ | refine slc11 hy rfl (.inl rfl) ?_ | refine slc01 hy rfl (.inl rfl) ?_ | refine slc10 hy rfl (.inl rfl) ?_ | refine slc00 hy rfl (.inl rfl) ?_ | refine slc11 hy rfl (.inr rfl) ?_ | refine slc01 hy rfl (.inr rfl) ?_ | refine slc10 hy rfl (.inr rfl) ?_ | refine slc00 hy rfl (.inr rfl) ?_); simp -implicitDefEqProofs only [avm, reduceCtorEq, ↓reduceIte, sevalprocAttr, enc_Msg, sz_Msg, enc_OpenSaid, sz_OpenSaid, enc_Note, sz_Note, enc_Hello, sz_Hello])
    | (refine bd_go h fun y hy h => ?_
       first | refine callsc (a_octet_Take hy) ?_ ?_ | refine callc (a_octet_Take hy) ?_ ?_ | ((first | refine callsc (act_le (a_octet_Take hy) ?_) ?_ ?_ | refine callc (act_le (a_octet_Take hy) ?_) ?_ ?_); (focus (repeat' (first | exact trivial | exact le_same _ | exact le_enc | exact le_nil | exact le_imm (.inl rfl) | exact le_imm (.inr rfl) | (refine le_agg ?_) | apply And.intro))))
       focus (first | rfl | (simp only [purL, pur, purL_enc, Enc.pure_enc, Bool.and_self, Bool.and_true]; done))
       simp -implicitDefEqProofs only [avm, reduceCtorEq, ↓reduceIte, sevalprocAttr, enc_Msg, sz_Msg, enc_OpenSaid, sz_OpenSaid, enc_Note, sz_Note, enc_Hello, sz_Hello])
    | (refine nz_go h fun hb h => ?_; simp -implicitDefEqProofs only [eq_false hb, avm, reduceCtorEq, ↓reduceIte, sevalprocAttr, enc_Msg, sz_Msg, enc_OpenSaid, sz_OpenSaid, enc_Note, sz_Note, enc_Hello, sz_Hello] at h ⊢)
    | (refine nn_go h fun hb h => ?_; simp -implicitDefEqProofs only [eq_false hb, avm, reduceCtorEq, ↓reduceIte, sevalprocAttr, enc_Msg, sz_Msg, enc_OpenSaid, sz_OpenSaid, enc_Note, sz_Note, enc_Hello, sz_Hello] at h ⊢)
    | (first | refine kn6 ⟨_, h, ?_⟩ | refine kn5 ⟨_, h, ?_⟩
       try simp -implicitDefEqProofs only [patOf, setB.eq_1, setB.eq_2, setF.eq_1, setF.eq_2, List.map_cons, List.map_nil, List.modify_zero_cons, List.modify_succ_cons, List.set_cons_zero, List.set_cons_succ, List.append_nil, List.nil_append, List.cons_append, avm, reduceCtorEq, ↓reduceIte, sevalprocAttr, enc_Msg, sz_Msg, enc_OpenSaid, sz_OpenSaid, enc_Note, sz_Note, enc_Hello, sz_Hello]
       (first
          | (refine wk_m 0 _ rfl ?_ rfl rfl ?_ ?_ ?_ ?_
             · first | exact Nat.le_refl _ | exact Nat.zero_le _ | (simp; done)
             · first | exact Nat.zero_le _ | exact Nat.le_refl _ | (simp; done)
             · first | exact Nat.zero_le _ | exact Nat.le_refl _ | (simp; done)
             all_goals (repeat' (first | exact trivial | apply And.intro))
             all_goals first | exact rfl | exact .same _ rfl | exact wka_imm | exact wka_app (by decide) | exact wka_tag (by decide) rfl | exact wka_tagn (by decide) rfl | exact wka_tagr (by decide) rfl (by simp only [pur, purL, purL_enc, Bool.and_self, Bool.and_true]) | exact wka_immn | (refine .imm _ _ _ _ (.inl rfl) (okBL_pur ?_); simp only [pur, purL, purL_enc, Bool.and_self, Bool.and_true]; done) | exact wka_tag0 (by decide) rfl | exact wka_imm0 | exact wka_pur (Enc.pure_enc _) | exact wka_pur pur_enc_sl | exact wka_pur pur_enc_fl | exact .und _ | (refine wka_pur ?_; simp only [pur, purL, purL_enc, Bool.and_self, Bool.and_true]; done) | (refine .same _ ?_; simp only [okB, okBL, okBL_enc, Bool.and_self, Bool.and_true, decide_true, sevalprocAttr]; done) | (refine .le _ _ ?_ (okB_pur ?_); (focus (repeat' (first | exact le_same _ | exact le_enc | exact le_nil | exact le_imm (.inl rfl) | exact le_imm (.inr rfl) | refine le_agg ?_ | exact trivial | apply And.intro))); (simp only [pur, purL, purL_enc, Bool.and_self, Bool.and_true]; done)))))
    | (cases h
       try simp -implicitDefEqProofs only [avm, reduceCtorEq, ↓reduceIte, sevalprocAttr, enc_Msg, sz_Msg, enc_OpenSaid, sz_OpenSaid, enc_Note, sz_Note, enc_Hello, sz_Hello]
       first | refine retLt (by first | exact .inr rfl | exact .inl rfl) (by rfl) ?_ | refine retL1 (by first | exact .inr rfl | exact .inl rfl) (by rfl) ?_
       repeat' (first | exact trivial | apply And.intro)
       all_goals first | exact .same _ rfl | exact reta_imm | exact reta_nil | (refine .imm _ _ _ ?_; simp only [pur, purL, purL_enc, Bool.and_self, Bool.and_true]; done) | exact .same _ (Enc.pure_enc _) | exact .same _ pur_enc_sl | (refine .same _ ?_; simp only [pur, purL, purL_enc, Bool.and_self, Bool.and_true]; done) | (refine .le _ _ ?_ ?_; (focus (repeat' (first | exact le_same _ | exact le_enc | exact le_nil | exact le_imm (.inl rfl) | exact le_imm (.inr rfl) | refine le_agg ?_ | exact trivial | apply And.intro))); (simp only [pur, purL, purL_enc, Bool.and_self, Bool.and_true]; done)))
    | fail)
theorem a_octet_Put {a0 : (List UInt8)} {a1 : Int} {a2 : Int} {r : (List UInt8)} (h : m_octet_Put a0 a1 a2 = some r) : ACt Try.prog 42 [Enc.enc a0, Enc.enc a1, Enc.enc a2] (Enc.enc r) [] := by
  refine act_of p_octet_Put (by simp [c_octet_Put]) ?_
  show AW _ b_octet_Put (RetOk [.tmp 6] _ _) { n := 39, tm := [(0, _), (1, _), (2, _)], box := [], fr := [] }
  unfold b_octet_Put
  unfold m_octet_Put at h
  try simp -implicitDefEqProofs only [avm, reduceCtorEq, ↓reduceIte, sevalprocAttr, enc_Msg, sz_Msg, enc_OpenSaid, sz_OpenSaid, enc_Note, sz_Note, enc_Hello, sz_Hello] at h
  repeat' (first
    | (refine (hκ _).mpr ?_; clear hκ)
    | refine kn1 ?_
    | refine kr1 ?_
    | refine ke1 ?_
    | refine kn2 ?_
    | refine kr2 ?_
    | refine kx2 ?_
    | refine ke2 rfl ?_
    | refine kr5 ?_
    | refine ke5 ?_
    | refine kr6 ?_
    | refine ke6 ?_
    | (refine w_loopm [1, 2, 22] (fun (j : ((List UInt8) × Int)) => [(7, (.slice (.app 0) 1 (List.map Enc.enc j.1))), (23, (.int .i64 j.2))]) (fun (j : ((List UInt8) × Int)) => []) (fun (j : ((List UInt8) × Int)) => []) (fun (j : ((List UInt8) × Int)) => [(5, j.1.length)]) (show loopC (s_octet_Put1 _ _) _ BIG _ = some _ from h) ?_ ?_
       · try simp -implicitDefEqProofs only [patOf, setB.eq_1, setB.eq_2, setF.eq_1, setF.eq_2, List.map_cons, List.map_nil, List.modify_zero_cons, List.modify_succ_cons, List.set_cons_zero, List.set_cons_succ, List.append_nil, List.nil_append, List.cons_append, avm, reduceCtorEq, ↓reduceIte, sevalprocAttr, enc_Msg, sz_Msg, enc_OpenSaid, sz_OpenSaid, enc_Note, sz_Note, enc_Hello, sz_Hello]
         (first
          | (refine wk_m 0 _ rfl ?_ rfl rfl ?_ ?_ ?_ ?_
             · first | exact Nat.le_refl _ | exact Nat.zero_le _ | (simp; done)
             · first | exact Nat.zero_le _ | exact Nat.le_refl _ | (simp; done)
             · first | exact Nat.zero_le _ | exact Nat.le_refl _ | (simp; done)
             all_goals (repeat' (first | exact trivial | apply And.intro))
             all_goals first | exact rfl | exact .same _ rfl | exact wka_imm | exact wka_app (by decide) | exact wka_tag (by decide) rfl | exact wka_tagn (by decide) rfl | exact wka_tagr (by decide) rfl (by simp only [pur, purL, purL_enc, Bool.and_self, Bool.and_true]) | exact wka_immn | (refine .imm _ _ _ _ (.inl rfl) (okBL_pur ?_); simp only [pur, purL, purL_enc, Bool.and_self, Bool.and_true]; done) | exact wka_tag0 (by decide) rfl | exact wka_imm0 | exact wka_pur (Enc.pure_enc _) | exact wka_pur pur_enc_sl | exact wka_pur pur_enc_fl | exact .und _ | (refine wka_pur ?_; simp only [pur, purL, purL_enc, Bool.and_self, Bool.and_true]; done) | (refine .same _ ?_; simp only [okB, okBL, okBL_enc, Bool.and_self, Bool.and_true, decide_true, sevalprocAttr]; done) | (refine .le _ _ ?_ (okB_pur ?_); (focus (repeat' (first | exact le_same _ | exact le_enc | exact le_nil | exact le_imm (.inl rfl) | exact le_imm (.inr rfl) | refine le_agg ?_ | exact trivial | apply And.intro))); (simp only [pur, purL, purL_enc, Bool.and_self, Bool.and_true]; done))))
       clear h
       intro n st h
       simp -implicitDefEqProofs only [s_octet_Put1.eq_1, patOf, setB.eq_1, setB.eq_2, setF.eq_1, setF.eq_2, List.map_cons, List.map_nil, List.modify_zero_cons, List.modify_succ_cons, List.set_cons_zero, List.set_cons_succ, List.append_nil, List.nil_append, List.cons_append, avm, reduceCtorEq, ↓reduceIte, sevalprocAttr, enc_Msg, sz_Msg, enc_OpenSaid, sz_OpenSaid, enc_Note, sz_Note, enc_Hello, sz_Hello] at h ⊢)
    | refine w_seq ?_
    | refine w_block ?_
    | (refine aw_regk fun κ hκ => ?_; simp -implicitDefEqProofs only [avm, reduceCtorEq, ↓reduceIte, sevalprocAttr, enc_Msg, sz_Msg, enc_OpenSaid, sz_OpenSaid, enc_Note, sz_Note, enc_Hello, sz_Hello])
    | refine aw_exit ?_
    | refine aw_ret ?_
    | refine aw_skip ?_
    | refine aw_label ?_
    | refine condc_t ?_
    | refine condc_f ?_
    | (refine aw_cond2 (by simp -implicitDefEqProofs only [avm, reduceCtorEq, ↓reduceIte, sevalprocAttr, enc_Msg, sz_Msg, enc_OpenSaid, sz_OpenSaid, enc_Note, sz_Note, enc_Hello, sz_Hello]; rfl) ?_)
    | ((first | refine gkc_fork ?_ ?_ | refine pkc_fork ?_ ?_ | refine condc_fork ?_ ?_) <;> intro hq <;> (first | contradiction | simp -implicitDefEqProofs only [eq_false hq, Decidable.not_not, avm, reduceCtorEq, ↓reduceIte, sevalprocAttr, enc_Msg, sz_Msg, enc_OpenSaid, sz_OpenSaid, enc_Note, sz_Note, enc_Hello, sz_Hello] at h ⊢ | simp -implicitDefEqProofs only [eq_true hq, avm, reduceCtorEq, ↓reduceIte, sevalprocAttr, enc_Msg, sz_Msg, enc_OpenSaid, sz_OpenSaid, enc_Note, sz_Note, enc_Hello, sz_Hello] at h ⊢))
    | ((first | refine gkc_split ?_ ?_ | refine pkc_split ?_ ?_ | refine condc_bool ?_ ?_) <;> intro hq <;> (simp -implicitDefEqProofs only [hq, avm, reduceCtorEq, ↓reduceIte, sevalprocAttr, enc_Msg, sz_Msg, enc_OpenSaid, sz_OpenSaid, enc_Note, sz_Note, enc_Hello, sz_Hello] at h ⊢))
    | (refine stc_plain rfl ?_; simp -implicitDefEqProofs only [putCells.eq_1, avm, reduceCtorEq, ↓reduceIte, sevalprocAttr, enc_Msg, sz_Msg, enc_OpenSaid, sz_OpenSaid, enc_Note, sz_Note, enc_Hello, sz_Hello])
    | (refine bd_go h fun y hy h => ?_; refine isc hy ?_; simp -implicitDefEqProofs only [avm, reduceCtorEq, ↓reduceIte, sevalprocAttr, enc_Msg, sz_Msg, enc_OpenSaid, sz_OpenSaid, enc_Note, sz_Note, enc_Hello, sz_Hello])
    | (refine bd_go h fun y hy h => ?_; (first | refine ssc hy (asn_some (by first | decide | omega)) (asn_some (by first | decide | omega)) ?_ | refine ssc hy asn_none (asn_some (by first | decide | omega)) ?_ | refine ssc hy asn_none asl_none ?_ | refine ssc hy (asn_some (by first | decide | omega)) asl_none ?_ | refine ssc hy (asn_some (sl_get hy).1.1) asl_none ?_ | refine ssc hy asn_none (asn_some (sl_get hy).1.2.1) ?_ | refine ssc hy (asn_some (sl_get hy).1.1) (asn_some (Int.le_trans (sl_get hy).1.1 (sl_get hy).1.2.1)) ?_); simp -implicitDefEqProofs only [avm, reduceCtorEq, ↓reduceIte, sevalprocAttr, enc_Msg, sz_Msg, enc_OpenSaid, sz_OpenSaid, enc_Note, sz_Note, enc_Hello, sz_Hello])
    | (refine bd_go h fun y hy h => ?_; refine sac hy ?_; simp -implicitDefEqProofs only [avm, reduceCtorEq, ↓reduceIte, sevalprocAttr, enc_Msg, sz_Msg, enc_OpenSaid, sz_OpenSaid, enc_Note, sz_Note, enc_Hello, sz_Hello])
    | (refine bd_go h fun y hy h => ?_; refine ixc hy ?_; simp -implicitDefEqProofs only [avm, reduceCtorEq, ↓reduceIte, sevalprocAttr, enc_Msg, sz_Msg, enc_OpenSaid, sz_OpenSaid, enc_Note, sz_Note, enc_Hello, sz_Hello])
    | (refine bd_go h fun y hy h => ?_
       refine apc hy (by first | rfl | (simp -implicitDefEqProofs only [avm, reduceCtorEq, ↓reduceIte, sevalprocAttr, enc_Msg, sz_Msg, enc_OpenSaid, sz_OpenSaid, enc_Note, sz_Note, enc_Hello, sz_Hello]; done)) (by first | rfl | (simp -implicitDefEqProofs only [avm, reduceCtorEq, ↓reduceIte, sevalprocAttr, enc_Msg, sz_Msg, enc_OpenSaid, sz_OpenSaid, enc_Note, sz_Note, enc_Hello, sz_Hello]; done)) (by first | exact .inl rfl | exact .inr rfl) (by first | exact .inl rfl | exact .inr rfl) (by simp only [apTag, List.getElem?_cons_zero, List.getElem?_cons_succ, ↓reduceIte, List.set_cons_zero, List.set_cons_succ, List.nil_append, List.cons_append, List.length_nil, List.length_cons, sevalprocAttr]; rfl) ?_
       simp -implicitDefEqProofs only [avm, reduceCtorEq, ↓reduceIte, sevalprocAttr, enc_Msg, sz_Msg, enc_OpenSaid, sz_OpenSaid, enc_Note, sz_Note, enc_Hello, sz_Hello])
    | (refine bd_go h fun y hy h => ?_; (first | refine slc_max hy rfl (.inl rfl) asn_none ?_ | refine slc_max hy rfl (.inl rfl) (asn_some (by first | decide | omega)) ?_ | refine slc11 hy rfl (.inl rfl) ?_ | refine slc01 hy rfl (.inl rfl) ?_ | refine slc10 hy rfl (.inl rfl) ?_ | refine slc00 hy rfl (.inl rfl) ?_ | refine slc11 hy rfl (.inr rfl) ?_ | refine slc01 hy rfl (.inr rfl) ?_ | refine slc10 hy rfl (.inr rfl) ?_ | refine slc00 hy rfl (.inr rfl) ?_); simp -implicitDefEqProofs only [avm, reduceCtorEq, ↓reduceIte, sevalprocAttr, enc_Msg, sz_Msg, enc_OpenSaid, sz_OpenSaid, enc_Note, sz_Note, enc_Hello, sz_Hello])
    | (refine nz_go h fun hb h => ?_; simp -implicitDefEqProofs only [eq_false hb, avm, reduceCtorEq, ↓reduceIte, sevalprocAttr, enc_Msg, sz_Msg, enc_OpenSaid, sz_OpenSaid, enc_Note, sz_Note, enc_Hello, sz_Hello] at h ⊢)
    | (refine nn_go h fun hb h => ?_; simp -implicitDefEqProofs only [eq_false hb, avm, reduceCtorEq, ↓reduceIte, sevalprocAttr, enc_Msg, sz_Msg, enc_OpenSaid, sz_OpenSaid, enc_Note, sz_Note, enc_Hello, sz_Hello] at h ⊢)
    | (first | refine kn6 ⟨_, h, ?_⟩ | refine kn5 ⟨_, h, ?_⟩
       try simp -implicitDefEqProofs only [patOf, setB.eq_1, setB.eq_2, setF.eq_1, setF.eq_2, List.map_cons, List.map_nil, List.modify_zero_cons, List.modify_succ_cons, List.set_cons_zero, List.set_cons_succ, List.append_nil, List.nil_append, List.cons_append, avm, reduceCtorEq, ↓reduceIte, sevalprocAttr, enc_Msg, sz_Msg, enc_OpenSaid, sz_OpenSaid, enc_Note, sz_Note, enc_Hello, sz_Hello]
       (first
          | (refine wk_m 0 _ rfl ?_ rfl rfl ?_ ?_ ?_ ?_
             · first | exact Nat.le_refl _ | exact Nat.zero_le _ | (simp; done)
             · first | exact Nat.zero_le _ | exact Nat.le_refl _ | (simp; done)
             · first | exact Nat.zero_le _ | exact Nat.le_refl _ | (simp; done)
             all_goals (repeat' (first | exact trivial | apply And.intro))
             all_goals first | exact rfl | exact .same _ rfl | exact wka_imm | exact wka_app (by decide) | exact wka_tag (by decide) rfl | exact wka_tagn (by decide) rfl | exact wka_tagr (by decide) rfl (by simp only [pur, purL, purL_enc, Bool.and_self, Bool.and_true]) | exact wka_immn | (refine .imm _ _ _ _ (.inl rfl) (okBL_pur ?_); simp only [pur, purL, purL_enc, Bool.and_self, Bool.and_true]; done) | exact wka_tag0 (by decide) rfl | exact wka_imm0 | exact wka_pur (Enc.pure_enc _) | exact wka_pur pur_enc_sl | exact wka_pur pur_enc_fl | exact .und _ | (refine wka_pur ?_; simp only [pur, purL, purL_enc, Bool.and_self, Bool.and_true]; done) | (refine .same _ ?_; simp only [okB, okBL, okBL_enc, Bool.and_self, Bool.and_true, decide_true, sevalprocAttr]; done) | (refine .le _ _ ?_ (okB_pur ?_); (focus (repeat' (first | exact le_same _ | exact le_enc | exact le_nil | exact le_imm (.inl rfl) | exact le_imm (.inr rfl) | refine le_agg ?_ | exact trivial | apply And.intro))); (simp only [pur, purL, purL_enc, Bool.and_self, Bool.and_true]; done)))
          | (refine wk_m 1 _ rfl ?_ rfl rfl ?_ ?_ ?_ ?_
             · first | exact Nat.le_refl _ | exact Nat.zero_le _ | (simp; done)
             · first | exact Nat.zero_le _ | exact Nat.le_refl _ | (simp; done)
             · first | exact Nat.zero_le _ | exact Nat.le_refl _ | (simp; done)
             all_goals (repeat' (first | exact trivial | apply And.intro))
             all_goals first | exact rfl | exact .same _ rfl | exact wka_imm | exact wka_app (by decide) | exact wka_tag (by decide) rfl | exact wka_tagn (by decide) rfl | exact wka_tagr (by decide) rfl (by simp only [pur, purL, purL_enc, Bool.and_self, Bool.and_true]) | exact wka_immn | (refine .imm _ _ _ _ (.inl rfl) (okBL_pur ?_); simp only [pur, purL, purL_enc, Bool.and_self, Bool.and_true]; done) | exact wka_tag0 (by decide) rfl | exact wka_imm0 | exact wka_pur (Enc.pure_enc _) | exact wka_pur pur_enc_sl | exact wka_pur pur_enc_fl | exact .und _ | (refine wka_pur ?_; simp only [pur, purL, purL_enc, Bool.and_self, Bool.and_true]; done) | (refine .same _ ?_; simp only [okB, okBL, okBL_enc, Bool.and_self, Bool.and_true, decide_true, sevalprocAttr]; done) | (refine .le _ _ ?_ (okB_pur ?_); (focus (repeat' (first | exact le_same _ | exact le_enc | exact le_nil | exact le_imm (.inl rfl) | exact le_imm (.inr rfl) | refine le_agg ?_ | exact trivial | apply And.intro))); (simp only [pur, purL, purL_enc, Bool.and_self, Bool.and_true]; done)))))
    | (cases h
       try simp -implicitDefEqProofs only [avm, reduceCtorEq, ↓reduceIte, sevalprocAttr, enc_Msg, sz_Msg, enc_OpenSaid, sz_OpenSaid, enc_Note, sz_Note, enc_Hello, sz_Hello]
       first | refine retLt (by first | exact .inr rfl | exact .inl rfl) (by rfl) ?_ | refine retL1 (by first | exact .inr rfl | exact .inl rfl) (by rfl) ?_
       repeat' (first | exact trivial | apply And.intro)
       all_goals first | exact .same _ rfl | exact reta_imm | exact reta_nil | (refine .imm _ _ _ ?_; simp only [pur, purL, purL_enc, Bool.and_self, Bool.and_true]; done) | exact .same _ (Enc.pure_enc _) | exact .same _ pur_enc_sl | (refine .same _ ?_; simp only [pur, purL, purL_enc, Bool.and_self, Bool.and_true]; done) | (refine .le _ _ ?_ ?_; (focus (repeat' (first | exact le_same _ | exact le_enc | exact le_nil | exact le_imm (.inl rfl) | exact le_imm (.inr rfl) | refine le_agg ?_ | exact trivial | apply And.intro))); (simp only [pur, purL, purL_enc, Bool.and_self, Bool.and_true]; done)))
    | fail)
theorem a_octet_Put_app {a0 : (List UInt8)} {a1 : Int} {a2 : Int} {r : (List UInt8)} (h : m_octet_Put a0 a1 a2 = some r) (hc : ¬ (a2 < 1 ∨ a2 > 4)) : ACt Try.prog 42 [Enc.enc a0, Enc.enc a1, Enc.enc a2] (.slice (.app 0) 1 (List.map Enc.enc r)) [(5, r.length)] := by
  refine act_of p_octet_Put (by simp [c_octet_Put]) ?_
  show AW _ b_octet_Put (RetOk [.tmp 6] _ _) { n := 39, tm := [(0, _), (1, _), (2, _)], box := [], fr := [] }
  unfold b_octet_Put
  unfold m_octet_Put at h
  try simp -implicitDefEqProofs only [avm, reduceCtorEq, ↓reduceIte, sevalprocAttr, enc_Msg, sz_Msg, enc_OpenSaid, sz_OpenSaid, enc_Note, sz_Note, enc_Hello, sz_Hello] at h
  repeat' (first
    | (refine (hκ _).mpr ?_; clear hκ)
    | refine kn1 ?_
    | refine kr1 ?_
    | refine ke1 ?_
    | refine kn2 ?_
    | refine kr2 ?_
    | refine kx2 ?_
    | refine ke2 rfl ?_
    | refine kr5 ?_
    | refine ke5 ?_
    | refine kr6 ?_
    | refine ke6 ?_
    | (refine w_loopm [1, 2, 22] (fun (j : ((List UInt8) × Int)) => [(7, (.slice (.app 0) 1 (List.map Enc.enc j.1))), (23, (.int .i64 j.2))]) (fun (j : ((List UInt8) × Int)) => []) (fun (j : ((List UInt8) × Int)) => []) (fun (j : ((List UInt8) × Int)) => [(5, j.1.length)]) (show loopC (s_octet_Put1 _ _) _ BIG _ = some _ from h) ?_ ?_
       · try simp -implicitDefEqProofs only [patOf, setB.eq_1, setB.eq_2, setF.eq_1, setF.eq_2, List.map_cons, List.map_nil, List.modify_zero_cons, List.modify_succ_cons, List.set_cons_zero, List.set_cons_succ, List.append_nil, List.nil_append, List.cons_append, avm, reduceCtorEq, ↓reduceIte, sevalprocAttr, enc_Msg, sz_Msg, enc_OpenSaid, sz_OpenSaid, enc_Note, sz_Note, enc_Hello, sz_Hello]
         (first
          | (refine wk_m 0 _ rfl ?_ rfl rfl ?_ ?_ ?_ ?_
             · first | exact Nat.le_refl _ | exact Nat.zero_le _ | (simp; done)
             · first | exact Nat.zero_le _ | exact Nat.le_refl _ | (simp; done)
             · first | exact Nat.zero_le _ | exact Nat.le_refl _ | (simp; done)
             all_goals (repeat' (first | exact trivial | apply And.intro))
             all_goals first | exact rfl | exact .same _ rfl | exact wka_imm | exact wka_app (by decide) | exact wka_tag (by decide) rfl | exact wka_tagn (by decide) rfl | exact wka_tagr (by decide) rfl (by simp only [pur, purL, purL_enc, Bool.and_self, Bool.and_true]) | exact wka_immn | (refine .imm _ _ _ _ (.inl rfl) (okBL_pur ?_); simp only [pur, purL, purL_enc, Bool.and_self, Bool.and_true]; done) | exact wka_tag0 (by decide) rfl | exact wka_imm0 | exact wka_pur (Enc.pure_enc _) | exact wka_pur pur_enc_sl | exact wka_pur pur_enc_fl | exact .und _ | (refine wka_pur ?_; simp only [pur, purL, purL_enc, Bool.and_self, Bool.and_true]; done) | (refine .same _ ?_; simp only [okB, okBL, okBL_enc, Bool.and_self, Bool.and_true, decide_true, sevalprocAttr]; done) | (refine .le _ _ ?_ (okB_pur ?_); (focus (repeat' (first | exact le_same _ | exact le_enc | exact le_nil | exact le_imm (.inl rfl) | exact le_imm (.inr rfl) | refine le_agg ?_ | exact trivial | apply And.intro))); (simp only [pur, purL, purL_enc, Bool.and_self, Bool.and_true]; done))))
       clear h
       intro n st h
       simp -implicitDefEqProofs only [s_octet_Put1.eq_1, patOf, setB.eq_1, setB.eq_2, setF.eq_1, setF.eq_2, List.map_cons, List.map_nil, List.modify_zero_cons, List.modify_succ_cons, List.set_cons_zero, List.set_cons_succ, List.append_nil, List.nil_append, List.cons_append, avm, reduceCtorEq, ↓reduceIte, sevalprocAttr, enc_Msg, sz_Msg, enc_OpenSaid, sz_OpenSaid, enc_Note, sz_Note, enc_Hello, sz_Hello] at h ⊢)
    | refine w_seq ?_
    | refine w_block ?_
    | (refine aw_regk fun κ hκ => ?_; simp -implicitDefEqProofs only [avm, reduceCtorEq, ↓reduceIte, sevalprocAttr, enc_Msg, sz_Msg, enc_OpenSaid, sz_OpenSaid, enc_Note, sz_Note, enc_Hello, sz_Hello])
    | (cases h; exact aw_ret_full rfl rfl rfl)
    | refine aw_exit ?_
    | refine aw_ret ?_
    | refine aw_skip ?_
    | refine aw_label ?_
    | refine condc_t ?_
    | refine condc_f ?_
    | (refine aw_cond2 (by simp -implicitDefEqProofs only [avm, reduceCtorEq, ↓reduceIte, sevalprocAttr, enc_Msg, sz_Msg, enc_OpenSaid, sz_OpenSaid, enc_Note, sz_Note, enc_Hello, sz_Hello]; rfl) ?_)
    | ((first | refine gkc_fork ?_ ?_ | refine pkc_fork ?_ ?_ | refine condc_fork ?_ ?_) <;> intro hq <;> (first | contradiction | simp -implicitDefEqProofs only [eq_false hq, Decidable.not_not, avm, reduceCtorEq, ↓reduceIte, sevalprocAttr, enc_Msg, sz_Msg, enc_OpenSaid, sz_OpenSaid, enc_Note, sz_Note, enc_Hello, sz_Hello] at h ⊢ | simp -implicitDefEqProofs only [eq_true hq, avm, reduceCtorEq, ↓reduceIte, sevalprocAttr, enc_Msg, sz_Msg, enc_OpenSaid, sz_OpenSaid, enc_Note, sz_Note, enc_Hello, sz_Hello] at h ⊢))
    | ((first | refine gkc_split ?_ ?_ | refine pkc_split ?_ ?_ | refine condc_bool ?_ ?_) <;> intro hq <;> (simp -implicitDefEqProofs only [hq, avm, reduceCtorEq, ↓reduceIte, sevalprocAttr, enc_Msg, sz_Msg, enc_OpenSaid, sz_OpenSaid, enc_Note, sz_Note, enc_Hello, sz_Hello] at h ⊢))
    | (refine stc_plain rfl ?_; simp -implicitDefEqProofs only [putCells.eq_1, avm, reduceCtorEq, ↓reduceIte, sevalprocAttr, enc_Msg, sz_Msg, enc_OpenSaid, sz_OpenSaid, enc_Note, sz_Note, enc_Hello, sz_Hello])
    | (refine bd_go h fun y hy h => ?_; refine isc hy ?_; simp -implicitDefEqProofs only [avm, reduceCtorEq, ↓reduceIte, sevalprocAttr, enc_Msg, sz_Msg, enc_OpenSaid, sz_OpenSaid, enc_Note, sz_Note, enc_Hello, sz_Hello])
    | (refine bd_go h fun y hy h => ?_; (first | refine ssc hy (asn_some (by first | decide | omega)) (asn_some (by first | decide | omega)) ?_ | refine ssc hy asn_none (asn_some (by first | decide | omega)) ?_ | refine ssc hy asn_none asl_none ?_ | refine ssc hy (asn_some (by first | decide | omega)) asl_none ?_ | refine ssc hy (asn_some (sl_get hy).1.1) asl_none ?_ | refine ssc hy asn_none (asn_some (sl_get hy).1.2.1) ?_ | refine ssc hy (asn_some (sl_get hy).1.1) (asn_some (Int.le_trans (sl_get hy).1.1 (sl_get hy).1.2.1)) ?_); simp -implicitDefEqProofs only [avm, reduceCtorEq, ↓reduceIte, sevalprocAttr, enc_Msg, sz_Msg, enc_OpenSaid, sz_OpenSaid, enc_Note, sz_Note, enc_Hello, sz_Hello])
    | (refine bd_go h fun y hy h => ?_; refine sac hy ?_; simp -implicitDefEqProofs only [avm, reduceCtorEq, ↓reduceIte, sevalprocAttr, enc_Msg, sz_Msg, enc_OpenSaid, sz_OpenSaid, enc_Note, sz_Note, enc_Hello, sz_Hello])
    | (refine bd_go h fun y hy h => ?_; refine ixc hy ?_; simp -implicitDefEqProofs only [avm, reduceCtorEq, ↓reduceIte, sevalprocAttr, enc_Msg, sz_Msg, enc_OpenSaid, sz_OpenSaid, enc_Note, sz_Note, enc_Hello, sz_Hello])
    | (refine bd_go h fun y hy h => ?_
       refine apc hy (by first | rfl | (simp -implicitDefEqProofs only [avm, reduceCtorEq, ↓reduceIte, sevalprocAttr, enc_Msg, sz_Msg, enc_OpenSaid, sz_OpenSaid, enc_Note, sz_Note, enc_Hello, sz_Hello]; done)) (by first | rfl | (simp -implicitDefEqProofs only [avm, reduceCtorEq, ↓reduceIte, sevalprocAttr, enc_Msg, sz_Msg, enc_OpenSaid, sz_OpenSaid, enc_Note, sz_Note, enc_Hello, sz_Hello]; done)) (by first | exact .inl rfl | exact .inr rfl) (by first | exact .inl rfl | exact .inr rfl) (by simp only [apTag, List.getElem?_cons_zero, List.getElem?_cons_succ, ↓reduceIte, List.set_cons_zero, List.set_cons_succ, List.nil_append, List.cons_append, List.length_nil, List.length_cons, sevalprocAttr]; rfl) ?_
       simp -implicitDefEqProofs only [avm, reduceCtorEq, ↓reduceIte, sevalprocAttr, enc_Msg, sz_Msg, enc_OpenSaid, sz_OpenSaid, enc_Note, sz_Note, enc_Hello, sz_Hello])
    | (refine bd_go h fun y hy h => ?_; (first | refine slc_max hy rfl (.inl rfl) asn_none ?_ | refine slc_max hy rfl (.inl rfl) (asn_some (by first | decide | omega)) ?_ | refine slc11 hy rfl (.inl rfl) ?_ | refine slc01 hy rfl (.inl rfl) ?_ | refine slc10 hy rfl (.inl rfl) ?_ | refine slc00 hy rfl (.inl rfl) ?_ | refine slc11 hy rfl (.inr rfl) ?_ | refine slc01 hy rfl (.inr rfl) ?_ | refine slc10 hy rfl (.inr rfl) ?_ | refine slc00 hy rfl (.inr rfl) ?_); simp -implicitDefEqProofs only [avm, reduceCtorEq, ↓reduceIte, sevalprocAttr, enc_Msg, sz_Msg, enc_OpenSaid, sz_OpenSaid, enc_Note, sz_Note, enc_Hello, sz_Hello])
    | (refine nz_go h fun hb h => ?_; simp -implicitDefEqProofs only [eq_false hb, avm, reduceCtorEq, ↓reduceIte, sevalprocAttr, enc_Msg, sz_Msg, enc_OpenSaid, sz_OpenSaid, enc_Note, sz_Note, enc_Hello, sz_Hello] at h ⊢)
    | (refine nn_go h fun hb h => ?_; simp -implicitDefEqProofs only [eq_false hb, avm, reduceCtorEq, ↓reduceIte, sevalprocAttr, enc_Msg, sz_Msg, enc_OpenSaid, sz_OpenSaid, enc_Note, sz_Note, enc_Hello, sz_Hello] at h ⊢)
    | (first | refine kn6 ⟨_, h, ?_⟩ | refine kn5 ⟨_, h, ?_⟩
       try simp -implicitDefEqProofs only [patOf, setB.eq_1, setB.eq_2, setF.eq_1, setF.eq_2, List.map_cons, List.map_nil, List.modify_zero_cons, List.modify_succ_cons, List.set_cons_zero, List.set_cons_succ, List.append_nil, List.nil_append, List.cons_append, avm, reduceCtorEq, ↓reduceIte, sevalprocAttr, enc_Msg, sz_Msg, enc_OpenSaid, sz_OpenSaid, enc_Note, sz_Note, enc_Hello, sz_Hello]
       (first
          | (refine wk_m 0 _ rfl ?_ rfl rfl ?_ ?_ ?_ ?_
             · first | exact Nat.le_refl _ | exact Nat.zero_le _ | (simp; done)
             · first | exact Nat.zero_le _ | exact Nat.le_refl _ | (simp; done)
             · first | exact Nat.zero_le _ | exact Nat.le_refl _ | (simp; done)
             all_goals (repeat' (first | exact trivial | apply And.intro))
             all_goals first | exact rfl | exact .same _ rfl | exact wka_imm | exact wka_app (by decide) | exact wka_tag (by decide) rfl | exact wka_tagn (by decide) rfl | exact wka_tagr (by decide) rfl (by simp only [pur, purL, purL_enc, Bool.and_self, Bool.and_true]) | exact wka_immn | (refine .imm _ _ _ _ (.inl rfl) (okBL_pur ?_); simp only [pur, purL, purL_enc, Bool.and_self, Bool.and_true]; done) | exact wka_tag0 (by decide) rfl | exact wka_imm0 | exact wka_pur (Enc.pure_enc _) | exact wka_pur pur_enc_sl | exact wka_pur pur_enc_fl | exact .und _ | (refine wka_pur ?_; simp only [pur, purL, purL_enc, Bool.and_self, Bool.and_true]; done) | (refine .same _ ?_; simp only [okB, okBL, okBL_enc, Bool.and_self, Bool.and_true, decide_true, sevalprocAttr]; done) | (refine .le _ _ ?_ (okB_pur ?_); (focus (repeat' (first | exact le_same _ | exact le_enc | exact le_nil | exact le_imm (.inl rfl) | exact le_imm (.inr rfl) | refine le_agg ?_ | exact trivial | apply And.intro))); (simp only [pur, purL, purL_enc, Bool.and_self, Bool.and_true]; done)))
          | (refine wk_m 1 _ rfl ?_ rfl rfl ?_ ?_ ?_ ?_
             · first | exact Nat.le_refl _ | exact Nat.zero_le _ | (simp; done)
             · first | exact Nat.zero_le _ | exact Nat.le_refl _ | (simp; done)
             · first | exact Nat.zero_le _ | exact Nat.le_refl _ | (simp; done)
             all_goals (repeat' (first | exact trivial | apply And.intro))
             all_goals first | exact rfl | exact .same _ rfl | exact wka_imm | exact wka_app (by decide) | exact wka_tag (by decide) rfl | exact wka_tagn (by decide) rfl | exact wka_tagr (by decide) rfl (by simp only [pur, purL, purL_enc, Bool.and_self, Bool.and_true]) | exact wka_immn | (refine .imm _ _ _ _ (.inl rfl) (okBL_pur ?_); simp only [pur, purL, purL_enc, Bool.and_self, Bool.and_true]; done) | exact wka_tag0 (by decide) rfl | exact wka_imm0 | exact wka_pur (Enc.pure_enc _) | exact wka_pur pur_enc_sl | exact wka_pur pur_enc_fl | exact .und _ | (refine wka_pur ?_; simp only [pur, purL, purL_enc, Bool.and_self, Bool.and_true]; done) | (refine .same _ ?_; simp only [okB, okBL, okBL_enc, Bool.and_self, Bool.and_true, decide_true, sevalprocAttr]; done) | (refine .le _ _ ?_ (okB_pur ?_); (focus (repeat' (first | exact le_same _ | exact le_enc | exact le_nil | exact le_imm (.inl rfl) | exact le_imm (.inr rfl) | refine le_agg ?_ | exact trivial | apply And.intro))); (simp only [pur, purL, purL_enc, Bool.and_self, Bool.and_true]; done)))))
    | (exfalso; first | exact hc.1 hq | omega)
    | (cases h
       (exact ret_app rfl rfl (purL_enc _)))
    | fail)
theorem a_open_read {a0 : (List UInt8)} {r : (OpenSaid × Note)} (h : m_open_read a0 = some r) : ACt Try.prog 43 [Enc.enc a0] (.tup [Enc.enc r.1, Enc.enc r.2]) [] := by
  refine act_of p_open_read (by simp [c_open_read]) ?_
  show AW _ b_open_read (RetOk [.cell 2 (some 2), .cell 3 (some 3)] _ _) { n := 12, tm := [(0, _)], box := [], fr := [] }
  unfold b_open_read
  unfold m_open_read at h
  try simp -implicitDefEqProofs only [avm, reduceCtorEq, ↓reduceIte, sevalprocAttr, enc_Msg, sz_Msg, enc_OpenSaid, sz_OpenSaid, enc_Note, sz_Note, enc_Hello, sz_Hello] at h
  repeat' (first
    | (refine (hκ _).mpr ?_; clear hκ)
    | refine kn1 ?_
    | refine kr1 ?_
    | refine ke1 ?_
    | refine kn2 ?_
    | refine kr2 ?_
    | refine kx2 ?_
    | refine ke2 rfl ?_
    | refine kr5 ?_
    | refine ke5 ?_
    | refine kr6 ?_
    | refine ke6 ?_
    | (refine w_cutm (x := (.seq (.reg _) (.cond (.tmp 7) _ _))) [0, 1, 2, 6] (fun (j : (Bool)) => [(7, (.bool j))]) (fun (j : (Bool)) => []) (fun (j : (Bool)) => []) (fun (j : (Bool)) => []) (show jn 1 _ _ = some _ from h) ?_ ?_
       rotate_left
       intro j h
       simp -implicitDefEqProofs only [patOf, setB.eq_1, setB.eq_2, setF.eq_1, setF.eq_2, List.map_cons, List.map_nil, List.modify_zero_cons, List.modify_succ_cons, List.set_cons_zero, List.set_cons_succ, List.append_nil, List.nil_append, List.cons_append, avm, reduceCtorEq, ↓reduceIte, sevalprocAttr, enc_Msg, sz_Msg, enc_OpenSaid, sz_OpenSaid, enc_Note, sz_Note, enc_Hello, sz_Hello] at h ⊢
       rotate_left
       intro k' h
       try simp -implicitDefEqProofs only [avm, reduceCtorEq, ↓reduceIte, sevalprocAttr, enc_Msg, sz_Msg, enc_OpenSaid, sz_OpenSaid, enc_Note, sz_Note, enc_Hello, sz_Hello] at h)
    | (refine w_loopm [1, 4] (fun (j : ((List UInt8) × Int × Int)) => [(0, (.slice .imm 1 (List.map Enc.enc j.1)))]) (fun (j : ((List UInt8) × Int × Int)) => [(2, 0, (.int .i64 j.2.1)), (2, 1, (.int .i64 j.2.2))]) (fun (j : ((List UInt8) × Int × Int)) => []) (fun (j : ((List UInt8) × Int × Int)) => []) (show loopC (s_open_read1 _) _ BIG _ = some _ from h) ?_ ?_
       · try simp -implicitDefEqProofs only [patOf, setB.eq_1, setB.eq_2, setF.eq_1, setF.eq_2, List.map_cons, List.map_nil, List.modify_zero_cons, List.modify_succ_cons, List.set_cons_zero, List.set_cons_succ, List.append_nil, List.nil_append, List.cons_append, avm, reduceCtorEq, ↓reduceIte, sevalprocAttr, enc_Msg, sz_Msg, enc_OpenSaid, sz_OpenSaid, enc_Note, sz_Note, enc_Hello, sz_Hello]
         (first
          | (refine wk_m 0 _ rfl ?_ rfl rfl ?_ ?_ ?_ ?_
             · first | exact Nat.le_refl _ | exact Nat.zero_le _ | (simp; done)
             · first | exact Nat.zero_le _ | exact Nat.le_refl _ | (simp; done)
             · first | exact Nat.zero_le _ | exact Nat.le_refl _ | (simp; done)
             all_goals (repeat' (first | exact trivial | apply And.intro))
             all_goals first | exact rfl | exact .same _ rfl | exact wka_imm | exact wka_app (by decide) | exact wka_tag (by decide) rfl | exact wka_tagn (by decide) rfl | exact wka_tagr (by decide) rfl (by simp only [pur, purL, purL_enc, Bool.and_self, Bool.and_true]) | exact wka_immn | (refine .imm _ _ _ _ (.inl rfl) (okBL_pur ?_); simp only [pur, purL, purL_enc, Bool.and_self, Bool.and_true]; done) | exact wka_tag0 (by decide) rfl | exact wka_imm0 | exact wka_pur (Enc.pure_enc _) | exact wka_pur pur_enc_sl | exact wka_pur pur_enc_fl | exact .und _ | (refine wka_pur ?_; simp only [pur, purL, purL_enc, Bool.and_self, Bool.and_true]; done) | (refine .same _ ?_; simp only [okB, okBL, okBL_enc, Bool.and_self, Bool.and_true, decide_true, sevalprocAttr]; done) | (refine .le _ _ ?_ (okB_pur ?_); (focus (repeat' (first | exact le_same _ | exact le_enc | exact le_nil | exact le_imm (.inl rfl) | exact le_imm (.inr rfl) | refine le_agg ?_ | exact trivial | apply And.intro))); (simp only [pur, purL, purL_enc, Bool.and_self, Bool.and_true]; done))))
       clear h
       intro n st h
       simp -implicitDefEqProofs only [s_open_read1.eq_1, patOf, setB.eq_1, setB.eq_2, setF.eq_1, setF.eq_2, List.map_cons, List.map_nil, List.modify_zero_cons, List.modify_succ_cons, List.set_cons_zero, List.set_cons_succ, List.append_nil, List.nil_append, List.cons_append, avm, reduceCtorEq, ↓reduceIte, sevalprocAttr, enc_Msg, sz_Msg, enc_OpenSaid, sz_OpenSaid, enc_Note, sz_Note, enc_Hello, sz_Hello] at h ⊢)
    | (refine w_loopm [1, 4] (fun (j : ((List UInt8) × Int × Int)) => [(0, (.slice .imm 1 (List.map Enc.enc j.1)))]) (fun (j : ((List UInt8) × Int × Int)) => [(2, 0, (.int .i64 j.2.1)), (2, 1, (.int .i64 j.2.2))]) (fun (j : ((List UInt8) × Int × Int)) => []) (fun (j : ((List UInt8) × Int × Int)) => []) (show loopC (s_open_read2 _) _ BIG _ = some _ from h) ?_ ?_
       · try simp -implicitDefEqProofs only [patOf, setB.eq_1, setB.eq_2, setF.eq_1, setF.eq_2, List.map_cons, List.map_nil, List.modify_zero_cons, List.modify_succ_cons, List.set_cons_zero, List.set_cons_succ, List.append_nil, List.nil_append, List.cons_append, avm, reduceCtorEq, ↓reduceIte, sevalprocAttr, enc_Msg, sz_Msg, enc_OpenSaid, sz_OpenSaid, enc_Note, sz_Note, enc_Hello, sz_Hello]
         (first
          | (refine wk_m 0 _ rfl ?_ rfl rfl ?_ ?_ ?_ ?_
             · first | exact Nat.le_refl _ | exact Nat.zero_le _ | (simp; done)
             · first | exact Nat.zero_le _ | exact Nat.le_refl _ | (simp; done)
             · first | exact Nat.zero_le _ | exact Nat.le_refl _ | (simp; done)
             all_goals (repeat' (first | exact trivial | apply And.intro))
             all_goals first | exact rfl | exact .same _ rfl | exact wka_imm | exact wka_app (by decide) | exact wka_tag (by decide) rfl | exact wka_tagn (by decide) rfl | exact wka_tagr (by decide) rfl (by simp only [pur, purL, purL_enc, Bool.and_self, Bool.and_true]) | exact wka_immn | (refine .imm _ _ _ _ (.inl rfl) (okBL_pur ?_); simp only [pur, purL, purL_enc, Bool.and_self, Bool.and_true]; done) | exact wka_tag0 (by decide) rfl | exact wka_imm0 | exact wka_pur (Enc.pure_enc _) | exact wka_pur pur_enc_sl | exact wka_pur pur_enc_fl | exact .und _ | (refine wka_pur ?_; simp only [pur, purL, purL_enc, Bool.and_self, Bool.and_true]; done) | (refine .same _ ?_; simp only [okB, okBL, okBL_enc, Bool.and_self, Bool.and_true, decide_true, sevalprocAttr]; done) | (refine .le _ _ ?_ (okB_pur ?_); (focus (repeat' (first | exact le_same _ | exact le_enc | exact le_nil | exact le_imm (.inl rfl) | exact le_imm (.inr rfl) | refine le_agg ?_ | exact trivial | apply And.intro))); (simp only [pur, purL, purL_enc, Bool.and_self, Bool.and_true]; done))))
       clear h
       intro n st h
       simp -implicitDefEqProofs only [s_open_read2.eq_1, patOf, setB.eq_1, setB.eq_2, setF.eq_1, setF.eq_2, List.map_cons, List.map_nil, List.modify_zero_cons, List.modify_succ_cons, List.set_cons_zero, List.set_cons_succ, List.append_nil, List.nil_append, List.cons_append, avm, reduceCtorEq, ↓reduceIte, sevalprocAttr, enc_Msg, sz_Msg, enc_OpenSaid, sz_OpenSaid, enc_Note, sz_Note, enc_Hello, sz_Hello] at h ⊢)
    | refine w_seq ?_
    | refine w_block ?_
    | (refine aw_regk fun κ hκ => ?_; simp -implicitDefEqProofs only [avm, reduceCtorEq, ↓reduceIte, sevalprocAttr, enc_Msg, sz_Msg, enc_OpenSaid, sz_OpenSaid, enc_Note, sz_Note, enc_Hello, sz_Hello])
    | refine aw_exit ?_
    | refine aw_ret ?_
    | refine aw_skip ?_
    | refine aw_label ?_
    | refine condc_t ?_
    | refine condc_f ?_
    | (refine aw_cond2 (by simp -implicitDefEqProofs only [avm, reduceCtorEq, ↓reduceIte, sevalprocAttr, enc_Msg, sz_Msg, enc_OpenSaid, sz_OpenSaid, enc_Note, sz_Note, enc_Hello, sz_Hello]; rfl) ?_)
    | ((first | refine gkc_fork ?_ ?_ | refine pkc_fork ?_ ?_ | refine condc_fork ?_ ?_) <;> intro hq <;> (first | contradiction | simp -implicitDefEqProofs only [eq_false hq, Decidable.not_not, avm, reduceCtorEq, ↓reduceIte, sevalprocAttr, enc_Msg, sz_Msg, enc_OpenSaid, sz_OpenSaid, enc_Note, sz_Note, enc_Hello, sz_Hello] at h ⊢ | simp -implicitDefEqProofs only [eq_true hq, avm, reduceCtorEq, ↓reduceIte, sevalprocAttr, enc_Msg, sz_Msg, enc_OpenSaid, sz_OpenSaid, enc_Note, sz_Note, enc_Hello, sz_Hello] at h ⊢))
    | ((first | refine gkc_split ?_ ?_ | refine pkc_split ?_ ?_ | refine condc_bool ?_ ?_) <;> intro hq <;> (simp -implicitDefEqProofs only [hq, avm, reduceCtorEq, ↓reduceIte, sevalprocAttr, enc_Msg, sz_Msg, enc_OpenSaid, sz_OpenSaid, enc_Note, sz_Note, enc_Hello, sz_Hello] at h ⊢))
    | (refine stc_plain rfl ?_; simp -implicitDefEqProofs only [putCells.eq_1, avm, reduceCtorEq, ↓reduceIte, sevalprocAttr, enc_Msg, sz_Msg, enc_OpenSaid, sz_OpenSaid, enc_Note, sz_Note, enc_Hello, sz_Hello])
    | (refine bd_go h fun y hy h => ?_; refine isc hy ?_; simp -implicitDefEqProofs only [avm, reduceCtorEq, ↓reduceIte, sevalprocAttr, enc_Msg, sz_Msg, enc_OpenSaid, sz_OpenSaid, enc_Note, sz_Note, enc_Hello, sz_Hello])
    | (refine bd_go h fun y hy h => ?_; (first | refine ssc hy (asn_some (by first | decide | omega)) (asn_some (by first | decide | omega)) ?_ | refine ssc hy asn_none (asn_some (by first | decide | omega)) ?_ | refine ssc hy asn_none asl_none ?_ | refine ssc hy (asn_some (by first | decide | omega)) asl_none ?_ | refine ssc hy (asn_some (sl_get hy).1.1) asl_none ?_ | refine ssc hy asn_none (asn_some (sl_get hy).1.2.1) ?_ | refine ssc hy (asn_some (sl_get hy).1.1) (asn_some (Int.le_trans (sl_get hy).1.1 (sl_get hy).1.2.1)) ?_); simp -implicitDefEqProofs only [avm, reduceCtorEq, ↓reduceIte, sevalprocAttr, enc_Msg, sz_Msg, enc_OpenSaid, sz_OpenSaid, enc_Note, sz_Note, enc_Hello, sz_Hello])
    | (refine bd_go h fun y hy h => ?_; refine sac hy ?_; simp -implicitDefEqProofs only [avm, reduceCtorEq, ↓reduceIte, sevalprocAttr, enc_Msg, sz_Msg, enc_OpenSaid, sz_OpenSaid, enc_Note, sz_Note, enc_Hello, sz_Hello])
    | (refine bd_go h fun y hy h => ?_; refine ixc hy ?_; simp -implicitDefEqProofs only [avm, reduceCtorEq, ↓reduceIte, sevalprocAttr, enc_Msg, sz_Msg, enc_OpenSaid, sz_OpenSaid, enc_Note, sz_Note, enc_Hello, sz_Hello])
    | (refine bd_go h fun y hy h => ?_
       refine apc hy (by first | rfl | (simp -implicitDefEqProofs only [avm, reduceCtorEq, ↓reduceIte, sevalprocAttr, enc_Msg, sz_Msg, enc_OpenSaid, sz_OpenSaid, enc_Note, sz_Note, enc_Hello, sz_Hello]; done)) (by first | rfl | (simp -implicitDefEqProofs only [avm, reduceCtorEq, ↓reduceIte, sevalprocAttr, enc_Msg, sz_Msg, enc_OpenSaid, sz_OpenSaid, enc_Note, sz_Note, enc_Hello, sz_Hello]; done)) (by first | exact .inl rfl | exact .inr rfl) (by first | exact .inl rfl | exact .inr rfl) (by simp only [apTag, List.getElem?_cons_zero, List.getElem?_cons_succ, ↓reduceIte, List.set_cons_zero, List.set_cons_succ, List.nil_append, List.cons_append, List.length_nil, List.length_cons, sevalprocAttr]; rfl) ?_
       simp -implicitDefEqProofs only [avm, reduceCtorEq, ↓reduceIte, sevalprocAttr, enc_Msg, sz_Msg, enc_OpenSaid, sz_OpenSaid, enc_Note, sz_Note, enc_Hello, sz_Hello])
    | (refine bd_go h fun y hy h => ?_; (first | refine slc_max hy rfl (.inl rfl) asn_none ?_ | refine slc_max hy rfl (.inl rfl) (asn_some (by first | decide | omega)) ?_ | refine slc11 hy rfl (.inl rfl) ?_ | refine slc01 hy rfl (.inl rfl) ?_ | refine slc10 hy rfl (.inl rfl) ?_ | refine slc00 hy rfl (.inl rfl) ?_ | refine slc11 hy rfl (.inr rfl) ?_ | refine slc01 hy rfl (.inr rfl) ?_ | refine slc10 hy rfl (.inr rfl) ?_ | refine slc00 hy rfl (.inr rfl) ?_); simp -implicitDefEqProofs only [avm, reduceCtorEq, ↓reduceIte, sevalprocAttr, enc_Msg, sz_Msg, enc_OpenSaid, sz_OpenSaid, enc_Note, sz_Note, enc_Hello, sz_Hello])
    | (refine call_cut p_open_each (by simp [c_open_each]) (fun (j : (Int × Int × Int × Int)) => (.agg [(.int .i64 j.1), (.int .i64 j.2.1), (.slice .full 0 [])])) (fun (j : (Int × Int × Int × Int)) => [(2, 0, (.int .i64 j.2.2.1)), (2, 1, (.int .i64 j.2.2.2))]) (fun (j : (Int × Int × Int × Int)) => []) (show jn 101 _ _ = some _ from h) ?_ ?_
       rotate_left
       intro j h
       simp -implicitDefEqProofs only [patOf, setB.eq_1, setB.eq_2, setF.eq_1, setF.eq_2, List.map_cons, List.map_nil, List.modify_zero_cons, List.modify_succ_cons, List.set_cons_zero, List.set_cons_succ, List.append_nil, List.nil_append, List.cons_append, avm, reduceCtorEq, ↓reduceIte, sevalprocAttr, enc_Msg, sz_Msg, enc_OpenSaid, sz_OpenSaid, enc_Note, sz_Note, enc_Hello, sz_Hello] at h ⊢
       rotate_left
       clear h
       intro k' h
       simp -implicitDefEqProofs only [c_open_each, b_open_each, patOf, setB.eq_1, setB.eq_2, setF.eq_1, setF.eq_2, List.map_cons, List.map_nil, List.modify_zero_cons, List.modify_succ_cons, List.set_cons_zero, List.set_cons_succ, List.append_nil, List.nil_append, List.cons_append, avm, reduceCtorEq, ↓reduceIte, sevalprocAttr, enc_Msg, sz_Msg, enc_OpenSaid, sz_OpenSaid, enc_Note, sz_Note, enc_Hello, sz_Hello] at h ⊢)
    | (refine call_cut p_open_read_1 (by simp [c_open_read_1]) (fun (j : (Int × Int × Int × Int)) => (.agg [(.int .i64 j.1), (.int .i64 j.2.1), (.slice .full 0 [])])) (fun (j : (Int × Int × Int × Int)) => [(2, 0, (.int .i64 j.2.2.1)), (2, 1, (.int .i64 j.2.2.2))]) (fun (j : (Int × Int × Int × Int)) => []) (show jn 102 _ _ = some _ from h) ?_ ?_
       rotate_left
       intro j h
       simp -implicitDefEqProofs only [patOf, setB.eq_1, setB.eq_2, setF.eq_1, setF.eq_2, List.map_cons, List.map_nil, List.modify_zero_cons, List.modify_succ_cons, List.set_cons_zero, List.set_cons_succ, List.append_nil, List.nil_append, List.cons_append, avm, reduceCtorEq, ↓reduceIte, sevalprocAttr, enc_Msg, sz_Msg, enc_OpenSaid, sz_OpenSaid, enc_Note, sz_Note, enc_Hello, sz_Hello] at h ⊢
       rotate_left
       clear h
       intro k' h
       simp -implicitDefEqProofs only [c_open_read_1, b_open_read_1, patOf, setB.eq_1, setB.eq_2, setF.eq_1, setF.eq_2, List.map_cons, List.map_nil, List.modify_zero_cons, List.modify_succ_cons, List.set_cons_zero, List.set_cons_succ, List.append_nil, List.nil_append, List.cons_append, avm, reduceCtorEq, ↓reduceIte, sevalprocAttr, enc_Msg, sz_Msg, enc_OpenSaid, sz_OpenSaid, enc_Note, sz_Note, enc_Hello, sz_Hello] at h ⊢)
    | (refine call_cut p_open_each (by simp [c_open_each]) (fun (j : (Int × Int × Int × Int)) => (.agg [(.int .i64 j.1), (.int .i64 j.2.1), (.slice .full 0 [])])) (fun (j : (Int × Int × Int × Int)) => [(2, 0, (.int .i64 j.2.2.1)), (2, 1, (.int .i64 j.2.2.2))]) (fun (j : (Int × Int × Int × Int)) => []) (show jn 103 _ _ = some _ from h) ?_ ?_
       rotate_left
       intro j h
       simp -implicitDefEqProofs only [patOf, setB.eq_1, setB.eq_2, setF.eq_1, setF.eq_2, List.map_cons, List.map_nil, List.modify_zero_cons, List.modify_succ_cons, List.set_cons_zero, List.set_cons_succ, List.append_nil, List.nil_append, List.cons_append, avm, reduceCtorEq, ↓reduceIte, sevalprocAttr, enc_Msg, sz_Msg, enc_OpenSaid, sz_OpenSaid, enc_Note, sz_Note, enc_Hello, sz_Hello] at h ⊢
       rotate_left
       clear h
       intro k' h
       simp -implicitDefEqProofs only [c_open_each, b_open_each, patOf, setB.eq_1, setB.eq_2, setF.eq_1, setF.eq_2, List.map_cons, List.map_nil, List.modify_zero_cons, List.modify_succ_cons, List.set_cons_zero, List.set_cons_succ, List.append_nil, List.nil_append, List.cons_append, avm, reduceCtorEq, ↓reduceIte, sevalprocAttr, enc_Msg, sz_Msg, enc_OpenSaid, sz_OpenSaid, enc_Note, sz_Note, enc_Hello, sz_Hello] at h ⊢)
    | (refine call_cut p_open_said__take (by simp [c_open_said__take]) (fun (j : (Int × Int × Int × Int)) => (.agg [(.int .i64 j.1), (.int .i64 j.2.1), (.slice .full 0 [])])) (fun (j : (Int × Int × Int × Int)) => [(2, 0, (.int .i64 j.2.2.1)), (2, 1, (.int .i64 j.2.2.2))]) (fun (j : (Int × Int × Int × Int)) => []) (show jn 104 _ _ = some _ from h) ?_ ?_
       rotate_left
       intro j h
       simp -implicitDefEqProofs only [patOf, setB.eq_1, setB.eq_2, setF.eq_1, setF.eq_2, List.map_cons, List.map_nil, List.modify_zero_cons, List.modify_succ_cons, List.set_cons_zero, List.set_cons_succ, List.append_nil, List.nil_append, List.cons_append, avm, reduceCtorEq, ↓reduceIte, sevalprocAttr, enc_Msg, sz_Msg, enc_OpenSaid, sz_OpenSaid, enc_Note, sz_Note, enc_Hello, sz_Hello] at h ⊢
       rotate_left
       clear h
       intro k' h
       simp -implicitDefEqProofs only [c_open_said__take, b_open_said__take, patOf, setB.eq_1, setB.eq_2, setF.eq_1, setF.eq_2, List.map_cons, List.map_nil, List.modify_zero_cons, List.modify_succ_cons, List.set_cons_zero, List.set_cons_succ, List.append_nil, List.nil_append, List.cons_append, avm, reduceCtorEq, ↓reduceIte, sevalprocAttr, enc_Msg, sz_Msg, enc_OpenSaid, sz_OpenSaid, enc_Note, sz_Note, enc_Hello, sz_Hello] at h ⊢)
    | (refine call_cut p_open_said__take (by simp [c_open_said__take]) (fun (j : (Int × Int × Int × Int)) => (.agg [(.int .i64 j.1), (.int .i64 j.2.1), (.slice .full 0 [])])) (fun (j : (Int × Int × Int × Int)) => [(2, 0, (.int .i64 j.2.2.1)), (2, 1, (.int .i64 j.2.2.2))]) (fun (j : (Int × Int × Int × Int)) => []) (show jn 105 _ _ = some _ from h) ?_ ?_
       rotate_left
       intro j h
       simp -implicitDefEqProofs only [patOf, setB.eq_1, setB.eq_2, setF.eq_1, setF.eq_2, List.map_cons, List.map_nil, List.modify_zero_cons, List.modify_succ_cons, List.set_cons_zero, List.set_cons_succ, List.append_nil, List.nil_append, List.cons_append, avm, reduceCtorEq, ↓reduceIte, sevalprocAttr, enc_Msg, sz_Msg, enc_OpenSaid, sz_OpenSaid, enc_Note, sz_Note, enc_Hello, sz_Hello] at h ⊢
       rotate_left
       clear h
       intro k' h
       simp -implicitDefEqProofs only [c_open_said__take, b_open_said__take, patOf, setB.eq_1, setB.eq_2, setF.eq_1, setF.eq_2, List.map_cons, List.map_nil, List.modify_zero_cons, List.modify_succ_cons, List.set_cons_zero, List.set_cons_succ, List.append_nil, List.nil_append, List.cons_append, avm, reduceCtorEq, ↓reduceIte, sevalprocAttr, enc_Msg, sz_Msg, enc_OpenSaid, sz_OpenSaid, enc_Note, sz_Note, enc_Hello, sz_Hello] at h ⊢)
    | (refine call_cut p_open_read_1 (by simp [c_open_read_1]) (fun (j : (Int × Int × Int × Int)) => (.agg [(.int .i64 j.1), (.int .i64 j.2.1), (.slice .full 0 [])])) (fun (j : (Int × Int × Int × Int)) => [(2, 0, (.int .i64 j.2.2.1)), (2, 1, (.int .i64 j.2.2.2))]) (fun (j : (Int × Int × Int × Int)) => []) (show jn 106 _ _ = some _ from h) ?_ ?_
       rotate_left
       intro j h
       simp -implicitDefEqProofs only [patOf, setB.eq_1, setB.eq_2, setF.eq_1, setF.eq_2, List.map_cons, List.map_nil, List.modify_zero_cons, List.modify_succ_cons, List.set_cons_zero, List.set_cons_succ, List.append_nil, List.nil_append, List.cons_append, avm, reduceCtorEq, ↓reduceIte, sevalprocAttr, enc_Msg, sz_Msg, enc_OpenSaid, sz_OpenSaid, enc_Note, sz_Note, enc_Hello, sz_Hello] at h ⊢
       rotate_left
       clear h
       intro k' h
       simp -implicitDefEqProofs only [c_open_read_1, b_open_read_1, patOf, setB.eq_1, setB.eq_2, setF.eq_1, setF.eq_2, List.map_cons, List.map_nil, List.modify_zero_cons, List.modify_succ_cons, List.set_cons_zero, List.set_cons_succ, List.append_nil, List.nil_append, List.cons_append, avm, reduceCtorEq, ↓reduceIte, sevalprocAttr, enc_Msg, sz_Msg, enc_OpenSaid, sz_OpenSaid, enc_Note, sz_Note, enc_Hello, sz_Hello] at h ⊢)
    | (refine call_cut p_open_each (by simp [c_open_each]) (fun (j : (Int × Int × Int × Int)) => (.agg [(.int .i64 j.1), (.int .i64 j.2.1), (.slice .full 0 [])])) (fun (j : (Int × Int × Int × Int)) => [(2, 0, (.int .i64 j.2.2.1)), (2, 1, (.int .i64 j.2.2.2))]) (fun (j : (Int × Int × Int × Int)) => []) (show jn 107 _ _ = some _ from h) ?_ ?_
       rotate_left
       intro j h
       simp -implicitDefEqProofs only [patOf, setB.eq_1, setB.eq_2, setF.eq_1, setF.eq_2, List.map_cons, List.map_nil, List.modify_zero_cons, List.modify_succ_cons, List.set_cons_zero, List.set_cons_succ, List.append_nil, List.nil_append, List.cons_append, avm, reduceCtorEq, ↓reduceIte, sevalprocAttr, enc_Msg, sz_Msg, enc_OpenSaid, sz_OpenSaid, enc_Note, sz_Note, enc_Hello, sz_Hello] at h ⊢
       rotate_left
       clear h
       intro k' h
       simp -implicitDefEqProofs only [c_open_each, b_open_each, patOf, setB.eq_1, setB.eq_2, setF.eq_1, setF.eq_2, List.map_cons, List.map_nil, List.modify_zero_cons, List.modify_succ_cons, List.set_cons_zero, List.set_cons_succ, List.append_nil, List.nil_append, List.cons_append, avm, reduceCtorEq, ↓reduceIte, sevalprocAttr, enc_Msg, sz_Msg, enc_OpenSaid, sz_OpenSaid, enc_Note, sz_Note, enc_Hello, sz_Hello] at h ⊢)
    | (refine call_cut p_open_said__take (by simp [c_open_said__take]) (fun (j : (Int × Int × Int × Int)) => (.agg [(.int .i64 j.1), (.int .i64 j.2.1), (.slice .full 0 [])])) (fun (j : (Int × Int × Int × Int)) => [(2, 0, (.int .i64 j.2.2.1)), (2, 1, (.int .i64 j.2.2.2))]) (fun (j : (Int × Int × Int × Int)) => []) (show jn 108 _ _ = some _ from h) ?_ ?_
       rotate_left
       intro j h
       simp -implicitDefEqProofs only [patOf, setB.eq_1, setB.eq_2, setF.eq_1, setF.eq_2, List.map_cons, List.map_nil, List.modify_zero_cons, List.modify_succ_cons, List.set_cons_zero, List.set_cons_succ, List.append_nil, List.nil_append, List.cons_append, avm, reduceCtorEq, ↓reduceIte, sevalprocAttr, enc_Msg, sz_Msg, enc_OpenSaid, sz_OpenSaid, enc_Note, sz_Note, enc_Hello, sz_Hello] at h ⊢
       rotate_left
       clear h
       intro k' h
       simp -implicitDefEqProofs only [c_open_said__take, b_open_said__take, patOf, setB.eq_1, setB.eq_2, setF.eq_1, setF.eq_2, List.map_cons, List.map_nil, List.modify_zero_cons, List.modify_succ_cons, List.set_cons_zero, List.set_cons_succ, List.append_nil, List.nil_append, List.cons_append, avm, reduceCtorEq, ↓reduceIte, sevalprocAttr, enc_Msg, sz_Msg, enc_OpenSaid, sz_OpenSaid, enc_Note, sz_Note, enc_Hello, sz_Hello] at h ⊢)
    | (refine call_cut p_open_said__take (by simp [c_open_said__take]) (fun (j : (Int × Int × Int × Int)) => (.agg [(.int .i64 j.1), (.int .i64 j.2.1), (.slice .full 0 [])])) (fun (j : (Int × Int × Int × Int)) => [(2, 0, (.int .i64 j.2.2.1)), (2, 1, (.int .i64 j.2.2.2))]) (fun (j : (Int × Int × Int × Int)) => []) (show jn 109 _ _ = some _ from h) ?_ ?_
       rotate_left
       intro j h
       simp -implicitDefEqProofs only [patOf, setB.eq_1, setB.eq_2, setF.eq_1, setF.eq_2, List.map_cons, List.map_nil, List.modify_zero_cons, List.modify_succ_cons, List.set_cons_zero, List.set_cons_succ, List.append_nil, List.nil_append, List.cons_append, avm, reduceCtorEq, ↓reduceIte, sevalprocAttr, enc_Msg, sz_Msg, enc_OpenSaid, sz_OpenSaid, enc_Note, sz_Note, enc_Hello, sz_Hello] at h ⊢
       rotate_left
       clear h
       intro k' h
       simp -implicitDefEqProofs only [c_open_said__take, b_open_said__take, patOf, setB.eq_1, setB.eq_2, setF.eq_1, setF.eq_2, List.map_cons, List.map_nil, List.modify_zero_cons, List.modify_succ_cons, List.set_cons_zero, List.set_cons_succ, List.append_nil, List.nil_append, List.cons_append, avm, reduceCtorEq, ↓reduceIte, sevalprocAttr, enc_Msg, sz_Msg, enc_OpenSaid, sz_OpenSaid, enc_Note, sz_Note, enc_Hello, sz_Hello] at h ⊢)
    | (refine bd_go h fun y hy h => ?_
       first | refine callsc (a_octet_Get hy) ?_ ?_ | refine callc (a_octet_Get hy) ?_ ?_ | ((first | refine callsc (act_le (a_octet_Get hy) ?_) ?_ ?_ | refine callc (act_le (a_octet_Get hy) ?_) ?_ ?_); (focus (repeat' (first | exact trivial | exact le_same _ | exact le_enc | exact le_nil | exact le_imm (.inl rfl) | exact le_imm (.inr rfl) | (refine le_agg ?_) | apply And.intro))))
       focus (first | rfl | (simp only [purL, pur, purL_enc, Enc.pure_enc, Bool.and_self, Bool.and_true]; done))
       simp -implicitDefEqProofs only [avm, reduceCtorEq, ↓reduceIte, sevalprocAttr, enc_Msg, sz_Msg, enc_OpenSaid, sz_OpenSaid, enc_Note, sz_Note, enc_Hello, sz_Hello])
    | (refine bd_go h fun y hy h => ?_
       first | refine callsc (a_octet_Take hy) ?_ ?_ | refine callc (a_octet_Take hy) ?_ ?_ | ((first | refine callsc (act_le (a_octet_Take hy) ?_) ?_ ?_ | refine callc (act_le (a_octet_Take hy) ?_) ?_ ?_); (focus (repeat' (first | exact trivial | exact le_same _ | exact le_enc | exact le_nil | exact le_imm (.inl rfl) | exact le_imm (.inr rfl) | (refine le_agg ?_) | apply And.intro))))
       focus (first | rfl | (simp only [purL, pur, purL_enc, Enc.pure_enc, Bool.and_self, Bool.and_true]; done))
       simp -implicitDefEqProofs only [avm, reduceCtorEq, ↓reduceIte, sevalprocAttr, enc_Msg, sz_Msg, enc_OpenSaid, sz_OpenSaid, enc_Note, sz_Note, enc_Hello, sz_Hello])
    | (refine nz_go h fun hb h => ?_; simp -implicitDefEqProofs only [eq_false hb, avm, reduceCtorEq, ↓reduceIte, sevalprocAttr, enc_Msg, sz_Msg, enc_OpenSaid, sz_OpenSaid, enc_Note, sz_Note, enc_Hello, sz_Hello] at h ⊢)
    | (refine nn_go h fun hb h => ?_; simp -implicitDefEqProofs only [eq_false hb, avm, reduceCtorEq, ↓reduceIte, sevalprocAttr, enc_Msg, sz_Msg, enc_OpenSaid, sz_OpenSaid, enc_Note, sz_Note, enc_Hello, sz_Hello] at h ⊢)
    | (first | refine kn6 ⟨_, h, ?_⟩ | refine kn5 ⟨_, h, ?_⟩
       try simp -implicitDefEqProofs only [patOf, setB.eq_1, setB.eq_2, setF.eq_1, setF.eq_2, List.map_cons, List.map_nil, List.modify_zero_cons, List.modify_succ_cons, List.set_cons_zero, List.set_cons_succ, List.append_nil, List.nil_append, List.cons_append, avm, reduceCtorEq, ↓reduceIte, sevalprocAttr, enc_Msg, sz_Msg, enc_OpenSaid, sz_OpenSaid, enc_Note, sz_Note, enc_Hello, sz_Hello]
       (first
          | (refine wk_m 0 _ rfl ?_ rfl rfl ?_ ?_ ?_ ?_
             · first | exact Nat.le_refl _ | exact Nat.zero_le _ | (simp; done)
             · first | exact Nat.zero_le _ | exact Nat.le_refl _ | (simp; done)
             · first | exact Nat.zero_le _ | exact Nat.le_refl _ | (simp; done)
             all_goals (repeat' (first | exact trivial | apply And.intro))
             all_goals first | exact rfl | exact .same _ rfl | exact wka_imm | exact wka_app (by decide) | exact wka_tag (by decide) rfl | exact wka_tagn (by decide) rfl | exact wka_tagr (by decide) rfl (by simp only [pur, purL, purL_enc, Bool.and_self, Bool.and_true]) | exact wka_immn | (refine .imm _ _ _ _ (.inl rfl) (okBL_pur ?_); simp only [pur, purL, purL_enc, Bool.and_self, Bool.and_true]; done) | exact wka_tag0 (by decide) rfl | exact wka_imm0 | exact wka_pur (Enc.pure_enc _) | exact wka_pur pur_enc_sl | exact wka_pur pur_enc_fl | exact .und _ | (refine wka_pur ?_; simp only [pur, purL, purL_enc, Bool.and_self, Bool.and_true]; done) | (refine .same _ ?_; simp only [okB, okBL, okBL_enc, Bool.and_self, Bool.and_true, decide_true, sevalprocAttr]; done) | (refine .le _ _ ?_ (okB_pur ?_); (focus (repeat' (first | exact le_same _ | exact le_enc | exact le_nil | exact le_imm (.inl rfl) | exact le_imm (.inr rfl) | refine le_agg ?_ | exact trivial | apply And.intro))); (simp only [pur, purL, purL_enc, Bool.and_self, Bool.and_true]; done)))))
    | (refine rets_in (by first | exact .inr rfl | exact .inl rfl) rfl ?_; simp -implicitDefEqProofs only [avm, reduceCtorEq, ↓reduceIte, sevalprocAttr, enc_Msg, sz_Msg, enc_OpenSaid, sz_OpenSaid, enc_Note, sz_Note, enc_Hello, sz_Hello])
    | (refine retj_one 0 (by first | exact .inr rfl | exact .inl rfl) h rfl ?_ ?_ ?_ rfl rfl ?_ ?_
       · first | exact Nat.le_refl _ | exact Nat.zero_le _ | (simp; done)
       · first | exact Nat.zero_le _ | exact Nat.le_refl _ | (simp; done)
       · first | exact Nat.zero_le _ | exact Nat.le_refl _ | (simp; done)
       all_goals (try simp -implicitDefEqProofs only [patOf, setB.eq_1, setB.eq_2, setF.eq_1, setF.eq_2, List.map_cons, List.map_nil, List.modify_zero_cons, List.modify_succ_cons, List.set_cons_zero, List.set_cons_succ, List.append_nil, List.nil_append, List.cons_append, avm, reduceCtorEq, ↓reduceIte, sevalprocAttr, enc_Msg, sz_Msg, enc_OpenSaid, sz_OpenSaid, enc_Note, sz_Note, enc_Hello, sz_Hello])
       all_goals (repeat' (first | exact trivial | apply And.intro))
       all_goals first | exact rfl | exact .same _ rfl | exact wka_imm | exact wka_app (by decide) | exact wka_tag (by decide) rfl | exact wka_tagn (by decide) rfl | exact wka_tagr (by decide) rfl (by simp only [pur, purL, purL_enc, Bool.and_self, Bool.and_true]) | exact wka_immn | (refine .imm _ _ _ _ (.inl rfl) (okBL_pur ?_); simp only [pur, purL, purL_enc, Bool.and_self, Bool.and_true]; done) | exact wka_tag0 (by decide) rfl | exact wka_imm0 | exact wka_pur (Enc.pure_enc _) | exact wka_pur pur_enc_sl | exact wka_pur pur_enc_fl | exact .und _ | (refine wka_pur ?_; simp only [pur, purL, purL_enc, Bool.and_self, Bool.and_true]; done) | (refine .same _ ?_; simp only [okB, okBL, okBL_enc, Bool.and_self, Bool.and_true, decide_true, sevalprocAttr]; done) | (refine .le _ _ ?_ (okB_pur ?_); (focus (repeat' (first | exact le_same _ | exact le_enc | exact le_nil | exact le_imm (.inl rfl) | exact le_imm (.inr rfl) | refine le_agg ?_ | exact trivial | apply And.intro))); (simp only [pur, purL, purL_enc, Bool.and_self, Bool.and_true]; done)))
    | (refine retj_tup 0 (by first | exact .inr rfl | exact .inl rfl) h rfl ?_ ?_ ?_ rfl rfl ?_ ?_
       · first | exact Nat.le_refl _ | exact Nat.zero_le _ | (simp; done)
       · first | exact Nat.zero_le _ | exact Nat.le_refl _ | (simp; done)
       · first | exact Nat.zero_le _ | exact Nat.le_refl _ | (simp; done)
       all_goals (try simp -implicitDefEqProofs only [patOf, setB.eq_1, setB.eq_2, setF.eq_1, setF.eq_2, List.map_cons, List.map_nil, List.modify_zero_cons, List.modify_succ_cons, List.set_cons_zero, List.set_cons_succ, List.append_nil, List.nil_append, List.cons_append, avm, reduceCtorEq, ↓reduceIte, sevalprocAttr, enc_Msg, sz_Msg, enc_OpenSaid, sz_OpenSaid, enc_Note, sz_Note, enc_Hello, sz_Hello])
       all_goals (repeat' (first | exact trivial | apply And.intro))
       all_goals first | exact rfl | exact .same _ rfl | exact wka_imm | exact wka_app (by decide) | exact wka_tag (by decide) rfl | exact wka_tagn (by decide) rfl | exact wka_tagr (by decide) rfl (by simp only [pur, purL, purL_enc, Bool.and_self, Bool.and_true]) | exact wka_immn | (refine .imm _ _ _ _ (.inl rfl) (okBL_pur ?_); simp only [pur, purL, purL_enc, Bool.and_self, Bool.and_true]; done) | exact wka_tag0 (by decide) rfl | exact wka_imm0 | exact wka_pur (Enc.pure_enc _) | exact wka_pur pur_enc_sl | exact wka_pur pur_enc_fl | exact .und _ | (refine wka_pur ?_; simp only [pur, purL, purL_enc, Bool.and_self, Bool.and_true]; done) | (refine .same _ ?_; simp only [okB, okBL, okBL_enc, Bool.and_self, Bool.and_true, decide_true, sevalprocAttr]; done) | (refine .le _ _ ?_ (okB_pur ?_); (focus (repeat' (first | exact le_same _ | exact le_enc | exact le_nil | exact le_imm (.inl rfl) | exact le_imm (.inr rfl) | refine le_agg ?_ | exact trivial | apply And.intro))); (simp only [pur, purL, purL_enc, Bool.and_self, Bool.and_true]; done)))
    | (refine retj_nil 0 (by first | exact .inr rfl | exact .inl rfl) h rfl ?_ ?_ ?_ rfl rfl ?_
       · first | exact Nat.le_refl _ | exact Nat.zero_le _ | (simp; done)
       · first | exact Nat.zero_le _ | exact Nat.le_refl _ | (simp; done)
       · first | exact Nat.zero_le _ | exact Nat.le_refl _ | (simp; done)
       all_goals (try simp -implicitDefEqProofs only [patOf, setB.eq_1, setB.eq_2, setF.eq_1, setF.eq_2, List.map_cons, List.map_nil, List.modify_zero_cons, List.modify_succ_cons, List.set_cons_zero, List.set_cons_succ, List.append_nil, List.nil_append, List.cons_append, avm, reduceCtorEq, ↓reduceIte, sevalprocAttr, enc_Msg, sz_Msg, enc_OpenSaid, sz_OpenSaid, enc_Note, sz_Note, enc_Hello, sz_Hello])
       all_goals (repeat' (first | exact trivial | apply And.intro))
       all_goals first | exact rfl | exact .same _ rfl | exact wka_imm | exact wka_app (by decide) | exact wka_tag (by decide) rfl | exact wka_tagn (by decide) rfl | exact wka_tagr (by decide) rfl (by simp only [pur, purL, purL_enc, Bool.and_self, Bool.and_true]) | exact wka_immn | (refine .imm _ _ _ _ (.inl rfl) (okBL_pur ?_); simp only [pur, purL, purL_enc, Bool.and_self, Bool.and_true]; done) | exact wka_tag0 (by decide) rfl | exact wka_imm0 | exact wka_pur (Enc.pure_enc _) | exact wka_pur pur_enc_sl | exact wka_pur pur_enc_fl | exact .und _ | (refine wka_pur ?_; simp only [pur, purL, purL_enc, Bool.and_self, Bool.and_true]; done) | (refine .same _ ?_; simp only [okB, okBL, okBL_enc, Bool.and_self, Bool.and_true, decide_true, sevalprocAttr]; done) | (refine .le _ _ ?_ (okB_pur ?_); (focus (repeat' (first | exact le_same _ | exact le_enc | exact le_nil | exact le_imm (.inl rfl) | exact le_imm (.inr rfl) | refine le_agg ?_ | exact trivial | apply And.intro))); (simp only [pur, purL, purL_enc, Bool.and_self, Bool.and_true]; done)))
    | (cases h
       try simp -implicitDefEqProofs only [avm, reduceCtorEq, ↓reduceIte, sevalprocAttr, enc_Msg, sz_Msg, enc_OpenSaid, sz_OpenSaid, enc_Note, sz_Note, enc_Hello, sz_Hello]
       first | refine retLt (by first | exact .inr rfl | exact .inl rfl) (by rfl) ?_ | refine retL1 (by first | exact .inr rfl | exact .inl rfl) (by rfl) ?_
       repeat' (first | exact trivial | apply And.intro)
       all_goals first | exact .same _ rfl | exact reta_imm | exact reta_nil | (refine .imm _ _ _ ?_; simp only [pur, purL, purL_enc, Bool.and_self, Bool.and_true]; done) | exact .same _ (Enc.pure_enc _) | exact .same _ pur_enc_sl | (refine .same _ ?_; simp only [pur, purL, purL_enc, Bool.and_self, Bool.and_true]; done) | (refine .le _ _ ?_ ?_; (focus (repeat' (first | exact le_same _ | exact le_enc | exact le_nil | exact le_imm (.inl rfl) | exact le_imm (.inr rfl) | refine le_agg ?_ | exact trivial | apply And.intro))); (simp only [pur, purL, purL_enc, Bool.and_self, Bool.and_true]; done)))
    | fail)
theorem a_open_holds {a0 : Int} {r : Bool} (h : m_open_holds a0 = some r) : ACt Try.prog 51 [Enc.enc a0] (Enc.enc r) [] := by
  refine act_of p_open_holds (by simp [c_open_holds]) ?_
  show AW _ b_open_holds (RetOk [.tmp 2] _ _) { n := 13, tm := [(0, _)], box := [], fr := [] }
  unfold b_open_holds
  unfold m_open_holds at h
  try simp -implicitDefEqProofs only [avm, reduceCtorEq, ↓reduceIte, sevalprocAttr, enc_Msg, sz_Msg, enc_OpenSaid, sz_OpenSaid, enc_Note, sz_Note, enc_Hello, sz_Hello] at h
  repeat' (first
    | (refine (hκ _).mpr ?_; clear hκ)
    | refine kn1 ?_
    | refine kr1 ?_
    | refine ke1 ?_
    | refine kn2 ?_
    | refine kr2 ?_
    | refine kx2 ?_
    | refine ke2 rfl ?_
    | refine kr5 ?_
    | refine ke5 ?_
    | refine kr6 ?_
    | refine ke6 ?_
    | refine w_seq ?_
    | refine w_block ?_
    | (refine aw_regk fun κ hκ => ?_; simp -implicitDefEqProofs only [avm, reduceCtorEq, ↓reduceIte, sevalprocAttr, enc_Msg, sz_Msg, enc_OpenSaid, sz_OpenSaid, enc_Note, sz_Note, enc_Hello, sz_Hello])
    | refine aw_exit ?_
    | refine aw_ret ?_
    | refine aw_skip ?_
    | refine aw_label ?_
    | refine condc_t ?_
    | refine condc_f ?_
    | (refine aw_cond2 (by simp -implicitDefEqProofs only [avm, reduceCtorEq, ↓reduceIte, sevalprocAttr, enc_Msg, sz_Msg, enc_OpenSaid, sz_OpenSaid, enc_Note, sz_Note, enc_Hello, sz_Hello]; rfl) ?_)
    | ((first | refine gkc_fork ?_ ?_ | refine pkc_fork ?_ ?_ | refine condc_fork ?_ ?_) <;> intro hq <;> (first | contradiction | simp -implicitDefEqProofs only [eq_false hq, Decidable.not_not, avm, reduceCtorEq, ↓reduceIte, sevalprocAttr, enc_Msg, sz_Msg, enc_OpenSaid, sz_OpenSaid, enc_Note, sz_Note, enc_Hello, sz_Hello] at h ⊢ | simp -implicitDefEqProofs only [eq_true hq, avm, reduceCtorEq, ↓reduceIte, sevalprocAttr, enc_Msg, sz_Msg, enc_OpenSaid, sz_OpenSaid, enc_Note, sz_Note, enc_Hello, sz_Hello] at h ⊢))
    | ((first | refine gkc_split ?_ ?_ | refine pkc_split ?_ ?_ | refine condc_bool ?_ ?_) <;> intro hq <;> (simp -implicitDefEqProofs only [hq, avm, reduceCtorEq, ↓reduceIte, sevalprocAttr, enc_Msg, sz_Msg, enc_OpenSaid, sz_OpenSaid, enc_Note, sz_Note, enc_Hello, sz_Hello] at h ⊢))
    | (refine stc_plain rfl ?_; simp -implicitDefEqProofs only [putCells.eq_1, avm, reduceCtorEq, ↓reduceIte, sevalprocAttr, enc_Msg, sz_Msg, enc_OpenSaid, sz_OpenSaid, enc_Note, sz_Note, enc_Hello, sz_Hello])
    | (refine bd_go h fun y hy h => ?_; refine isc hy ?_; simp -implicitDefEqProofs only [avm, reduceCtorEq, ↓reduceIte, sevalprocAttr, enc_Msg, sz_Msg, enc_OpenSaid, sz_OpenSaid, enc_Note, sz_Note, enc_Hello, sz_Hello])
    | (refine bd_go h fun y hy h => ?_; (first | refine ssc hy (asn_some (by first | decide | omega)) (asn_some (by first | decide | omega)) ?_ | refine ssc hy asn_none (asn_some (by first | decide | omega)) ?_ | refine ssc hy asn_none asl_none ?_ | refine ssc hy (asn_some (by first | decide | omega)) asl_none ?_ | refine ssc hy (asn_some (sl_get hy).1.1) asl_none ?_ | refine ssc hy asn_none (asn_some (sl_get hy).1.2.1) ?_ | refine ssc hy (asn_some (sl_get hy).1.1) (asn_some (Int.le_trans (sl_get hy).1.1 (sl_get hy).1.2.1)) ?_); simp -implicitDefEqProofs only [avm, reduceCtorEq, ↓reduceIte, sevalprocAttr, enc_Msg, sz_Msg, enc_OpenSaid, sz_OpenSaid, enc_Note, sz_Note, enc_Hello, sz_Hello])
    | (refine bd_go h fun y hy h => ?_; refine sac hy ?_; simp -implicitDefEqProofs only [avm, reduceCtorEq, ↓reduceIte, sevalprocAttr, enc_Msg, sz_Msg, enc_OpenSaid, sz_OpenSaid, enc_Note, sz_Note, enc_Hello, sz_Hello])
    | (refine bd_go h fun y hy h => ?_; refine ixc hy ?_; simp -implicitDefEqProofs only [avm, reduceCtorEq, ↓reduceIte, sevalprocAttr, enc_Msg, sz_Msg, enc_OpenSaid, sz_OpenSaid, enc_Note, sz_Note, enc_Hello, sz_Hello])
    | (refine bd_go h fun y hy h => ?_
       refine apc hy (by first | rfl | (simp -implicitDefEqProofs only [avm, reduceCtorEq, ↓reduceIte, sevalprocAttr, enc_Msg, sz_Msg, enc_OpenSaid, sz_OpenSaid, enc_Note, sz_Note, enc_Hello, sz_Hello]; done)) (by first | rfl | (simp -implicitDefEqProofs only [avm, reduceCtorEq, ↓reduceIte, sevalprocAttr, enc_Msg, sz_Msg, enc_OpenSaid, sz_OpenSaid, enc_Note, sz_Note, enc_Hello, sz_Hello]; done)) (by first | exact .inl rfl | exact .inr rfl) (by first | exact .inl rfl | exact .inr rfl) (by simp only [apTag, List.getElem?_cons_zero, List.getElem?_cons_succ, ↓reduceIte, List.set_cons_zero, List.set_cons_succ, List.nil_append, List.cons_append, List.length_nil, List.length_cons, sevalprocAttr]; rfl) ?_
       simp -implicitDefEqProofs only [avm, reduceCtorEq, ↓reduceIte, sevalprocAttr, enc_Msg, sz_Msg, enc_OpenSaid, sz_OpenSaid, enc_Note, sz_Note, enc_Hello, sz_Hello])
    | (refine bd_go h fun y hy h => ?_; (first | refine slc_max hy rfl (.inl rfl) asn_none ?_ | refine slc_max hy rfl (.inl rfl) (asn_some (by first | decide | omega)) ?_ | refine slc11 hy rfl (.inl rfl) ?_ | refine slc01 hy rfl (.inl rfl) ?_ | refine slc10 hy rfl (.inl rfl) ?_ | refine slc00 hy rfl (.inl rfl) ?_ | refine slc11 hy rfl (.inr rfl) ?_ | refine slc01 hy rfl (.inr rfl) ?_ | refine slc10 hy rfl (.inr rfl) ?_ | refine slc00 hy rfl (.inr rfl) ?_); simp -implicitDefEqProofs only [avm, reduceCtorEq, ↓reduceIte, sevalprocAttr, enc_Msg, sz_Msg, enc_OpenSaid, sz_OpenSaid, enc_Note, sz_Note, enc_Hello, sz_Hello])
    | (refine nz_go h fun hb h => ?_; simp -implicitDefEqProofs only [eq_false hb, avm, reduceCtorEq, ↓reduceIte, sevalprocAttr, enc_Msg, sz_Msg, enc_OpenSaid, sz_OpenSaid, enc_Note, sz_Note, enc_Hello, sz_Hello] at h ⊢)
    | (refine nn_go h fun hb h => ?_; simp -implicitDefEqProofs only [eq_false hb, avm, reduceCtorEq, ↓reduceIte, sevalprocAttr, enc_Msg, sz_Msg, enc_OpenSaid, sz_OpenSaid, enc_Note, sz_Note, enc_Hello, sz_Hello] at h ⊢)
    | (cases h
       try simp -implicitDefEqProofs only [avm, reduceCtorEq, ↓reduceIte, sevalprocAttr, enc_Msg, sz_Msg, enc_OpenSaid, sz_OpenSaid, enc_Note, sz_Note, enc_Hello, sz_Hello]
       first | refine retLt (by first | exact .inr rfl | exact .inl rfl) (by rfl) ?_ | refine retL1 (by first | exact .inr rfl | exact .inl rfl) (by rfl) ?_
       repeat' (first | exact trivial | apply And.intro)
       all_goals first | exact .same _ rfl | exact reta_imm | exact reta_nil | (refine .imm _ _ _ ?_; simp only [pur, purL, purL_enc, Bool.and_self, Bool.and_true]; done) | exact .same _ (Enc.pure_enc _) | exact .same _ pur_enc_sl | (refine .same _ ?_; simp only [pur, purL, purL_enc, Bool.and_self, Bool.and_true]; done) | (refine .le _ _ ?_ ?_; (focus (repeat' (first | exact le_same _ | exact le_enc | exact le_nil | exact le_imm (.inl rfl) | exact le_imm (.inr rfl) | refine le_agg ?_ | exact trivial | apply And.intro))); (simp only [pur, purL, purL_enc, Bool.and_self, Bool.and_true]; done)))
    | fail)
theorem a_open_short {a0 : Int} {r : Int} (h : m_open_short a0 = some r) : ACt Try.prog 53 [Enc.enc a0] (Enc.enc r) [] := by
  refine act_of p_open_short (by simp [c_open_short]) ?_
  show AW _ b_open_short (RetOk [.tmp 2] _ _) { n := 6, tm := [(0, _)], box := [], fr := [] }
  unfold b_open_short
  unfold m_open_short at h
  try simp -implicitDefEqProofs only [avm, reduceCtorEq, ↓reduceIte, sevalprocAttr, enc_Msg, sz_Msg, enc_OpenSaid, sz_OpenSaid, enc_Note, sz_Note, enc_Hello, sz_Hello] at h
  repeat' (first
    | (refine (hκ _).mpr ?_; clear hκ)
    | refine kn1 ?_
    | refine kr1 ?_
    | refine ke1 ?_
    | refine kn2 ?_
    | refine kr2 ?_
    | refine kx2 ?_
    | refine ke2 rfl ?_
    | refine kr5 ?_
    | refine ke5 ?_
    | refine kr6 ?_
    | refine ke6 ?_
    | refine w_seq ?_
    | refine w_block ?_
    | (refine aw_regk fun κ hκ => ?_; simp -implicitDefEqProofs only [avm, reduceCtorEq, ↓reduceIte, sevalprocAttr, enc_Msg, sz_Msg, enc_OpenSaid, sz_OpenSaid, enc_Note, sz_Note, enc_Hello, sz_Hello])
    | refine aw_exit ?_
    | refine aw_ret ?_
    | refine aw_skip ?_
    | refine aw_label ?_
    | refine condc_t ?_
    | refine condc_f ?_
    | (refine aw_cond2 (by simp -implicitDefEqProofs only [avm, reduceCtorEq, ↓reduceIte, sevalprocAttr, enc_Msg, sz_Msg, enc_OpenSaid, sz_OpenSaid, enc_Note, sz_Note, enc_Hello, sz_Hello]; rfl) ?_)
    | ((first | refine gkc_fork ?_ ?_ | refine pkc_fork ?_ ?_ | refine condc_fork ?_ ?_) <;> intro hq <;> (first | contradiction | simp -implicitDefEqProofs only [eq_false hq, Decidable.not_not, avm, reduceCtorEq, ↓reduceIte, sevalprocAttr, enc_Msg, sz_Msg, enc_OpenSaid, sz_OpenSaid, enc_Note, sz_Note, enc_Hello, sz_Hello] at h ⊢ | simp -implicitDefEqProofs only [eq_true hq, avm, reduceCtorEq, ↓reduceIte, sevalprocAttr, enc_Msg, sz_Msg, enc_OpenSaid, sz_OpenSaid, enc_Note, sz_Note, enc_Hello, sz_Hello] at h ⊢))
    | ((first | refine gkc_split ?_ ?_ | refine pkc_split ?_ ?_ | refine condc_bool ?_ ?_) <;> intro hq <;> (simp -implicitDefEqProofs only [hq, avm, reduceCtorEq, ↓reduceIte, sevalprocAttr, enc_Msg, sz_Msg, enc_OpenSaid, sz_OpenSaid, enc_Note, sz_Note, enc_Hello, sz_Hello] at h ⊢))
    | (refine stc_plain rfl ?_; simp -implicitDefEqProofs only [putCells.eq_1, avm, reduceCtorEq, ↓reduceIte, sevalprocAttr, enc_Msg, sz_Msg, enc_OpenSaid, sz_OpenSaid, enc_Note, sz_Note, enc_Hello, sz_Hello])
    | (refine bd_go h fun y hy h => ?_; refine isc hy ?_; simp -implicitDefEqProofs only [avm, reduceCtorEq, ↓reduceIte, sevalprocAttr, enc_Msg, sz_Msg, enc_OpenSaid, sz_OpenSaid, enc_Note, sz_Note, enc_Hello, sz_Hello])
    | (refine bd_go h fun y hy h => ?_; (first | refine ssc hy (asn_some (by first | decide | omega)) (asn_some (by first | decide | omega)) ?_ | refine ssc hy asn_none (asn_some (by first | decide | omega)) ?_ | refine ssc hy asn_none asl_none ?_ | refine ssc hy (asn_some (by first | decide | omega)) asl_none ?_ | refine ssc hy (asn_some (sl_get hy).1.1) asl_none ?_ | refine ssc hy asn_none (asn_some (sl_get hy).1.2.1) ?_ | refine ssc hy (asn_some (sl_get hy).1.1) (asn_some (Int.le_trans (sl_get hy).1.1 (sl_get hy).1.2.1)) ?_); simp -implicitDefEqProofs only [avm, reduceCtorEq, ↓reduceIte, sevalprocAttr, enc_Msg, sz_Msg, enc_OpenSaid, sz_OpenSaid, enc_Note, sz_Note, enc_Hello, sz_Hello])
    | (refine bd_go h fun y hy h => ?_; refine sac hy ?_; simp -implicitDefEqProofs only [avm, reduceCtorEq, ↓reduceIte, sevalprocAttr, enc_Msg, sz_Msg, enc_OpenSaid, sz_OpenSaid, enc_Note, sz_Note, enc_Hello, sz_Hello])
    | (refine bd_go h fun y hy h => ?_; refine ixc hy ?_; simp -implicitDefEqProofs only [avm, reduceCtorEq, ↓reduceIte, sevalprocAttr, enc_Msg, sz_Msg, enc_OpenSaid, sz_OpenSaid, enc_Note, sz_Note, enc_Hello, sz_Hello])
    | (refine bd_go h fun y hy h => ?_
       refine apc hy (by first | rfl | (simp -implicitDefEqProofs only [avm, reduceCtorEq, ↓reduceIte, sevalprocAttr, enc_Msg, sz_Msg, enc_OpenSaid, sz_OpenSaid, enc_Note, sz_Note, enc_Hello, sz_Hello]; done)) (by first | rfl | (simp -implicitDefEqProofs only [avm, reduceCtorEq, ↓reduceIte, sevalprocAttr, enc_Msg, sz_Msg, enc_OpenSaid, sz_OpenSaid, enc_Note, sz_Note, enc_Hello, sz_Hello]; done)) (by first | exact .inl rfl | exact .inr rfl) (by first | exact .inl rfl | exact .inr rfl) (by simp only [apTag, List.getElem?_cons_zero, List.getElem?_cons_succ, ↓reduceIte, List.set_cons_zero, List.set_cons_succ, List.nil_append, List.cons_append, List.length_nil, List.length_cons, sevalprocAttr]; rfl) ?_
       simp -implicitDefEqProofs only [avm, reduceCtorEq, ↓reduceIte, sevalprocAttr, enc_Msg, sz_Msg, enc_OpenSaid, sz_OpenSaid, enc_Note, sz_Note, enc_Hello, sz_Hello])
    | (refine bd_go h fun y hy h => ?_; (first | refine slc_max hy rfl (.inl rfl) asn_none ?_ | refine slc_max hy rfl (.inl rfl) (asn_some (by first | decide | omega)) ?_ | refine slc11 hy rfl (.inl rfl) ?_ | refine slc01 hy rfl (.inl rfl) ?_ | refine slc10 hy rfl (.inl rfl) ?_ | refine slc00 hy rfl (.inl rfl) ?_ | refine slc11 hy rfl (.inr rfl) ?_ | refine slc01 hy rfl (.inr rfl) ?_ | refine slc10 hy rfl (.inr rfl) ?_ | refine slc00 hy rfl (.inr rfl) ?_); simp -implicitDefEqProofs only [avm, reduceCtorEq, ↓reduceIte, sevalprocAttr, enc_Msg, sz_Msg, enc_OpenSaid, sz_OpenSaid, enc_Note, sz_Note, enc_Hello, sz_Hello])
    | (refine nz_go h fun hb h => ?_; simp -implicitDefEqProofs only [eq_false hb, avm, reduceCtorEq, ↓reduceIte, sevalprocAttr, enc_Msg, sz_Msg, enc_OpenSaid, sz_OpenSaid, enc_Note, sz_Note, enc_Hello, sz_Hello] at h ⊢)
    | (refine nn_go h fun hb h => ?_; simp -implicitDefEqProofs only [eq_false hb, avm, reduceCtorEq, ↓reduceIte, sevalprocAttr, enc_Msg, sz_Msg, enc_OpenSaid, sz_OpenSaid, enc_Note, sz_Note, enc_Hello, sz_Hello] at h ⊢)
    | (cases h
       try simp -implicitDefEqProofs only [avm, reduceCtorEq, ↓reduceIte, sevalprocAttr, enc_Msg, sz_Msg, enc_OpenSaid, sz_OpenSaid, enc_Note, sz_Note, enc_Hello, sz_Hello]
       first | refine retLt (by first | exact .inr rfl | exact .inl rfl) (by rfl) ?_ | refine retL1 (by first | exact .inr rfl | exact .inl rfl) (by rfl) ?_
       repeat' (first | exact trivial | apply And.intro)
       all_goals first | exact .same _ rfl | exact reta_imm | exact reta_nil | (refine .imm _ _ _ ?_; simp only [pur, purL, purL_enc, Bool.and_self, Bool.and_true]; done) | exact .same _ (Enc.pure_enc _) | exact .same _ pur_enc_sl | (refine .same _ ?_; simp only [pur, purL, purL_enc, Bool.and_self, Bool.and_true]; done) | (refine .le _ _ ?_ ?_; (focus (repeat' (first | exact le_same _ | exact le_enc | exact le_nil | exact le_imm (.inl rfl) | exact le_imm (.inr rfl) | refine le_agg ?_ | exact trivial | apply And.intro))); (simp only [pur, purL, purL_enc, Bool.and_self, Bool.and_true]; done)))
    | fail)
theorem a_open_fault {a0 : OpenSaid} {a1 : Int} {a2 : Int} {a3 : Int} {a4 : Int} {r : Note} (h : m_open_fault a0 a1 a2 a3 a4 = some r) : ACt Try.prog 44 [Enc.enc a0, Enc.enc a1, Enc.enc a2, Enc.enc a3, Enc.enc a4] (Enc.enc r) [] := by
  refine act_of p_open_fault (by simp [c_open_fault]) ?_
  show AW _ b_open_fault (RetOk [.cell 10 (some 3)] _ _) { n := 45, tm := [(0, _), (1, _), (2, _), (3, _), (4, _)], box := [], fr := [] }
  unfold b_open_fault
  unfold m_open_fault at h
  try simp -implicitDefEqProofs only [avm, reduceCtorEq, ↓reduceIte, sevalprocAttr, enc_Msg, sz_Msg, enc_OpenSaid, sz_OpenSaid, enc_Note, sz_Note, enc_Hello, sz_Hello] at h
  repeat' (first
    | (refine (hκ _).mpr ?_; clear hκ)
    | refine kn1 ?_
    | refine kr1 ?_
    | refine ke1 ?_
    | refine kn2 ?_
    | refine kr2 ?_
    | refine kx2 ?_
    | refine ke2 rfl ?_
    | refine kr5 ?_
    | refine ke5 ?_
    | refine kr6 ?_
    | refine ke6 ?_
    | refine w_seq ?_
    | refine w_block ?_
    | (refine aw_regk fun κ hκ => ?_; simp -implicitDefEqProofs only [avm, reduceCtorEq, ↓reduceIte, sevalprocAttr, enc_Msg, sz_Msg, enc_OpenSaid, sz_OpenSaid, enc_Note, sz_Note, enc_Hello, sz_Hello])
    | refine aw_exit ?_
    | refine aw_ret ?_
    | refine aw_skip ?_
    | refine aw_label ?_
    | refine condc_t ?_
    | refine condc_f ?_
    | (refine aw_cond2 (by simp -implicitDefEqProofs only [avm, reduceCtorEq, ↓reduceIte, sevalprocAttr, enc_Msg, sz_Msg, enc_OpenSaid, sz_OpenSaid, enc_Note, sz_Note, enc_Hello, sz_Hello]; rfl) ?_)
    | ((first | refine gkc_fork ?_ ?_ | refine pkc_fork ?_ ?_ | refine condc_fork ?_ ?_) <;> intro hq <;> (first | contradiction | simp -implicitDefEqProofs only [eq_false hq, Decidable.not_not, avm, reduceCtorEq, ↓reduceIte, sevalprocAttr, enc_Msg, sz_Msg, enc_OpenSaid, sz_OpenSaid, enc_Note, sz_Note, enc_Hello, sz_Hello] at h ⊢ | simp -implicitDefEqProofs only [eq_true hq, avm, reduceCtorEq, ↓reduceIte, sevalprocAttr, enc_Msg, sz_Msg, enc_OpenSaid, sz_OpenSaid, enc_Note, sz_Note, enc_Hello, sz_Hello] at h ⊢))
    | ((first | refine gkc_split ?_ ?_ | refine pkc_split ?_ ?_ | refine condc_bool ?_ ?_) <;> intro hq <;> (simp -implicitDefEqProofs only [hq, avm, reduceCtorEq, ↓reduceIte, sevalprocAttr, enc_Msg, sz_Msg, enc_OpenSaid, sz_OpenSaid, enc_Note, sz_Note, enc_Hello, sz_Hello] at h ⊢))
    | (refine stc_plain rfl ?_; simp -implicitDefEqProofs only [putCells.eq_1, avm, reduceCtorEq, ↓reduceIte, sevalprocAttr, enc_Msg, sz_Msg, enc_OpenSaid, sz_OpenSaid, enc_Note, sz_Note, enc_Hello, sz_Hello])
    | (refine bd_go h fun y hy h => ?_; refine isc hy ?_; simp -implicitDefEqProofs only [avm, reduceCtorEq, ↓reduceIte, sevalprocAttr, enc_Msg, sz_Msg, enc_OpenSaid, sz_OpenSaid, enc_Note, sz_Note, enc_Hello, sz_Hello])
    | (refine bd_go h fun y hy h => ?_; (first | refine ssc hy (asn_some (by first | decide | omega)) (asn_some (by first | decide | omega)) ?_ | refine ssc hy asn_none (asn_some (by first | decide | omega)) ?_ | refine ssc hy asn_none asl_none ?_ | refine ssc hy (asn_some (by first | decide | omega)) asl_none ?_ | refine ssc hy (asn_some (sl_get hy).1.1) asl_none ?_ | refine ssc hy asn_none (asn_some (sl_get hy).1.2.1) ?_ | refine ssc hy (asn_some (sl_get hy).1.1) (asn_some (Int.le_trans (sl_get hy).1.1 (sl_get hy).1.2.1)) ?_); simp -implicitDefEqProofs only [avm, reduceCtorEq, ↓reduceIte, sevalprocAttr, enc_Msg, sz_Msg, enc_OpenSaid, sz_OpenSaid, enc_Note, sz_Note, enc_Hello, sz_Hello])
    | (refine bd_go h fun y hy h => ?_; refine sac hy ?_; simp -implicitDefEqProofs only [avm, reduceCtorEq, ↓reduceIte, sevalprocAttr, enc_Msg, sz_Msg, enc_OpenSaid, sz_OpenSaid, enc_Note, sz_Note, enc_Hello, sz_Hello])
    | (refine bd_go h fun y hy h => ?_; refine ixc hy ?_; simp -implicitDefEqProofs only [avm, reduceCtorEq, ↓reduceIte, sevalprocAttr, enc_Msg, sz_Msg, enc_OpenSaid, sz_OpenSaid, enc_Note, sz_Note, enc_Hello, sz_Hello])
    | (refine bd_go h fun y hy h => ?_
       refine apc hy (by first | rfl | (simp -implicitDefEqProofs only [avm, reduceCtorEq, ↓reduceIte, sevalprocAttr, enc_Msg, sz_Msg, enc_OpenSaid, sz_OpenSaid, enc_Note, sz_Note, enc_Hello, sz_Hello]; done)) (by first | rfl | (simp -implicitDefEqProofs only [avm, reduceCtorEq, ↓reduceIte, sevalprocAttr, enc_Msg, sz_Msg, enc_OpenSaid, sz_OpenSaid, enc_Note, sz_Note, enc_Hello, sz_Hello]; done)) (by first | exact .inl rfl | exact .inr rfl) (by first | exact .inl rfl | exact .inr rfl) (by simp only [apTag, List.getElem?_cons_zero, List.getElem?_cons_succ, ↓reduceIte, List.set_cons_zero, List.set_cons_succ, List.nil_append, List.cons_append, List.length_nil, List.length_cons, sevalprocAttr]; rfl) ?_
       simp -implicitDefEqProofs only [avm, reduceCtorEq, ↓reduceIte, sevalprocAttr, enc_Msg, sz_Msg, enc_OpenSaid, sz_OpenSaid, enc_Note, sz_Note, enc_Hello, sz_Hello])
    | (refine bd_go h fun y hy h => ?_; (first | refine slc_max hy rfl (.inl rfl) asn_none ?_ | refine slc_max hy rfl (.inl rfl) (asn_some (by first | decide | omega)) ?_ | refine slc11 hy rfl (.inl rfl) ?_ | refine slc01 hy rfl (.inl rfl) ?_ | refine slc10 hy rfl (.inl rfl) ?_ | refine slc00 hy rfl (.inl rfl) ?_ | refine slc11 hy rfl (.inr rfl) ?_ | refine slc01 hy rfl (.inr rfl) ?_ | refine slc10 hy rfl (.inr rfl) ?_ | refine slc00 hy rfl (.inr rfl) ?_); simp -implicitDefEqProofs only [avm, reduceCtorEq, ↓reduceIte, sevalprocAttr, enc_Msg, sz_Msg, enc_OpenSaid, sz_OpenSaid, enc_Note, sz_Note, enc_Hello, sz_Hello])
    | (refine bd_go h fun y hy h => ?_
       first | refine callsc (a_open_short hy) ?_ ?_ | refine callc (a_open_short hy) ?_ ?_ | ((first | refine callsc (act_le (a_open_short hy) ?_) ?_ ?_ | refine callc (act_le (a_open_short hy) ?_) ?_ ?_); (focus (repeat' (first | exact trivial | exact le_same _ | exact le_enc | exact le_nil | exact le_imm (.inl rfl) | exact le_imm (.inr rfl) | (refine le_agg ?_) | apply And.intro))))
       focus (first | rfl | (simp only [purL, pur, purL_enc, Enc.pure_enc, Bool.and_self, Bool.and_true]; done))
       simp -implicitDefEqProofs only [avm, reduceCtorEq, ↓reduceIte, sevalprocAttr, enc_Msg, sz_Msg, enc_OpenSaid, sz_OpenSaid, enc_Note, sz_Note, enc_Hello, sz_Hello])
    | (refine bd_go h fun y hy h => ?_
       first | refine callsc (a_open_holds hy) ?_ ?_ | refine callc (a_open_holds hy) ?_ ?_ | ((first | refine callsc (act_le (a_open_holds hy) ?_) ?_ ?_ | refine callc (act_le (a_open_holds hy) ?_) ?_ ?_); (focus (repeat' (first | exact trivial | exact le_same _ | exact le_enc | exact le_nil | exact le_imm (.inl rfl) | exact le_imm (.inr rfl) | (refine le_agg ?_) | apply And.intro))))
       focus (first | rfl | (simp only [purL, pur, purL_enc, Enc.pure_enc, Bool.and_self, Bool.and_true]; done))
       simp -implicitDefEqProofs only [avm, reduceCtorEq, ↓reduceIte, sevalprocAttr, enc_Msg, sz_Msg, enc_OpenSaid, sz_OpenSaid, enc_Note, sz_Note, enc_Hello, sz_Hello])
    | (refine nz_go h fun hb h => ?_; simp -implicitDefEqProofs only [eq_false hb, avm, reduceCtorEq, ↓reduceIte, sevalprocAttr, enc_Msg, sz_Msg, enc_OpenSaid, sz_OpenSaid, enc_Note, sz_Note, enc_Hello, sz_Hello] at h ⊢)
    | (refine nn_go h fun hb h => ?_; simp -implicitDefEqProofs only [eq_false hb, avm, reduceCtorEq, ↓reduceIte, sevalprocAttr, enc_Msg, sz_Msg, enc_OpenSaid, sz_OpenSaid, enc_Note, sz_Note, enc_Hello, sz_Hello] at h ⊢)
    | (cases h
       try simp -implicitDefEqProofs only [avm, reduceCtorEq, ↓reduceIte, sevalprocAttr, enc_Msg, sz_Msg, enc_OpenSaid, sz_OpenSaid, enc_Note, sz_Note, enc_Hello, sz_Hello]
       first | refine retLt (by first | exact .inr rfl | exact .inl rfl) (by rfl) ?_ | refine retL1 (by first | exact .inr rfl | exact .inl rfl) (by rfl) ?_
       repeat' (first | exact trivial | apply And.intro)
       all_goals first | exact .same _ rfl | exact reta_imm | exact reta_nil | (refine .imm _ _ _ ?_; simp only [pur, purL, purL_enc, Bool.and_self, Bool.and_true]; done) | exact .same _ (Enc.pure_enc _) | exact .same _ pur_enc_sl | (refine .same _ ?_; simp only [pur, purL, purL_enc, Bool.and_self, Bool.and_true]; done) | (refine .le _ _ ?_ ?_; (focus (repeat' (first | exact le_same _ | exact le_enc | exact le_nil | exact le_imm (.inl rfl) | exact le_imm (.inr rfl) | refine le_agg ?_ | exact trivial | apply And.intro))); (simp only [pur, purL, purL_enc, Bool.and_self, Bool.and_true]; done)))
    | fail)
theorem a_open_Get {a0 : Msg} {a1 : Int} {r : (Hello × Note)} (h : m_open_Get a0 a1 = some r) : ACt Try.prog 16 [Enc.enc a0, Enc.enc a1] (.tup [Enc.enc r.1, Enc.enc r.2]) [] := by
  refine act_of p_open_Get (by simp [c_open_Get]) ?_
  show AW _ b_open_Get (RetOk [.cell 4 (some 4), .cell 5 (some 3)] _ _) { n := 98, tm := [(0, _), (1, _)], box := [], fr := [] }
  unfold b_open_Get
  unfold m_open_Get at h
  try simp -implicitDefEqProofs only [avm, reduceCtorEq, ↓reduceIte, sevalprocAttr, enc_Msg, sz_Msg, enc_OpenSaid, sz_OpenSaid, enc_Note, sz_Note, enc_Hello, sz_Hello] at h
  repeat' (first
    | (refine (hκ _).mpr ?_; clear hκ)
    | refine kn1 ?_
    | refine kr1 ?_
    | refine ke1 ?_
    | refine kn2 ?_
    | refine kr2 ?_
    | refine kx2 ?_
    | refine ke2 rfl ?_
    | refine kr5 ?_
    | refine ke5 ?_
    | refine kr6 ?_
    | refine ke6 ?_
    | (refine w_cutm (x := (.seq (.reg _) (.cond (.tmp 78) _ _))) [4, 5, 11, 13, 17, 18] (fun (j : (Int × Int × (List UInt8))) => []) (fun (j : (Int × Int × (List UInt8))) => [(4, 0, (.int .i64 j.1)), (4, 1, (.int .i64 j.2.1)), (4, 2, (.slice .imm 1 (List.map Enc.enc j.2.2)))]) (fun (j : (Int × Int × (List UInt8))) => []) (fun (j : (Int × Int × (List UInt8))) => []) (show jn 1 _ _ = some _ from h) ?_ ?_
       rotate_left
       intro j h
       simp -implicitDefEqProofs only [patOf, setB.eq_1, setB.eq_2, setF.eq_1, setF.eq_2, List.map_cons, List.map_nil, List.modify_zero_cons, List.modify_succ_cons, List.set_cons_zero, List.set_cons_succ, List.append_nil, List.nil_append, List.cons_append, avm, reduceCtorEq, ↓reduceIte, sevalprocAttr, enc_Msg, sz_Msg, enc_OpenSaid, sz_OpenSaid, enc_Note, sz_Note, enc_Hello, sz_Hello] at h ⊢
       rotate_left
       intro k' h
       try simp -implicitDefEqProofs only [avm, reduceCtorEq, ↓reduceIte, sevalprocAttr, enc_Msg, sz_Msg, enc_OpenSaid, sz_OpenSaid, enc_Note, sz_Note, enc_Hello, sz_Hello] at h)
    | refine w_seq ?_
    | refine w_block ?_
    | (refine aw_regk fun κ hκ => ?_; simp -implicitDefEqProofs only [avm, reduceCtorEq, ↓reduceIte, sevalprocAttr, enc_Msg, sz_Msg, enc_OpenSaid, sz_OpenSaid, enc_Note, sz_Note, enc_Hello, sz_Hello])
    | refine aw_exit ?_
    | refine aw_ret ?_
    | refine aw_skip ?_
    | refine aw_label ?_
    | refine condc_t ?_
    | refine condc_f ?_
    | (refine aw_cond2 (by simp -implicitDefEqProofs only [avm, reduceCtorEq, ↓reduceIte, sevalprocAttr, enc_Msg, sz_Msg, enc_OpenSaid, sz_OpenSaid, enc_Note, sz_Note, enc_Hello, sz_Hello]; rfl) ?_)
    | ((first | refine gkc_fork ?_ ?_ | refine pkc_fork ?_ ?_ | refine condc_fork ?_ ?_) <;> intro hq <;> (first | contradiction | simp -implicitDefEqProofs only [eq_false hq, Decidable.not_not, avm, reduceCtorEq, ↓reduceIte, sevalprocAttr, enc_Msg, sz_Msg, enc_OpenSaid, sz_OpenSaid, enc_Note, sz_Note, enc_Hello, sz_Hello] at h ⊢ | simp -implicitDefEqProofs only [eq_true hq, avm, reduceCtorEq, ↓reduceIte, sevalprocAttr, enc_Msg, sz_Msg, enc_OpenSaid, sz_OpenSaid, enc_Note, sz_Note, enc_Hello, sz_Hello] at h ⊢))
    | ((first | refine gkc_split ?_ ?_ | refine pkc_split ?_ ?_ | refine condc_bool ?_ ?_) <;> intro hq <;> (simp -implicitDefEqProofs only [hq, avm, reduceCtorEq, ↓reduceIte, sevalprocAttr, enc_Msg, sz_Msg, enc_OpenSaid, sz_OpenSaid, enc_Note, sz_Note, enc_Hello, sz_Hello] at h ⊢))
    | (refine stc_plain rfl ?_; simp -implicitDefEqProofs only [putCells.eq_1, avm, reduceCtorEq, ↓reduceIte, sevalprocAttr, enc_Msg, sz_Msg, enc_OpenSaid, sz_OpenSaid, enc_Note, sz_Note, enc_Hello, sz_Hello])
    | (refine bd_go h fun y hy h => ?_; refine isc hy ?_; simp -implicitDefEqProofs only [avm, reduceCtorEq, ↓reduceIte, sevalprocAttr, enc_Msg, sz_Msg, enc_OpenSaid, sz_OpenSaid, enc_Note, sz_Note, enc_Hello, sz_Hello])
    | (refine bd_go h fun y hy h => ?_; (first | refine ssc hy (asn_some (by first | decide | omega)) (asn_some (by first | decide | omega)) ?_ | refine ssc hy asn_none (asn_some (by first | decide | omega)) ?_ | refine ssc hy asn_none asl_none ?_ | refine ssc hy (asn_some (by first | decide | omega)) asl_none ?_ | refine ssc hy (asn_some (sl_get hy).1.1) asl_none ?_ | refine ssc hy asn_none (asn_some (sl_get hy).1.2.1) ?_ | refine ssc hy (asn_some (sl_get hy).1.1) (asn_some (Int.le_trans (sl_get hy).1.1 (sl_get hy).1.2.1)) ?_); simp -implicitDefEqProofs only [avm, reduceCtorEq, ↓reduceIte, sevalprocAttr, enc_Msg, sz_Msg, enc_OpenSaid, sz_OpenSaid, enc_Note, sz_Note, enc_Hello, sz_Hello])
    | (refine bd_go h fun y hy h => ?_; refine sac hy ?_; simp -implicitDefEqProofs only [avm, reduceCtorEq, ↓reduceIte, sevalprocAttr, enc_Msg, sz_Msg, enc_OpenSaid, sz_OpenSaid, enc_Note, sz_Note, enc_Hello, sz_Hello])
    | (refine bd_go h fun y hy h => ?_; refine ixc hy ?_; simp -implicitDefEqProofs only [avm, reduceCtorEq, ↓reduceIte, sevalprocAttr, enc_Msg, sz_Msg, enc_OpenSaid, sz_OpenSaid, enc_Note, sz_Note, enc_Hello, sz_Hello])
    | (refine bd_go h fun y hy h => ?_
       refine apc hy (by first | rfl | (simp -implicitDefEqProofs only [avm, reduceCtorEq, ↓reduceIte, sevalprocAttr, enc_Msg, sz_Msg, enc_OpenSaid, sz_OpenSaid, enc_Note, sz_Note, enc_Hello, sz_Hello]; done)) (by first | rfl | (simp -implicitDefEqProofs only [avm, reduceCtorEq, ↓reduceIte, sevalprocAttr, enc_Msg, sz_Msg, enc_OpenSaid, sz_OpenSaid, enc_Note, sz_Note, enc_Hello, sz_Hello]; done)) (by first | exact .inl rfl | exact .inr rfl) (by first | exact .inl rfl | exact .inr rfl) (by simp only [apTag, List.getElem?_cons_zero, List.getElem?_cons_succ, ↓reduceIte, List.set_cons_zero, List.set_cons_succ, List.nil_append, List.cons_append, List.length_nil, List.length_cons, sevalprocAttr]; rfl) ?_
       simp -implicitDefEqProofs only [avm, reduceCtorEq, ↓reduceIte, sevalprocAttr, enc_Msg, sz_Msg, enc_OpenSaid, sz_OpenSaid, enc_Note, sz_Note, enc_Hello, sz_Hello])
    | (refine bd_go h fun y hy h => ?_; (first | refine slc_max hy rfl (.inl rfl) asn_none ?_ | refine slc_max hy rfl (.inl rfl) (asn_some (by first | decide | omega)) ?_ | refine slc11 hy rfl (.inl rfl) ?_ | refine slc01 hy rfl (.inl rfl) ?_ | refine slc10 hy rfl (.inl rfl) ?_ | refine slc00 hy rfl (.inl rfl) ?_ | refine slc11 hy rfl (.inr rfl) ?_ | refine slc01 hy rfl (.inr rfl) ?_ | refine slc10 hy rfl (.inr rfl) ?_ | refine slc00 hy rfl (.inr rfl) ?_); simp -implicitDefEqProofs only [avm, reduceCtorEq, ↓reduceIte, sevalprocAttr, enc_Msg, sz_Msg, enc_OpenSaid, sz_OpenSaid, enc_Note, sz_Note, enc_Hello, sz_Hello])
    | (refine bd_go h fun y hy h => ?_
       first | refine callsc (a_msg_Sane hy) ?_ ?_ | refine callc (a_msg_Sane hy) ?_ ?_ | ((first | refine callsc (act_le (a_msg_Sane hy) ?_) ?_ ?_ | refine callc (act_le (a_msg_Sane hy) ?_) ?_ ?_); (focus (repeat' (first | exact trivial | exact le_same _ | exact le_enc | exact le_nil | exact le_imm (.inl rfl) | exact le_imm (.inr rfl) | (refine le_agg ?_) | apply And.intro))))
       focus (first | rfl | (simp only [purL, pur, purL_enc, Enc.pure_enc, Bool.and_self, Bool.and_true]; done))
       simp -implicitDefEqProofs only [avm, reduceCtorEq, ↓reduceIte, sevalprocAttr, enc_Msg, sz_Msg, enc_OpenSaid, sz_OpenSaid, enc_Note, sz_Note, enc_Hello, sz_Hello])
    | (refine bd_go h fun y hy h => ?_
       first | refine callsc (a_octet_Get hy) ?_ ?_ | refine callc (a_octet_Get hy) ?_ ?_ | ((first | refine callsc (act_le (a_octet_Get hy) ?_) ?_ ?_ | refine callc (act_le (a_octet_Get hy) ?_) ?_ ?_); (focus (repeat' (first | exact trivial | exact le_same _ | exact le_enc | exact le_nil | exact le_imm (.inl rfl) | exact le_imm (.inr rfl) | (refine le_agg ?_) | apply And.intro))))
       focus (first | rfl | (simp only [purL, pur, purL_enc, Enc.pure_enc, Bool.and_self, Bool.and_true]; done))
       simp -implicitDefEqProofs only [avm, reduceCtorEq, ↓reduceIte, sevalprocAttr, enc_Msg, sz_Msg, enc_OpenSaid, sz_OpenSaid, enc_Note, sz_Note, enc_Hello, sz_Hello])
    | (refine bd_go h fun y hy h => ?_
       first | refine callsc (a_octet_Put_app hy (by decide)) ?_ ?_ | refine callc (a_octet_Put_app hy (by decide)) ?_ ?_ | ((first | refine callsc (act_le (a_octet_Put_app hy (by decide)) ?_) ?_ ?_ | refine callc (act_le (a_octet_Put_app hy (by decide)) ?_) ?_ ?_); (focus (repeat' (first | exact trivial | exact le_same _ | exact le_enc | exact le_nil | exact le_imm (.inl rfl) | exact le_imm (.inr rfl) | (refine le_agg ?_) | apply And.intro))))
       focus (first | rfl | (simp only [purL, pur, purL_enc, Enc.pure_enc, Bool.and_self, Bool.and_true]; done))
       simp -implicitDefEqProofs only [avm, reduceCtorEq, ↓reduceIte, sevalprocAttr, enc_Msg, sz_Msg, enc_OpenSaid, sz_OpenSaid, enc_Note, sz_Note, enc_Hello, sz_Hello])
    | (refine bd_go h fun y hy h => ?_
       first | refine callsc (a_octet_Put hy) ?_ ?_ | refine callc (a_octet_Put hy) ?_ ?_ | ((first | refine callsc (act_le (a_octet_Put hy) ?_) ?_ ?_ | refine callc (act_le (a_octet_Put hy) ?_) ?_ ?_); (focus (repeat' (first | exact trivial | exact le_same _ | exact le_enc | exact le_nil | exact le_imm (.inl rfl) | exact le_imm (.inr rfl) | (refine le_agg ?_) | apply And.intro))))
       focus (first | rfl | (simp only [purL, pur, purL_enc, Enc.pure_enc, Bool.and_self, Bool.and_true]; done))
       simp -implicitDefEqProofs only [avm, reduceCtorEq, ↓reduceIte, sevalprocAttr, enc_Msg, sz_Msg, enc_OpenSaid, sz_OpenSaid, enc_Note, sz_Note, enc_Hello, sz_Hello])
    | (refine bd_go h fun y hy h => ?_
       first | refine callsc (a_open_read hy) ?_ ?_ | refine callc (a_open_read hy) ?_ ?_ | ((first | refine callsc (act_le (a_open_read hy) ?_) ?_ ?_ | refine callc (act_le (a_open_read hy) ?_) ?_ ?_); (focus (repeat' (first | exact trivial | exact le_same _ | exact le_enc | exact le_nil | exact le_imm (.inl rfl) | exact le_imm (.inr rfl) | (refine le_agg ?_) | apply And.intro))))
       focus (first | rfl | (simp only [purL, pur, purL_enc, Enc.pure_enc, Bool.and_self, Bool.and_true]; done))
       simp -implicitDefEqProofs only [avm, reduceCtorEq, ↓reduceIte, sevalprocAttr, enc_Msg, sz_Msg, enc_OpenSaid, sz_OpenSaid, enc_Note, sz_Note, enc_Hello, sz_Hello])
    | (refine bd_go h fun y hy h => ?_
       first | refine callsc (a_open_fault hy) ?_ ?_ | refine callc (a_open_fault hy) ?_ ?_ | ((first | refine callsc (act_le (a_open_fault hy) ?_) ?_ ?_ | refine callc (act_le (a_open_fault hy) ?_) ?_ ?_); (focus (repeat' (first | exact trivial | exact le_same _ | exact le_enc | exact le_nil | exact le_imm (.inl rfl) | exact le_imm (.inr rfl) | (refine le_agg ?_) | apply And.intro))))
       focus (first | rfl | (simp only [purL, pur, purL_enc, Enc.pure_enc, Bool.and_self, Bool.and_true]; done))
       simp -implicitDefEqProofs only [avm, reduceCtorEq, ↓reduceIte, sevalprocAttr, enc_Msg, sz_Msg, enc_OpenSaid, sz_OpenSaid, enc_Note, sz_Note, enc_Hello, sz_Hello])
    | (refine nz_go h fun hb h => ?_; simp -implicitDefEqProofs only [eq_false hb, avm, reduceCtorEq, ↓reduceIte, sevalprocAttr, enc_Msg, sz_Msg, enc_OpenSaid, sz_OpenSaid, enc_Note, sz_Note, enc_Hello, sz_Hello] at h ⊢)
    | (refine nn_go h fun hb h => ?_; simp -implicitDefEqProofs only [eq_false hb, avm, reduceCtorEq, ↓reduceIte, sevalprocAttr, enc_Msg, sz_Msg, enc_OpenSaid, sz_OpenSaid, enc_Note, sz_Note, enc_Hello, sz_Hello] at h ⊢)
    | (first | refine kn6 ⟨_, h, ?_⟩ | refine kn5 ⟨_, h, ?_⟩
       try simp -implicitDefEqProofs only [patOf, setB.eq_1, setB.eq_2, setF.eq_1, setF.eq_2, List.map_cons, List.map_nil, List.modify_zero_cons, List.modify_succ_cons, List.set_cons_zero, List.set_cons_succ, List.append_nil, List.nil_append, List.cons_append, avm, reduceCtorEq, ↓reduceIte, sevalprocAttr, enc_Msg, sz_Msg, enc_OpenSaid, sz_OpenSaid, enc_Note, sz_Note, enc_Hello, sz_Hello]
       (first
          | (refine wk_m 0 _ rfl ?_ rfl rfl ?_ ?_ ?_ ?_
             · first | exact Nat.le_refl _ | exact Nat.zero_le _ | (simp; done)
             · first | exact Nat.zero_le _ | exact Nat.le_refl _ | (simp; done)
             · first | exact Nat.zero_le _ | exact Nat.le_refl _ | (simp; done)
             all_goals (repeat' (first | exact trivial | apply And.intro))
             all_goals first | exact rfl | exact .same _ rfl | exact wka_imm | exact wka_app (by decide) | exact wka_tag (by decide) rfl | exact wka_tagn (by decide) rfl | exact wka_tagr (by decide) rfl (by simp only [pur, purL, purL_enc, Bool.and_self, Bool.and_true]) | exact wka_immn | (refine .imm _ _ _ _ (.inl rfl) (okBL_pur ?_); simp only [pur, purL, purL_enc, Bool.and_self, Bool.and_true]; done) | exact wka_tag0 (by decide) rfl | exact wka_imm0 | exact wka_pur (Enc.pure_enc _) | exact wka_pur pur_enc_sl | exact wka_pur pur_enc_fl | exact .und _ | (refine wka_pur ?_; simp only [pur, purL, purL_enc, Bool.and_self, Bool.and_true]; done) | (refine .same _ ?_; simp only [okB, okBL, okBL_enc, Bool.and_self, Bool.and_true, decide_true, sevalprocAttr]; done) | (refine .le _ _ ?_ (okB_pur ?_); (focus (repeat' (first | exact le_same _ | exact le_enc | exact le_nil | exact le_imm (.inl rfl) | exact le_imm (.inr rfl) | refine le_agg ?_ | exact trivial | apply And.intro))); (simp only [pur, purL, purL_enc, Bool.and_self, Bool.and_true]; done)))))
    | (cases h
       try simp -implicitDefEqProofs only [avm, reduceCtorEq, ↓reduceIte, sevalprocAttr, enc_Msg, sz_Msg, enc_OpenSaid, sz_OpenSaid, enc_Note, sz_Note, enc_Hello, sz_Hello]
       first | refine retLt (by first | exact .inr rfl | exact .inl rfl) (by rfl) ?_ | refine retL1 (by first | exact .inr rfl | exact .inl rfl) (by rfl) ?_
       repeat' (first | exact trivial | apply And.intro)
       all_goals first | exact .same _ rfl | exact reta_imm | exact reta_nil | (refine .imm _ _ _ ?_; simp only [pur, purL, purL_enc, Bool.and_self, Bool.and_true]; done) | exact .same _ (Enc.pure_enc _) | exact .same _ pur_enc_sl | (refine .same _ ?_; simp only [pur, purL, purL_enc, Bool.and_self, Bool.and_true]; done) | (refine .le _ _ ?_ ?_; (focus (repeat' (first | exact le_same _ | exact le_enc | exact le_nil | exact le_imm (.inl rfl) | exact le_imm (.inr rfl) | refine le_agg ?_ | exact trivial | apply And.intro))); (simp only [pur, purL, purL_enc, Bool.and_self, Bool.and_true]; done)))
    | fail)
theorem a_open_number {a0 : Int} {r : Bool} (h : m_open_number a0 = some r) : ACt Try.prog 50 [Enc.enc a0] (Enc.enc r) [] := by
  refine act_of p_open_number (by simp [c_open_number]) ?_
  show AW _ b_open_number (RetOk [.tmp 2] _ _) { n := 9, tm := [(0, _)], box := [], fr := [] }
  unfold b_open_number
  unfold m_open_number at h
  try simp -implicitDefEqProofs only [avm, reduceCtorEq, ↓reduceIte, sevalprocAttr, enc_Msg, sz_Msg, enc_OpenSaid, sz_OpenSaid, enc_Note, sz_Note, enc_Hello, sz_Hello] at h
  repeat' (first
    | (refine (hκ _).mpr ?_; clear hκ)
    | refine kn1 ?_
    | refine kr1 ?_
    | refine ke1 ?_
    | refine kn2 ?_
    | refine kr2 ?_
    | refine kx2 ?_
    | refine ke2 rfl ?_
    | refine kr5 ?_
    | refine ke5 ?_
    | refine kr6 ?_
    | refine ke6 ?_
    | refine w_seq ?_
    | refine w_block ?_
    | (refine aw_regk fun κ hκ => ?_; simp -implicitDefEqProofs only [avm, reduceCtorEq, ↓reduceIte, sevalprocAttr, enc_Msg, sz_Msg, enc_OpenSaid, sz_OpenSaid, enc_Note, sz_Note, enc_Hello, sz_Hello])
    | refine aw_exit ?_
    | refine aw_ret ?_
    | refine aw_skip ?_
    | refine aw_label ?_
    | refine condc_t ?_
    | refine condc_f ?_
    | (refine aw_cond2 (by simp -implicitDefEqProofs only [avm, reduceCtorEq, ↓reduceIte, sevalprocAttr, enc_Msg, sz_Msg, enc_OpenSaid, sz_OpenSaid, enc_Note, sz_Note, enc_Hello, sz_Hello]; rfl) ?_)
    | ((first | refine gkc_fork ?_ ?_ | refine pkc_fork ?_ ?_ | refine condc_fork ?_ ?_) <;> intro hq <;> (first | contradiction | simp -implicitDefEqProofs only [eq_false hq, Decidable.not_not, avm, reduceCtorEq, ↓reduceIte, sevalprocAttr, enc_Msg, sz_Msg, enc_OpenSaid, sz_OpenSaid, enc_Note, sz_Note, enc_Hello, sz_Hello] at h ⊢ | simp -implicitDefEqProofs only [eq_true hq, avm, reduceCtorEq, ↓reduceIte, sevalprocAttr, enc_Msg, sz_Msg, enc_OpenSaid, sz_OpenSaid, enc_Note, sz_Note, enc_Hello, sz_Hello] at h ⊢))
    | ((first | refine gkc_split ?_ ?_ | refine pkc_split ?_ ?_ | refine condc_bool ?_ ?_) <;> intro hq <;> (simp -implicitDefEqProofs only [hq, avm, reduceCtorEq, ↓reduceIte, sevalprocAttr, enc_Msg, sz_Msg, enc_OpenSaid, sz_OpenSaid, enc_Note, sz_Note, enc_Hello, sz_Hello] at h ⊢))
    | (refine stc_plain rfl ?_; simp -implicitDefEqProofs only [putCells.eq_1, avm, reduceCtorEq, ↓reduceIte, sevalprocAttr, enc_Msg, sz_Msg, enc_OpenSaid, sz_OpenSaid, enc_Note, sz_Note, enc_Hello, sz_Hello])
    | (refine bd_go h fun y hy h => ?_; refine isc hy ?_; simp -implicitDefEqProofs only [avm, reduceCtorEq, ↓reduceIte, sevalprocAttr, enc_Msg, sz_Msg, enc_OpenSaid, sz_OpenSaid, enc_Note, sz_Note, enc_Hello, sz_Hello])
    | (refine bd_go h fun y hy h => ?_; (first | refine ssc hy (asn_some (by first | decide | omega)) (asn_some (by first | decide | omega)) ?_ | refine ssc hy asn_none (asn_some (by first | decide | omega)) ?_ | refine ssc hy asn_none asl_none ?_ | refine ssc hy (asn_some (by first | decide | omega)) asl_none ?_ | refine ssc hy (asn_some (sl_get hy).1.1) asl_none ?_ | refine ssc hy asn_none (asn_some (sl_get hy).1.2.1) ?_ | refine ssc hy (asn_some (sl_get hy).1.1) (asn_some (Int.le_trans (sl_get hy).1.1 (sl_get hy).1.2.1)) ?_); simp -implicitDefEqProofs only [avm, reduceCtorEq, ↓reduceIte, sevalprocAttr, enc_Msg, sz_Msg, enc_OpenSaid, sz_OpenSaid, enc_Note, sz_Note, enc_Hello, sz_Hello])
    | (refine bd_go h fun y hy h => ?_; refine sac hy ?_; simp -implicitDefEqProofs only [avm, reduceCtorEq, ↓reduceIte, sevalprocAttr, enc_Msg, sz_Msg, enc_OpenSaid, sz_OpenSaid, enc_Note, sz_Note, enc_Hello, sz_Hello])
    | (refine bd_go h fun y hy h => ?_; refine ixc hy ?_; simp -implicitDefEqProofs only [avm, reduceCtorEq, ↓reduceIte, sevalprocAttr, enc_Msg, sz_Msg, enc_OpenSaid, sz_OpenSaid, enc_Note, sz_Note, enc_Hello, sz_Hello])
    | (refine bd_go h fun y hy h => ?_
       refine apc hy (by first | rfl | (simp -implicitDefEqProofs only [avm, reduceCtorEq, ↓reduceIte, sevalprocAttr, enc_Msg, sz_Msg, enc_OpenSaid, sz_OpenSaid, enc_Note, sz_Note, enc_Hello, sz_Hello]; done)) (by first | rfl | (simp -implicitDefEqProofs only [avm, reduceCtorEq, ↓reduceIte, sevalprocAttr, enc_Msg, sz_Msg, enc_OpenSaid, sz_OpenSaid, enc_Note, sz_Note, enc_Hello, sz_Hello]; done)) (by first | exact .inl rfl | exact .inr rfl) (by first | exact .inl rfl | exact .inr rfl) (by simp only [apTag, List.getElem?_cons_zero, List.getElem?_cons_succ, ↓reduceIte, List.set_cons_zero, List.set_cons_succ, List.nil_append, List.cons_append, List.length_nil, List.length_cons, sevalprocAttr]; rfl) ?_
       simp -implicitDefEqProofs only [avm, reduceCtorEq, ↓reduceIte, sevalprocAttr, enc_Msg, sz_Msg, enc_OpenSaid, sz_OpenSaid, enc_Note, sz_Note, enc_Hello, sz_Hello])
    | (refine bd_go h fun y hy h => ?_; (first | refine slc_max hy rfl (.inl rfl) asn_none ?_ | refine slc_max hy rfl (.inl rfl) (asn_some (by first | decide | omega)) ?_ | refine slc11 hy rfl (.inl rfl) ?_ | refine slc01 hy rfl (.inl rfl) ?_ | refine slc10 hy rfl (.inl rfl) ?_ | refine slc00 hy rfl (.inl rfl) ?_ | refine slc11 hy rfl (.inr rfl) ?_ | refine slc01 hy rfl (.inr rfl) ?_ | refine slc10 hy rfl (.inr rfl) ?_ | refine slc00 hy rfl (.inr rfl) ?_); simp -implicitDefEqProofs only [avm, reduceCtorEq, ↓reduceIte, sevalprocAttr, enc_Msg, sz_Msg, enc_OpenSaid, sz_OpenSaid, enc_Note, sz_Note, enc_Hello, sz_Hello])
    | (refine nz_go h fun hb h => ?_; simp -implicitDefEqProofs only [eq_false hb, avm, reduceCtorEq, ↓reduceIte, sevalprocAttr, enc_Msg, sz_Msg, enc_OpenSaid, sz_OpenSaid, enc_Note, sz_Note, enc_Hello, sz_Hello] at h ⊢)
    | (refine nn_go h fun hb h => ?_; simp -implicitDefEqProofs only [eq_false hb, avm, reduceCtorEq, ↓reduceIte, sevalprocAttr, enc_Msg, sz_Msg, enc_OpenSaid, sz_OpenSaid, enc_Note, sz_Note, enc_Hello, sz_Hello] at h ⊢)
    | (cases h
       try simp -implicitDefEqProofs only [avm, reduceCtorEq, ↓reduceIte, sevalprocAttr, enc_Msg, sz_Msg, enc_OpenSaid, sz_OpenSaid, enc_Note, sz_Note, enc_Hello, sz_Hello]
       first | refine retLt (by first | exact .inr rfl | exact .inl rfl) (by rfl) ?_ | refine retL1 (by first | exact .inr rfl | exact .inl rfl) (by rfl) ?_
       repeat' (first | exact trivial | apply And.intro)
       all_goals first | exact .same _ rfl | exact reta_imm | exact reta_nil | (refine .imm _ _ _ ?_; simp only [pur, purL, purL_enc, Bool.and_self, Bool.and_true]; done) | exact .same _ (Enc.pure_enc _) | exact .same _ pur_enc_sl | (refine .same _ ?_; simp only [pur, purL, purL_enc, Bool.and_self, Bool.and_true]; done) | (refine .le _ _ ?_ ?_; (focus (repeat' (first | exact le_same _ | exact le_enc | exact le_nil | exact le_imm (.inl rfl) | exact le_imm (.inr rfl) | refine le_agg ?_ | exact trivial | apply And.intro))); (simp only [pur, purL, purL_enc, Bool.and_self, Bool.and_true]; done)))
    | fail)
theorem a_open_Sane {a0 : Hello} {r : Bool} (h : m_open_Sane a0 = some r) : ACt Try.prog 19 [Enc.enc a0] (Enc.enc r) [] := by
  refine act_of p_open_Sane (by simp [c_open_Sane]) ?_
  show AW _ b_open_Sane (RetOk [.tmp 2] _ _) { n := 26, tm := [(0, _)], box := [], fr := [] }
  unfold b_open_Sane
  unfold m_open_Sane at h
  try simp -implicitDefEqProofs only [avm, reduceCtorEq, ↓reduceIte, sevalprocAttr, enc_Msg, sz_Msg, enc_OpenSaid, sz_OpenSaid, enc_Note, sz_Note, enc_Hello, sz_Hello] at h
  repeat' (first
    | (refine (hκ _).mpr ?_; clear hκ)
    | refine kn1 ?_
    | refine kr1 ?_
    | refine ke1 ?_
    | refine kn2 ?_
    | refine kr2 ?_
    | refine kx2 ?_
    | refine ke2 rfl ?_
    | refine kr5 ?_
    | refine ke5 ?_
    | refine kr6 ?_
    | refine ke6 ?_
    | refine w_seq ?_
    | refine w_block ?_
    | (refine aw_regk fun κ hκ => ?_; simp -implicitDefEqProofs only [avm, reduceCtorEq, ↓reduceIte, sevalprocAttr, enc_Msg, sz_Msg, enc_OpenSaid, sz_OpenSaid, enc_Note, sz_Note, enc_Hello, sz_Hello])
    | refine aw_exit ?_
    | refine aw_ret ?_
    | refine aw_skip ?_
    | refine aw_label ?_
    | refine condc_t ?_
    | refine condc_f ?_
    | (refine aw_cond2 (by simp -implicitDefEqProofs only [avm, reduceCtorEq, ↓reduceIte, sevalprocAttr, enc_Msg, sz_Msg, enc_OpenSaid, sz_OpenSaid, enc_Note, sz_Note, enc_Hello, sz_Hello]; rfl) ?_)
    | ((first | refine gkc_fork ?_ ?_ | refine pkc_fork ?_ ?_ | refine condc_fork ?_ ?_) <;> intro hq <;> (first | contradiction | simp -implicitDefEqProofs only [eq_false hq, Decidable.not_not, avm, reduceCtorEq, ↓reduceIte, sevalprocAttr, enc_Msg, sz_Msg, enc_OpenSaid, sz_OpenSaid, enc_Note, sz_Note, enc_Hello, sz_Hello] at h ⊢ | simp -implicitDefEqProofs only [eq_true hq, avm, reduceCtorEq, ↓reduceIte, sevalprocAttr, enc_Msg, sz_Msg, enc_OpenSaid, sz_OpenSaid, enc_Note, sz_Note, enc_Hello, sz_Hello] at h ⊢))
    | ((first | refine gkc_split ?_ ?_ | refine pkc_split ?_ ?_ | refine condc_bool ?_ ?_) <;> intro hq <;> (simp -implicitDefEqProofs only [hq, avm, reduceCtorEq, ↓reduceIte, sevalprocAttr, enc_Msg, sz_Msg, enc_OpenSaid, sz_OpenSaid, enc_Note, sz_Note, enc_Hello, sz_Hello] at h ⊢))
    | (refine stc_plain rfl ?_; simp -implicitDefEqProofs only [putCells.eq_1, avm, reduceCtorEq, ↓reduceIte, sevalprocAttr, enc_Msg, sz_Msg, enc_OpenSaid, sz_OpenSaid, enc_Note, sz_Note, enc_Hello, sz_Hello])
    | (refine bd_go h fun y hy h => ?_; refine isc hy ?_; simp -implicitDefEqProofs only [avm, reduceCtorEq, ↓reduceIte, sevalprocAttr, enc_Msg, sz_Msg, enc_OpenSaid, sz_OpenSaid, enc_Note, sz_Note, enc_Hello, sz_Hello])
    | (refine bd_go h fun y hy h => ?_; (first | refine ssc hy (asn_some (by first | decide | omega)) (asn_some (by first | decide | omega)) ?_ | refine ssc hy asn_none (asn_some (by first | decide | omega)) ?_ | refine ssc hy asn_none asl_none ?_ | refine ssc hy (asn_some (by first | decide | omega)) asl_none ?_ | refine ssc hy (asn_some (sl_get hy).1.1) asl_none ?_ | refine ssc hy asn_none (asn_some (sl_get hy).1.2.1) ?_ | refine ssc hy (asn_some (sl_get hy).1.1) (asn_some (Int.le_trans (sl_get hy).1.1 (sl_get hy).1.2.1)) ?_); simp -implicitDefEqProofs only [avm, reduceCtorEq, ↓reduceIte, sevalprocAttr, enc_Msg, sz_Msg, enc_OpenSaid, sz_OpenSaid, enc_Note, sz_Note, enc_Hello, sz_Hello])
    | (refine bd_go h fun y hy h => ?_; refine sac hy ?_; simp -implicitDefEqProofs only [avm, reduceCtorEq, ↓reduceIte, sevalprocAttr, enc_Msg, sz_Msg, enc_OpenSaid, sz_OpenSaid, enc_Note, sz_Note, enc_Hello, sz_Hello])
    | (refine bd_go h fun y hy h => ?_; refine ixc hy ?_; simp -implicitDefEqProofs only [avm, reduceCtorEq, ↓reduceIte, sevalprocAttr, enc_Msg, sz_Msg, enc_OpenSaid, sz_OpenSaid, enc_Note, sz_Note, enc_Hello, sz_Hello])
    | (refine bd_go h fun y hy h => ?_
       refine apc hy (by first | rfl | (simp -implicitDefEqProofs only [avm, reduceCtorEq, ↓reduceIte, sevalprocAttr, enc_Msg, sz_Msg, enc_OpenSaid, sz_OpenSaid, enc_Note, sz_Note, enc_Hello, sz_Hello]; done)) (by first | rfl | (simp -implicitDefEqProofs only [avm, reduceCtorEq, ↓reduceIte, sevalprocAttr, enc_Msg, sz_Msg, enc_OpenSaid, sz_OpenSaid, enc_Note, sz_Note, enc_Hello, sz_Hello]; done)) (by first | exact .inl rfl | exact .inr rfl) (by first | exact .inl rfl | exact .inr rfl) (by simp only [apTag, List.getElem?_cons_zero, List.getElem?_cons_succ, ↓reduceIte, List.set_cons_zero, List.set_cons_succ, List.nil_append, List.cons_append, List.length_nil, List.length_cons, sevalprocAttr]; rfl) ?_
       simp -implicitDefEqProofs only [avm, reduceCtorEq, ↓reduceIte, sevalprocAttr, enc_Msg, sz_Msg, enc_OpenSaid, sz_OpenSaid, enc_Note, sz_Note, enc_Hello, sz_Hello])
    | (refine bd_go h fun y hy h => ?_; (first | refine slc_max hy rfl (.inl rfl) asn_none ?_ | refine slc_max hy rfl (.inl rfl) (asn_some (by first | decide | omega)) ?_ | refine slc11 hy rfl (.inl rfl) ?_ | refine slc01 hy rfl (.inl rfl) ?_ | refine slc10 hy rfl (.inl rfl) ?_ | refine slc00 hy rfl (.inl rfl) ?_ | refine slc11 hy rfl (.inr rfl) ?_ | refine slc01 hy rfl (.inr rfl) ?_ | refine slc10 hy rfl (.inr rfl) ?_ | refine slc00 hy rfl (.inr rfl) ?_); simp -implicitDefEqProofs only [avm, reduceCtorEq, ↓reduceIte, sevalprocAttr, enc_Msg, sz_Msg, enc_OpenSaid, sz_OpenSaid, enc_Note, sz_Note, enc_Hello, sz_Hello])
    | (refine bd_go h fun y hy h => ?_
       first | refine callsc (a_open_number hy) ?_ ?_ | refine callc (a_open_number hy) ?_ ?_ | ((first | refine callsc (act_le (a_open_number hy) ?_) ?_ ?_ | refine callc (act_le (a_open_number hy) ?_) ?_ ?_); (focus (repeat' (first | exact trivial | exact le_same _ | exact le_enc | exact le_nil | exact le_imm (.inl rfl) | exact le_imm (.inr rfl) | (refine le_agg ?_) | apply And.intro))))
       focus (first | rfl | (simp only [purL, pur, purL_enc, Enc.pure_enc, Bool.and_self, Bool.and_true]; done))
       simp -implicitDefEqProofs only [avm, reduceCtorEq, ↓reduceIte, sevalprocAttr, enc_Msg, sz_Msg, enc_OpenSaid, sz_OpenSaid, enc_Note, sz_Note, enc_Hello, sz_Hello])
    | (refine bd_go h fun y hy h => ?_
       first | refine callsc (a_open_holds hy) ?_ ?_ | refine callc (a_open_holds hy) ?_ ?_ | ((first | refine callsc (act_le (a_open_holds hy) ?_) ?_ ?_ | refine callc (act_le (a_open_holds hy) ?_) ?_ ?_); (focus (repeat' (first | exact trivial | exact le_same _ | exact le_enc | exact le_nil | exact le_imm (.inl rfl) | exact le_imm (.inr rfl) | (refine le_agg ?_) | apply And.intro))))
       focus (first | rfl | (simp only [purL, pur, purL_enc, Enc.pure_enc, Bool.and_self, Bool.and_true]; done))
       simp -implicitDefEqProofs only [avm, reduceCtorEq, ↓reduceIte, sevalprocAttr, enc_Msg, sz_Msg, enc_OpenSaid, sz_OpenSaid, enc_Note, sz_Note, enc_Hello, sz_Hello])
    | (refine nz_go h fun hb h => ?_; simp -implicitDefEqProofs only [eq_false hb, avm, reduceCtorEq, ↓reduceIte, sevalprocAttr, enc_Msg, sz_Msg, enc_OpenSaid, sz_OpenSaid, enc_Note, sz_Note, enc_Hello, sz_Hello] at h ⊢)
    | (refine nn_go h fun hb h => ?_; simp -implicitDefEqProofs only [eq_false hb, avm, reduceCtorEq, ↓reduceIte, sevalprocAttr, enc_Msg, sz_Msg, enc_OpenSaid, sz_OpenSaid, enc_Note, sz_Note, enc_Hello, sz_Hello] at h ⊢)
    | (cases h
       try simp -implicitDefEqProofs only [avm, reduceCtorEq, ↓reduceIte, sevalprocAttr, enc_Msg, sz_Msg, enc_OpenSaid, sz_OpenSaid, enc_Note, sz_Note, enc_Hello, sz_Hello]
       first | refine retLt (by first | exact .inr rfl | exact .inl rfl) (by rfl) ?_ | refine retL1 (by first | exact .inr rfl | exact .inl rfl) (by rfl) ?_
       repeat' (first | exact trivial | apply And.intro)
       all_goals first | exact .same _ rfl | exact reta_imm | exact reta_nil | (refine .imm _ _ _ ?_; simp only [pur, purL, purL_enc, Bool.and_self, Bool.and_true]; done) | exact .same _ (Enc.pure_enc _) | exact .same _ pur_enc_sl | (refine .same _ ?_; simp only [pur, purL, purL_enc, Bool.and_self, Bool.and_true]; done) | (refine .le _ _ ?_ ?_; (focus (repeat' (first | exact le_same _ | exact le_enc | exact le_nil | exact le_imm (.inl rfl) | exact le_imm (.inr rfl) | refine le_agg ?_ | exact trivial | apply And.intro))); (simp only [pur, purL, purL_enc, Bool.and_self, Bool.and_true]; done)))
    | fail)
theorem a_open_labelled {a0 : Int} {a1 : (List UInt8)} {r : (List UInt8)} (h : m_open_labelled a0 a1 = some r) : ACt Try.prog 52 [Enc.enc a0, Enc.enc a1] (.slice (.app 0) 1 (List.map Enc.enc r)) [(5, r.length)] := by
  refine act_of p_open_labelled (by simp [c_open_labelled]) ?_
  show AW _ b_open_labelled (RetOk [.tmp 4] _ _) { n := 13, tm := [(0, _), (1, _)], box := [], fr := [] }
  unfold b_open_labelled
  unfold m_open_labelled at h
  try simp -implicitDefEqProofs only [avm, reduceCtorEq, ↓reduceIte, sevalprocAttr, enc_Msg, sz_Msg, enc_OpenSaid, sz_OpenSaid, enc_Note, sz_Note, enc_Hello, sz_Hello] at h
  repeat' (first
    | (refine (hκ _).mpr ?_; clear hκ)
    | refine kn1 ?_
    | refine kr1 ?_
    | refine ke1 ?_
    | refine kn2 ?_
    | refine kr2 ?_
    | refine kx2 ?_
    | refine ke2 rfl ?_
    | refine kr5 ?_
    | refine ke5 ?_
    | refine kr6 ?_
    | refine ke6 ?_
    | refine w_seq ?_
    | refine w_block ?_
    | (refine aw_regk fun κ hκ => ?_; simp -implicitDefEqProofs only [avm, reduceCtorEq, ↓reduceIte, sevalprocAttr, enc_Msg, sz_Msg, enc_OpenSaid, sz_OpenSaid, enc_Note, sz_Note, enc_Hello, sz_Hello])
    | (cases h; exact aw_ret_full rfl rfl rfl)
    | refine aw_exit ?_
    | refine aw_ret ?_
    | refine aw_skip ?_
    | refine aw_label ?_
    | refine condc_t ?_
    | refine condc_f ?_
    | (refine aw_cond2 (by simp -implicitDefEqProofs only [avm, reduceCtorEq, ↓reduceIte, sevalprocAttr, enc_Msg, sz_Msg, enc_OpenSaid, sz_OpenSaid, enc_Note, sz_Note, enc_Hello, sz_Hello]; rfl) ?_)
    | ((first | refine gkc_fork ?_ ?_ | refine pkc_fork ?_ ?_ | refine condc_fork ?_ ?_) <;> intro hq <;> (first | contradiction | simp -implicitDefEqProofs only [eq_false hq, Decidable.not_not, avm, reduceCtorEq, ↓reduceIte, sevalprocAttr, enc_Msg, sz_Msg, enc_OpenSaid, sz_OpenSaid, enc_Note, sz_Note, enc_Hello, sz_Hello] at h ⊢ | simp -implicitDefEqProofs only [eq_true hq, avm, reduceCtorEq, ↓reduceIte, sevalprocAttr, enc_Msg, sz_Msg, enc_OpenSaid, sz_OpenSaid, enc_Note, sz_Note, enc_Hello, sz_Hello] at h ⊢))
    | ((first | refine gkc_split ?_ ?_ | refine pkc_split ?_ ?_ | refine condc_bool ?_ ?_) <;> intro hq <;> (simp -implicitDefEqProofs only [hq, avm, reduceCtorEq, ↓reduceIte, sevalprocAttr, enc_Msg, sz_Msg, enc_OpenSaid, sz_OpenSaid, enc_Note, sz_Note, enc_Hello, sz_Hello] at h ⊢))
    | (refine stc_plain rfl ?_; simp -implicitDefEqProofs only [putCells.eq_1, avm, reduceCtorEq, ↓reduceIte, sevalprocAttr, enc_Msg, sz_Msg, enc_OpenSaid, sz_OpenSaid, enc_Note, sz_Note, enc_Hello, sz_Hello])
    | (refine bd_go h fun y hy h => ?_; refine isc hy ?_; simp -implicitDefEqProofs only [avm, reduceCtorEq, ↓reduceIte, sevalprocAttr, enc_Msg, sz_Msg, enc_OpenSaid, sz_OpenSaid, enc_Note, sz_Note, enc_Hello, sz_Hello])
    | (refine bd_go h fun y hy h => ?_; (first | refine ssc hy (asn_some (by first | decide | omega)) (asn_some (by first | decide | omega)) ?_ | refine ssc hy asn_none (asn_some (by first | decide | omega)) ?_ | refine ssc hy asn_none asl_none ?_ | refine ssc hy (asn_some (by first | decide | omega)) asl_none ?_ | refine ssc hy (asn_some (sl_get hy).1.1) asl_none ?_ | refine ssc hy asn_none (asn_some (sl_get hy).1.2.1) ?_ | refine ssc hy (asn_some (sl_get hy).1.1) (asn_some (Int.le_trans (sl_get hy).1.1 (sl_get hy).1.2.1)) ?_); simp -implicitDefEqProofs only [avm, reduceCtorEq, ↓reduceIte, sevalprocAttr, enc_Msg, sz_Msg, enc_OpenSaid, sz_OpenSaid, enc_Note, sz_Note, enc_Hello, sz_Hello])
    | (refine bd_go h fun y hy h => ?_; refine sac hy ?_; simp -implicitDefEqProofs only [avm, reduceCtorEq, ↓reduceIte, sevalprocAttr, enc_Msg, sz_Msg, enc_OpenSaid, sz_OpenSaid, enc_Note, sz_Note, enc_Hello, sz_Hello])
    | (refine bd_go h fun y hy h => ?_; refine ixc hy ?_; simp -implicitDefEqProofs only [avm, reduceCtorEq, ↓reduceIte, sevalprocAttr, enc_Msg, sz_Msg, enc_OpenSaid, sz_OpenSaid, enc_Note, sz_Note, enc_Hello, sz_Hello])
    | (refine bd_go h fun y hy h => ?_
       refine apc hy (by first | rfl | (simp -implicitDefEqProofs only [avm, reduceCtorEq, ↓reduceIte, sevalprocAttr, enc_Msg, sz_Msg, enc_OpenSaid, sz_OpenSaid, enc_Note, sz_Note, enc_Hello, sz_Hello]; done)) (by first | rfl | (simp -implicitDefEqProofs only [avm, reduceCtorEq, ↓reduceIte, sevalprocAttr, enc_Msg, sz_Msg, enc_OpenSaid, sz_OpenSaid, enc_Note, sz_Note, enc_Hello, sz_Hello]; done)) (by first | exact .inl rfl | exact .inr rfl) (by first | exact .inl rfl | exact .inr rfl) (by simp only [apTag, List.getElem?_cons_zero, List.getElem?_cons_succ, ↓reduceIte, List.set_cons_zero, List.set_cons_succ, List.nil_append, List.cons_append, List.length_nil, List.length_cons, sevalprocAttr]; rfl) ?_
       simp -implicitDefEqProofs only [avm, reduceCtorEq, ↓reduceIte, sevalprocAttr, enc_Msg, sz_Msg, enc_OpenSaid, sz_OpenSaid, enc_Note, sz_Note, enc_Hello, sz_Hello])
    | (refine bd_go h fun y hy h => ?_; (first | refine slc_max hy rfl (.inl rfl) asn_none ?_ | refine slc_max hy rfl (.inl rfl) (asn_some (by first | decide | omega)) ?_ | refine slc11 hy rfl (.inl rfl) ?_ | refine slc01 hy rfl (.inl rfl) ?_ | refine slc10 hy rfl (.inl rfl) ?_ | refine slc00 hy rfl (.inl rfl) ?_ | refine slc11 hy rfl (.inr rfl) ?_ | refine slc01 hy rfl (.inr rfl) ?_ | refine slc10 hy rfl (.inr rfl) ?_ | refine slc00 hy rfl (.inr rfl) ?_); simp -implicitDefEqProofs only [avm, reduceCtorEq, ↓reduceIte, sevalprocAttr, enc_Msg, sz_Msg, enc_OpenSaid, sz_OpenSaid, enc_Note, sz_Note, enc_Hello, sz_Hello])
    | (refine nz_go h fun hb h => ?_; simp -implicitDefEqProofs only [eq_false hb, avm, reduceCtorEq, ↓reduceIte, sevalprocAttr, enc_Msg, sz_Msg, enc_OpenSaid, sz_OpenSaid, enc_Note, sz_Note, enc_Hello, sz_Hello] at h ⊢)
    | (refine nn_go h fun hb h => ?_; simp -implicitDefEqProofs only [eq_false hb, avm, reduceCtorEq, ↓reduceIte, sevalprocAttr, enc_Msg, sz_Msg, enc_OpenSaid, sz_OpenSaid, enc_Note, sz_Note, enc_Hello, sz_Hello] at h ⊢)
    | (cases h
       (exact ret_app rfl rfl (purL_enc _)))
    | fail)
theorem a_open_Put {a0 : Hello} {r : Msg} (h : m_open_Put a0 = some r) : ACt Try.prog 22 [Enc.enc a0] (Enc.enc r) [] := by
  refine act_of p_open_Put (by simp [c_open_Put]) ?_
  show AW _ b_open_Put (RetOk [.cell 2 (some 2)] _ _) { n := 46, tm := [(0, _)], box := [], fr := [] }
  unfold b_open_Put
  unfold m_open_Put at h
  try simp -implicitDefEqProofs only [avm, reduceCtorEq, ↓reduceIte, sevalprocAttr, enc_Msg, sz_Msg, enc_OpenSaid, sz_OpenSaid, enc_Note, sz_Note, enc_Hello, sz_Hello] at h
  repeat' (first
    | (refine (hκ _).mpr ?_; clear hκ)
    | refine kn1 ?_
    | refine kr1 ?_
    | refine ke1 ?_
    | refine kn2 ?_
    | refine kr2 ?_
    | refine kx2 ?_
    | refine ke2 rfl ?_
    | refine kr5 ?_
    | refine ke5 ?_
    | refine kr6 ?_
    | refine ke6 ?_
    | (refine w_cutm (x := (.seq (.reg _) (.cond (.tmp 16) _ _))) [1, 2] (fun (j : ((List UInt8))) => [(3, (.slice (.app 2) 1 (List.map Enc.enc j)))]) (fun (j : ((List UInt8))) => []) (fun (j : ((List UInt8))) => [(2, j.length)]) (fun (j : ((List UInt8))) => []) (show jn 1 _ _ = some _ from h) ?_ ?_
       rotate_left
       intro j h
       simp -implicitDefEqProofs only [patOf, setB.eq_1, setB.eq_2, setF.eq_1, setF.eq_2, List.map_cons, List.map_nil, List.modify_zero_cons, List.modify_succ_cons, List.set_cons_zero, List.set_cons_succ, List.append_nil, List.nil_append, List.cons_append, avm, reduceCtorEq, ↓reduceIte, sevalprocAttr, enc_Msg, sz_Msg, enc_OpenSaid, sz_OpenSaid, enc_Note, sz_Note, enc_Hello, sz_Hello] at h ⊢
       rotate_left
       intro k' h
       try simp -implicitDefEqProofs only [avm, reduceCtorEq, ↓reduceIte, sevalprocAttr, enc_Msg, sz_Msg, enc_OpenSaid, sz_OpenSaid, enc_Note, sz_Note, enc_Hello, sz_Hello] at h)
    | refine w_seq ?_
    | refine w_block ?_
    | (refine aw_regk fun κ hκ => ?_; simp -implicitDefEqProofs only [avm, reduceCtorEq, ↓reduceIte, sevalprocAttr, enc_Msg, sz_Msg, enc_OpenSaid, sz_OpenSaid, enc_Note, sz_Note, enc_Hello, sz_Hello])
    | refine aw_exit ?_
    | refine aw_ret ?_
    | refine aw_skip ?_
    | refine aw_label ?_
    | refine condc_t ?_
    | refine condc_f ?_
    | (refine aw_cond2 (by simp -implicitDefEqProofs only [avm, reduceCtorEq, ↓reduceIte, sevalprocAttr, enc_Msg, sz_Msg, enc_OpenSaid, sz_OpenSaid, enc_Note, sz_Note, enc_Hello, sz_Hello]; rfl) ?_)
    | ((first | refine gkc_fork ?_ ?_ | refine pkc_fork ?_ ?_ | refine condc_fork ?_ ?_) <;> intro hq <;> (first | contradiction | simp -implicitDefEqProofs only [eq_false hq, Decidable.not_not, avm, reduceCtorEq, ↓reduceIte, sevalprocAttr, enc_Msg, sz_Msg, enc_OpenSaid, sz_OpenSaid, enc_Note, sz_Note, enc_Hello, sz_Hello] at h ⊢ | simp -implicitDefEqProofs only [eq_true hq, avm, reduceCtorEq, ↓reduceIte, sevalprocAttr, enc_Msg, sz_Msg, enc_OpenSaid, sz_OpenSaid, enc_Note, sz_Note, enc_Hello, sz_Hello] at h ⊢))
    | ((first | refine gkc_split ?_ ?_ | refine pkc_split ?_ ?_ | refine condc_bool ?_ ?_) <;> intro hq <;> (simp -implicitDefEqProofs only [hq, avm, reduceCtorEq, ↓reduceIte, sevalprocAttr, enc_Msg, sz_Msg, enc_OpenSaid, sz_OpenSaid, enc_Note, sz_Note, enc_Hello, sz_Hello] at h ⊢))
    | (refine stc_plain rfl ?_; simp -implicitDefEqProofs only [putCells.eq_1, avm, reduceCtorEq, ↓reduceIte, sevalprocAttr, enc_Msg, sz_Msg, enc_OpenSaid, sz_OpenSaid, enc_Note, sz_Note, enc_Hello, sz_Hello])
    | (refine bd_go h fun y hy h => ?_; refine isc hy ?_; simp -implicitDefEqProofs only [avm, reduceCtorEq, ↓reduceIte, sevalprocAttr, enc_Msg, sz_Msg, enc_OpenSaid, sz_OpenSaid, enc_Note, sz_Note, enc_Hello, sz_Hello])
    | (refine bd_go h fun y hy h => ?_; (first | refine ssc hy (asn_some (by first | decide | omega)) (asn_some (by first | decide | omega)) ?_ | refine ssc hy asn_none (asn_some (by first | decide | omega)) ?_ | refine ssc hy asn_none asl_none ?_ | refine ssc hy (asn_some (by first | decide | omega)) asl_none ?_ | refine ssc hy (asn_some (sl_get hy).1.1) asl_none ?_ | refine ssc hy asn_none (asn_some (sl_get hy).1.2.1) ?_ | refine ssc hy (asn_some (sl_get hy).1.1) (asn_some (Int.le_trans (sl_get hy).1.1 (sl_get hy).1.2.1)) ?_); simp -implicitDefEqProofs only [avm, reduceCtorEq, ↓reduceIte, sevalprocAttr, enc_Msg, sz_Msg, enc_OpenSaid, sz_OpenSaid, enc_Note, sz_Note, enc_Hello, sz_Hello])
    | (refine bd_go h fun y hy h => ?_; refine sac hy ?_; simp -implicitDefEqProofs only [avm, reduceCtorEq, ↓reduceIte, sevalprocAttr, enc_Msg, sz_Msg, enc_OpenSaid, sz_OpenSaid, enc_Note, sz_Note, enc_Hello, sz_Hello])
    | (refine bd_go h fun y hy h => ?_; refine ixc hy ?_; simp -implicitDefEqProofs only [avm, reduceCtorEq, ↓reduceIte, sevalprocAttr, enc_Msg, sz_Msg, enc_OpenSaid, sz_OpenSaid, enc_Note, sz_Note, enc_Hello, sz_Hello])
    | (refine bd_go h fun y hy h => ?_
       refine apc hy (by first | rfl | (simp -implicitDefEqProofs only [avm, reduceCtorEq, ↓reduceIte, sevalprocAttr, enc_Msg, sz_Msg, enc_OpenSaid, sz_OpenSaid, enc_Note, sz_Note, enc_Hello, sz_Hello]; done)) (by first | rfl | (simp -implicitDefEqProofs only [avm, reduceCtorEq, ↓reduceIte, sevalprocAttr, enc_Msg, sz_Msg, enc_OpenSaid, sz_OpenSaid, enc_Note, sz_Note, enc_Hello, sz_Hello]; done)) (by first | exact .inl rfl | exact .inr rfl) (by first | exact .inl rfl | exact .inr rfl) (by simp only [apTag, List.getElem?_cons_zero, List.getElem?_cons_succ, ↓reduceIte, List.set_cons_zero, List.set_cons_succ, List.nil_append, List.cons_append, List.length_nil, List.length_cons, sevalprocAttr]; rfl) ?_
       simp -implicitDefEqProofs only [avm, reduceCtorEq, ↓reduceIte, sevalprocAttr, enc_Msg, sz_Msg, enc_OpenSaid, sz_OpenSaid, enc_Note, sz_Note, enc_Hello, sz_Hello])
    | (refine bd_go h fun y hy h => ?_; (first | refine slc_max hy rfl (.inl rfl) asn_none ?_ | refine slc_max hy rfl (.inl rfl) (asn_some (by first | decide | omega)) ?_ | refine slc11 hy rfl (.inl rfl) ?_ | refine slc01 hy rfl (.inl rfl) ?_ | refine slc10 hy rfl (.inl rfl) ?_ | refine slc00 hy rfl (.inl rfl) ?_ | refine slc11 hy rfl (.inr rfl) ?_ | refine slc01 hy rfl (.inr rfl) ?_ | refine slc10 hy rfl (.inr rfl) ?_ | refine slc00 hy rfl (.inr rfl) ?_); simp -implicitDefEqProofs only [avm, reduceCtorEq, ↓reduceIte, sevalprocAttr, enc_Msg, sz_Msg, enc_OpenSaid, sz_OpenSaid, enc_Note, sz_Note, enc_Hello, sz_Hello])
    | (refine bd_go h fun y hy h => ?_
       first | refine callsc (a_open_Sane hy) ?_ ?_ | refine callc (a_open_Sane hy) ?_ ?_ | ((first | refine callsc (act_le (a_open_Sane hy) ?_) ?_ ?_ | refine callc (act_le (a_open_Sane hy) ?_) ?_ ?_); (focus (repeat' (first | exact trivial | exact le_same _ | exact le_enc | exact le_nil | exact le_imm (.inl rfl) | exact le_imm (.inr rfl) | (refine le_agg ?_) | apply And.intro))))
       focus (first | rfl | (simp only [purL, pur, purL_enc, Enc.pure_enc, Bool.and_self, Bool.and_true]; done))
       simp -implicitDefEqProofs only [avm, reduceCtorEq, ↓reduceIte, sevalprocAttr, enc_Msg, sz_Msg, enc_OpenSaid, sz_OpenSaid, enc_Note, sz_Note, enc_Hello, sz_Hello])
    | (refine bd_go h fun y hy h => ?_
       first | refine callsc (a_octet_Put_app hy (by decide)) ?_ ?_ | refine callc (a_octet_Put_app hy (by decide)) ?_ ?_ | ((first | refine callsc (act_le (a_octet_Put_app hy (by decide)) ?_) ?_ ?_ | refine callc (act_le (a_octet_Put_app hy (by decide)) ?_) ?_ ?_); (focus (repeat' (first | exact trivial | exact le_same _ | exact le_enc | exact le_nil | exact le_imm (.inl rfl) | exact le_imm (.inr rfl) | (refine le_agg ?_) | apply And.intro))))
       focus (first | rfl | (simp only [purL, pur, purL_enc, Enc.pure_enc, Bool.and_self, Bool.and_true]; done))
       simp -implicitDefEqProofs only [avm, reduceCtorEq, ↓reduceIte, sevalprocAttr, enc_Msg, sz_Msg, enc_OpenSaid, sz_OpenSaid, enc_Note, sz_Note, enc_Hello, sz_Hello])
    | (refine bd_go h fun y hy h => ?_
       first | refine callsc (a_octet_Put hy) ?_ ?_ | refine callc (a_octet_Put hy) ?_ ?_ | ((first | refine callsc (act_le (a_octet_Put hy) ?_) ?_ ?_ | refine callc (act_le (a_octet_Put hy) ?_) ?_ ?_); (focus (repeat' (first | exact trivial | exact le_same _ | exact le_enc | exact le_nil | exact le_imm (.inl rfl) | exact le_imm (.inr rfl) | (refine le_agg ?_) | apply And.intro))))
       focus (first | rfl | (simp only [purL, pur, purL_enc, Enc.pure_enc, Bool.and_self, Bool.and_true]; done))
       simp -implicitDefEqProofs only [avm, reduceCtorEq, ↓reduceIte, sevalprocAttr, enc_Msg, sz_Msg, enc_OpenSaid, sz_OpenSaid, enc_Note, sz_Note, enc_Hello, sz_Hello])
    | (refine bd_go h fun y hy h => ?_
       first | refine callsc (a_open_labelled hy) ?_ ?_ | refine callc (a_open_labelled hy) ?_ ?_ | ((first | refine callsc (act_le (a_open_labelled hy) ?_) ?_ ?_ | refine callc (act_le (a_open_labelled hy) ?_) ?_ ?_); (focus (repeat' (first | exact trivial | exact le_same _ | exact le_enc | exact le_nil | exact le_imm (.inl rfl) | exact le_imm (.inr rfl) | (refine le_agg ?_) | apply And.intro))))
       focus (first | rfl | (simp only [purL, pur, purL_enc, Enc.pure_enc, Bool.and_self, Bool.and_true]; done))
       simp -implicitDefEqProofs only [avm, reduceCtorEq, ↓reduceIte, sevalprocAttr, enc_Msg, sz_Msg, enc_OpenSaid, sz_OpenSaid, enc_Note, sz_Note, enc_Hello, sz_Hello])
    | (refine bd_go h fun y hy h => ?_
       first | refine callsc (a_open_short hy) ?_ ?_ | refine callc (a_open_short hy) ?_ ?_ | ((first | refine callsc (act_le (a_open_short hy) ?_) ?_ ?_ | refine callc (act_le (a_open_short hy) ?_) ?_ ?_); (focus (repeat' (first | exact trivial | exact le_same _ | exact le_enc | exact le_nil | exact le_imm (.inl rfl) | exact le_imm (.inr rfl) | (refine le_agg ?_) | apply And.intro))))
       focus (first | rfl | (simp only [purL, pur, purL_enc, Enc.pure_enc, Bool.and_self, Bool.and_true]; done))
       simp -implicitDefEqProofs only [avm, reduceCtorEq, ↓reduceIte, sevalprocAttr, enc_Msg, sz_Msg, enc_OpenSaid, sz_OpenSaid, enc_Note, sz_Note, enc_Hello, sz_Hello])
    | (refine nz_go h fun hb h => ?_; simp -implicitDefEqProofs only [eq_false hb, avm, reduceCtorEq, ↓reduceIte, sevalprocAttr, enc_Msg, sz_Msg, enc_OpenSaid, sz_OpenSaid, enc_Note, sz_Note, enc_Hello, sz_Hello] at h ⊢)
    | (refine nn_go h fun hb h => ?_; simp -implicitDefEqProofs only [eq_false hb, avm, reduceCtorEq, ↓reduceIte, sevalprocAttr, enc_Msg, sz_Msg, enc_OpenSaid, sz_OpenSaid, enc_Note, sz_Note, enc_Hello, sz_Hello] at h ⊢)
    | (first | refine kn6 ⟨_, h, ?_⟩ | refine kn5 ⟨_, h, ?_⟩
       try simp -implicitDefEqProofs only [patOf, setB.eq_1, setB.eq_2, setF.eq_1, setF.eq_2, List.map_cons, List.map_nil, List.modify_zero_cons, List.modify_succ_cons, List.set_cons_zero, List.set_cons_succ, List.append_nil, List.nil_append, List.cons_append, avm, reduceCtorEq, ↓reduceIte, sevalprocAttr, enc_Msg, sz_Msg, enc_OpenSaid, sz_OpenSaid, enc_Note, sz_Note, enc_Hello, sz_Hello]
       (first
          | (refine wk_m 3 _ rfl ?_ rfl rfl ?_ ?_ ?_ ?_
             · first | exact Nat.le_refl _ | exact Nat.zero_le _ | (simp; done)
             · first | exact Nat.zero_le _ | exact Nat.le_refl _ | (simp; done)
             · first | exact Nat.zero_le _ | exact Nat.le_refl _ | (simp; done)
             all_goals (repeat' (first | exact trivial | apply And.intro))
             all_goals first | exact rfl | exact .same _ rfl | exact wka_imm | exact wka_app (by decide) | exact wka_tag (by decide) rfl | exact wka_tagn (by decide) rfl | exact wka_tagr (by decide) rfl (by simp only [pur, purL, purL_enc, Bool.and_self, Bool.and_true]) | exact wka_immn | (refine .imm _ _ _ _ (.inl rfl) (okBL_pur ?_); simp only [pur, purL, purL_enc, Bool.and_self, Bool.and_true]; done) | exact wka_tag0 (by decide) rfl | exact wka_imm0 | exact wka_pur (Enc.pure_enc _) | exact wka_pur pur_enc_sl | exact wka_pur pur_enc_fl | exact .und _ | (refine wka_pur ?_; simp only [pur, purL, purL_enc, Bool.and_self, Bool.and_true]; done) | (refine .same _ ?_; simp only [okB, okBL, okBL_enc, Bool.and_self, Bool.and_true, decide_true, sevalprocAttr]; done) | (refine .le _ _ ?_ (okB_pur ?_); (focus (repeat' (first | exact le_same _ | exact le_enc | exact le_nil | exact le_imm (.inl rfl) | exact le_imm (.inr rfl) | refine le_agg ?_ | exact trivial | apply And.intro))); (simp only [pur, purL, purL_enc, Bool.and_self, Bool.and_true]; done)))))
    | (cases h
       try simp -implicitDefEqProofs only [avm, reduceCtorEq, ↓reduceIte, sevalprocAttr, enc_Msg, sz_Msg, enc_OpenSaid, sz_OpenSaid, enc_Note, sz_Note, enc_Hello, sz_Hello]
       first | refine retLt (by first | exact .inr rfl | exact .inl rfl) (by rfl) ?_ | refine retL1 (by first | exact .inr rfl | exact .inl rfl) (by rfl) ?_
       repeat' (first | exact trivial | apply And.intro)
       all_goals first | exact .same _ rfl | exact reta_imm | exact reta_nil | (refine .imm _ _ _ ?_; simp only [pur, purL, purL_enc, Bool.and_self, Bool.and_true]; done) | exact .same _ (Enc.pure_enc _) | exact .same _ pur_enc_sl | (refine .same _ ?_; simp only [pur, purL, purL_enc, Bool.and_self, Bool.and_true]; done) | (refine .le _ _ ?_ ?_; (focus (repeat' (first | exact le_same _ | exact le_enc | exact le_nil | exact le_imm (.inl rfl) | exact le_imm (.inr rfl) | refine le_agg ?_ | exact trivial | apply And.intro))); (simp only [pur, purL, purL_enc, Bool.and_self, Bool.and_true]; done)))
    | fail)
theorem a_ridgewaylaw06_awake {r : Bool} (h : m_ridgewaylaw06_awake = some r) : ACt Try.prog 15 [] (Enc.enc r) [] := by
  refine act_of p_ridgewaylaw06_awake (by simp [c_ridgewaylaw06_awake]) ?_
  show AW _ b_ridgewaylaw06_awake (RetOk [.tmp 0] _ _) { n := 53, tm := [], box := [], fr := [] }
  unfold b_ridgewaylaw06_awake
  unfold m_ridgewaylaw06_awake at h
  try simp -implicitDefEqProofs only [avm, reduceCtorEq, ↓reduceIte, sevalprocAttr, enc_Msg, sz_Msg, enc_OpenSaid, sz_OpenSaid, enc_Note, sz_Note, enc_Hello, sz_Hello] at h
  repeat' (first
    | (refine (hκ _).mpr ?_; clear hκ)
    | refine kn1 ?_
    | refine kr1 ?_
    | refine ke1 ?_
    | refine kn2 ?_
    | refine kr2 ?_
    | refine kx2 ?_
    | refine ke2 rfl ?_
    | refine kr5 ?_
    | refine ke5 ?_
    | refine kr6 ?_
    | refine ke6 ?_
    | refine w_seq ?_
    | refine w_block ?_
    | (refine aw_regk fun κ hκ => ?_; simp -implicitDefEqProofs only [avm, reduceCtorEq, ↓reduceIte, sevalprocAttr, enc_Msg, sz_Msg, enc_OpenSaid, sz_OpenSaid, enc_Note, sz_Note, enc_Hello, sz_Hello])
    | refine aw_exit ?_
    | refine aw_ret ?_
    | refine aw_skip ?_
    | refine aw_label ?_
    | refine condc_t ?_
    | refine condc_f ?_
    | (refine aw_cond2 (by simp -implicitDefEqProofs only [avm, reduceCtorEq, ↓reduceIte, sevalprocAttr, enc_Msg, sz_Msg, enc_OpenSaid, sz_OpenSaid, enc_Note, sz_Note, enc_Hello, sz_Hello]; rfl) ?_)
    | ((first | refine gkc_fork ?_ ?_ | refine pkc_fork ?_ ?_ | refine condc_fork ?_ ?_) <;> intro hq <;> (first | contradiction | simp -implicitDefEqProofs only [eq_false hq, Decidable.not_not, avm, reduceCtorEq, ↓reduceIte, sevalprocAttr, enc_Msg, sz_Msg, enc_OpenSaid, sz_OpenSaid, enc_Note, sz_Note, enc_Hello, sz_Hello] at h ⊢ | simp -implicitDefEqProofs only [eq_true hq, avm, reduceCtorEq, ↓reduceIte, sevalprocAttr, enc_Msg, sz_Msg, enc_OpenSaid, sz_OpenSaid, enc_Note, sz_Note, enc_Hello, sz_Hello] at h ⊢))
    | ((first | refine gkc_split ?_ ?_ | refine pkc_split ?_ ?_ | refine condc_bool ?_ ?_) <;> intro hq <;> (simp -implicitDefEqProofs only [hq, avm, reduceCtorEq, ↓reduceIte, sevalprocAttr, enc_Msg, sz_Msg, enc_OpenSaid, sz_OpenSaid, enc_Note, sz_Note, enc_Hello, sz_Hello] at h ⊢))
    | (refine stc_plain rfl ?_; simp -implicitDefEqProofs only [putCells.eq_1, avm, reduceCtorEq, ↓reduceIte, sevalprocAttr, enc_Msg, sz_Msg, enc_OpenSaid, sz_OpenSaid, enc_Note, sz_Note, enc_Hello, sz_Hello])
    | (refine bd_go h fun y hy h => ?_; refine isc hy ?_; simp -implicitDefEqProofs only [avm, reduceCtorEq, ↓reduceIte, sevalprocAttr, enc_Msg, sz_Msg, enc_OpenSaid, sz_OpenSaid, enc_Note, sz_Note, enc_Hello, sz_Hello])
    | (refine bd_go h fun y hy h => ?_; (first | refine ssc hy (asn_some (by first | decide | omega)) (asn_some (by first | decide | omega)) ?_ | refine ssc hy asn_none (asn_some (by first | decide | omega)) ?_ | refine ssc hy asn_none asl_none ?_ | refine ssc hy (asn_some (by first | decide | omega)) asl_none ?_ | refine ssc hy (asn_some (sl_get hy).1.1) asl_none ?_ | refine ssc hy asn_none (asn_some (sl_get hy).1.2.1) ?_ | refine ssc hy (asn_some (sl_get hy).1.1) (asn_some (Int.le_trans (sl_get hy).1.1 (sl_get hy).1.2.1)) ?_); simp -implicitDefEqProofs only [avm, reduceCtorEq, ↓reduceIte, sevalprocAttr, enc_Msg, sz_Msg, enc_OpenSaid, sz_OpenSaid, enc_Note, sz_Note, enc_Hello, sz_Hello])
    | (refine bd_go h fun y hy h => ?_; refine sac hy ?_; simp -implicitDefEqProofs only [avm, reduceCtorEq, ↓reduceIte, sevalprocAttr, enc_Msg, sz_Msg, enc_OpenSaid, sz_OpenSaid, enc_Note, sz_Note, enc_Hello, sz_Hello])
    | (refine bd_go h fun y hy h => ?_; refine ixc hy ?_; simp -implicitDefEqProofs only [avm, reduceCtorEq, ↓reduceIte, sevalprocAttr, enc_Msg, sz_Msg, enc_OpenSaid, sz_OpenSaid, enc_Note, sz_Note, enc_Hello, sz_Hello])
    | (refine bd_go h fun y hy h => ?_
       refine apc hy (by first | rfl | (simp -implicitDefEqProofs only [avm, reduceCtorEq, ↓reduceIte, sevalprocAttr, enc_Msg, sz_Msg, enc_OpenSaid, sz_OpenSaid, enc_Note, sz_Note, enc_Hello, sz_Hello]; done)) (by first | rfl | (simp -implicitDefEqProofs only [avm, reduceCtorEq, ↓reduceIte, sevalprocAttr, enc_Msg, sz_Msg, enc_OpenSaid, sz_OpenSaid, enc_Note, sz_Note, enc_Hello, sz_Hello]; done)) (by first | exact .inl rfl | exact .inr rfl) (by first | exact .inl rfl | exact .inr rfl) (by simp only [apTag, List.getElem?_cons_zero, List.getElem?_cons_succ, ↓reduceIte, List.set_cons_zero, List.set_cons_succ, List.nil_append, List.cons_append, List.length_nil, List.length_cons, sevalprocAttr]; rfl) ?_
       simp -implicitDefEqProofs only [avm, reduceCtorEq, ↓reduceIte, sevalprocAttr, enc_Msg, sz_Msg, enc_OpenSaid, sz_OpenSaid, enc_Note, sz_Note, enc_Hello, sz_Hello])
    | (refine bd_go h fun y hy h => ?_; (first | refine slc_max hy rfl (.inl rfl) asn_none ?_ | refine slc_max hy rfl (.inl rfl) (asn_some (by first | decide | omega)) ?_ | refine slc11 hy rfl (.inl rfl) ?_ | refine slc01 hy rfl (.inl rfl) ?_ | refine slc10 hy rfl (.inl rfl) ?_ | refine slc00 hy rfl (.inl rfl) ?_ | refine slc11 hy rfl (.inr rfl) ?_ | refine slc01 hy rfl (.inr rfl) ?_ | refine slc10 hy rfl (.inr rfl) ?_ | refine slc00 hy rfl (.inr rfl) ?_); simp -implicitDefEqProofs only [avm, reduceCtorEq, ↓reduceIte, sevalprocAttr, enc_Msg, sz_Msg, enc_OpenSaid, sz_OpenSaid, enc_Note, sz_Note, enc_Hello, sz_Hello])
    | (refine bd_go h fun y hy h => ?_
       first | refine callsc (a_open_Put hy) ?_ ?_ | refine callc (a_open_Put hy) ?_ ?_ | ((first | refine callsc (act_le (a_open_Put hy) ?_) ?_ ?_ | refine callc (act_le (a_open_Put hy) ?_) ?_ ?_); (focus (repeat' (first | exact trivial | exact le_same _ | exact le_enc | exact le_nil | exact le_imm (.inl rfl) | exact le_imm (.inr rfl) | (refine le_agg ?_) | apply And.intro))))
       focus (first | rfl | (simp only [purL, pur, purL_enc, Enc.pure_enc, Bool.and_self, Bool.and_true]; done))
       simp -implicitDefEqProofs only [avm, reduceCtorEq, ↓reduceIte, sevalprocAttr, enc_Msg, sz_Msg, enc_OpenSaid, sz_OpenSaid, enc_Note, sz_Note, enc_Hello, sz_Hello])
    | (refine bd_go h fun y hy h => ?_
       first | refine callsc (a_open_Get hy) ?_ ?_ | refine callc (a_open_Get hy) ?_ ?_ | ((first | refine callsc (act_le (a_open_Get hy) ?_) ?_ ?_ | refine callc (act_le (a_open_Get hy) ?_) ?_ ?_); (focus (repeat' (first | exact trivial | exact le_same _ | exact le_enc | exact le_nil | exact le_imm (.inl rfl) | exact le_imm (.inr rfl) | (refine le_agg ?_) | apply And.intro))))
       focus (first | rfl | (simp only [purL, pur, purL_enc, Enc.pure_enc, Bool.and_self, Bool.and_true]; done))
       simp -implicitDefEqProofs only [avm, reduceCtorEq, ↓reduceIte, sevalprocAttr, enc_Msg, sz_Msg, enc_OpenSaid, sz_OpenSaid, enc_Note, sz_Note, enc_Hello, sz_Hello])
    | (refine bd_go h fun y hy h => ?_
       first | refine callsc (a_open_Sane hy) ?_ ?_ | refine callc (a_open_Sane hy) ?_ ?_ | ((first | refine callsc (act_le (a_open_Sane hy) ?_) ?_ ?_ | refine callc (act_le (a_open_Sane hy) ?_) ?_ ?_); (focus (repeat' (first | exact trivial | exact le_same _ | exact le_enc | exact le_nil | exact le_imm (.inl rfl) | exact le_imm (.inr rfl) | (refine le_agg ?_) | apply And.intro))))
       focus (first | rfl | (simp only [purL, pur, purL_enc, Enc.pure_enc, Bool.and_self, Bool.and_true]; done))
       simp -implicitDefEqProofs only [avm, reduceCtorEq, ↓reduceIte, sevalprocAttr, enc_Msg, sz_Msg, enc_OpenSaid, sz_OpenSaid, enc_Note, sz_Note, enc_Hello, sz_Hello])
    | (refine nz_go h fun hb h => ?_; simp -implicitDefEqProofs only [eq_false hb, avm, reduceCtorEq, ↓reduceIte, sevalprocAttr, enc_Msg, sz_Msg, enc_OpenSaid, sz_OpenSaid, enc_Note, sz_Note, enc_Hello, sz_Hello] at h ⊢)
    | (refine nn_go h fun hb h => ?_; simp -implicitDefEqProofs only [eq_false hb, avm, reduceCtorEq, ↓reduceIte, sevalprocAttr, enc_Msg, sz_Msg, enc_OpenSaid, sz_OpenSaid, enc_Note, sz_Note, enc_Hello, sz_Hello] at h ⊢)
    | (cases h
       try simp -implicitDefEqProofs only [avm, reduceCtorEq, ↓reduceIte, sevalprocAttr, enc_Msg, sz_Msg, enc_OpenSaid, sz_OpenSaid, enc_Note, sz_Note, enc_Hello, sz_Hello]
       first | refine retLt (by first | exact .inr rfl | exact .inl rfl) (by rfl) ?_ | refine retL1 (by first | exact .inr rfl | exact .inl rfl) (by rfl) ?_
       repeat' (first | exact trivial | apply And.intro)
       all_goals first | exact .same _ rfl | exact reta_imm | exact reta_nil | (refine .imm _ _ _ ?_; simp only [pur, purL, purL_enc, Bool.and_self, Bool.and_true]; done) | exact .same _ (Enc.pure_enc _) | exact .same _ pur_enc_sl | (refine .same _ ?_; simp only [pur, purL, purL_enc, Bool.and_self, Bool.and_true]; done) | (refine .le _ _ ?_ ?_; (focus (repeat' (first | exact le_same _ | exact le_enc | exact le_nil | exact le_imm (.inl rfl) | exact le_imm (.inr rfl) | refine le_agg ?_ | exact trivial | apply And.intro))); (simp only [pur, purL, purL_enc, Bool.and_self, Bool.and_true]; done)))
    | fail)
theorem a_ridgewaylaw06_OpenFields {a0 : Hello} {a1 : UInt8} {r : Bool} (h : m_ridgewaylaw06_OpenFields a0 a1 = some r) : ACt Try.prog 7 [Enc.enc a0, Enc.enc a1] (Enc.enc r) [] := by
  refine act_of p_ridgewaylaw06_OpenFields (by simp [c_ridgewaylaw06_OpenFields]) ?_
  show AW _ b_ridgewaylaw06_OpenFields (RetOk [.tmp 4] _ _) { n := 131, tm := [(0, _), (1, _)], box := [], fr := [] }
  unfold b_ridgewaylaw06_OpenFields
  unfold m_ridgewaylaw06_OpenFields at h
  try simp -implicitDefEqProofs only [avm, reduceCtorEq, ↓reduceIte, sevalprocAttr, enc_Msg, sz_Msg, enc_OpenSaid, sz_OpenSaid, enc_Note, sz_Note, enc_Hello, sz_Hello] at h
  repeat' (first
    | (refine (hκ _).mpr ?_; clear hκ)
    | refine kn1 ?_
    | refine kr1 ?_
    | refine ke1 ?_
    | refine kn2 ?_
    | refine kr2 ?_
    | refine kx2 ?_
    | refine ke2 rfl ?_
    | refine kr5 ?_
    | refine ke5 ?_
    | refine kr6 ?_
    | refine ke6 ?_
    | (refine bd_go h fun y hy h => ?_; refine aw_frzL _ hy rfl rfl (Nat.zero_le _) ?_; simp -implicitDefEqProofs only [avm, reduceCtorEq, ↓reduceIte, sevalprocAttr, enc_Msg, sz_Msg, enc_OpenSaid, sz_OpenSaid, enc_Note, sz_Note, enc_Hello, sz_Hello, List.take_succ_cons, List.take_zero])
    | refine w_seq ?_
    | refine w_block ?_
    | (refine aw_regk fun κ hκ => ?_; simp -implicitDefEqProofs only [avm, reduceCtorEq, ↓reduceIte, sevalprocAttr, enc_Msg, sz_Msg, enc_OpenSaid, sz_OpenSaid, enc_Note, sz_Note, enc_Hello, sz_Hello])
    | refine aw_exit ?_
    | refine aw_ret ?_
    | refine aw_skip ?_
    | refine aw_label ?_
    | refine condc_t ?_
    | refine condc_f ?_
    | (refine aw_cond2 (by simp -implicitDefEqProofs only [avm, reduceCtorEq, ↓reduceIte, sevalprocAttr, enc_Msg, sz_Msg, enc_OpenSaid, sz_OpenSaid, enc_Note, sz_Note, enc_Hello, sz_Hello]; rfl) ?_)
    | ((first | refine gkc_fork ?_ ?_ | refine pkc_fork ?_ ?_ | refine condc_fork ?_ ?_) <;> intro hq <;> (first | contradiction | simp -implicitDefEqProofs only [eq_false hq, Decidable.not_not, avm, reduceCtorEq, ↓reduceIte, sevalprocAttr, enc_Msg, sz_Msg, enc_OpenSaid, sz_OpenSaid, enc_Note, sz_Note, enc_Hello, sz_Hello] at h ⊢ | simp -implicitDefEqProofs only [eq_true hq, avm, reduceCtorEq, ↓reduceIte, sevalprocAttr, enc_Msg, sz_Msg, enc_OpenSaid, sz_OpenSaid, enc_Note, sz_Note, enc_Hello, sz_Hello] at h ⊢))
    | ((first | refine gkc_split ?_ ?_ | refine pkc_split ?_ ?_ | refine condc_bool ?_ ?_) <;> intro hq <;> (simp -implicitDefEqProofs only [hq, avm, reduceCtorEq, ↓reduceIte, sevalprocAttr, enc_Msg, sz_Msg, enc_OpenSaid, sz_OpenSaid, enc_Note, sz_Note, enc_Hello, sz_Hello] at h ⊢))
    | (refine bd_go h fun y hy h => ?_; refine apn hy ?_; simp -implicitDefEqProofs only [avm, reduceCtorEq, ↓reduceIte, sevalprocAttr, enc_Msg, sz_Msg, enc_OpenSaid, sz_OpenSaid, enc_Note, sz_Note, enc_Hello, sz_Hello])
    | (refine ap_emp hq ?_; simp -implicitDefEqProofs only [avm, reduceCtorEq, ↓reduceIte, sevalprocAttr, enc_Msg, sz_Msg, enc_OpenSaid, sz_OpenSaid, enc_Note, sz_Note, enc_Hello, sz_Hello])
    | (refine bd_go h fun y hy h => ?_; refine ixb hy rfl ?_; simp -implicitDefEqProofs only [avm, reduceCtorEq, ↓reduceIte, sevalprocAttr, enc_Msg, sz_Msg, enc_OpenSaid, sz_OpenSaid, enc_Note, sz_Note, enc_Hello, sz_Hello])
    | ((first | refine qld_one (k := 0) (by assumption) rfl (by first | rfl | omega) rfl ?_ | refine qld_one (by assumption) rfl rfl rfl ?_); simp -implicitDefEqProofs only [avm, reduceCtorEq, ↓reduceIte, sevalprocAttr, enc_Msg, sz_Msg, enc_OpenSaid, sz_OpenSaid, enc_Note, sz_Note, enc_Hello, sz_Hello])
    | ((first | refine qld_all (k := 0) (by assumption) rfl (by first | rfl | omega) (by first | (simp; done) | decide) ?_ | refine qld_all (by assumption) rfl rfl (by first | (simp; done) | decide) ?_); simp -implicitDefEqProofs only [avm, reduceCtorEq, ↓reduceIte, sevalprocAttr, enc_Msg, sz_Msg, enc_OpenSaid, sz_OpenSaid, enc_Note, sz_Note, enc_Hello, sz_Hello])
    | (refine bd_go h fun y hy h => ?_; (first | refine stb (k := 0) hy (by assumption) rfl rfl rfl rfl (by first | rfl | omega) rfl (by first | (simp; done) | decide) (by first | rfl | (simp -implicitDefEqProofs only [putCells.eq_1, avm, reduceCtorEq, ↓reduceIte, sevalprocAttr, enc_Msg, sz_Msg, enc_OpenSaid, sz_OpenSaid, enc_Note, sz_Note, enc_Hello, sz_Hello]; done)) ?_ | refine stb hy (by assumption) rfl rfl rfl rfl rfl rfl (by first | (simp; done) | decide) (by first | rfl | (simp -implicitDefEqProofs only [putCells.eq_1, avm, reduceCtorEq, ↓reduceIte, sevalprocAttr, enc_Msg, sz_Msg, enc_OpenSaid, sz_OpenSaid, enc_Note, sz_Note, enc_Hello, sz_Hello]; done)) ?_); have hl := up_len hy; simp -implicitDefEqProofs only [hl, avm, reduceCtorEq, ↓reduceIte, sevalprocAttr, enc_Msg, sz_Msg, enc_OpenSaid, sz_OpenSaid, enc_Note, sz_Note, enc_Hello, sz_Hello] at h ⊢)
    | (refine stc_plain rfl ?_; simp -implicitDefEqProofs only [putCells.eq_1, avm, reduceCtorEq, ↓reduceIte, sevalprocAttr, enc_Msg, sz_Msg, enc_OpenSaid, sz_OpenSaid, enc_Note, sz_Note, enc_Hello, sz_Hello])
    | (refine bd_go h fun y hy h => ?_; refine isc hy ?_; simp -implicitDefEqProofs only [avm, reduceCtorEq, ↓reduceIte, sevalprocAttr, enc_Msg, sz_Msg, enc_OpenSaid, sz_OpenSaid, enc_Note, sz_Note, enc_Hello, sz_Hello])
    | (refine bd_go h fun y hy h => ?_; (first | refine ssc hy (asn_some (by first | decide | omega)) (asn_some (by first | decide | omega)) ?_ | refine ssc hy asn_none (asn_some (by first | decide | omega)) ?_ | refine ssc hy asn_none asl_none ?_ | refine ssc hy (asn_some (by first | decide | omega)) asl_none ?_ | refine ssc hy (asn_some (sl_get hy).1.1) asl_none ?_ | refine ssc hy asn_none (asn_some (sl_get hy).1.2.1) ?_ | refine ssc hy (asn_some (sl_get hy).1.1) (asn_some (Int.le_trans (sl_get hy).1.1 (sl_get hy).1.2.1)) ?_); simp -implicitDefEqProofs only [avm, reduceCtorEq, ↓reduceIte, sevalprocAttr, enc_Msg, sz_Msg, enc_OpenSaid, sz_OpenSaid, enc_Note, sz_Note, enc_Hello, sz_Hello])
    | (refine bd_go h fun y hy h => ?_; refine sac hy ?_; simp -implicitDefEqProofs only [avm, reduceCtorEq, ↓reduceIte, sevalprocAttr, enc_Msg, sz_Msg, enc_OpenSaid, sz_OpenSaid, enc_Note, sz_Note, enc_Hello, sz_Hello])
    | (refine bd_go h fun y hy h => ?_; refine ixc hy ?_; simp -implicitDefEqProofs only [avm, reduceCtorEq, ↓reduceIte, sevalprocAttr, enc_Msg, sz_Msg, enc_OpenSaid, sz_OpenSaid, enc_Note, sz_Note, enc_Hello, sz_Hello])
    | (refine bd_go h fun y hy h => ?_
       refine apc hy (by first | rfl | (simp -implicitDefEqProofs only [avm, reduceCtorEq, ↓reduceIte, sevalprocAttr, enc_Msg, sz_Msg, enc_OpenSaid, sz_OpenSaid, enc_Note, sz_Note, enc_Hello, sz_Hello]; done)) (by first | rfl | (simp -implicitDefEqProofs only [avm, reduceCtorEq, ↓reduceIte, sevalprocAttr, enc_Msg, sz_Msg, enc_OpenSaid, sz_OpenSaid, enc_Note, sz_Note, enc_Hello, sz_Hello]; done)) (by first | exact .inl rfl | exact .inr rfl) (by first | exact .inl rfl | exact .inr rfl) (by simp only [apTag, List.getElem?_cons_zero, List.getElem?_cons_succ, ↓reduceIte, List.set_cons_zero, List.set_cons_succ, List.nil_append, List.cons_append, List.length_nil, List.length_cons, sevalprocAttr]; rfl) ?_
       simp -implicitDefEqProofs only [avm, reduceCtorEq, ↓reduceIte, sevalprocAttr, enc_Msg, sz_Msg, enc_OpenSaid, sz_OpenSaid, enc_Note, sz_Note, enc_Hello, sz_Hello])
    | (refine bd_go h fun y hy h => ?_; (first | refine slc_max hy rfl (.inl rfl) asn_none ?_ | refine slc_max hy rfl (.inl rfl) (asn_some (by first | decide | omega)) ?_ | refine slc11 hy rfl (.inl rfl) ?_ | refine slc01 hy rfl (.inl rfl) ?_ | refine slc10 hy rfl (.inl rfl) ?_ | refine slc00 hy rfl (.inl rfl) ?_ | refine slc11 hy rfl (.inr rfl) ?_ | refine slc01 hy rfl (.inr rfl) ?_ | refine slc10 hy rfl (.inr rfl) ?_ | refine slc00 hy rfl (.inr rfl) ?_); simp -implicitDefEqProofs only [avm, reduceCtorEq, ↓reduceIte, sevalprocAttr, enc_Msg, sz_Msg, enc_OpenSaid, sz_OpenSaid, enc_Note, sz_Note, enc_Hello, sz_Hello])
    | (refine bd_go h fun y hy h => ?_
       first | refine callsc (a_ridgewaylaw06_awake hy) ?_ ?_ | refine callc (a_ridgewaylaw06_awake hy) ?_ ?_ | ((first | refine callsc (act_le (a_ridgewaylaw06_awake hy) ?_) ?_ ?_ | refine callc (act_le (a_ridgewaylaw06_awake hy) ?_) ?_ ?_); (focus (repeat' (first | exact trivial | exact le_same _ | exact le_enc | exact le_nil | exact le_imm (.inl rfl) | exact le_imm (.inr rfl) | (refine le_agg ?_) | apply And.intro))))
       focus (first | rfl | (simp only [purL, pur, purL_enc, Enc.pure_enc, Bool.and_self, Bool.and_true]; done))
       simp -implicitDefEqProofs only [avm, reduceCtorEq, ↓reduceIte, sevalprocAttr, enc_Msg, sz_Msg, enc_OpenSaid, sz_OpenSaid, enc_Note, sz_Note, enc_Hello, sz_Hello])
    | (refine bd_go h fun y hy h => ?_
       first | refine callsc (a_open_Put hy) ?_ ?_ | refine callc (a_open_Put hy) ?_ ?_ | ((first | refine callsc (act_le (a_open_Put hy) ?_) ?_ ?_ | refine callc (act_le (a_open_Put hy) ?_) ?_ ?_); (focus (repeat' (first | exact trivial | exact le_same _ | exact le_enc | exact le_nil | exact le_imm (.inl rfl) | exact le_imm (.inr rfl) | (refine le_agg ?_) | apply And.intro))))
       focus (first | rfl | (simp only [purL, pur, purL_enc, Enc.pure_enc, Bool.and_self, Bool.and_true]; done))
       simp -implicitDefEqProofs only [avm, reduceCtorEq, ↓reduceIte, sevalprocAttr, enc_Msg, sz_Msg, enc_OpenSaid, sz_OpenSaid, enc_Note, sz_Note, enc_Hello, sz_Hello])
    | (refine bd_go h fun y hy h => ?_
       first | refine callsc (a_open_Sane hy) ?_ ?_ | refine callc (a_open_Sane hy) ?_ ?_ | ((first | refine callsc (act_le (a_open_Sane hy) ?_) ?_ ?_ | refine callc (act_le (a_open_Sane hy) ?_) ?_ ?_); (focus (repeat' (first | exact trivial | exact le_same _ | exact le_enc | exact le_nil | exact le_imm (.inl rfl) | exact le_imm (.inr rfl) | (refine le_agg ?_) | apply And.intro))))
       focus (first | rfl | (simp only [purL, pur, purL_enc, Enc.pure_enc, Bool.and_self, Bool.and_true]; done))
       simp -implicitDefEqProofs only [avm, reduceCtorEq, ↓reduceIte, sevalprocAttr, enc_Msg, sz_Msg, enc_OpenSaid, sz_OpenSaid, enc_Note, sz_Note, enc_Hello, sz_Hello])
    | (refine bd_go h fun y hy h => ?_
       first | refine callsc (a_open_Get hy) ?_ ?_ | refine callc (a_open_Get hy) ?_ ?_ | ((first | refine callsc (act_le (a_open_Get hy) ?_) ?_ ?_ | refine callc (act_le (a_open_Get hy) ?_) ?_ ?_); (focus (repeat' (first | exact trivial | exact le_same _ | exact le_enc | exact le_nil | exact le_imm (.inl rfl) | exact le_imm (.inr rfl) | (refine le_agg ?_) | apply And.intro))))
       focus (first | rfl | (simp only [purL, pur, purL_enc, Enc.pure_enc, Bool.and_self, Bool.and_true]; done))
       simp -implicitDefEqProofs only [avm, reduceCtorEq, ↓reduceIte, sevalprocAttr, enc_Msg, sz_Msg, enc_OpenSaid, sz_OpenSaid, enc_Note, sz_Note, enc_Hello, sz_Hello])
    | (refine nz_go h fun hb h => ?_; simp -implicitDefEqProofs only [eq_false hb, avm, reduceCtorEq, ↓reduceIte, sevalprocAttr, enc_Msg, sz_Msg, enc_OpenSaid, sz_OpenSaid, enc_Note, sz_Note, enc_Hello, sz_Hello] at h ⊢)
    | (refine nn_go h fun hb h => ?_; simp -implicitDefEqProofs only [eq_false hb, avm, reduceCtorEq, ↓reduceIte, sevalprocAttr, enc_Msg, sz_Msg, enc_OpenSaid, sz_OpenSaid, enc_Note, sz_Note, enc_Hello, sz_Hello] at h ⊢)
    | (cases h
       try simp -implicitDefEqProofs only [avm, reduceCtorEq, ↓reduceIte, sevalprocAttr, enc_Msg, sz_Msg, enc_OpenSaid, sz_OpenSaid, enc_Note, sz_Note, enc_Hello, sz_Hello]
       first | refine retLt (by first | exact .inr rfl | exact .inl rfl) (by rfl) ?_ | refine retL1 (by first | exact .inr rfl | exact .inl rfl) (by rfl) ?_
       repeat' (first | exact trivial | apply And.intro)
       all_goals first | exact .same _ rfl | exact reta_imm | exact reta_nil | (refine .imm _ _ _ ?_; simp only [pur, purL, purL_enc, Bool.and_self, Bool.and_true]; done) | exact .same _ (Enc.pure_enc _) | exact .same _ pur_enc_sl | (refine .same _ ?_; simp only [pur, purL, purL_enc, Bool.and_self, Bool.and_true]; done) | (refine .le _ _ ?_ ?_; (focus (repeat' (first | exact le_same _ | exact le_enc | exact le_nil | exact le_imm (.inl rfl) | exact le_imm (.inr rfl) | refine le_agg ?_ | exact trivial | apply And.intro))); (simp only [pur, purL, purL_enc, Bool.and_self, Bool.and_true]; done)))
    | (cases h; done)
    | ((refine sw_fork h (fun hq h => ?_) (fun hq h => ?_)) <;> (first | contradiction | simp -implicitDefEqProofs only [eq_false hq, Decidable.not_not, avm, reduceCtorEq, ↓reduceIte, sevalprocAttr, enc_Msg, sz_Msg, enc_OpenSaid, sz_OpenSaid, enc_Note, sz_Note, enc_Hello, sz_Hello] at h ⊢ | simp -implicitDefEqProofs only [hq, avm, reduceCtorEq, ↓reduceIte, sevalprocAttr, enc_Msg, sz_Msg, enc_OpenSaid, sz_OpenSaid, enc_Note, sz_Note, enc_Hello, sz_Hello] at h ⊢))
    | fail)
end Go.Proofs.Ytgakgilaikgboaa
