/- Functions compute what their models do. -/
import Derived.Test.YtkdodhkiemfpeaaLfa
import Derived.Test.YtkdodhkiemfpeaaAcu7
import Derived.Test.YtkdodhkiemfpeaaMu7
namespace Go.Proofs.Ytkdodhkiemfpeaa
open Go.RowKit
set_option maxHeartbeats 8000000
set_option maxRecDepth 100000
set_option linter.unusedSimpArgs false
set_option linter.unusedVariables false
theorem pats : type_of% (And.intro @patOf.eq_1 (And.intro @setB.eq_1 (And.intro @setB.eq_2 (And.intro @setF.eq_1 (And.intro @setF.eq_2 (And.intro @List.map_cons.{0, 0} (And.intro @List.map_nil.{0, 0} (And.intro @List.modify_zero_cons.{0} (And.intro @List.modify_succ_cons.{0} (And.intro @List.set_cons_zero.{0} (And.intro @List.set_cons_succ.{0} (And.intro @List.append_nil.{0} (And.intro @List.nil_append.{0} (And.intro @List.cons_append.{0} (And.intro @setO.eq_1 (@tupC.eq_1)))))))))))))))) := And.intro @patOf.eq_1 (And.intro @setB.eq_1 (And.intro @setB.eq_2 (And.intro @setF.eq_1 (And.intro @setF.eq_2 (And.intro @List.map_cons.{0, 0} (And.intro @List.map_nil.{0, 0} (And.intro @List.modify_zero_cons.{0} (And.intro @List.modify_succ_cons.{0} (And.intro @List.set_cons_zero.{0} (And.intro @List.set_cons_succ.{0} (And.intro @List.append_nil.{0} (And.intro @List.nil_append.{0} (And.intro @List.cons_append.{0} (And.intro @setO.eq_1 (@tupC.eq_1)))))))))))))))
theorem prs : type_of% (And.intro @pur.eq_1 (And.intro @pur.eq_2 (And.intro @pur.eq_3 (And.intro @pur.eq_4 (And.intro @pur.eq_5 (And.intro @pur.eq_6 (And.intro @pur.eq_7 (And.intro @pur.eq_8 (And.intro @pur.eq_9 (And.intro @pur.eq_10 (And.intro @pur.eq_11 (And.intro @pur.eq_12 (And.intro @purL.eq_1 (And.intro @purL.eq_2 (And.intro @purL_enc (And.intro @Bool.and_self (@Bool.and_true))))))))))))))))) := And.intro @pur.eq_1 (And.intro @pur.eq_2 (And.intro @pur.eq_3 (And.intro @pur.eq_4 (And.intro @pur.eq_5 (And.intro @pur.eq_6 (And.intro @pur.eq_7 (And.intro @pur.eq_8 (And.intro @pur.eq_9 (And.intro @pur.eq_10 (And.intro @pur.eq_11 (And.intro @pur.eq_12 (And.intro @purL.eq_1 (And.intro @purL.eq_2 (And.intro @purL_enc (And.intro @Bool.and_self (@Bool.and_true))))))))))))))))
theorem tk0 {P : Prop} (h : P := by first | exact .same _ rfl | exact reta_imm | exact reta_nil | (refine .imm _ _ _ ?_; simp only [prs]; done) | exact .same _ (Enc.pure_enc _) | exact .same _ pur_enc_sl | exact .same _ pur_enc_fl | (refine .same _ ?_; simp only [prs]; done) | (refine .le _ _ ?_ ?_; (focus (repeat' (first | exact le_same _ | exact le_enc | exact le_nil | exact le_imm (.inl rfl) | exact le_imm (.inr rfl) | refine le_agg ?_ | exact trivial | apply And.intro))); (simp only [prs]; done)) | fail) : P := h
theorem tk1 {P : Prop} (h : P := by first | exact rfl | exact wkc_kv | exact wkc_FL | exact wka_full | exact wka_full0 | exact .same _ rfl | exact wka_imm | exact wka_app (by decide) | exact wka_tag (by decide) rfl | exact wka_tagn (by decide) rfl | exact wka_tagr (by decide) rfl (by simp only [prs]) | exact wka_immn | (refine .imm _ _ _ _ (.inl rfl) (okBL_pur ?_); simp only [prs]; done) | exact wka_tag0 (by decide) rfl | exact wka_imm0 | exact wka_pur (Enc.pure_enc _) | exact wka_pur pur_enc_sl | exact wka_pur pur_enc_fl | exact .und _ | (refine wka_pur ?_; simp only [prs]; done) | (refine .same _ ?_; simp only [okB, okBL, okBL_enc, Bool.and_self, Bool.and_true, decide_true, sevalprocAttr]; done) | (refine .le _ _ ?_ (okB_pur ?_); (focus (repeat' (first | exact le_same _ | exact le_enc | exact le_nil | exact le_imm (.inl rfl) | exact le_imm (.inr rfl) | refine le_agg ?_ | exact trivial | apply And.intro))); (simp only [prs]; done)) | fail) : P := h
theorem tk2 {P : Prop} (h : P := by first | (focus (first | rfl | (simp only [purL, pur, purL_enc, Enc.pure_enc, Bool.and_self, Bool.and_true]; done))) | fail) : P := h
theorem tk3 {P : Prop} (h : P := by first | exact Nat.zero_le _ | exact Nat.le_refl _ | (focus (simp; done)) | fail) : P := h
theorem tk4 {P : Prop} (h : P := by first | (simp -implicitDefEqProofs only [avm, reduceCtorEq, ↓reduceIte, sevalprocAttr, encs]; rfl) | fail) : P := h
theorem tk5 {P : Prop} (h : P := by first | rfl | (simp -implicitDefEqProofs only [avm, reduceCtorEq, ↓reduceIte, sevalprocAttr, encs]; done) | fail) : P := h
theorem tk6 {P : Prop} (h : P := by first | (simp only [apTag, List.getElem?_cons_zero, List.getElem?_cons_succ, ↓reduceIte, List.set_cons_zero, List.set_cons_succ, List.nil_append, List.cons_append, List.length_nil, List.length_cons, sevalprocAttr]; rfl) | fail) : P := h
theorem tk7 {P : Prop} (h : P := by first | exact rfl | exact wkc_FL | exact wka_full | exact wka_full0 | exact .same _ rfl | exact wka_imm | exact wka_app (by decide) | exact wka_tag (by decide) rfl | exact wka_tagn (by decide) rfl | exact wka_tagr (by decide) rfl (by simp only [prs]) | exact wka_immn | (refine .imm _ _ _ _ (.inl rfl) (okBL_pur ?_); simp only [prs]; done) | exact wka_tag0 (by decide) rfl | exact wka_imm0 | exact wka_pur (Enc.pure_enc _) | exact wka_pur pur_enc_sl | exact wka_pur pur_enc_fl | exact .und _ | (refine wka_pur ?_; simp only [prs]; done) | (refine .same _ ?_; simp only [okB, okBL, okBL_enc, Bool.and_self, Bool.and_true, decide_true, sevalprocAttr]; done) | (refine .le _ _ ?_ (okB_pur ?_); (focus (repeat' (first | exact le_same _ | exact le_enc | exact le_nil | exact le_imm (.inl rfl) | exact le_imm (.inr rfl) | refine le_agg ?_ | exact trivial | apply And.intro))); (simp only [prs]; done)) | fail) : P := h
theorem k_attr_kinds : ACt Try.prog 62 [] (.slice .full 4 [(.agg [(.int .i64 (1 : Int)), (.int .i64 (64 : Int)), (.bool true), (.fn 80 [])]), (.agg [(.int .i64 (2 : Int)), (.int .i64 (64 : Int)), (.bool true), (.fn 81 [])]), (.agg [(.int .i64 (3 : Int)), (.int .i64 (64 : Int)), (.bool true), (.fn 82 [])]), (.agg [(.int .i64 (4 : Int)), (.int .i64 (128 : Int)), (.bool false), (.fn 83 [])]), (.agg [(.int .i64 (35 : Int)), (.int .i64 (192 : Int)), (.bool false), (.fn 84 [])])]) [] := execF_ok tab_ok (O := []) trivial (n := 40) (d := 12) (by kernel_rfl)
theorem a_msg_Least {a0 : Int} {r : Int} (h : m_msg_Least a0 = some r) : ACt Try.prog 55 [Enc.enc a0] (Enc.enc r) [] := by
  refine act_of p_msg_Least (by simp [c_msg_Least]) ?_
  show AW _ b_msg_Least (RetOk [.tmp 2] _ _) { n := 22, tm := [(0, _)], box := [], fr := [] }
  unfold b_msg_Least
  unfold m_msg_Least at h
  try simp -implicitDefEqProofs only [avm, reduceCtorEq, ↓reduceIte, sevalprocAttr, encs] at h
  repeat' (first
    | (refine (hκ _).mpr ?_; clear hκ)
    | refine kn1 ?_
    | refine kr1 ?_
    | refine ke1 ?_
    | refine kn2 ?_
    | refine kr2 ?_
    | refine kx2 ?_
    | refine ke2 rfl ?_
    | refine kr5 ?_
    | refine ke5 ?_
    | refine kr6 ?_
    | refine ke6 ?_
    | refine w_seq ?_
    | refine w_block ?_
    | refine w_scope ?_
    | refine kn7 ?_
    | refine kr7 ?_
    | refine ke7 ?_
    | (refine aw_regk fun κ hκ => ?_; simp -implicitDefEqProofs only [avm, reduceCtorEq, ↓reduceIte, sevalprocAttr, encs])
    | refine aw_exit ?_
    | refine aw_ret ?_
    | refine aw_skip ?_
    | refine aw_label ?_
    | refine condc_t ?_
    | refine condc_f ?_
    | (refine aw_cond2 tk4 ?_)
    | ((first | refine gkc_fork ?_ ?_ | refine pkc_fork ?_ ?_ | refine condc_fork ?_ ?_) <;> intro hq <;> (first | contradiction | simp -implicitDefEqProofs only [eq_false hq, Decidable.not_not, avm, reduceCtorEq, ↓reduceIte, sevalprocAttr, encs] at h ⊢ | simp -implicitDefEqProofs only [eq_true hq, avm, reduceCtorEq, ↓reduceIte, sevalprocAttr, encs] at h ⊢))
    | ((first | refine gkc_split ?_ ?_ | refine pkc_split ?_ ?_ | refine condc_bool ?_ ?_) <;> intro hq <;> (first | exact bcontra (by assumption) hq | exact bcontra hq (by assumption) | simp -implicitDefEqProofs only [hq, avm, reduceCtorEq, ↓reduceIte, sevalprocAttr, encs] at h ⊢))
    | (cases h
       try simp -implicitDefEqProofs only [avm, reduceCtorEq, ↓reduceIte, sevalprocAttr, encs]
       first | refine retLt (by first | exact .inr rfl | exact .inl rfl) (by rfl) ?_ | refine retL1 (by first | exact .inr rfl | exact .inl rfl) (by rfl) ?_
       repeat' (first | exact trivial | apply And.intro)
       all_goals exact tk0)
    | fail)
theorem a_msg_wrong {a0 : Int} {a1 : Int} {r : Bool} (h : m_msg_wrong a0 a1 = some r) : ACt Try.prog 56 [Enc.enc a0, Enc.enc a1] (Enc.enc r) [] := by
  refine act_of p_msg_wrong (by simp [c_msg_wrong]) ?_
  show AW _ b_msg_wrong (RetOk [.tmp 4] _ _) { n := 17, tm := [(0, _), (1, _)], box := [], fr := [] }
  unfold b_msg_wrong
  unfold m_msg_wrong at h
  try simp -implicitDefEqProofs only [avm, reduceCtorEq, ↓reduceIte, sevalprocAttr, encs] at h
  repeat' (first
    | (refine (hκ _).mpr ?_; clear hκ)
    | refine kn1 ?_
    | refine kr1 ?_
    | refine ke1 ?_
    | refine kn2 ?_
    | refine kr2 ?_
    | refine kx2 ?_
    | refine ke2 rfl ?_
    | refine kr5 ?_
    | refine ke5 ?_
    | refine kr6 ?_
    | refine ke6 ?_
    | refine w_seq ?_
    | refine w_block ?_
    | refine w_scope ?_
    | refine kn7 ?_
    | refine kr7 ?_
    | refine ke7 ?_
    | (refine aw_regk fun κ hκ => ?_; simp -implicitDefEqProofs only [avm, reduceCtorEq, ↓reduceIte, sevalprocAttr, encs])
    | refine aw_exit ?_
    | refine aw_ret ?_
    | refine aw_skip ?_
    | refine aw_label ?_
    | refine condc_t ?_
    | refine condc_f ?_
    | (refine aw_cond2 tk4 ?_)
    | ((first | refine gkc_fork ?_ ?_ | refine pkc_fork ?_ ?_ | refine condc_fork ?_ ?_) <;> intro hq <;> (first | contradiction | simp -implicitDefEqProofs only [eq_false hq, Decidable.not_not, avm, reduceCtorEq, ↓reduceIte, sevalprocAttr, encs] at h ⊢ | simp -implicitDefEqProofs only [eq_true hq, avm, reduceCtorEq, ↓reduceIte, sevalprocAttr, encs] at h ⊢))
    | ((first | refine gkc_split ?_ ?_ | refine pkc_split ?_ ?_ | refine condc_bool ?_ ?_) <;> intro hq <;> (first | exact bcontra (by assumption) hq | exact bcontra hq (by assumption) | simp -implicitDefEqProofs only [hq, avm, reduceCtorEq, ↓reduceIte, sevalprocAttr, encs] at h ⊢))
    | (refine bd_go h fun y hy h => ?_
       first | refine callsc (a_msg_Least hy) ?_ ?_ | refine callc (a_msg_Least hy) ?_ ?_ | ((first | refine callsc (act_le (a_msg_Least hy) ?_) ?_ ?_ | refine callc (act_le (a_msg_Least hy) ?_) ?_ ?_); (focus (repeat' (first | exact trivial | exact le_same _ | exact le_enc | exact le_nil | exact le_imm (.inl rfl) | exact le_imm (.inr rfl) | (refine le_agg ?_) | apply And.intro | (refine le_eq ?_; simp only [*]; done)))))
       exact tk2
       simp -implicitDefEqProofs only [avm, reduceCtorEq, ↓reduceIte, sevalprocAttr, encs])
    | (cases h
       try simp -implicitDefEqProofs only [avm, reduceCtorEq, ↓reduceIte, sevalprocAttr, encs]
       first | refine retLt (by first | exact .inr rfl | exact .inl rfl) (by rfl) ?_ | refine retL1 (by first | exact .inr rfl | exact .inl rfl) (by rfl) ?_
       repeat' (first | exact trivial | apply And.intro)
       all_goals exact tk0)
    | fail)
theorem a_msg_Sane {a0 : Msg} {r : Bool} (h : m_msg_Sane a0 = some r) : ACt Try.prog 25 [Enc.enc a0] (Enc.enc r) [] := by
  refine act_of p_msg_Sane (by simp [c_msg_Sane]) ?_
  show AW _ b_msg_Sane (RetOk [.tmp 2] _ _) { n := 24, tm := [(0, _)], box := [], fr := [] }
  unfold b_msg_Sane
  unfold m_msg_Sane at h
  try simp -implicitDefEqProofs only [avm, reduceCtorEq, ↓reduceIte, sevalprocAttr, encs] at h
  repeat' (first
    | (refine (hκ _).mpr ?_; clear hκ)
    | refine kn1 ?_
    | refine kr1 ?_
    | refine ke1 ?_
    | refine kn2 ?_
    | refine kr2 ?_
    | refine kx2 ?_
    | refine ke2 rfl ?_
    | refine kr5 ?_
    | refine ke5 ?_
    | refine kr6 ?_
    | refine ke6 ?_
    | refine w_seq ?_
    | refine w_block ?_
    | refine w_scope ?_
    | refine kn7 ?_
    | refine kr7 ?_
    | refine ke7 ?_
    | (refine aw_regk fun κ hκ => ?_; simp -implicitDefEqProofs only [avm, reduceCtorEq, ↓reduceIte, sevalprocAttr, encs])
    | refine aw_exit ?_
    | refine aw_ret ?_
    | refine aw_skip ?_
    | refine aw_label ?_
    | refine condc_t ?_
    | refine condc_f ?_
    | (refine aw_cond2 tk4 ?_)
    | ((first | refine gkc_fork ?_ ?_ | refine pkc_fork ?_ ?_ | refine condc_fork ?_ ?_) <;> intro hq <;> (first | contradiction | simp -implicitDefEqProofs only [eq_false hq, Decidable.not_not, avm, reduceCtorEq, ↓reduceIte, sevalprocAttr, encs] at h ⊢ | simp -implicitDefEqProofs only [eq_true hq, avm, reduceCtorEq, ↓reduceIte, sevalprocAttr, encs] at h ⊢))
    | ((first | refine gkc_split ?_ ?_ | refine pkc_split ?_ ?_ | refine condc_bool ?_ ?_) <;> intro hq <;> (first | exact bcontra (by assumption) hq | exact bcontra hq (by assumption) | simp -implicitDefEqProofs only [hq, avm, reduceCtorEq, ↓reduceIte, sevalprocAttr, encs] at h ⊢))
    | (refine bd_go h fun y hy h => ?_
       first | refine callsc (a_msg_Least hy) ?_ ?_ | refine callc (a_msg_Least hy) ?_ ?_ | ((first | refine callsc (act_le (a_msg_Least hy) ?_) ?_ ?_ | refine callc (act_le (a_msg_Least hy) ?_) ?_ ?_); (focus (repeat' (first | exact trivial | exact le_same _ | exact le_enc | exact le_nil | exact le_imm (.inl rfl) | exact le_imm (.inr rfl) | (refine le_agg ?_) | apply And.intro | (refine le_eq ?_; simp only [*]; done)))))
       exact tk2
       simp -implicitDefEqProofs only [avm, reduceCtorEq, ↓reduceIte, sevalprocAttr, encs])
    | (refine bd_go h fun y hy h => ?_
       first | refine callsc (a_msg_wrong hy) ?_ ?_ | refine callc (a_msg_wrong hy) ?_ ?_ | ((first | refine callsc (act_le (a_msg_wrong hy) ?_) ?_ ?_ | refine callc (act_le (a_msg_wrong hy) ?_) ?_ ?_); (focus (repeat' (first | exact trivial | exact le_same _ | exact le_enc | exact le_nil | exact le_imm (.inl rfl) | exact le_imm (.inr rfl) | (refine le_agg ?_) | apply And.intro | (refine le_eq ?_; simp only [*]; done)))))
       exact tk2
       simp -implicitDefEqProofs only [avm, reduceCtorEq, ↓reduceIte, sevalprocAttr, encs])
    | (cases h
       try simp -implicitDefEqProofs only [avm, reduceCtorEq, ↓reduceIte, sevalprocAttr, encs]
       first | refine retLt (by first | exact .inr rfl | exact .inl rfl) (by rfl) ?_ | refine retL1 (by first | exact .inr rfl | exact .inl rfl) (by rfl) ?_
       repeat' (first | exact trivial | apply And.intro)
       all_goals exact tk0)
    | fail)
theorem a_octet_Take {a0 : (List UInt8)} {a1 : Int} {r : ((List UInt8) × (List UInt8) × Bool)} (h : m_octet_Take a0 a1 = some r) : ACt Try.prog 64 [Enc.enc a0, Enc.enc a1] (.tup [Enc.enc r.1, Enc.enc r.2.1, Enc.enc r.2.2]) [] := by
  refine act_of p_octet_Take (by simp [c_octet_Take]) ?_
  show AW _ b_octet_Take (RetOk [.tmp 4, .tmp 5, .tmp 6] _ _) { n := 22, tm := [(0, _), (1, _)], box := [], fr := [] }
  unfold b_octet_Take
  unfold m_octet_Take at h
  try simp -implicitDefEqProofs only [avm, reduceCtorEq, ↓reduceIte, sevalprocAttr, encs] at h
  repeat' (first
    | (refine (hκ _).mpr ?_; clear hκ)
    | refine kn1 ?_
    | refine kr1 ?_
    | refine ke1 ?_
    | refine kn2 ?_
    | refine kr2 ?_
    | refine kx2 ?_
    | refine ke2 rfl ?_
    | refine kr5 ?_
    | refine ke5 ?_
    | refine kr6 ?_
    | refine ke6 ?_
    | refine w_seq ?_
    | refine w_block ?_
    | refine w_scope ?_
    | refine kn7 ?_
    | refine kr7 ?_
    | refine ke7 ?_
    | (refine aw_regk fun κ hκ => ?_; simp -implicitDefEqProofs only [avm, reduceCtorEq, ↓reduceIte, sevalprocAttr, encs])
    | refine aw_exit ?_
    | refine aw_ret ?_
    | refine aw_skip ?_
    | refine aw_label ?_
    | refine condc_t ?_
    | refine condc_f ?_
    | (refine aw_cond2 tk4 ?_)
    | ((first | refine gkc_fork ?_ ?_ | refine pkc_fork ?_ ?_ | refine condc_fork ?_ ?_) <;> intro hq <;> (first | contradiction | simp -implicitDefEqProofs only [eq_false hq, Decidable.not_not, avm, reduceCtorEq, ↓reduceIte, sevalprocAttr, encs] at h ⊢ | simp -implicitDefEqProofs only [eq_true hq, avm, reduceCtorEq, ↓reduceIte, sevalprocAttr, encs] at h ⊢))
    | ((first | refine gkc_split ?_ ?_ | refine pkc_split ?_ ?_ | refine condc_bool ?_ ?_) <;> intro hq <;> (first | exact bcontra (by assumption) hq | exact bcontra hq (by assumption) | simp -implicitDefEqProofs only [hq, avm, reduceCtorEq, ↓reduceIte, sevalprocAttr, encs] at h ⊢))
    | (refine bd_go h fun y hy h => ?_; (first | refine slc_max hy rfl (.inl rfl) asn_none ?_ | refine slc_max hy rfl (.inl rfl) (asn_some (by first | decide | omega)) ?_ | refine slc11 hy rfl (.inl rfl) ?_ | refine slc01 hy rfl (.inl rfl) ?_ | refine slc10 hy rfl (.inl rfl) ?_ | refine slc00 hy rfl (.inl rfl) ?_ | refine slc11 hy rfl (.inr rfl) ?_ | refine slc01 hy rfl (.inr rfl) ?_ | refine slc10 hy rfl (.inr rfl) ?_ | refine slc00 hy rfl (.inr rfl) ?_); simp -implicitDefEqProofs only [avm, reduceCtorEq, ↓reduceIte, sevalprocAttr, encs])
    | (cases h
       try simp -implicitDefEqProofs only [avm, reduceCtorEq, ↓reduceIte, sevalprocAttr, encs]
       first | refine retLt (by first | exact .inr rfl | exact .inl rfl) (by rfl) ?_ | refine retL1 (by first | exact .inr rfl | exact .inl rfl) (by rfl) ?_
       repeat' (first | exact trivial | apply And.intro)
       all_goals exact tk0)
    | fail)
theorem a_octet_Get {a0 : (List UInt8)} {a1 : Int} {r : (Int × (List UInt8) × Bool)} (h : m_octet_Get a0 a1 = some r) : ACt Try.prog 63 [Enc.enc a0, Enc.enc a1] (.tup [Enc.enc r.1, Enc.enc r.2.1, Enc.enc r.2.2]) [] := by
  refine act_of p_octet_Get (by simp [c_octet_Get]) ?_
  show AW _ b_octet_Get (RetOk [.tmp 4, .tmp 5, .tmp 6] _ _) { n := 41, tm := [(0, _), (1, _)], box := [], fr := [] }
  unfold b_octet_Get
  unfold m_octet_Get at h
  try simp -implicitDefEqProofs only [avm, reduceCtorEq, ↓reduceIte, sevalprocAttr, encs] at h
  repeat' (first
    | (refine (hκ _).mpr ?_; clear hκ)
    | refine kn1 ?_
    | refine kr1 ?_
    | refine ke1 ?_
    | refine kn2 ?_
    | refine kr2 ?_
    | refine kx2 ?_
    | refine ke2 rfl ?_
    | refine kr5 ?_
    | refine ke5 ?_
    | refine kr6 ?_
    | refine ke6 ?_
    | (refine w_loopm [8, 9, 26, 27] (fun (j : (Int × Int)) => [(10, (.int .i64 j.1)), (28, (.int .i64 j.2))]) (fun (j : (Int × Int)) => []) (fun (j : (Int × Int)) => []) (fun (j : (Int × Int)) => []) (show loopC (s_octet_Get1 _) _ BIG _ = some _ from h) ?_ ?_
       · try simp -implicitDefEqProofs only [pats, avm, reduceCtorEq, ↓reduceIte, sevalprocAttr, encs]
         (first
          | (refine wk_m 0 _ rfl ?_ rfl rfl ?_ ?_ ?_ ?_
             iterate 3 exact tk3
             all_goals (repeat' (first | exact trivial | apply And.intro))
             all_goals exact tk1))
       clear h
       intro n st h
       simp -implicitDefEqProofs only [s_octet_Get1.eq_1, pats, avm, reduceCtorEq, ↓reduceIte, sevalprocAttr, encs] at h ⊢)
    | refine w_seq ?_
    | refine w_block ?_
    | refine w_scope ?_
    | refine kn7 ?_
    | refine kr7 ?_
    | refine ke7 ?_
    | (refine aw_regk fun κ hκ => ?_; simp -implicitDefEqProofs only [avm, reduceCtorEq, ↓reduceIte, sevalprocAttr, encs])
    | refine aw_exit ?_
    | refine aw_ret ?_
    | refine aw_skip ?_
    | refine aw_label ?_
    | refine condc_t ?_
    | refine condc_f ?_
    | (refine aw_cond2 tk4 ?_)
    | ((first | refine gkc_fork ?_ ?_ | refine pkc_fork ?_ ?_ | refine condc_fork ?_ ?_) <;> intro hq <;> (first | contradiction | simp -implicitDefEqProofs only [eq_false hq, Decidable.not_not, avm, reduceCtorEq, ↓reduceIte, sevalprocAttr, encs] at h ⊢ | simp -implicitDefEqProofs only [eq_true hq, avm, reduceCtorEq, ↓reduceIte, sevalprocAttr, encs] at h ⊢))
    | ((first | refine gkc_split ?_ ?_ | refine pkc_split ?_ ?_ | refine condc_bool ?_ ?_) <;> intro hq <;> (first | exact bcontra (by assumption) hq | exact bcontra hq (by assumption) | simp -implicitDefEqProofs only [hq, avm, reduceCtorEq, ↓reduceIte, sevalprocAttr, encs] at h ⊢))
    | (refine bd_go h fun y hy h => ?_; refine ixc hy ?_; simp -implicitDefEqProofs only [avm, reduceCtorEq, ↓reduceIte, sevalprocAttr, encs])
    | (refine bd_go h fun y hy h => ?_
       first | refine callsc (a_octet_Take hy) ?_ ?_ | refine callc (a_octet_Take hy) ?_ ?_ | ((first | refine callsc (act_le (a_octet_Take hy) ?_) ?_ ?_ | refine callc (act_le (a_octet_Take hy) ?_) ?_ ?_); (focus (repeat' (first | exact trivial | exact le_same _ | exact le_enc | exact le_nil | exact le_imm (.inl rfl) | exact le_imm (.inr rfl) | (refine le_agg ?_) | apply And.intro | (refine le_eq ?_; simp only [*]; done)))))
       exact tk2
       simp -implicitDefEqProofs only [avm, reduceCtorEq, ↓reduceIte, sevalprocAttr, encs])
    | (first | refine kn6 ⟨_, h, ?_⟩ | refine kn5 ⟨_, h, ?_⟩
       try simp -implicitDefEqProofs only [pats, avm, reduceCtorEq, ↓reduceIte, sevalprocAttr, encs]
       (first
          | (refine wk_m 0 _ rfl ?_ rfl rfl ?_ ?_ ?_ ?_
             iterate 3 exact tk3
             all_goals (repeat' (first | exact trivial | apply And.intro))
             all_goals exact tk1)))
    | (first | refine kn6 ⟨_, h, ?_⟩ | refine kn5 ⟨_, h, ?_⟩
       try simp -implicitDefEqProofs only [*, pats, avm, reduceCtorEq, ↓reduceIte, sevalprocAttr, encs]
       (first
          | (refine wk_m 0 _ rfl ?_ rfl rfl ?_ ?_ ?_ ?_
             iterate 3 exact tk3
             all_goals (repeat' (first | exact trivial | apply And.intro))
             all_goals exact tk1)))
    | (cases h
       try simp -implicitDefEqProofs only [avm, reduceCtorEq, ↓reduceIte, sevalprocAttr, encs]
       first | refine retLt (by first | exact .inr rfl | exact .inl rfl) (by rfl) ?_ | refine retL1 (by first | exact .inr rfl | exact .inl rfl) (by rfl) ?_
       repeat' (first | exact trivial | apply And.intro)
       all_goals exact tk0)
    | fail)
theorem a_attr_Get {a0 : (List UInt8)} {r : (Attr × (List UInt8) × Bool)} (h : m_attr_Get a0 = some r) : ACt Try.prog 59 [Enc.enc a0] (.tup [Enc.enc r.1, Enc.enc r.2.1, Enc.enc r.2.2]) [] := by
  refine act_of p_attr_Get (by simp [c_attr_Get]) ?_
  show AW _ b_attr_Get (RetOk [.cell 2 (some 3), .tmp 3, .tmp 4] _ _) { n := 56, tm := [(0, _)], box := [], fr := [] }
  unfold b_attr_Get
  unfold m_attr_Get at h
  try simp -implicitDefEqProofs only [avm, reduceCtorEq, ↓reduceIte, sevalprocAttr, encs] at h
  repeat' (first
    | (refine (hκ _).mpr ?_; clear hκ)
    | refine kn1 ?_
    | refine kr1 ?_
    | refine ke1 ?_
    | refine kn2 ?_
    | refine kr2 ?_
    | refine kx2 ?_
    | refine ke2 rfl ?_
    | refine kr5 ?_
    | refine ke5 ?_
    | refine kr6 ?_
    | refine ke6 ?_
    | (refine w_cutm (x := (.seq (.reg _) (.cond (.tmp 29) _ _))) [0, 2, 5, 7] (fun (j : (Int)) => [(9, (.int .i64 j))]) (fun (j : (Int)) => []) (fun (j : (Int)) => []) (fun (j : (Int)) => []) (show jn 1 _ _ = some _ from h) ?_ ?_
       rotate_left
       intro j h
       simp -implicitDefEqProofs only [pats, avm, reduceCtorEq, ↓reduceIte, sevalprocAttr, encs] at h ⊢
       rotate_left
       intro k' h
       try simp -implicitDefEqProofs only [avm, reduceCtorEq, ↓reduceIte, sevalprocAttr, encs] at h)
    | refine w_seq ?_
    | refine w_block ?_
    | refine w_scope ?_
    | refine kn7 ?_
    | refine kr7 ?_
    | refine ke7 ?_
    | (refine aw_regk fun κ hκ => ?_; simp -implicitDefEqProofs only [avm, reduceCtorEq, ↓reduceIte, sevalprocAttr, encs])
    | refine aw_exit ?_
    | refine aw_ret ?_
    | refine aw_skip ?_
    | refine aw_label ?_
    | refine condc_t ?_
    | refine condc_f ?_
    | (refine aw_cond2 tk4 ?_)
    | ((first | refine gkc_fork ?_ ?_ | refine pkc_fork ?_ ?_ | refine condc_fork ?_ ?_) <;> intro hq <;> (first | contradiction | simp -implicitDefEqProofs only [eq_false hq, Decidable.not_not, avm, reduceCtorEq, ↓reduceIte, sevalprocAttr, encs] at h ⊢ | simp -implicitDefEqProofs only [eq_true hq, avm, reduceCtorEq, ↓reduceIte, sevalprocAttr, encs] at h ⊢))
    | ((first | refine gkc_split ?_ ?_ | refine pkc_split ?_ ?_ | refine condc_bool ?_ ?_) <;> intro hq <;> (first | exact bcontra (by assumption) hq | exact bcontra hq (by assumption) | simp -implicitDefEqProofs only [hq, avm, reduceCtorEq, ↓reduceIte, sevalprocAttr, encs] at h ⊢))
    | (refine stc_plain rfl ?_; simp -implicitDefEqProofs only [putCells.eq_1, avm, reduceCtorEq, ↓reduceIte, sevalprocAttr, encs])
    | (refine bd_go h fun y hy h => ?_
       first | refine callsc (a_octet_Get hy) ?_ ?_ | refine callc (a_octet_Get hy) ?_ ?_ | ((first | refine callsc (act_le (a_octet_Get hy) ?_) ?_ ?_ | refine callc (act_le (a_octet_Get hy) ?_) ?_ ?_); (focus (repeat' (first | exact trivial | exact le_same _ | exact le_enc | exact le_nil | exact le_imm (.inl rfl) | exact le_imm (.inr rfl) | (refine le_agg ?_) | apply And.intro | (refine le_eq ?_; simp only [*]; done)))))
       exact tk2
       simp -implicitDefEqProofs only [avm, reduceCtorEq, ↓reduceIte, sevalprocAttr, encs])
    | (refine bd_go h fun y hy h => ?_
       first | refine callsc (a_octet_Take hy) ?_ ?_ | refine callc (a_octet_Take hy) ?_ ?_ | ((first | refine callsc (act_le (a_octet_Take hy) ?_) ?_ ?_ | refine callc (act_le (a_octet_Take hy) ?_) ?_ ?_); (focus (repeat' (first | exact trivial | exact le_same _ | exact le_enc | exact le_nil | exact le_imm (.inl rfl) | exact le_imm (.inr rfl) | (refine le_agg ?_) | apply And.intro | (refine le_eq ?_; simp only [*]; done)))))
       exact tk2
       simp -implicitDefEqProofs only [avm, reduceCtorEq, ↓reduceIte, sevalprocAttr, encs])
    | (first | refine kn6 ⟨_, h, ?_⟩ | refine kn5 ⟨_, h, ?_⟩
       try simp -implicitDefEqProofs only [pats, avm, reduceCtorEq, ↓reduceIte, sevalprocAttr, encs]
       (first
          | (refine wk_m 0 _ rfl ?_ rfl rfl ?_ ?_ ?_ ?_
             iterate 3 exact tk3
             all_goals (repeat' (first | exact trivial | apply And.intro))
             all_goals exact tk1)))
    | (first | refine kn6 ⟨_, h, ?_⟩ | refine kn5 ⟨_, h, ?_⟩
       try simp -implicitDefEqProofs only [*, pats, avm, reduceCtorEq, ↓reduceIte, sevalprocAttr, encs]
       (first
          | (refine wk_m 0 _ rfl ?_ rfl rfl ?_ ?_ ?_ ?_
             iterate 3 exact tk3
             all_goals (repeat' (first | exact trivial | apply And.intro))
             all_goals exact tk1)))
    | (cases h
       try simp -implicitDefEqProofs only [avm, reduceCtorEq, ↓reduceIte, sevalprocAttr, encs]
       first | refine retLt (by first | exact .inr rfl | exact .inl rfl) (by rfl) ?_ | refine retL1 (by first | exact .inr rfl | exact .inl rfl) (by rfl) ?_
       repeat' (first | exact trivial | apply And.intro)
       all_goals exact tk0)
    | (cases h
       simp -implicitDefEqProofs only [*, Bool.true_and, Bool.false_and, Bool.and_true, avm, reduceCtorEq, ↓reduceIte, sevalprocAttr, encs]
       first | refine retLt (by first | exact .inr rfl | exact .inl rfl) (by rfl) ?_ | refine retL1 (by first | exact .inr rfl | exact .inl rfl) (by rfl) ?_
       repeat' (first | exact trivial | apply And.intro)
       all_goals exact tk0)
    | fail)
theorem a_attr_All {a0 : (List UInt8)} {r : ((List Attr) × Bool)} (h : m_attr_All a0 = some r) : ACt Try.prog 31 [Enc.enc a0] (.tup [Enc.enc r.1, Enc.enc r.2]) [] := by
  refine act_of p_attr_All (by simp [c_attr_All]) ?_
  show AW _ b_attr_All (RetOk [.tmp 2, .tmp 3] _ _) { n := 25, tm := [(0, _)], box := [], fr := [] }
  unfold b_attr_All
  unfold m_attr_All at h
  try simp -implicitDefEqProofs only [avm, reduceCtorEq, ↓reduceIte, sevalprocAttr, encs] at h
  repeat' (first
    | (refine (hκ _).mpr ?_; clear hκ)
    | refine kn1 ?_
    | refine kr1 ?_
    | refine ke1 ?_
    | refine kn2 ?_
    | refine kr2 ?_
    | refine kx2 ?_
    | refine ke2 rfl ?_
    | refine kr5 ?_
    | refine ke5 ?_
    | refine kr6 ?_
    | refine ke6 ?_
    | (refine w_loopm [] (fun (j : ((List UInt8) × (List Attr))) => [(0, (.slice .imm 1 (List.map Enc.enc j.1))), (4, (.slice (.app 0) 3 (List.map Enc.enc j.2)))]) (fun (j : ((List UInt8) × (List Attr))) => []) (fun (j : ((List UInt8) × (List Attr))) => []) (fun (j : ((List UInt8) × (List Attr))) => [(74, j.2.length)]) (show loopC (s_attr_All1) _ BIG _ = some _ from h) ?_ ?_
       · try simp -implicitDefEqProofs only [pats, avm, reduceCtorEq, ↓reduceIte, sevalprocAttr, encs]
         (first
          | (refine wk_m 0 _ rfl ?_ rfl rfl ?_ ?_ ?_ ?_
             iterate 3 exact tk3
             all_goals (repeat' (first | exact trivial | apply And.intro))
             all_goals exact tk1))
       clear h
       intro n st h
       simp -implicitDefEqProofs only [s_attr_All1.eq_1, pats, avm, reduceCtorEq, ↓reduceIte, sevalprocAttr, encs] at h ⊢)
    | refine w_seq ?_
    | refine w_block ?_
    | refine w_scope ?_
    | refine kn7 ?_
    | refine kr7 ?_
    | refine ke7 ?_
    | (refine aw_regk fun κ hκ => ?_; simp -implicitDefEqProofs only [avm, reduceCtorEq, ↓reduceIte, sevalprocAttr, encs])
    | refine aw_exit ?_
    | refine aw_ret ?_
    | refine aw_skip ?_
    | refine aw_label ?_
    | refine condc_t ?_
    | refine condc_f ?_
    | (refine aw_cond2 tk4 ?_)
    | ((first | refine gkc_fork ?_ ?_ | refine pkc_fork ?_ ?_ | refine condc_fork ?_ ?_) <;> intro hq <;> (first | contradiction | simp -implicitDefEqProofs only [eq_false hq, Decidable.not_not, avm, reduceCtorEq, ↓reduceIte, sevalprocAttr, encs] at h ⊢ | simp -implicitDefEqProofs only [eq_true hq, avm, reduceCtorEq, ↓reduceIte, sevalprocAttr, encs] at h ⊢))
    | ((first | refine gkc_split ?_ ?_ | refine pkc_split ?_ ?_ | refine condc_bool ?_ ?_) <;> intro hq <;> (first | exact bcontra (by assumption) hq | exact bcontra hq (by assumption) | simp -implicitDefEqProofs only [hq, avm, reduceCtorEq, ↓reduceIte, sevalprocAttr, encs] at h ⊢))
    | (refine stc_plain rfl ?_; simp -implicitDefEqProofs only [putCells.eq_1, avm, reduceCtorEq, ↓reduceIte, sevalprocAttr, encs])
    | (refine bd_go h fun y hy h => ?_
       refine apc hy tk5 tk5 (by first | exact .inl rfl | exact .inr rfl) (by first | exact .inl rfl | exact .inr rfl) tk6 ?_
       simp -implicitDefEqProofs only [avm, reduceCtorEq, ↓reduceIte, sevalprocAttr, encs])
    | (refine bd_go h fun y hy h => ?_
       first | refine callsc (a_attr_Get hy) ?_ ?_ | refine callc (a_attr_Get hy) ?_ ?_ | ((first | refine callsc (act_le (a_attr_Get hy) ?_) ?_ ?_ | refine callc (act_le (a_attr_Get hy) ?_) ?_ ?_); (focus (repeat' (first | exact trivial | exact le_same _ | exact le_enc | exact le_nil | exact le_imm (.inl rfl) | exact le_imm (.inr rfl) | (refine le_agg ?_) | apply And.intro | (refine le_eq ?_; simp only [*]; done)))))
       exact tk2
       simp -implicitDefEqProofs only [avm, reduceCtorEq, ↓reduceIte, sevalprocAttr, encs])
    | (first | refine kn6 ⟨_, h, ?_⟩ | refine kn5 ⟨_, h, ?_⟩
       try simp -implicitDefEqProofs only [pats, avm, reduceCtorEq, ↓reduceIte, sevalprocAttr, encs]
       (first
          | (refine wk_m 0 _ rfl ?_ rfl rfl ?_ ?_ ?_ ?_
             iterate 3 exact tk3
             all_goals (repeat' (first | exact trivial | apply And.intro))
             all_goals exact tk1)
          | (refine wk_m 1 _ rfl ?_ rfl rfl ?_ ?_ ?_ ?_
             iterate 3 exact tk3
             all_goals (repeat' (first | exact trivial | apply And.intro))
             all_goals exact tk1)))
    | (first | refine kn6 ⟨_, h, ?_⟩ | refine kn5 ⟨_, h, ?_⟩
       try simp -implicitDefEqProofs only [*, pats, avm, reduceCtorEq, ↓reduceIte, sevalprocAttr, encs]
       (first
          | (refine wk_m 0 _ rfl ?_ rfl rfl ?_ ?_ ?_ ?_
             iterate 3 exact tk3
             all_goals (repeat' (first | exact trivial | apply And.intro))
             all_goals exact tk1)
          | (refine wk_m 1 _ rfl ?_ rfl rfl ?_ ?_ ?_ ?_
             iterate 3 exact tk3
             all_goals (repeat' (first | exact trivial | apply And.intro))
             all_goals exact tk1)))
    | (cases h
       try simp -implicitDefEqProofs only [avm, reduceCtorEq, ↓reduceIte, sevalprocAttr, encs]
       first | refine retLt (by first | exact .inr rfl | exact .inl rfl) (by rfl) ?_ | refine retL1 (by first | exact .inr rfl | exact .inl rfl) (by rfl) ?_
       repeat' (first | exact trivial | apply And.intro)
       all_goals exact tk0)
    | fail)
theorem a_attr_fatal {a0 : Attr} {r : Bool} (h : m_attr_fatal a0 = some r) : ACt Try.prog 60 [Enc.enc a0] (Enc.enc r) [] := by
  refine act_of p_attr_fatal (by simp [c_attr_fatal]) ?_
  show AW _ b_attr_fatal (RetOk [.tmp 2] _ _) { n := 25, tm := [(0, _)], box := [], fr := [] }
  unfold b_attr_fatal
  unfold m_attr_fatal at h
  try simp -implicitDefEqProofs only [avm, reduceCtorEq, ↓reduceIte, sevalprocAttr, encs] at h
  repeat' (first
    | (refine (hκ _).mpr ?_; clear hκ)
    | refine kn1 ?_
    | refine kr1 ?_
    | refine ke1 ?_
    | refine kn2 ?_
    | refine kr2 ?_
    | refine kx2 ?_
    | refine ke2 rfl ?_
    | refine kr5 ?_
    | refine ke5 ?_
    | refine kr6 ?_
    | refine ke6 ?_
    | refine w_seq ?_
    | refine w_block ?_
    | refine w_scope ?_
    | refine kn7 ?_
    | refine kr7 ?_
    | refine ke7 ?_
    | (refine aw_regk fun κ hκ => ?_; simp -implicitDefEqProofs only [avm, reduceCtorEq, ↓reduceIte, sevalprocAttr, encs])
    | refine aw_exit ?_
    | refine aw_ret ?_
    | refine aw_skip ?_
    | refine aw_label ?_
    | refine condc_t ?_
    | refine condc_f ?_
    | (refine aw_cond2 tk4 ?_)
    | ((first | refine gkc_fork ?_ ?_ | refine pkc_fork ?_ ?_ | refine condc_fork ?_ ?_) <;> intro hq <;> (first | contradiction | simp -implicitDefEqProofs only [eq_false hq, Decidable.not_not, avm, reduceCtorEq, ↓reduceIte, sevalprocAttr, encs] at h ⊢ | simp -implicitDefEqProofs only [eq_true hq, avm, reduceCtorEq, ↓reduceIte, sevalprocAttr, encs] at h ⊢))
    | ((first | refine gkc_split ?_ ?_ | refine pkc_split ?_ ?_ | refine condc_bool ?_ ?_) <;> intro hq <;> (first | exact bcontra (by assumption) hq | exact bcontra hq (by assumption) | simp -implicitDefEqProofs only [hq, avm, reduceCtorEq, ↓reduceIte, sevalprocAttr, encs] at h ⊢))
    | (cases h
       try simp -implicitDefEqProofs only [avm, reduceCtorEq, ↓reduceIte, sevalprocAttr, encs]
       first | refine retLt (by first | exact .inr rfl | exact .inl rfl) (by rfl) ?_ | refine retL1 (by first | exact .inr rfl | exact .inl rfl) (by rfl) ?_
       repeat' (first | exact trivial | apply And.intro)
       all_goals exact tk0)
    | (cases h
       simp -implicitDefEqProofs only [*, Bool.true_and, Bool.false_and, Bool.and_true, avm, reduceCtorEq, ↓reduceIte, sevalprocAttr, encs]
       first | refine retLt (by first | exact .inr rfl | exact .inl rfl) (by rfl) ?_ | refine retL1 (by first | exact .inr rfl | exact .inl rfl) (by rfl) ?_
       repeat' (first | exact trivial | apply And.intro)
       all_goals exact tk0)
    | fail)
theorem a_octet_Put {a0 : (List UInt8)} {a1 : Int} {a2 : Int} {r : (List UInt8)} (h : m_octet_Put a0 a1 a2 = some r) : ACt Try.prog 30 [Enc.enc a0, Enc.enc a1, Enc.enc a2] (Enc.enc r) [] := by
  refine act_of p_octet_Put (by simp [c_octet_Put]) ?_
  show AW _ b_octet_Put (RetOk [.tmp 6] _ _) { n := 39, tm := [(0, _), (1, _), (2, _)], box := [], fr := [] }
  unfold b_octet_Put
  unfold m_octet_Put at h
  try simp -implicitDefEqProofs only [avm, reduceCtorEq, ↓reduceIte, sevalprocAttr, encs] at h
  repeat' (first
    | (refine (hκ _).mpr ?_; clear hκ)
    | refine kn1 ?_
    | refine kr1 ?_
    | refine ke1 ?_
    | refine kn2 ?_
    | refine kr2 ?_
    | refine kx2 ?_
    | refine ke2 rfl ?_
    | refine kr5 ?_
    | refine ke5 ?_
    | refine kr6 ?_
    | refine ke6 ?_
    | (refine w_loopm [1, 2, 22] (fun (j : ((List UInt8) × Int)) => [(7, (.slice (.app 0) 1 (List.map Enc.enc j.1))), (23, (.int .i64 j.2))]) (fun (j : ((List UInt8) × Int)) => []) (fun (j : ((List UInt8) × Int)) => []) (fun (j : ((List UInt8) × Int)) => [(5, j.1.length)]) (show loopC (s_octet_Put1 _ _) _ BIG _ = some _ from h) ?_ ?_
       · try simp -implicitDefEqProofs only [pats, avm, reduceCtorEq, ↓reduceIte, sevalprocAttr, encs]
         (first
          | (refine wk_m 0 _ rfl ?_ rfl rfl ?_ ?_ ?_ ?_
             iterate 3 exact tk3
             all_goals (repeat' (first | exact trivial | apply And.intro))
             all_goals exact tk1))
       clear h
       intro n st h
       simp -implicitDefEqProofs only [s_octet_Put1.eq_1, pats, avm, reduceCtorEq, ↓reduceIte, sevalprocAttr, encs] at h ⊢)
    | refine w_seq ?_
    | refine w_block ?_
    | refine w_scope ?_
    | refine kn7 ?_
    | refine kr7 ?_
    | refine ke7 ?_
    | (refine aw_regk fun κ hκ => ?_; simp -implicitDefEqProofs only [avm, reduceCtorEq, ↓reduceIte, sevalprocAttr, encs])
    | refine aw_exit ?_
    | refine aw_ret ?_
    | refine aw_skip ?_
    | refine aw_label ?_
    | refine condc_t ?_
    | refine condc_f ?_
    | (refine aw_cond2 tk4 ?_)
    | ((first | refine gkc_fork ?_ ?_ | refine pkc_fork ?_ ?_ | refine condc_fork ?_ ?_) <;> intro hq <;> (first | contradiction | simp -implicitDefEqProofs only [eq_false hq, Decidable.not_not, avm, reduceCtorEq, ↓reduceIte, sevalprocAttr, encs] at h ⊢ | simp -implicitDefEqProofs only [eq_true hq, avm, reduceCtorEq, ↓reduceIte, sevalprocAttr, encs] at h ⊢))
    | ((first | refine gkc_split ?_ ?_ | refine pkc_split ?_ ?_ | refine condc_bool ?_ ?_) <;> intro hq <;> (first | exact bcontra (by assumption) hq | exact bcontra hq (by assumption) | simp -implicitDefEqProofs only [hq, avm, reduceCtorEq, ↓reduceIte, sevalprocAttr, encs] at h ⊢))
    | (refine bd_go h fun y hy h => ?_
       refine apc hy tk5 tk5 (by first | exact .inl rfl | exact .inr rfl) (by first | exact .inl rfl | exact .inr rfl) tk6 ?_
       simp -implicitDefEqProofs only [avm, reduceCtorEq, ↓reduceIte, sevalprocAttr, encs])
    | (refine bd_go h fun y hy h => ?_; (first | refine slc_max hy rfl (.inl rfl) asn_none ?_ | refine slc_max hy rfl (.inl rfl) (asn_some (by first | decide | omega)) ?_ | refine slc11 hy rfl (.inl rfl) ?_ | refine slc01 hy rfl (.inl rfl) ?_ | refine slc10 hy rfl (.inl rfl) ?_ | refine slc00 hy rfl (.inl rfl) ?_ | refine slc11 hy rfl (.inr rfl) ?_ | refine slc01 hy rfl (.inr rfl) ?_ | refine slc10 hy rfl (.inr rfl) ?_ | refine slc00 hy rfl (.inr rfl) ?_); simp -implicitDefEqProofs only [avm, reduceCtorEq, ↓reduceIte, sevalprocAttr, encs])
    | (refine nn_go h fun hb h => ?_; simp -implicitDefEqProofs only [eq_false hb, avm, reduceCtorEq, ↓reduceIte, sevalprocAttr, encs] at h ⊢)
    | (first | refine kn6 ⟨_, h, ?_⟩ | refine kn5 ⟨_, h, ?_⟩
       try simp -implicitDefEqProofs only [pats, avm, reduceCtorEq, ↓reduceIte, sevalprocAttr, encs]
       (first
          | (refine wk_m 0 _ rfl ?_ rfl rfl ?_ ?_ ?_ ?_
             iterate 3 exact tk3
             all_goals (repeat' (first | exact trivial | apply And.intro))
             all_goals exact tk1)
          | (refine wk_m 1 _ rfl ?_ rfl rfl ?_ ?_ ?_ ?_
             iterate 3 exact tk3
             all_goals (repeat' (first | exact trivial | apply And.intro))
             all_goals exact tk1)))
    | (first | refine kn6 ⟨_, h, ?_⟩ | refine kn5 ⟨_, h, ?_⟩
       try simp -implicitDefEqProofs only [*, pats, avm, reduceCtorEq, ↓reduceIte, sevalprocAttr, encs]
       (first
          | (refine wk_m 0 _ rfl ?_ rfl rfl ?_ ?_ ?_ ?_
             iterate 3 exact tk3
             all_goals (repeat' (first | exact trivial | apply And.intro))
             all_goals exact tk1)
          | (refine wk_m 1 _ rfl ?_ rfl rfl ?_ ?_ ?_ ?_
             iterate 3 exact tk3
             all_goals (repeat' (first | exact trivial | apply And.intro))
             all_goals exact tk1)))
    | (cases h
       try simp -implicitDefEqProofs only [avm, reduceCtorEq, ↓reduceIte, sevalprocAttr, encs]
       first | refine retLt (by first | exact .inr rfl | exact .inl rfl) (by rfl) ?_ | refine retL1 (by first | exact .inr rfl | exact .inl rfl) (by rfl) ?_
       repeat' (first | exact trivial | apply And.intro)
       all_goals exact tk0)
    | fail)
theorem a_octet_Put_app {a0 : (List UInt8)} {a1 : Int} {a2 : Int} {r : (List UInt8)} (h : m_octet_Put a0 a1 a2 = some r) (hc : ¬ (a2 < 1 ∨ a2 > 4)) : ACt Try.prog 30 [Enc.enc a0, Enc.enc a1, Enc.enc a2] (.slice (.app 0) 1 (List.map Enc.enc r)) [(5, r.length)] := by
  refine act_of p_octet_Put (by simp [c_octet_Put]) ?_
  show AW _ b_octet_Put (RetOk [.tmp 6] _ _) { n := 39, tm := [(0, _), (1, _), (2, _)], box := [], fr := [] }
  unfold b_octet_Put
  unfold m_octet_Put at h
  try simp -implicitDefEqProofs only [avm, reduceCtorEq, ↓reduceIte, sevalprocAttr, encs] at h
  repeat' (first
    | (refine (hκ _).mpr ?_; clear hκ)
    | refine kn1 ?_
    | refine kr1 ?_
    | refine ke1 ?_
    | refine kn2 ?_
    | refine kr2 ?_
    | refine kx2 ?_
    | refine ke2 rfl ?_
    | refine kr5 ?_
    | refine ke5 ?_
    | refine kr6 ?_
    | refine ke6 ?_
    | (refine w_loopm [1, 2, 22] (fun (j : ((List UInt8) × Int)) => [(7, (.slice (.app 0) 1 (List.map Enc.enc j.1))), (23, (.int .i64 j.2))]) (fun (j : ((List UInt8) × Int)) => []) (fun (j : ((List UInt8) × Int)) => []) (fun (j : ((List UInt8) × Int)) => [(5, j.1.length)]) (show loopC (s_octet_Put1 _ _) _ BIG _ = some _ from h) ?_ ?_
       · try simp -implicitDefEqProofs only [pats, avm, reduceCtorEq, ↓reduceIte, sevalprocAttr, encs]
         (first
          | (refine wk_m 0 _ rfl ?_ rfl rfl ?_ ?_ ?_ ?_
             iterate 3 exact tk3
             all_goals (repeat' (first | exact trivial | apply And.intro))
             all_goals exact tk1))
       clear h
       intro n st h
       simp -implicitDefEqProofs only [s_octet_Put1.eq_1, pats, avm, reduceCtorEq, ↓reduceIte, sevalprocAttr, encs] at h ⊢)
    | refine w_seq ?_
    | refine w_block ?_
    | refine w_scope ?_
    | refine kn7 ?_
    | refine kr7 ?_
    | refine ke7 ?_
    | (refine aw_regk fun κ hκ => ?_; simp -implicitDefEqProofs only [avm, reduceCtorEq, ↓reduceIte, sevalprocAttr, encs])
    | (cases h; exact aw_ret_full rfl rfl rfl)
    | refine aw_exit ?_
    | refine aw_ret ?_
    | refine aw_skip ?_
    | refine aw_label ?_
    | refine condc_t ?_
    | refine condc_f ?_
    | (refine aw_cond2 tk4 ?_)
    | ((first | refine gkc_fork ?_ ?_ | refine pkc_fork ?_ ?_ | refine condc_fork ?_ ?_) <;> intro hq <;> (first | contradiction | simp -implicitDefEqProofs only [eq_false hq, Decidable.not_not, avm, reduceCtorEq, ↓reduceIte, sevalprocAttr, encs] at h ⊢ | simp -implicitDefEqProofs only [eq_true hq, avm, reduceCtorEq, ↓reduceIte, sevalprocAttr, encs] at h ⊢))
    | ((first | refine gkc_split ?_ ?_ | refine pkc_split ?_ ?_ | refine condc_bool ?_ ?_) <;> intro hq <;> (first | exact bcontra (by assumption) hq | exact bcontra hq (by assumption) | simp -implicitDefEqProofs only [hq, avm, reduceCtorEq, ↓reduceIte, sevalprocAttr, encs] at h ⊢))
    | (refine bd_go h fun y hy h => ?_
       refine apc hy tk5 tk5 (by first | exact .inl rfl | exact .inr rfl) (by first | exact .inl rfl | exact .inr rfl) tk6 ?_
       simp -implicitDefEqProofs only [avm, reduceCtorEq, ↓reduceIte, sevalprocAttr, encs])
    | (refine bd_go h fun y hy h => ?_; (first | refine slc_max hy rfl (.inl rfl) asn_none ?_ | refine slc_max hy rfl (.inl rfl) (asn_some (by first | decide | omega)) ?_ | refine slc11 hy rfl (.inl rfl) ?_ | refine slc01 hy rfl (.inl rfl) ?_ | refine slc10 hy rfl (.inl rfl) ?_ | refine slc00 hy rfl (.inl rfl) ?_ | refine slc11 hy rfl (.inr rfl) ?_ | refine slc01 hy rfl (.inr rfl) ?_ | refine slc10 hy rfl (.inr rfl) ?_ | refine slc00 hy rfl (.inr rfl) ?_); simp -implicitDefEqProofs only [avm, reduceCtorEq, ↓reduceIte, sevalprocAttr, encs])
    | (refine nn_go h fun hb h => ?_; simp -implicitDefEqProofs only [eq_false hb, avm, reduceCtorEq, ↓reduceIte, sevalprocAttr, encs] at h ⊢)
    | (first | refine kn6 ⟨_, h, ?_⟩ | refine kn5 ⟨_, h, ?_⟩
       try simp -implicitDefEqProofs only [pats, avm, reduceCtorEq, ↓reduceIte, sevalprocAttr, encs]
       (first
          | (refine wk_m 0 _ rfl ?_ rfl rfl ?_ ?_ ?_ ?_
             iterate 3 exact tk3
             all_goals (repeat' (first | exact trivial | apply And.intro))
             all_goals exact tk1)
          | (refine wk_m 1 _ rfl ?_ rfl rfl ?_ ?_ ?_ ?_
             iterate 3 exact tk3
             all_goals (repeat' (first | exact trivial | apply And.intro))
             all_goals exact tk1)))
    | (first | refine kn6 ⟨_, h, ?_⟩ | refine kn5 ⟨_, h, ?_⟩
       try simp -implicitDefEqProofs only [*, pats, avm, reduceCtorEq, ↓reduceIte, sevalprocAttr, encs]
       (first
          | (refine wk_m 0 _ rfl ?_ rfl rfl ?_ ?_ ?_ ?_
             iterate 3 exact tk3
             all_goals (repeat' (first | exact trivial | apply And.intro))
             all_goals exact tk1)
          | (refine wk_m 1 _ rfl ?_ rfl rfl ?_ ?_ ?_ ?_
             iterate 3 exact tk3
             all_goals (repeat' (first | exact trivial | apply And.intro))
             all_goals exact tk1)))
    | (exfalso; first | exact hc.1 hq | omega)
    | (cases h
       (exact ret_app rfl rfl (purL_enc _)))
    | fail)
theorem a_attr_octetSized {a0 : Int} {r : Bool} (h : m_attr_octetSized a0 = some r) : ACt Try.prog 79 [Enc.enc a0] (Enc.enc r) [] := by
  refine act_of p_attr_octetSized (by simp [c_attr_octetSized]) ?_
  show AW _ b_attr_octetSized (RetOk [.tmp 2] _ _) { n := 9, tm := [(0, _)], box := [], fr := [] }
  unfold b_attr_octetSized
  unfold m_attr_octetSized at h
  try simp -implicitDefEqProofs only [avm, reduceCtorEq, ↓reduceIte, sevalprocAttr, encs] at h
  repeat' (first
    | (refine (hκ _).mpr ?_; clear hκ)
    | refine kn1 ?_
    | refine kr1 ?_
    | refine ke1 ?_
    | refine kn2 ?_
    | refine kr2 ?_
    | refine kx2 ?_
    | refine ke2 rfl ?_
    | refine kr5 ?_
    | refine ke5 ?_
    | refine kr6 ?_
    | refine ke6 ?_
    | refine w_seq ?_
    | refine w_block ?_
    | refine w_scope ?_
    | refine kn7 ?_
    | refine kr7 ?_
    | refine ke7 ?_
    | (refine aw_regk fun κ hκ => ?_; simp -implicitDefEqProofs only [avm, reduceCtorEq, ↓reduceIte, sevalprocAttr, encs])
    | refine aw_exit ?_
    | refine aw_ret ?_
    | refine aw_skip ?_
    | refine aw_label ?_
    | refine condc_t ?_
    | refine condc_f ?_
    | (refine aw_cond2 tk4 ?_)
    | ((first | refine gkc_fork ?_ ?_ | refine pkc_fork ?_ ?_ | refine condc_fork ?_ ?_) <;> intro hq <;> (first | contradiction | simp -implicitDefEqProofs only [eq_false hq, Decidable.not_not, avm, reduceCtorEq, ↓reduceIte, sevalprocAttr, encs] at h ⊢ | simp -implicitDefEqProofs only [eq_true hq, avm, reduceCtorEq, ↓reduceIte, sevalprocAttr, encs] at h ⊢))
    | ((first | refine gkc_split ?_ ?_ | refine pkc_split ?_ ?_ | refine condc_bool ?_ ?_) <;> intro hq <;> (first | exact bcontra (by assumption) hq | exact bcontra hq (by assumption) | simp -implicitDefEqProofs only [hq, avm, reduceCtorEq, ↓reduceIte, sevalprocAttr, encs] at h ⊢))
    | (cases h
       try simp -implicitDefEqProofs only [avm, reduceCtorEq, ↓reduceIte, sevalprocAttr, encs]
       first | refine retLt (by first | exact .inr rfl | exact .inl rfl) (by rfl) ?_ | refine retL1 (by first | exact .inr rfl | exact .inl rfl) (by rfl) ?_
       repeat' (first | exact trivial | apply And.intro)
       all_goals exact tk0)
    | fail)
theorem a_attr_Put {a0 : (List UInt8)} {a1 : Attr} {r : (List UInt8)} (h : m_attr_Put a0 a1 = some r) : ACt Try.prog 61 [Enc.enc a0, Enc.enc a1] (Enc.enc r) [] := by
  refine act_of p_attr_Put (by simp [c_attr_Put]) ?_
  show AW _ b_attr_Put (RetOk [.tmp 4] _ _) { n := 51, tm := [(0, _), (1, _)], box := [], fr := [] }
  unfold b_attr_Put
  unfold m_attr_Put at h
  try simp -implicitDefEqProofs only [avm, reduceCtorEq, ↓reduceIte, sevalprocAttr, encs] at h
  repeat' (first
    | (refine (hκ _).mpr ?_; clear hκ)
    | refine kn1 ?_
    | refine kr1 ?_
    | refine ke1 ?_
    | refine kn2 ?_
    | refine kr2 ?_
    | refine kx2 ?_
    | refine ke2 rfl ?_
    | refine kr5 ?_
    | refine ke5 ?_
    | refine kr6 ?_
    | refine ke6 ?_
    | refine w_seq ?_
    | refine w_block ?_
    | refine w_scope ?_
    | refine kn7 ?_
    | refine kr7 ?_
    | refine ke7 ?_
    | (refine aw_regk fun κ hκ => ?_; simp -implicitDefEqProofs only [avm, reduceCtorEq, ↓reduceIte, sevalprocAttr, encs])
    | refine aw_exit ?_
    | refine aw_ret ?_
    | refine aw_skip ?_
    | refine aw_label ?_
    | refine condc_t ?_
    | refine condc_f ?_
    | (refine aw_cond2 tk4 ?_)
    | ((first | refine gkc_fork ?_ ?_ | refine pkc_fork ?_ ?_ | refine condc_fork ?_ ?_) <;> intro hq <;> (first | contradiction | simp -implicitDefEqProofs only [eq_false hq, Decidable.not_not, avm, reduceCtorEq, ↓reduceIte, sevalprocAttr, encs] at h ⊢ | simp -implicitDefEqProofs only [eq_true hq, avm, reduceCtorEq, ↓reduceIte, sevalprocAttr, encs] at h ⊢))
    | ((first | refine gkc_split ?_ ?_ | refine pkc_split ?_ ?_ | refine condc_bool ?_ ?_) <;> intro hq <;> (first | exact bcontra (by assumption) hq | exact bcontra hq (by assumption) | simp -implicitDefEqProofs only [hq, avm, reduceCtorEq, ↓reduceIte, sevalprocAttr, encs] at h ⊢))
    | (refine bd_go h fun y hy h => ?_
       refine apc hy tk5 tk5 (by first | exact .inl rfl | exact .inr rfl) (by first | exact .inl rfl | exact .inr rfl) tk6 ?_
       simp -implicitDefEqProofs only [avm, reduceCtorEq, ↓reduceIte, sevalprocAttr, encs])
    | (refine bd_go h fun y hy h => ?_
       first | refine callsc (a_attr_octetSized hy) ?_ ?_ | refine callc (a_attr_octetSized hy) ?_ ?_ | ((first | refine callsc (act_le (a_attr_octetSized hy) ?_) ?_ ?_ | refine callc (act_le (a_attr_octetSized hy) ?_) ?_ ?_); (focus (repeat' (first | exact trivial | exact le_same _ | exact le_enc | exact le_nil | exact le_imm (.inl rfl) | exact le_imm (.inr rfl) | (refine le_agg ?_) | apply And.intro | (refine le_eq ?_; simp only [*]; done)))))
       exact tk2
       simp -implicitDefEqProofs only [avm, reduceCtorEq, ↓reduceIte, sevalprocAttr, encs])
    | (refine bd_go h fun y hy h => ?_
       first | refine callsc (a_octet_Put_app hy (by decide)) ?_ ?_ | refine callc (a_octet_Put_app hy (by decide)) ?_ ?_ | ((first | refine callsc (act_le (a_octet_Put_app hy (by decide)) ?_) ?_ ?_ | refine callc (act_le (a_octet_Put_app hy (by decide)) ?_) ?_ ?_); (focus (repeat' (first | exact trivial | exact le_same _ | exact le_enc | exact le_nil | exact le_imm (.inl rfl) | exact le_imm (.inr rfl) | (refine le_agg ?_) | apply And.intro | (refine le_eq ?_; simp only [*]; done)))))
       exact tk2
       simp -implicitDefEqProofs only [avm, reduceCtorEq, ↓reduceIte, sevalprocAttr, encs])
    | (refine bd_go h fun y hy h => ?_
       first | refine callsc (a_octet_Put hy) ?_ ?_ | refine callc (a_octet_Put hy) ?_ ?_ | ((first | refine callsc (act_le (a_octet_Put hy) ?_) ?_ ?_ | refine callc (act_le (a_octet_Put hy) ?_) ?_ ?_); (focus (repeat' (first | exact trivial | exact le_same _ | exact le_enc | exact le_nil | exact le_imm (.inl rfl) | exact le_imm (.inr rfl) | (refine le_agg ?_) | apply And.intro | (refine le_eq ?_; simp only [*]; done)))))
       exact tk2
       simp -implicitDefEqProofs only [avm, reduceCtorEq, ↓reduceIte, sevalprocAttr, encs])
    | (cases h
       try simp -implicitDefEqProofs only [avm, reduceCtorEq, ↓reduceIte, sevalprocAttr, encs]
       first | refine retLt (by first | exact .inr rfl | exact .inl rfl) (by rfl) ?_ | refine retL1 (by first | exact .inr rfl | exact .inl rfl) (by rfl) ?_
       repeat' (first | exact trivial | apply And.intro)
       all_goals exact tk0)
    | (cases h
       simp -implicitDefEqProofs only [*, Bool.true_and, Bool.false_and, Bool.and_true, avm, reduceCtorEq, ↓reduceIte, sevalprocAttr, encs]
       first | refine retLt (by first | exact .inr rfl | exact .inl rfl) (by rfl) ?_ | refine retL1 (by first | exact .inr rfl | exact .inl rfl) (by rfl) ?_
       repeat' (first | exact trivial | apply And.intro)
       all_goals exact tk0)
    | fail)
theorem a_attr_number {a0 : (List UInt8)} {r : (Int × Bool)} (h : m_attr_number a0 = some r) : ACt Try.prog 91 [Enc.enc a0] (.tup [Enc.enc r.1, Enc.enc r.2]) [] := by
  refine act_of p_attr_number (by simp [c_attr_number]) ?_
  show AW _ b_attr_number (RetOk [.tmp 2, .tmp 3] _ _) { n := 21, tm := [(0, _)], box := [], fr := [] }
  unfold b_attr_number
  unfold m_attr_number at h
  try simp -implicitDefEqProofs only [avm, reduceCtorEq, ↓reduceIte, sevalprocAttr, encs] at h
  repeat' (first
    | (refine (hκ _).mpr ?_; clear hκ)
    | refine kn1 ?_
    | refine kr1 ?_
    | refine ke1 ?_
    | refine kn2 ?_
    | refine kr2 ?_
    | refine kx2 ?_
    | refine ke2 rfl ?_
    | refine kr5 ?_
    | refine ke5 ?_
    | refine kr6 ?_
    | refine ke6 ?_
    | refine w_seq ?_
    | refine w_block ?_
    | refine w_scope ?_
    | refine kn7 ?_
    | refine kr7 ?_
    | refine ke7 ?_
    | (refine aw_regk fun κ hκ => ?_; simp -implicitDefEqProofs only [avm, reduceCtorEq, ↓reduceIte, sevalprocAttr, encs])
    | refine aw_exit ?_
    | refine aw_ret ?_
    | refine aw_skip ?_
    | refine aw_label ?_
    | refine condc_t ?_
    | refine condc_f ?_
    | (refine aw_cond2 tk4 ?_)
    | ((first | refine gkc_fork ?_ ?_ | refine pkc_fork ?_ ?_ | refine condc_fork ?_ ?_) <;> intro hq <;> (first | contradiction | simp -implicitDefEqProofs only [eq_false hq, Decidable.not_not, avm, reduceCtorEq, ↓reduceIte, sevalprocAttr, encs] at h ⊢ | simp -implicitDefEqProofs only [eq_true hq, avm, reduceCtorEq, ↓reduceIte, sevalprocAttr, encs] at h ⊢))
    | ((first | refine gkc_split ?_ ?_ | refine pkc_split ?_ ?_ | refine condc_bool ?_ ?_) <;> intro hq <;> (first | exact bcontra (by assumption) hq | exact bcontra hq (by assumption) | simp -implicitDefEqProofs only [hq, avm, reduceCtorEq, ↓reduceIte, sevalprocAttr, encs] at h ⊢))
    | (refine bd_go h fun y hy h => ?_
       first | refine callsc (a_octet_Get hy) ?_ ?_ | refine callc (a_octet_Get hy) ?_ ?_ | ((first | refine callsc (act_le (a_octet_Get hy) ?_) ?_ ?_ | refine callc (act_le (a_octet_Get hy) ?_) ?_ ?_); (focus (repeat' (first | exact trivial | exact le_same _ | exact le_enc | exact le_nil | exact le_imm (.inl rfl) | exact le_imm (.inr rfl) | (refine le_agg ?_) | apply And.intro | (refine le_eq ?_; simp only [*]; done)))))
       exact tk2
       simp -implicitDefEqProofs only [avm, reduceCtorEq, ↓reduceIte, sevalprocAttr, encs])
    | (cases h
       try simp -implicitDefEqProofs only [avm, reduceCtorEq, ↓reduceIte, sevalprocAttr, encs]
       first | refine retLt (by first | exact .inr rfl | exact .inl rfl) (by rfl) ?_ | refine retL1 (by first | exact .inr rfl | exact .inl rfl) (by rfl) ?_
       repeat' (first | exact trivial | apply And.intro)
       all_goals exact tk0)
    | fail)
theorem a_attr_Judge {a0 : (List Attr)} {r : (Path × Int × Note)} (h : m_attr_Judge a0 = some r) : ACt Try.prog 32 [Enc.enc a0] (.tup [Enc.enc r.1, Enc.enc r.2.1, Enc.enc r.2.2]) [] := by
  refine act_of p_attr_Judge (by simp [c_attr_Judge]) ?_
  show AW _ b_attr_Judge (RetOk [.cell 2 (some 4), .tmp 3, .cell 4 (some 3)] _ _) { n := 84, tm := [(0, _)], box := [], fr := [] }
  unfold b_attr_Judge
  unfold m_attr_Judge at h
  try simp -implicitDefEqProofs only [avm, reduceCtorEq, ↓reduceIte, sevalprocAttr, encs] at h
  repeat' (first
    | (refine (hκ _).mpr ?_; clear hκ)
    | refine kn1 ?_
    | refine kr1 ?_
    | refine ke1 ?_
    | refine kn2 ?_
    | refine kr2 ?_
    | refine kx2 ?_
    | refine ke2 rfl ?_
    | refine kr5 ?_
    | refine ke5 ?_
    | refine kr6 ?_
    | refine ke6 ?_
    | (refine w_loopm [2, 4, 5, 16, 17] (fun (j : (Int × (List (Int × Attr)))) => [(18, (.int .i64 j.1))]) (fun (j : (Int × (List (Int × Attr)))) => [(2, 1099511627776, (.tup (kv j.2)))]) (fun (j : (Int × (List (Int × Attr)))) => []) (fun (j : (Int × (List (Int × Attr)))) => []) (show loopC (s_attr_Judge1 _) _ BIG _ = some _ from h) ?_ ?_
       · try simp -implicitDefEqProofs only [pats, avm, reduceCtorEq, ↓reduceIte, sevalprocAttr, encs]
         (first
          | (refine wk_m 0 _ rfl ?_ rfl rfl ?_ ?_ ?_ ?_
             iterate 3 exact tk3
             all_goals (repeat' (first | exact trivial | apply And.intro))
             all_goals exact tk1))
       clear h
       intro n st h
       simp -implicitDefEqProofs only [s_attr_Judge1.eq_1, pats, avm, reduceCtorEq, ↓reduceIte, sevalprocAttr, encs] at h ⊢)
    | (refine w_loopm [0] (fun (j : ((List UInt8) × (List Int))) => [(1, (.slice .imm 1 (List.map Enc.enc j.1)))]) (fun (j : ((List UInt8) × (List Int))) => [(3, 1, (.slice (.app 0) 1 (List.map Enc.enc j.2)))]) (fun (j : ((List UInt8) × (List Int))) => []) (fun (j : ((List UInt8) × (List Int))) => [(3, j.2.length)]) (show loopC (s_attr_Judge2 _) _ BIG _ = some _ from h) ?_ ?_
       · try simp -implicitDefEqProofs only [pats, avm, reduceCtorEq, ↓reduceIte, sevalprocAttr, encs]
         (first
          | (refine wk_m 0 _ rfl ?_ rfl rfl ?_ ?_ ?_ ?_
             iterate 3 exact tk3
             all_goals (repeat' (first | exact trivial | apply And.intro))
             all_goals exact tk1))
       clear h
       intro n st h
       simp -implicitDefEqProofs only [s_attr_Judge2.eq_1, pats, avm, reduceCtorEq, ↓reduceIte, sevalprocAttr, encs] at h ⊢)
    | (refine w_loopm [0, 31, 32, 34] (fun (j : ((List UInt8) × Int × (List Int))) => [(6, (.slice .imm 1 (List.map Enc.enc j.1))), (35, (.int .i64 j.2.1))]) (fun (j : ((List UInt8) × Int × (List Int))) => [(3, 1, (.slice (.app 0) 1 (List.map Enc.enc j.2.2)))]) (fun (j : ((List UInt8) × Int × (List Int))) => [(0, j.2.2.length)]) (fun (j : ((List UInt8) × Int × (List Int))) => []) (show loopC (s_attr_Judge3 _ _) _ BIG _ = some _ from h) ?_ ?_
       · try simp -implicitDefEqProofs only [pats, avm, reduceCtorEq, ↓reduceIte, sevalprocAttr, encs]
         (first
          | (refine wk_m 1 _ rfl ?_ rfl rfl ?_ ?_ ?_ ?_
             iterate 3 exact tk3
             all_goals (repeat' (first | exact trivial | apply And.intro))
             all_goals exact tk1))
       clear h
       intro n st h
       simp -implicitDefEqProofs only [s_attr_Judge3.eq_1, pats, avm, reduceCtorEq, ↓reduceIte, sevalprocAttr, encs] at h ⊢)
    | refine w_seq ?_
    | refine w_block ?_
    | refine w_scope ?_
    | refine kn7 ?_
    | refine kr7 ?_
    | refine ke7 ?_
    | (refine aw_regk fun κ hκ => ?_; simp -implicitDefEqProofs only [avm, reduceCtorEq, ↓reduceIte, sevalprocAttr, encs])
    | refine aw_exit ?_
    | refine aw_ret ?_
    | refine aw_skip ?_
    | refine aw_label ?_
    | refine condc_t ?_
    | refine condc_f ?_
    | (refine aw_cond2 tk4 ?_)
    | ((first | refine gkc_fork ?_ ?_ | refine pkc_fork ?_ ?_ | refine condc_fork ?_ ?_) <;> intro hq <;> (first | contradiction | simp -implicitDefEqProofs only [eq_false hq, Decidable.not_not, avm, reduceCtorEq, ↓reduceIte, sevalprocAttr, encs] at h ⊢ | simp -implicitDefEqProofs only [eq_true hq, avm, reduceCtorEq, ↓reduceIte, sevalprocAttr, encs] at h ⊢))
    | ((first | refine gkc_split ?_ ?_ | refine pkc_split ?_ ?_ | refine condc_bool ?_ ?_) <;> intro hq <;> (first | exact bcontra (by assumption) hq | exact bcontra hq (by assumption) | simp -implicitDefEqProofs only [hq, avm, reduceCtorEq, ↓reduceIte, sevalprocAttr, encs] at h ⊢))
    | (refine prc_mk Int Attr ?_; simp -implicitDefEqProofs only [avm, reduceCtorEq, ↓reduceIte, sevalprocAttr, encs])
    | ((first | refine prc_get h (by rfl) (by decide) (by rfl) (by rfl) (fun y hy h => ?_) (fun hn h => ?_) | refine prc_get0 h (by rfl) (by decide) (by rfl) (by rfl) (fun y hy h => ?_) (fun hn h => ?_)) <;> simp -implicitDefEqProofs only [avm, reduceCtorEq, ↓reduceIte, sevalprocAttr, encs])
    | (refine bd_go h fun y hy h => ?_; (first | refine prc_set hy (by rfl) (by decide) (by rfl) (by rfl) ?_ ?_ | refine prc_del hy (by rfl) (by decide) (by rfl) (by rfl) ?_); (focus (repeat' (first | exact trivial | exact le_same _ | exact le_enc | exact le_nil | exact le_imm (.inl rfl) | exact le_imm (.inr rfl) | (refine le_agg ?_) | apply And.intro | (refine le_eq ?_; simp only [*]; done)))); simp -implicitDefEqProofs only [avm, reduceCtorEq, ↓reduceIte, sevalprocAttr, encs])
    | (refine stc_plain rfl ?_; simp -implicitDefEqProofs only [putCells.eq_1, avm, reduceCtorEq, ↓reduceIte, sevalprocAttr, encs])
    | ((first | refine callsc k_attr_kinds rfl ?_ | refine callc k_attr_kinds rfl ?_); simp -implicitDefEqProofs only [avm, reduceCtorEq, ↓reduceIte, sevalprocAttr, encs])
    | (refine bd_go h fun y hy h => ?_; refine ixc hy ?_; simp -implicitDefEqProofs only [avm, reduceCtorEq, ↓reduceIte, sevalprocAttr, encs])
    | (refine bd_go h fun y hy h => ?_
       refine apc hy tk5 tk5 (by first | exact .inl rfl | exact .inr rfl) (by first | exact .inl rfl | exact .inr rfl) tk6 ?_
       simp -implicitDefEqProofs only [avm, reduceCtorEq, ↓reduceIte, sevalprocAttr, encs])
    | (refine call_cut p_attr_readOrigin (by simp [c_attr_readOrigin]) (fun (j : (Bool × Int)) => (.bool j.1)) (fun (j : (Bool × Int)) => [(3, 0, (.int .i64 j.2))]) (fun (j : (Bool × Int)) => []) (show jn 101 _ _ = some _ from h) ?_ ?_
       rotate_left
       intro j h
       simp -implicitDefEqProofs only [pats, avm, reduceCtorEq, ↓reduceIte, sevalprocAttr, encs] at h ⊢
       rotate_left
       clear h
       intro k' h
       simp -implicitDefEqProofs only [c_attr_readOrigin, b_attr_readOrigin, pats, avm, reduceCtorEq, ↓reduceIte, sevalprocAttr, encs] at h ⊢)
    | (refine call_cut p_attr_readAs (by simp [c_attr_readAs]) (fun (j : (Bool × (List Int))) => (.bool j.1)) (fun (j : (Bool × (List Int))) => [(3, 1, (.slice .imm 1 (List.map Enc.enc j.2)))]) (fun (j : (Bool × (List Int))) => []) (show jn 102 _ _ = some _ from h) ?_ ?_
       rotate_left
       intro j h
       simp -implicitDefEqProofs only [pats, avm, reduceCtorEq, ↓reduceIte, sevalprocAttr, encs] at h ⊢
       rotate_left
       clear h
       intro k' h
       simp -implicitDefEqProofs only [c_attr_readAs, b_attr_readAs, pats, avm, reduceCtorEq, ↓reduceIte, sevalprocAttr, encs] at h ⊢)
    | (refine call_in p_attr_readHop (by simp [c_attr_readHop]) ?_
       simp -implicitDefEqProofs only [c_attr_readHop, b_attr_readHop, avm, reduceCtorEq, ↓reduceIte, sevalprocAttr, encs])
    | (refine call_in p_attr_readMed (by simp [c_attr_readMed]) ?_
       simp -implicitDefEqProofs only [c_attr_readMed, b_attr_readMed, avm, reduceCtorEq, ↓reduceIte, sevalprocAttr, encs])
    | (refine call_in p_attr_readOtc (by simp [c_attr_readOtc]) ?_
       simp -implicitDefEqProofs only [c_attr_readOtc, b_attr_readOtc, avm, reduceCtorEq, ↓reduceIte, sevalprocAttr, encs])
    | (refine bd_go h fun y hy h => ?_
       first | refine callsc (a_attr_fatal hy) ?_ ?_ | refine callc (a_attr_fatal hy) ?_ ?_ | ((first | refine callsc (act_le (a_attr_fatal hy) ?_) ?_ ?_ | refine callc (act_le (a_attr_fatal hy) ?_) ?_ ?_); (focus (repeat' (first | exact trivial | exact le_same _ | exact le_enc | exact le_nil | exact le_imm (.inl rfl) | exact le_imm (.inr rfl) | (refine le_agg ?_) | apply And.intro | (refine le_eq ?_; simp only [*]; done)))))
       exact tk2
       simp -implicitDefEqProofs only [avm, reduceCtorEq, ↓reduceIte, sevalprocAttr, encs])
    | (refine bd_go h fun y hy h => ?_
       first | refine callsc (a_attr_Put hy) ?_ ?_ | refine callc (a_attr_Put hy) ?_ ?_ | ((first | refine callsc (act_le (a_attr_Put hy) ?_) ?_ ?_ | refine callc (act_le (a_attr_Put hy) ?_) ?_ ?_); (focus (repeat' (first | exact trivial | exact le_same _ | exact le_enc | exact le_nil | exact le_imm (.inl rfl) | exact le_imm (.inr rfl) | (refine le_agg ?_) | apply And.intro | (refine le_eq ?_; simp only [*]; done)))))
       exact tk2
       simp -implicitDefEqProofs only [avm, reduceCtorEq, ↓reduceIte, sevalprocAttr, encs])
    | (refine bd_go h fun y hy h => ?_
       first | refine callsc (a_octet_Get hy) ?_ ?_ | refine callc (a_octet_Get hy) ?_ ?_ | ((first | refine callsc (act_le (a_octet_Get hy) ?_) ?_ ?_ | refine callc (act_le (a_octet_Get hy) ?_) ?_ ?_); (focus (repeat' (first | exact trivial | exact le_same _ | exact le_enc | exact le_nil | exact le_imm (.inl rfl) | exact le_imm (.inr rfl) | (refine le_agg ?_) | apply And.intro | (refine le_eq ?_; simp only [*]; done)))))
       exact tk2
       simp -implicitDefEqProofs only [avm, reduceCtorEq, ↓reduceIte, sevalprocAttr, encs])
    | (refine bd_go h fun y hy h => ?_
       first | refine callsc (a_attr_number hy) ?_ ?_ | refine callc (a_attr_number hy) ?_ ?_ | ((first | refine callsc (act_le (a_attr_number hy) ?_) ?_ ?_ | refine callc (act_le (a_attr_number hy) ?_) ?_ ?_); (focus (repeat' (first | exact trivial | exact le_same _ | exact le_enc | exact le_nil | exact le_imm (.inl rfl) | exact le_imm (.inr rfl) | (refine le_agg ?_) | apply And.intro | (refine le_eq ?_; simp only [*]; done)))))
       exact tk2
       simp -implicitDefEqProofs only [avm, reduceCtorEq, ↓reduceIte, sevalprocAttr, encs])
    | (first | refine kn6 ⟨_, h, ?_⟩ | refine kn5 ⟨_, h, ?_⟩
       try simp -implicitDefEqProofs only [pats, avm, reduceCtorEq, ↓reduceIte, sevalprocAttr, encs]
       (first
          | (refine wk_m 0 _ rfl ?_ rfl rfl ?_ ?_ ?_ ?_
             iterate 3 exact tk3
             all_goals (repeat' (first | exact trivial | apply And.intro))
             all_goals exact tk1)
          | (refine wk_m 1 _ rfl ?_ rfl rfl ?_ ?_ ?_ ?_
             iterate 3 exact tk3
             all_goals (repeat' (first | exact trivial | apply And.intro))
             all_goals exact tk1)))
    | (first | refine kn6 ⟨_, h, ?_⟩ | refine kn5 ⟨_, h, ?_⟩
       try simp -implicitDefEqProofs only [*, pats, avm, reduceCtorEq, ↓reduceIte, sevalprocAttr, encs]
       (first
          | (refine wk_m 0 _ rfl ?_ rfl rfl ?_ ?_ ?_ ?_
             iterate 3 exact tk3
             all_goals (repeat' (first | exact trivial | apply And.intro))
             all_goals exact tk1)
          | (refine wk_m 1 _ rfl ?_ rfl rfl ?_ ?_ ?_ ?_
             iterate 3 exact tk3
             all_goals (repeat' (first | exact trivial | apply And.intro))
             all_goals exact tk1)))
    | (refine ixr (by rfl) (by decide) ?_; simp -implicitDefEqProofs only [avm, reduceCtorEq, ↓reduceIte, sevalprocAttr, encs])
    | refine w_unroll ?_
    | refine kn4 ?_
    | refine kr4 ?_
    | refine ke4 ?_
    | refine al_round ?_
    | (refine rets_in (by first | exact .inr rfl | exact .inl rfl) rfl ?_; simp -implicitDefEqProofs only [avm, reduceCtorEq, ↓reduceIte, sevalprocAttr, encs])
    | (refine retj_one 0 (by first | exact .inr rfl | exact .inl rfl) h rfl ?_ ?_ ?_ rfl rfl ?_ ?_
       · first | exact Nat.le_refl _ | exact Nat.zero_le _ | (simp; done)
       · first | exact Nat.zero_le _ | exact Nat.le_refl _ | (simp; done)
       · first | exact Nat.zero_le _ | exact Nat.le_refl _ | (simp; done)
       all_goals (try simp -implicitDefEqProofs only [pats, avm, reduceCtorEq, ↓reduceIte, sevalprocAttr, encs])
       all_goals (repeat' (first | exact trivial | apply And.intro))
       all_goals exact tk1)
    | (refine retj_tup 0 (by first | exact .inr rfl | exact .inl rfl) h rfl ?_ ?_ ?_ rfl rfl ?_ ?_
       · first | exact Nat.le_refl _ | exact Nat.zero_le _ | (simp; done)
       · first | exact Nat.zero_le _ | exact Nat.le_refl _ | (simp; done)
       · first | exact Nat.zero_le _ | exact Nat.le_refl _ | (simp; done)
       all_goals (try simp -implicitDefEqProofs only [pats, avm, reduceCtorEq, ↓reduceIte, sevalprocAttr, encs])
       all_goals (repeat' (first | exact trivial | apply And.intro))
       all_goals exact tk1)
    | (refine retj_nil 0 (by first | exact .inr rfl | exact .inl rfl) h rfl ?_ ?_ ?_ rfl rfl ?_
       · first | exact Nat.le_refl _ | exact Nat.zero_le _ | (simp; done)
       · first | exact Nat.zero_le _ | exact Nat.le_refl _ | (simp; done)
       · first | exact Nat.zero_le _ | exact Nat.le_refl _ | (simp; done)
       all_goals (try simp -implicitDefEqProofs only [pats, avm, reduceCtorEq, ↓reduceIte, sevalprocAttr, encs])
       all_goals (repeat' (first | exact trivial | apply And.intro))
       all_goals exact tk1)
    | (cases h
       try simp -implicitDefEqProofs only [avm, reduceCtorEq, ↓reduceIte, sevalprocAttr, encs]
       first | refine retLt (by first | exact .inr rfl | exact .inl rfl) (by rfl) ?_ | refine retL1 (by first | exact .inr rfl | exact .inl rfl) (by rfl) ?_
       repeat' (first | exact trivial | apply And.intro)
       all_goals exact tk0)
    | (cases h
       simp -implicitDefEqProofs only [*, Bool.true_and, Bool.false_and, Bool.and_true, avm, reduceCtorEq, ↓reduceIte, sevalprocAttr, encs]
       first | refine retLt (by first | exact .inr rfl | exact .inl rfl) (by rfl) ?_ | refine retL1 (by first | exact .inr rfl | exact .inl rfl) (by rfl) ?_
       repeat' (first | exact trivial | apply And.intro)
       all_goals exact tk0)
    | fail)
theorem a_update_counted {a0 : (List UInt8)} {r : ((List UInt8) × (List UInt8) × Bool)} (h : m_update_counted a0 = some r) : ACt Try.prog 34 [Enc.enc a0] (.tup [Enc.enc r.1, Enc.enc r.2.1, Enc.enc r.2.2]) [] := by
  refine act_of p_update_counted (by simp [c_update_counted]) ?_
  show AW _ b_update_counted (RetOk [.tmp 2, .tmp 3, .tmp 4] _ _) { n := 21, tm := [(0, _)], box := [], fr := [] }
  unfold b_update_counted
  unfold m_update_counted at h
  try simp -implicitDefEqProofs only [avm, reduceCtorEq, ↓reduceIte, sevalprocAttr, encs] at h
  repeat' (first
    | (refine (hκ _).mpr ?_; clear hκ)
    | refine kn1 ?_
    | refine kr1 ?_
    | refine ke1 ?_
    | refine kn2 ?_
    | refine kr2 ?_
    | refine kx2 ?_
    | refine ke2 rfl ?_
    | refine kr5 ?_
    | refine ke5 ?_
    | refine kr6 ?_
    | refine ke6 ?_
    | refine w_seq ?_
    | refine w_block ?_
    | refine w_scope ?_
    | refine kn7 ?_
    | refine kr7 ?_
    | refine ke7 ?_
    | (refine aw_regk fun κ hκ => ?_; simp -implicitDefEqProofs only [avm, reduceCtorEq, ↓reduceIte, sevalprocAttr, encs])
    | refine aw_exit ?_
    | refine aw_ret ?_
    | refine aw_skip ?_
    | refine aw_label ?_
    | refine condc_t ?_
    | refine condc_f ?_
    | (refine aw_cond2 tk4 ?_)
    | ((first | refine gkc_fork ?_ ?_ | refine pkc_fork ?_ ?_ | refine condc_fork ?_ ?_) <;> intro hq <;> (first | contradiction | simp -implicitDefEqProofs only [eq_false hq, Decidable.not_not, avm, reduceCtorEq, ↓reduceIte, sevalprocAttr, encs] at h ⊢ | simp -implicitDefEqProofs only [eq_true hq, avm, reduceCtorEq, ↓reduceIte, sevalprocAttr, encs] at h ⊢))
    | ((first | refine gkc_split ?_ ?_ | refine pkc_split ?_ ?_ | refine condc_bool ?_ ?_) <;> intro hq <;> (first | exact bcontra (by assumption) hq | exact bcontra hq (by assumption) | simp -implicitDefEqProofs only [hq, avm, reduceCtorEq, ↓reduceIte, sevalprocAttr, encs] at h ⊢))
    | (refine bd_go h fun y hy h => ?_
       first | refine callsc (a_octet_Get hy) ?_ ?_ | refine callc (a_octet_Get hy) ?_ ?_ | ((first | refine callsc (act_le (a_octet_Get hy) ?_) ?_ ?_ | refine callc (act_le (a_octet_Get hy) ?_) ?_ ?_); (focus (repeat' (first | exact trivial | exact le_same _ | exact le_enc | exact le_nil | exact le_imm (.inl rfl) | exact le_imm (.inr rfl) | (refine le_agg ?_) | apply And.intro | (refine le_eq ?_; simp only [*]; done)))))
       exact tk2
       simp -implicitDefEqProofs only [avm, reduceCtorEq, ↓reduceIte, sevalprocAttr, encs])
    | (refine bd_go h fun y hy h => ?_
       first | refine callsc (a_octet_Take hy) ?_ ?_ | refine callc (a_octet_Take hy) ?_ ?_ | ((first | refine callsc (act_le (a_octet_Take hy) ?_) ?_ ?_ | refine callc (act_le (a_octet_Take hy) ?_) ?_ ?_); (focus (repeat' (first | exact trivial | exact le_same _ | exact le_enc | exact le_nil | exact le_imm (.inl rfl) | exact le_imm (.inr rfl) | (refine le_agg ?_) | apply And.intro | (refine le_eq ?_; simp only [*]; done)))))
       exact tk2
       simp -implicitDefEqProofs only [avm, reduceCtorEq, ↓reduceIte, sevalprocAttr, encs])
    | (cases h
       try simp -implicitDefEqProofs only [avm, reduceCtorEq, ↓reduceIte, sevalprocAttr, encs]
       first | refine retLt (by first | exact .inr rfl | exact .inl rfl) (by rfl) ?_ | refine retL1 (by first | exact .inr rfl | exact .inl rfl) (by rfl) ?_
       repeat' (first | exact trivial | apply And.intro)
       all_goals exact tk0)
    | fail)
theorem a_prefix_Mask {a0 : Int} {a1 : Int} {r : Int} (h : m_prefix_Mask a0 a1 = some r) : ACt Try.prog 57 [Enc.enc a0, Enc.enc a1] (Enc.enc r) [] := by
  refine act_of p_prefix_Mask (by simp [c_prefix_Mask]) ?_
  show AW _ b_prefix_Mask (RetOk [.tmp 4] _ _) { n := 16, tm := [(0, _), (1, _)], box := [], fr := [] }
  unfold b_prefix_Mask
  unfold m_prefix_Mask at h
  try simp -implicitDefEqProofs only [avm, reduceCtorEq, ↓reduceIte, sevalprocAttr, encs] at h
  repeat' (first
    | (refine (hκ _).mpr ?_; clear hκ)
    | refine kn1 ?_
    | refine kr1 ?_
    | refine ke1 ?_
    | refine kn2 ?_
    | refine kr2 ?_
    | refine kx2 ?_
    | refine ke2 rfl ?_
    | refine kr5 ?_
    | refine ke5 ?_
    | refine kr6 ?_
    | refine ke6 ?_
    | refine w_seq ?_
    | refine w_block ?_
    | refine w_scope ?_
    | refine kn7 ?_
    | refine kr7 ?_
    | refine ke7 ?_
    | (refine aw_regk fun κ hκ => ?_; simp -implicitDefEqProofs only [avm, reduceCtorEq, ↓reduceIte, sevalprocAttr, encs])
    | refine aw_exit ?_
    | refine aw_ret ?_
    | refine aw_skip ?_
    | refine aw_label ?_
    | refine condc_t ?_
    | refine condc_f ?_
    | (refine aw_cond2 tk4 ?_)
    | ((first | refine gkc_fork ?_ ?_ | refine pkc_fork ?_ ?_ | refine condc_fork ?_ ?_) <;> intro hq <;> (first | contradiction | simp -implicitDefEqProofs only [eq_false hq, Decidable.not_not, avm, reduceCtorEq, ↓reduceIte, sevalprocAttr, encs] at h ⊢ | simp -implicitDefEqProofs only [eq_true hq, avm, reduceCtorEq, ↓reduceIte, sevalprocAttr, encs] at h ⊢))
    | ((first | refine gkc_split ?_ ?_ | refine pkc_split ?_ ?_ | refine condc_bool ?_ ?_) <;> intro hq <;> (first | exact bcontra (by assumption) hq | exact bcontra hq (by assumption) | simp -implicitDefEqProofs only [hq, avm, reduceCtorEq, ↓reduceIte, sevalprocAttr, encs] at h ⊢))
    | (refine nn_go h fun hb h => ?_; simp -implicitDefEqProofs only [eq_false hb, avm, reduceCtorEq, ↓reduceIte, sevalprocAttr, encs] at h ⊢)
    | (cases h
       try simp -implicitDefEqProofs only [avm, reduceCtorEq, ↓reduceIte, sevalprocAttr, encs]
       first | refine retLt (by first | exact .inr rfl | exact .inl rfl) (by rfl) ?_ | refine retL1 (by first | exact .inr rfl | exact .inl rfl) (by rfl) ?_
       repeat' (first | exact trivial | apply And.intro)
       all_goals exact tk0)
    | fail)
theorem a_prefix_size {a0 : Int} {r : Int} (h : m_prefix_size a0 = some r) : ACt Try.prog 58 [Enc.enc a0] (Enc.enc r) [] := by
  refine act_of p_prefix_size (by simp [c_prefix_size]) ?_
  show AW _ b_prefix_size (RetOk [.tmp 2] _ _) { n := 6, tm := [(0, _)], box := [], fr := [] }
  unfold b_prefix_size
  unfold m_prefix_size at h
  try simp -implicitDefEqProofs only [avm, reduceCtorEq, ↓reduceIte, sevalprocAttr, encs] at h
  repeat' (first
    | (refine (hκ _).mpr ?_; clear hκ)
    | refine kn1 ?_
    | refine kr1 ?_
    | refine ke1 ?_
    | refine kn2 ?_
    | refine kr2 ?_
    | refine kx2 ?_
    | refine ke2 rfl ?_
    | refine kr5 ?_
    | refine ke5 ?_
    | refine kr6 ?_
    | refine ke6 ?_
    | refine w_seq ?_
    | refine w_block ?_
    | refine w_scope ?_
    | refine kn7 ?_
    | refine kr7 ?_
    | refine ke7 ?_
    | (refine aw_regk fun κ hκ => ?_; simp -implicitDefEqProofs only [avm, reduceCtorEq, ↓reduceIte, sevalprocAttr, encs])
    | refine aw_exit ?_
    | refine aw_ret ?_
    | refine aw_skip ?_
    | refine aw_label ?_
    | refine condc_t ?_
    | refine condc_f ?_
    | (refine aw_cond2 tk4 ?_)
    | ((first | refine gkc_fork ?_ ?_ | refine pkc_fork ?_ ?_ | refine condc_fork ?_ ?_) <;> intro hq <;> (first | contradiction | simp -implicitDefEqProofs only [eq_false hq, Decidable.not_not, avm, reduceCtorEq, ↓reduceIte, sevalprocAttr, encs] at h ⊢ | simp -implicitDefEqProofs only [eq_true hq, avm, reduceCtorEq, ↓reduceIte, sevalprocAttr, encs] at h ⊢))
    | ((first | refine gkc_split ?_ ?_ | refine pkc_split ?_ ?_ | refine condc_bool ?_ ?_) <;> intro hq <;> (first | exact bcontra (by assumption) hq | exact bcontra hq (by assumption) | simp -implicitDefEqProofs only [hq, avm, reduceCtorEq, ↓reduceIte, sevalprocAttr, encs] at h ⊢))
    | (cases h
       try simp -implicitDefEqProofs only [avm, reduceCtorEq, ↓reduceIte, sevalprocAttr, encs]
       first | refine retLt (by first | exact .inr rfl | exact .inl rfl) (by rfl) ?_ | refine retL1 (by first | exact .inr rfl | exact .inl rfl) (by rfl) ?_
       repeat' (first | exact trivial | apply And.intro)
       all_goals exact tk0)
    | fail)
theorem a_prefix_Get {a0 : (List UInt8)} {r : (Prefix × (List UInt8) × Bool)} (h : m_prefix_Get a0 = some r) : ACt Try.prog 65 [Enc.enc a0] (.tup [Enc.enc r.1, Enc.enc r.2.1, Enc.enc r.2.2]) [] := by
  refine act_of p_prefix_Get (by simp [c_prefix_Get]) ?_
  show AW _ b_prefix_Get (RetOk [.cell 2 (some 2), .tmp 3, .tmp 4] _ _) { n := 49, tm := [(0, _)], box := [], fr := [] }
  unfold b_prefix_Get
  unfold m_prefix_Get at h
  try simp -implicitDefEqProofs only [avm, reduceCtorEq, ↓reduceIte, sevalprocAttr, encs] at h
  repeat' (first
    | (refine (hκ _).mpr ?_; clear hκ)
    | refine kn1 ?_
    | refine kr1 ?_
    | refine ke1 ?_
    | refine kn2 ?_
    | refine kr2 ?_
    | refine kx2 ?_
    | refine ke2 rfl ?_
    | refine kr5 ?_
    | refine ke5 ?_
    | refine kr6 ?_
    | refine ke6 ?_
    | refine w_seq ?_
    | refine w_block ?_
    | refine w_scope ?_
    | refine kn7 ?_
    | refine kr7 ?_
    | refine ke7 ?_
    | (refine aw_regk fun κ hκ => ?_; simp -implicitDefEqProofs only [avm, reduceCtorEq, ↓reduceIte, sevalprocAttr, encs])
    | refine aw_exit ?_
    | refine aw_ret ?_
    | refine aw_skip ?_
    | refine aw_label ?_
    | refine condc_t ?_
    | refine condc_f ?_
    | (refine aw_cond2 tk4 ?_)
    | ((first | refine gkc_fork ?_ ?_ | refine pkc_fork ?_ ?_ | refine condc_fork ?_ ?_) <;> intro hq <;> (first | contradiction | simp -implicitDefEqProofs only [eq_false hq, Decidable.not_not, avm, reduceCtorEq, ↓reduceIte, sevalprocAttr, encs] at h ⊢ | simp -implicitDefEqProofs only [eq_true hq, avm, reduceCtorEq, ↓reduceIte, sevalprocAttr, encs] at h ⊢))
    | ((first | refine gkc_split ?_ ?_ | refine pkc_split ?_ ?_ | refine condc_bool ?_ ?_) <;> intro hq <;> (first | exact bcontra (by assumption) hq | exact bcontra hq (by assumption) | simp -implicitDefEqProofs only [hq, avm, reduceCtorEq, ↓reduceIte, sevalprocAttr, encs] at h ⊢))
    | (refine stc_plain rfl ?_; simp -implicitDefEqProofs only [putCells.eq_1, avm, reduceCtorEq, ↓reduceIte, sevalprocAttr, encs])
    | (refine bd_go h fun y hy h => ?_
       first | refine callsc (a_octet_Get hy) ?_ ?_ | refine callc (a_octet_Get hy) ?_ ?_ | ((first | refine callsc (act_le (a_octet_Get hy) ?_) ?_ ?_ | refine callc (act_le (a_octet_Get hy) ?_) ?_ ?_); (focus (repeat' (first | exact trivial | exact le_same _ | exact le_enc | exact le_nil | exact le_imm (.inl rfl) | exact le_imm (.inr rfl) | (refine le_agg ?_) | apply And.intro | (refine le_eq ?_; simp only [*]; done)))))
       exact tk2
       simp -implicitDefEqProofs only [avm, reduceCtorEq, ↓reduceIte, sevalprocAttr, encs])
    | (refine bd_go h fun y hy h => ?_
       first | refine callsc (a_prefix_size hy) ?_ ?_ | refine callc (a_prefix_size hy) ?_ ?_ | ((first | refine callsc (act_le (a_prefix_size hy) ?_) ?_ ?_ | refine callc (act_le (a_prefix_size hy) ?_) ?_ ?_); (focus (repeat' (first | exact trivial | exact le_same _ | exact le_enc | exact le_nil | exact le_imm (.inl rfl) | exact le_imm (.inr rfl) | (refine le_agg ?_) | apply And.intro | (refine le_eq ?_; simp only [*]; done)))))
       exact tk2
       simp -implicitDefEqProofs only [avm, reduceCtorEq, ↓reduceIte, sevalprocAttr, encs])
    | (refine bd_go h fun y hy h => ?_
       first | refine callsc (a_prefix_Mask hy) ?_ ?_ | refine callc (a_prefix_Mask hy) ?_ ?_ | ((first | refine callsc (act_le (a_prefix_Mask hy) ?_) ?_ ?_ | refine callc (act_le (a_prefix_Mask hy) ?_) ?_ ?_); (focus (repeat' (first | exact trivial | exact le_same _ | exact le_enc | exact le_nil | exact le_imm (.inl rfl) | exact le_imm (.inr rfl) | (refine le_agg ?_) | apply And.intro | (refine le_eq ?_; simp only [*]; done)))))
       exact tk2
       simp -implicitDefEqProofs only [avm, reduceCtorEq, ↓reduceIte, sevalprocAttr, encs])
    | (refine nn_go h fun hb h => ?_; simp -implicitDefEqProofs only [eq_false hb, avm, reduceCtorEq, ↓reduceIte, sevalprocAttr, encs] at h ⊢)
    | (cases h
       try simp -implicitDefEqProofs only [avm, reduceCtorEq, ↓reduceIte, sevalprocAttr, encs]
       first | refine retLt (by first | exact .inr rfl | exact .inl rfl) (by rfl) ?_ | refine retL1 (by first | exact .inr rfl | exact .inl rfl) (by rfl) ?_
       repeat' (first | exact trivial | apply And.intro)
       all_goals exact tk0)
    | fail)
theorem a_prefix_All {a0 : (List UInt8)} {r : ((List Prefix) × Bool)} (h : m_prefix_All a0 = some r) : ACt Try.prog 35 [Enc.enc a0] (.tup [(.slice (.app 0) 2 (List.map Enc.enc r.1)), Enc.enc r.2]) [(48, r.1.length)] := by
  refine act_of p_prefix_All (by simp [c_prefix_All]) ?_
  show AW _ b_prefix_All (RetOk [.tmp 2, .tmp 3] _ _) { n := 26, tm := [(0, _)], box := [], fr := [] }
  unfold b_prefix_All
  unfold m_prefix_All at h
  try simp -implicitDefEqProofs only [avm, reduceCtorEq, ↓reduceIte, sevalprocAttr, encs] at h
  repeat' (first
    | (refine (hκ _).mpr ?_; clear hκ)
    | refine kn1 ?_
    | refine kr1 ?_
    | refine ke1 ?_
    | refine kn2 ?_
    | refine kr2 ?_
    | refine kx2 ?_
    | refine ke2 rfl ?_
    | refine kr5 ?_
    | refine ke5 ?_
    | refine kr6 ?_
    | refine ke6 ?_
    | (refine w_loopm [] (fun (j : ((List UInt8) × (List Prefix))) => [(0, (.slice .imm 1 (List.map Enc.enc j.1))), (4, (.slice (.app 0) 2 (List.map Enc.enc j.2)))]) (fun (j : ((List UInt8) × (List Prefix))) => []) (fun (j : ((List UInt8) × (List Prefix))) => []) (fun (j : ((List UInt8) × (List Prefix))) => [(48, j.2.length)]) (show loopC (s_prefix_All1) _ BIG _ = some _ from h) ?_ ?_
       · try simp -implicitDefEqProofs only [pats, avm, reduceCtorEq, ↓reduceIte, sevalprocAttr, encs]
         (first
          | (refine wk_m 0 _ rfl ?_ rfl rfl ?_ ?_ ?_ ?_
             iterate 3 exact tk3
             all_goals (repeat' (first | exact trivial | apply And.intro))
             all_goals exact tk1))
       clear h
       intro n st h
       simp -implicitDefEqProofs only [s_prefix_All1.eq_1, pats, avm, reduceCtorEq, ↓reduceIte, sevalprocAttr, encs] at h ⊢)
    | refine w_seq ?_
    | refine w_block ?_
    | refine w_scope ?_
    | refine kn7 ?_
    | refine kr7 ?_
    | refine ke7 ?_
    | (refine aw_regk fun κ hκ => ?_; simp -implicitDefEqProofs only [avm, reduceCtorEq, ↓reduceIte, sevalprocAttr, encs])
    | (refine aw_ret_nil (k := 2) (k2 := 3) (sz := 2) (ty := 48) rfl rfl rfl rfl ?_; simp -implicitDefEqProofs only [List.length_cons, List.length_nil, List.cons_append, List.nil_append, avm, reduceCtorEq, ↓reduceIte, sevalprocAttr, encs])
    | refine aw_exit ?_
    | refine aw_ret ?_
    | refine aw_skip ?_
    | refine aw_label ?_
    | refine condc_t ?_
    | refine condc_f ?_
    | (refine aw_cond2 tk4 ?_)
    | ((first | refine gkc_fork ?_ ?_ | refine pkc_fork ?_ ?_ | refine condc_fork ?_ ?_) <;> intro hq <;> (first | contradiction | simp -implicitDefEqProofs only [eq_false hq, Decidable.not_not, avm, reduceCtorEq, ↓reduceIte, sevalprocAttr, encs] at h ⊢ | simp -implicitDefEqProofs only [eq_true hq, avm, reduceCtorEq, ↓reduceIte, sevalprocAttr, encs] at h ⊢))
    | ((first | refine gkc_split ?_ ?_ | refine pkc_split ?_ ?_ | refine condc_bool ?_ ?_) <;> intro hq <;> (first | exact bcontra (by assumption) hq | exact bcontra hq (by assumption) | simp -implicitDefEqProofs only [hq, avm, reduceCtorEq, ↓reduceIte, sevalprocAttr, encs] at h ⊢))
    | (refine stc_plain rfl ?_; simp -implicitDefEqProofs only [putCells.eq_1, avm, reduceCtorEq, ↓reduceIte, sevalprocAttr, encs])
    | (refine bd_go h fun y hy h => ?_
       refine apc hy tk5 tk5 (by first | exact .inl rfl | exact .inr rfl) (by first | exact .inl rfl | exact .inr rfl) tk6 ?_
       simp -implicitDefEqProofs only [avm, reduceCtorEq, ↓reduceIte, sevalprocAttr, encs])
    | (refine bd_go h fun y hy h => ?_
       first | refine callsc (a_prefix_Get hy) ?_ ?_ | refine callc (a_prefix_Get hy) ?_ ?_ | ((first | refine callsc (act_le (a_prefix_Get hy) ?_) ?_ ?_ | refine callc (act_le (a_prefix_Get hy) ?_) ?_ ?_); (focus (repeat' (first | exact trivial | exact le_same _ | exact le_enc | exact le_nil | exact le_imm (.inl rfl) | exact le_imm (.inr rfl) | (refine le_agg ?_) | apply And.intro | (refine le_eq ?_; simp only [*]; done)))))
       exact tk2
       simp -implicitDefEqProofs only [avm, reduceCtorEq, ↓reduceIte, sevalprocAttr, encs])
    | (first | refine kn6 ⟨_, h, ?_⟩ | refine kn5 ⟨_, h, ?_⟩
       try simp -implicitDefEqProofs only [pats, avm, reduceCtorEq, ↓reduceIte, sevalprocAttr, encs]
       (first
          | (refine wk_m 0 _ rfl ?_ rfl rfl ?_ ?_ ?_ ?_
             iterate 3 exact tk3
             all_goals (repeat' (first | exact trivial | apply And.intro))
             all_goals exact tk1)
          | (refine wk_m 1 _ rfl ?_ rfl rfl ?_ ?_ ?_ ?_
             iterate 3 exact tk3
             all_goals (repeat' (first | exact trivial | apply And.intro))
             all_goals exact tk1)))
    | (first | refine kn6 ⟨_, h, ?_⟩ | refine kn5 ⟨_, h, ?_⟩
       try simp -implicitDefEqProofs only [*, pats, avm, reduceCtorEq, ↓reduceIte, sevalprocAttr, encs]
       (first
          | (refine wk_m 0 _ rfl ?_ rfl rfl ?_ ?_ ?_ ?_
             iterate 3 exact tk3
             all_goals (repeat' (first | exact trivial | apply And.intro))
             all_goals exact tk1)
          | (refine wk_m 1 _ rfl ?_ rfl rfl ?_ ?_ ?_ ?_
             iterate 3 exact tk3
             all_goals (repeat' (first | exact trivial | apply And.intro))
             all_goals exact tk1)))
    | (cases h
       first | (refine retTt (j := 0) (by first | exact .inr rfl | exact .inl rfl) rfl rfl ?_; (repeat' (first | exact trivial | apply And.intro)); (all_goals first | exact .app _ 0 _ _ (purL_enc _) rfl (by simp) | exact .same _ rfl); done) | (refine retTt (j := 1) (by first | exact .inr rfl | exact .inl rfl) rfl rfl ?_; (repeat' (first | exact trivial | apply And.intro)); (all_goals first | exact .app _ 0 _ [] rfl rfl (by simp) | exact .same _ rfl); done))
    | fail)
theorem a_update_Get {a0 : Msg} {r : (News × Note)} (h : m_update_Get a0 = some r) : ACt Try.prog 13 [Enc.enc a0] (.tup [Enc.enc r.1, Enc.enc r.2]) [] := by
  refine act_of p_update_Get (by simp [c_update_Get]) ?_
  show AW _ b_update_Get (RetOk [.cell 2 (some 6), .cell 3 (some 3)] _ _) { n := 106, tm := [(0, _)], box := [], fr := [] }
  unfold b_update_Get
  unfold m_update_Get at h
  try simp -implicitDefEqProofs only [avm, reduceCtorEq, ↓reduceIte, sevalprocAttr, encs] at h
  repeat' (first
    | (refine (hκ _).mpr ?_; clear hκ)
    | refine kn1 ?_
    | refine kr1 ?_
    | refine ke1 ?_
    | refine kn2 ?_
    | refine kr2 ?_
    | refine kx2 ?_
    | refine ke2 rfl ?_
    | refine kr5 ?_
    | refine ke5 ?_
    | refine kr6 ?_
    | refine ke6 ?_
    | (refine w_cutm (x := (.seq (.reg _) (.cond (.tmp 73) _ _))) [2, 3, 10, 11, 14, 16] (fun (j : (Int × Int × (List Int) × Int × Int × Int × Int × (List UInt8))) => [(15, (.int .i64 j.1))]) (fun (j : (Int × Int × (List Int) × Int × Int × Int × Int × (List UInt8))) => [(3, 0, (.int .i64 j.2.1)), (3, 1, (.slice .imm 1 (List.map Enc.enc j.2.2.1))), (3, 2, (.int .i64 j.2.2.2.1)), (3, 3, (.int .i64 j.2.2.2.2.1)), (4, 0, (.int .i64 j.2.2.2.2.2.1)), (4, 1, (.int .i64 j.2.2.2.2.2.2.1)), (4, 2, (.slice .imm 1 (List.map Enc.enc j.2.2.2.2.2.2.2)))]) (fun (j : (Int × Int × (List Int) × Int × Int × Int × Int × (List UInt8))) => []) (fun (j : (Int × Int × (List Int) × Int × Int × Int × Int × (List UInt8))) => []) (show jn 1 _ _ = some _ from h) ?_ ?_
       rotate_left
       intro j h
       simp -implicitDefEqProofs only [pats, avm, reduceCtorEq, ↓reduceIte, sevalprocAttr, encs] at h ⊢
       rotate_left
       intro k' h
       try simp -implicitDefEqProofs only [avm, reduceCtorEq, ↓reduceIte, sevalprocAttr, encs] at h)
    | refine w_seq ?_
    | refine w_block ?_
    | refine w_scope ?_
    | refine kn7 ?_
    | refine kr7 ?_
    | refine ke7 ?_
    | (refine aw_regk fun κ hκ => ?_; simp -implicitDefEqProofs only [avm, reduceCtorEq, ↓reduceIte, sevalprocAttr, encs])
    | refine aw_exit ?_
    | refine aw_ret ?_
    | refine aw_skip ?_
    | refine aw_label ?_
    | refine condc_t ?_
    | refine condc_f ?_
    | (refine aw_cond2 tk4 ?_)
    | ((first | refine gkc_fork ?_ ?_ | refine pkc_fork ?_ ?_ | refine condc_fork ?_ ?_) <;> intro hq <;> (first | contradiction | simp -implicitDefEqProofs only [eq_false hq, Decidable.not_not, avm, reduceCtorEq, ↓reduceIte, sevalprocAttr, encs] at h ⊢ | simp -implicitDefEqProofs only [eq_true hq, avm, reduceCtorEq, ↓reduceIte, sevalprocAttr, encs] at h ⊢))
    | ((first | refine gkc_split ?_ ?_ | refine pkc_split ?_ ?_ | refine condc_bool ?_ ?_) <;> intro hq <;> (first | exact bcontra (by assumption) hq | exact bcontra hq (by assumption) | simp -implicitDefEqProofs only [hq, avm, reduceCtorEq, ↓reduceIte, sevalprocAttr, encs] at h ⊢))
    | (refine stc_plain rfl ?_; simp -implicitDefEqProofs only [putCells.eq_1, avm, reduceCtorEq, ↓reduceIte, sevalprocAttr, encs])
    | (refine bd_go h fun y hy h => ?_
       refine apc hy tk5 tk5 (by first | exact .inl rfl | exact .inr rfl) (by first | exact .inl rfl | exact .inr rfl) tk6 ?_
       simp -implicitDefEqProofs only [avm, reduceCtorEq, ↓reduceIte, sevalprocAttr, encs])
    | (refine bd_go h fun y hy h => ?_
       first | refine callsc (a_msg_Sane hy) ?_ ?_ | refine callc (a_msg_Sane hy) ?_ ?_ | ((first | refine callsc (act_le (a_msg_Sane hy) ?_) ?_ ?_ | refine callc (act_le (a_msg_Sane hy) ?_) ?_ ?_); (focus (repeat' (first | exact trivial | exact le_same _ | exact le_enc | exact le_nil | exact le_imm (.inl rfl) | exact le_imm (.inr rfl) | (refine le_agg ?_) | apply And.intro | (refine le_eq ?_; simp only [*]; done)))))
       exact tk2
       simp -implicitDefEqProofs only [avm, reduceCtorEq, ↓reduceIte, sevalprocAttr, encs])
    | (refine bd_go h fun y hy h => ?_
       first | refine callsc (a_update_counted hy) ?_ ?_ | refine callc (a_update_counted hy) ?_ ?_ | ((first | refine callsc (act_le (a_update_counted hy) ?_) ?_ ?_ | refine callc (act_le (a_update_counted hy) ?_) ?_ ?_); (focus (repeat' (first | exact trivial | exact le_same _ | exact le_enc | exact le_nil | exact le_imm (.inl rfl) | exact le_imm (.inr rfl) | (refine le_agg ?_) | apply And.intro | (refine le_eq ?_; simp only [*]; done)))))
       exact tk2
       simp -implicitDefEqProofs only [avm, reduceCtorEq, ↓reduceIte, sevalprocAttr, encs])
    | (refine bd_go h fun y hy h => ?_
       first | refine callsc (a_prefix_All hy) ?_ ?_ | refine callc (a_prefix_All hy) ?_ ?_ | ((first | refine callsc (act_le (a_prefix_All hy) ?_) ?_ ?_ | refine callc (act_le (a_prefix_All hy) ?_) ?_ ?_); (focus (repeat' (first | exact trivial | exact le_same _ | exact le_enc | exact le_nil | exact le_imm (.inl rfl) | exact le_imm (.inr rfl) | (refine le_agg ?_) | apply And.intro | (refine le_eq ?_; simp only [*]; done)))))
       exact tk2
       simp -implicitDefEqProofs only [avm, reduceCtorEq, ↓reduceIte, sevalprocAttr, encs])
    | (refine bd_go h fun y hy h => ?_
       first | refine callsc (a_attr_All hy) ?_ ?_ | refine callc (a_attr_All hy) ?_ ?_ | ((first | refine callsc (act_le (a_attr_All hy) ?_) ?_ ?_ | refine callc (act_le (a_attr_All hy) ?_) ?_ ?_); (focus (repeat' (first | exact trivial | exact le_same _ | exact le_enc | exact le_nil | exact le_imm (.inl rfl) | exact le_imm (.inr rfl) | (refine le_agg ?_) | apply And.intro | (refine le_eq ?_; simp only [*]; done)))))
       exact tk2
       simp -implicitDefEqProofs only [avm, reduceCtorEq, ↓reduceIte, sevalprocAttr, encs])
    | (refine bd_go h fun y hy h => ?_
       first | refine callsc (a_attr_Judge hy) ?_ ?_ | refine callc (a_attr_Judge hy) ?_ ?_ | ((first | refine callsc (act_le (a_attr_Judge hy) ?_) ?_ ?_ | refine callc (act_le (a_attr_Judge hy) ?_) ?_ ?_); (focus (repeat' (first | exact trivial | exact le_same _ | exact le_enc | exact le_nil | exact le_imm (.inl rfl) | exact le_imm (.inr rfl) | (refine le_agg ?_) | apply And.intro | (refine le_eq ?_; simp only [*]; done)))))
       exact tk2
       simp -implicitDefEqProofs only [avm, reduceCtorEq, ↓reduceIte, sevalprocAttr, encs])
    | (first | refine kn6 ⟨_, h, ?_⟩ | refine kn5 ⟨_, h, ?_⟩
       try simp -implicitDefEqProofs only [pats, avm, reduceCtorEq, ↓reduceIte, sevalprocAttr, encs]
       (first
          | (refine wk_m 2 _ rfl ?_ rfl rfl ?_ ?_ ?_ ?_
             iterate 3 exact tk3
             all_goals (repeat' (first | exact trivial | apply And.intro))
             all_goals exact tk1)))
    | (first | refine kn6 ⟨_, h, ?_⟩ | refine kn5 ⟨_, h, ?_⟩
       try simp -implicitDefEqProofs only [*, pats, avm, reduceCtorEq, ↓reduceIte, sevalprocAttr, encs]
       (first
          | (refine wk_m 2 _ rfl ?_ rfl rfl ?_ ?_ ?_ ?_
             iterate 3 exact tk3
             all_goals (repeat' (first | exact trivial | apply And.intro))
             all_goals exact tk1)))
    | (cases h
       try simp -implicitDefEqProofs only [avm, reduceCtorEq, ↓reduceIte, sevalprocAttr, encs]
       first | refine retLt (by first | exact .inr rfl | exact .inl rfl) (by rfl) ?_ | refine retL1 (by first | exact .inr rfl | exact .inl rfl) (by rfl) ?_
       repeat' (first | exact trivial | apply And.intro)
       all_goals exact tk0)
    | fail)
theorem a_prefix_Sane {a0 : Prefix} {r : Bool} (h : m_prefix_Sane a0 = some r) : ACt Try.prog 26 [Enc.enc a0] (Enc.enc r) [] := by
  refine act_of p_prefix_Sane (by simp [c_prefix_Sane]) ?_
  show AW _ b_prefix_Sane (RetOk [.tmp 2] _ _) { n := 21, tm := [(0, _)], box := [], fr := [] }
  unfold b_prefix_Sane
  unfold m_prefix_Sane at h
  try simp -implicitDefEqProofs only [avm, reduceCtorEq, ↓reduceIte, sevalprocAttr, encs] at h
  repeat' (first
    | (refine (hκ _).mpr ?_; clear hκ)
    | refine kn1 ?_
    | refine kr1 ?_
    | refine ke1 ?_
    | refine kn2 ?_
    | refine kr2 ?_
    | refine kx2 ?_
    | refine ke2 rfl ?_
    | refine kr5 ?_
    | refine ke5 ?_
    | refine kr6 ?_
    | refine ke6 ?_
    | refine w_seq ?_
    | refine w_block ?_
    | refine w_scope ?_
    | refine kn7 ?_
    | refine kr7 ?_
    | refine ke7 ?_
    | (refine aw_regk fun κ hκ => ?_; simp -implicitDefEqProofs only [avm, reduceCtorEq, ↓reduceIte, sevalprocAttr, encs])
    | refine aw_exit ?_
    | refine aw_ret ?_
    | refine aw_skip ?_
    | refine aw_label ?_
    | refine condc_t ?_
    | refine condc_f ?_
    | (refine aw_cond2 tk4 ?_)
    | ((first | refine gkc_fork ?_ ?_ | refine pkc_fork ?_ ?_ | refine condc_fork ?_ ?_) <;> intro hq <;> (first | contradiction | simp -implicitDefEqProofs only [eq_false hq, Decidable.not_not, avm, reduceCtorEq, ↓reduceIte, sevalprocAttr, encs] at h ⊢ | simp -implicitDefEqProofs only [eq_true hq, avm, reduceCtorEq, ↓reduceIte, sevalprocAttr, encs] at h ⊢))
    | ((first | refine gkc_split ?_ ?_ | refine pkc_split ?_ ?_ | refine condc_bool ?_ ?_) <;> intro hq <;> (first | exact bcontra (by assumption) hq | exact bcontra hq (by assumption) | simp -implicitDefEqProofs only [hq, avm, reduceCtorEq, ↓reduceIte, sevalprocAttr, encs] at h ⊢))
    | (refine bd_go h fun y hy h => ?_
       first | refine callsc (a_prefix_Mask hy) ?_ ?_ | refine callc (a_prefix_Mask hy) ?_ ?_ | ((first | refine callsc (act_le (a_prefix_Mask hy) ?_) ?_ ?_ | refine callc (act_le (a_prefix_Mask hy) ?_) ?_ ?_); (focus (repeat' (first | exact trivial | exact le_same _ | exact le_enc | exact le_nil | exact le_imm (.inl rfl) | exact le_imm (.inr rfl) | (refine le_agg ?_) | apply And.intro | (refine le_eq ?_; simp only [*]; done)))))
       exact tk2
       simp -implicitDefEqProofs only [avm, reduceCtorEq, ↓reduceIte, sevalprocAttr, encs])
    | (cases h
       try simp -implicitDefEqProofs only [avm, reduceCtorEq, ↓reduceIte, sevalprocAttr, encs]
       first | refine retLt (by first | exact .inr rfl | exact .inl rfl) (by rfl) ?_ | refine retL1 (by first | exact .inr rfl | exact .inl rfl) (by rfl) ?_
       repeat' (first | exact trivial | apply And.intro)
       all_goals exact tk0)
    | fail)
theorem a_attr_Sane {a0 : Path} {r : Bool} (h : m_attr_Sane a0 = some r) : ACt Try.prog 28 [Enc.enc a0] (Enc.enc r) [] := by
  refine act_of p_attr_Sane (by simp [c_attr_Sane]) ?_
  show AW _ b_attr_Sane (RetOk [.tmp 2] _ _) { n := 53, tm := [(0, _)], box := [], fr := [] }
  unfold b_attr_Sane
  unfold m_attr_Sane at h
  try simp -implicitDefEqProofs only [avm, reduceCtorEq, ↓reduceIte, sevalprocAttr, encs] at h
  repeat' (first
    | (refine (hκ _).mpr ?_; clear hκ)
    | refine kn1 ?_
    | refine kr1 ?_
    | refine ke1 ?_
    | refine kn2 ?_
    | refine kr2 ?_
    | refine kx2 ?_
    | refine ke2 rfl ?_
    | refine kr5 ?_
    | refine ke5 ?_
    | refine kr6 ?_
    | refine ke6 ?_
    | (refine w_loopm [1, 6, 7] (fun (j : (Int)) => [(8, (.int .i64 j))]) (fun (j : (Int)) => []) (fun (j : (Int)) => []) (fun (j : (Int)) => []) (show loopC (s_attr_Sane1 _) _ BIG _ = some _ from h) ?_ ?_
       · try simp -implicitDefEqProofs only [pats, avm, reduceCtorEq, ↓reduceIte, sevalprocAttr, encs]
         (first
          | (refine wk_m 0 _ rfl ?_ rfl rfl ?_ ?_ ?_ ?_
             iterate 3 exact tk3
             all_goals (repeat' (first | exact trivial | apply And.intro))
             all_goals exact tk1))
       clear h
       intro n st h
       simp -implicitDefEqProofs only [s_attr_Sane1.eq_1, pats, avm, reduceCtorEq, ↓reduceIte, sevalprocAttr, encs] at h ⊢)
    | refine w_seq ?_
    | refine w_block ?_
    | refine w_scope ?_
    | refine kn7 ?_
    | refine kr7 ?_
    | refine ke7 ?_
    | (refine aw_regk fun κ hκ => ?_; simp -implicitDefEqProofs only [avm, reduceCtorEq, ↓reduceIte, sevalprocAttr, encs])
    | refine aw_exit ?_
    | refine aw_ret ?_
    | refine aw_skip ?_
    | refine aw_label ?_
    | refine condc_t ?_
    | refine condc_f ?_
    | (refine aw_cond2 tk4 ?_)
    | ((first | refine gkc_fork ?_ ?_ | refine pkc_fork ?_ ?_ | refine condc_fork ?_ ?_) <;> intro hq <;> (first | contradiction | simp -implicitDefEqProofs only [eq_false hq, Decidable.not_not, avm, reduceCtorEq, ↓reduceIte, sevalprocAttr, encs] at h ⊢ | simp -implicitDefEqProofs only [eq_true hq, avm, reduceCtorEq, ↓reduceIte, sevalprocAttr, encs] at h ⊢))
    | ((first | refine gkc_split ?_ ?_ | refine pkc_split ?_ ?_ | refine condc_bool ?_ ?_) <;> intro hq <;> (first | exact bcontra (by assumption) hq | exact bcontra hq (by assumption) | simp -implicitDefEqProofs only [hq, avm, reduceCtorEq, ↓reduceIte, sevalprocAttr, encs] at h ⊢))
    | (refine bd_go h fun y hy h => ?_; refine ixc hy ?_; simp -implicitDefEqProofs only [avm, reduceCtorEq, ↓reduceIte, sevalprocAttr, encs])
    | (first | refine kn6 ⟨_, h, ?_⟩ | refine kn5 ⟨_, h, ?_⟩
       try simp -implicitDefEqProofs only [pats, avm, reduceCtorEq, ↓reduceIte, sevalprocAttr, encs]
       (first
          | (refine wk_m 0 _ rfl ?_ rfl rfl ?_ ?_ ?_ ?_
             iterate 3 exact tk3
             all_goals (repeat' (first | exact trivial | apply And.intro))
             all_goals exact tk1)))
    | (first | refine kn6 ⟨_, h, ?_⟩ | refine kn5 ⟨_, h, ?_⟩
       try simp -implicitDefEqProofs only [*, pats, avm, reduceCtorEq, ↓reduceIte, sevalprocAttr, encs]
       (first
          | (refine wk_m 0 _ rfl ?_ rfl rfl ?_ ?_ ?_ ?_
             iterate 3 exact tk3
             all_goals (repeat' (first | exact trivial | apply And.intro))
             all_goals exact tk1)))
    | (cases h
       try simp -implicitDefEqProofs only [avm, reduceCtorEq, ↓reduceIte, sevalprocAttr, encs]
       first | refine retLt (by first | exact .inr rfl | exact .inl rfl) (by rfl) ?_ | refine retL1 (by first | exact .inr rfl | exact .inl rfl) (by rfl) ?_
       repeat' (first | exact trivial | apply And.intro)
       all_goals exact tk0)
    | fail)
theorem a_update_Sane {a0 : News} {r : Bool} (h : m_update_Sane a0 = some r) : ACt Try.prog 17 [Enc.enc a0] (Enc.enc r) [] := by
  refine act_of p_update_Sane (by simp [c_update_Sane]) ?_
  show AW _ b_update_Sane (RetOk [.tmp 2] _ _) { n := 59, tm := [(0, _)], box := [], fr := [] }
  unfold b_update_Sane
  unfold m_update_Sane at h
  try simp -implicitDefEqProofs only [avm, reduceCtorEq, ↓reduceIte, sevalprocAttr, encs] at h
  repeat' (first
    | (refine (hκ _).mpr ?_; clear hκ)
    | refine kn1 ?_
    | refine kr1 ?_
    | refine ke1 ?_
    | refine kn2 ?_
    | refine kr2 ?_
    | refine kx2 ?_
    | refine ke2 rfl ?_
    | refine kr5 ?_
    | refine ke5 ?_
    | refine kr6 ?_
    | refine ke6 ?_
    | (refine w_loopm [1, 8, 9] (fun (j : (Int)) => [(10, (.int .i64 j))]) (fun (j : (Int)) => []) (fun (j : (Int)) => []) (fun (j : (Int)) => []) (show loopC (s_update_Sane1 _) _ BIG _ = some _ from h) ?_ ?_
       · try simp -implicitDefEqProofs only [pats, avm, reduceCtorEq, ↓reduceIte, sevalprocAttr, encs]
         (first
          | (refine wk_m 0 _ rfl ?_ rfl rfl ?_ ?_ ?_ ?_
             iterate 3 exact tk3
             all_goals (repeat' (first | exact trivial | apply And.intro))
             all_goals exact tk1))
       clear h
       intro n st h
       simp -implicitDefEqProofs only [s_update_Sane1.eq_1, pats, avm, reduceCtorEq, ↓reduceIte, sevalprocAttr, encs] at h ⊢)
    | (refine w_loopm [1, 19, 20] (fun (j : (Int)) => [(21, (.int .i64 j))]) (fun (j : (Int)) => []) (fun (j : (Int)) => []) (fun (j : (Int)) => []) (show loopC (s_update_Sane2 _) _ BIG _ = some _ from h) ?_ ?_
       · try simp -implicitDefEqProofs only [pats, avm, reduceCtorEq, ↓reduceIte, sevalprocAttr, encs]
         (first
          | (refine wk_m 0 _ rfl ?_ rfl rfl ?_ ?_ ?_ ?_
             iterate 3 exact tk3
             all_goals (repeat' (first | exact trivial | apply And.intro))
             all_goals exact tk1))
       clear h
       intro n st h
       simp -implicitDefEqProofs only [s_update_Sane2.eq_1, pats, avm, reduceCtorEq, ↓reduceIte, sevalprocAttr, encs] at h ⊢)
    | refine w_seq ?_
    | refine w_block ?_
    | refine w_scope ?_
    | refine kn7 ?_
    | refine kr7 ?_
    | refine ke7 ?_
    | (refine aw_regk fun κ hκ => ?_; simp -implicitDefEqProofs only [avm, reduceCtorEq, ↓reduceIte, sevalprocAttr, encs])
    | refine aw_exit ?_
    | refine aw_ret ?_
    | refine aw_skip ?_
    | refine aw_label ?_
    | refine condc_t ?_
    | refine condc_f ?_
    | (refine aw_cond2 tk4 ?_)
    | ((first | refine gkc_fork ?_ ?_ | refine pkc_fork ?_ ?_ | refine condc_fork ?_ ?_) <;> intro hq <;> (first | contradiction | simp -implicitDefEqProofs only [eq_false hq, Decidable.not_not, avm, reduceCtorEq, ↓reduceIte, sevalprocAttr, encs] at h ⊢ | simp -implicitDefEqProofs only [eq_true hq, avm, reduceCtorEq, ↓reduceIte, sevalprocAttr, encs] at h ⊢))
    | ((first | refine gkc_split ?_ ?_ | refine pkc_split ?_ ?_ | refine condc_bool ?_ ?_) <;> intro hq <;> (first | exact bcontra (by assumption) hq | exact bcontra hq (by assumption) | simp -implicitDefEqProofs only [hq, avm, reduceCtorEq, ↓reduceIte, sevalprocAttr, encs] at h ⊢))
    | (refine stc_plain rfl ?_; simp -implicitDefEqProofs only [putCells.eq_1, avm, reduceCtorEq, ↓reduceIte, sevalprocAttr, encs])
    | (refine bd_go h fun y hy h => ?_; refine ixc hy ?_; simp -implicitDefEqProofs only [avm, reduceCtorEq, ↓reduceIte, sevalprocAttr, encs])
    | (refine bd_go h fun y hy h => ?_
       first | refine callsc (a_prefix_Sane hy) ?_ ?_ | refine callc (a_prefix_Sane hy) ?_ ?_ | ((first | refine callsc (act_le (a_prefix_Sane hy) ?_) ?_ ?_ | refine callc (act_le (a_prefix_Sane hy) ?_) ?_ ?_); (focus (repeat' (first | exact trivial | exact le_same _ | exact le_enc | exact le_nil | exact le_imm (.inl rfl) | exact le_imm (.inr rfl) | (refine le_agg ?_) | apply And.intro | (refine le_eq ?_; simp only [*]; done)))))
       exact tk2
       simp -implicitDefEqProofs only [avm, reduceCtorEq, ↓reduceIte, sevalprocAttr, encs])
    | (refine bd_go h fun y hy h => ?_
       first | refine callsc (a_attr_Sane hy) ?_ ?_ | refine callc (a_attr_Sane hy) ?_ ?_ | ((first | refine callsc (act_le (a_attr_Sane hy) ?_) ?_ ?_ | refine callc (act_le (a_attr_Sane hy) ?_) ?_ ?_); (focus (repeat' (first | exact trivial | exact le_same _ | exact le_enc | exact le_nil | exact le_imm (.inl rfl) | exact le_imm (.inr rfl) | (refine le_agg ?_) | apply And.intro | (refine le_eq ?_; simp only [*]; done)))))
       exact tk2
       simp -implicitDefEqProofs only [avm, reduceCtorEq, ↓reduceIte, sevalprocAttr, encs])
    | (first | refine kn6 ⟨_, h, ?_⟩ | refine kn5 ⟨_, h, ?_⟩
       try simp -implicitDefEqProofs only [pats, avm, reduceCtorEq, ↓reduceIte, sevalprocAttr, encs]
       (first
          | (refine wk_m 0 _ rfl ?_ rfl rfl ?_ ?_ ?_ ?_
             iterate 3 exact tk3
             all_goals (repeat' (first | exact trivial | apply And.intro))
             all_goals exact tk1)))
    | (first | refine kn6 ⟨_, h, ?_⟩ | refine kn5 ⟨_, h, ?_⟩
       try simp -implicitDefEqProofs only [*, pats, avm, reduceCtorEq, ↓reduceIte, sevalprocAttr, encs]
       (first
          | (refine wk_m 0 _ rfl ?_ rfl rfl ?_ ?_ ?_ ?_
             iterate 3 exact tk3
             all_goals (repeat' (first | exact trivial | apply And.intro))
             all_goals exact tk1)))
    | (cases h
       try simp -implicitDefEqProofs only [avm, reduceCtorEq, ↓reduceIte, sevalprocAttr, encs]
       first | refine retLt (by first | exact .inr rfl | exact .inl rfl) (by rfl) ?_ | refine retL1 (by first | exact .inr rfl | exact .inl rfl) (by rfl) ?_
       repeat' (first | exact trivial | apply And.intro)
       all_goals exact tk0)
    | fail)
theorem a_update_body {a0 : (List UInt8)} {a1 : (List UInt8)} {a2 : (List UInt8)} {r : (List UInt8)} (h : m_update_body a0 a1 a2 = some r) : ACt Try.prog 44 [Enc.enc a0, Enc.enc a1, Enc.enc a2] (.slice (.app 0) 1 (List.map Enc.enc r)) [(5, r.length)] := by
  refine act_of p_update_body (by simp [c_update_body]) ?_
  show AW _ b_update_body (RetOk [.tmp 6] _ _) { n := 25, tm := [(0, _), (1, _), (2, _)], box := [], fr := [] }
  unfold b_update_body
  unfold m_update_body at h
  try simp -implicitDefEqProofs only [avm, reduceCtorEq, ↓reduceIte, sevalprocAttr, encs] at h
  repeat' (first
    | (refine (hκ _).mpr ?_; clear hκ)
    | refine kn1 ?_
    | refine kr1 ?_
    | refine ke1 ?_
    | refine kn2 ?_
    | refine kr2 ?_
    | refine kx2 ?_
    | refine ke2 rfl ?_
    | refine kr5 ?_
    | refine ke5 ?_
    | refine kr6 ?_
    | refine ke6 ?_
    | refine w_seq ?_
    | refine w_block ?_
    | refine w_scope ?_
    | refine kn7 ?_
    | refine kr7 ?_
    | refine ke7 ?_
    | (refine aw_regk fun κ hκ => ?_; simp -implicitDefEqProofs only [avm, reduceCtorEq, ↓reduceIte, sevalprocAttr, encs])
    | (cases h; exact aw_ret_full rfl rfl rfl)
    | refine aw_exit ?_
    | refine aw_ret ?_
    | refine aw_skip ?_
    | refine aw_label ?_
    | refine condc_t ?_
    | refine condc_f ?_
    | (refine aw_cond2 tk4 ?_)
    | ((first | refine gkc_fork ?_ ?_ | refine pkc_fork ?_ ?_ | refine condc_fork ?_ ?_) <;> intro hq <;> (first | contradiction | simp -implicitDefEqProofs only [eq_false hq, Decidable.not_not, avm, reduceCtorEq, ↓reduceIte, sevalprocAttr, encs] at h ⊢ | simp -implicitDefEqProofs only [eq_true hq, avm, reduceCtorEq, ↓reduceIte, sevalprocAttr, encs] at h ⊢))
    | ((first | refine gkc_split ?_ ?_ | refine pkc_split ?_ ?_ | refine condc_bool ?_ ?_) <;> intro hq <;> (first | exact bcontra (by assumption) hq | exact bcontra hq (by assumption) | simp -implicitDefEqProofs only [hq, avm, reduceCtorEq, ↓reduceIte, sevalprocAttr, encs] at h ⊢))
    | (refine bd_go h fun y hy h => ?_
       refine apc hy tk5 tk5 (by first | exact .inl rfl | exact .inr rfl) (by first | exact .inl rfl | exact .inr rfl) tk6 ?_
       simp -implicitDefEqProofs only [avm, reduceCtorEq, ↓reduceIte, sevalprocAttr, encs])
    | (refine bd_go h fun y hy h => ?_
       first | refine callsc (a_octet_Put_app hy (by decide)) ?_ ?_ | refine callc (a_octet_Put_app hy (by decide)) ?_ ?_ | ((first | refine callsc (act_le (a_octet_Put_app hy (by decide)) ?_) ?_ ?_ | refine callc (act_le (a_octet_Put_app hy (by decide)) ?_) ?_ ?_); (focus (repeat' (first | exact trivial | exact le_same _ | exact le_enc | exact le_nil | exact le_imm (.inl rfl) | exact le_imm (.inr rfl) | (refine le_agg ?_) | apply And.intro | (refine le_eq ?_; simp only [*]; done)))))
       exact tk2
       simp -implicitDefEqProofs only [avm, reduceCtorEq, ↓reduceIte, sevalprocAttr, encs])
    | (refine bd_go h fun y hy h => ?_
       first | refine callsc (a_octet_Put hy) ?_ ?_ | refine callc (a_octet_Put hy) ?_ ?_ | ((first | refine callsc (act_le (a_octet_Put hy) ?_) ?_ ?_ | refine callc (act_le (a_octet_Put hy) ?_) ?_ ?_); (focus (repeat' (first | exact trivial | exact le_same _ | exact le_enc | exact le_nil | exact le_imm (.inl rfl) | exact le_imm (.inr rfl) | (refine le_agg ?_) | apply And.intro | (refine le_eq ?_; simp only [*]; done)))))
       exact tk2
       simp -implicitDefEqProofs only [avm, reduceCtorEq, ↓reduceIte, sevalprocAttr, encs])
    | (cases h
       (exact ret_app rfl rfl (purL_enc _)))
    | fail)
theorem a_prefix_Put {a0 : (List UInt8)} {a1 : Prefix} {r : (List UInt8)} (h : m_prefix_Put a0 a1 = some r) : ACt Try.prog 29 [Enc.enc a0, Enc.enc a1] (Enc.enc r) [] := by
  refine act_of p_prefix_Put (by simp [c_prefix_Put]) ?_
  show AW _ b_prefix_Put (RetOk [.tmp 4] _ _) { n := 25, tm := [(0, _), (1, _)], box := [], fr := [] }
  unfold b_prefix_Put
  unfold m_prefix_Put at h
  try simp -implicitDefEqProofs only [avm, reduceCtorEq, ↓reduceIte, sevalprocAttr, encs] at h
  repeat' (first
    | (refine (hκ _).mpr ?_; clear hκ)
    | refine kn1 ?_
    | refine kr1 ?_
    | refine ke1 ?_
    | refine kn2 ?_
    | refine kr2 ?_
    | refine kx2 ?_
    | refine ke2 rfl ?_
    | refine kr5 ?_
    | refine ke5 ?_
    | refine kr6 ?_
    | refine ke6 ?_
    | refine w_seq ?_
    | refine w_block ?_
    | refine w_scope ?_
    | refine kn7 ?_
    | refine kr7 ?_
    | refine ke7 ?_
    | (refine aw_regk fun κ hκ => ?_; simp -implicitDefEqProofs only [avm, reduceCtorEq, ↓reduceIte, sevalprocAttr, encs])
    | refine aw_exit ?_
    | refine aw_ret ?_
    | refine aw_skip ?_
    | refine aw_label ?_
    | refine condc_t ?_
    | refine condc_f ?_
    | (refine aw_cond2 tk4 ?_)
    | ((first | refine gkc_fork ?_ ?_ | refine pkc_fork ?_ ?_ | refine condc_fork ?_ ?_) <;> intro hq <;> (first | contradiction | simp -implicitDefEqProofs only [eq_false hq, Decidable.not_not, avm, reduceCtorEq, ↓reduceIte, sevalprocAttr, encs] at h ⊢ | simp -implicitDefEqProofs only [eq_true hq, avm, reduceCtorEq, ↓reduceIte, sevalprocAttr, encs] at h ⊢))
    | ((first | refine gkc_split ?_ ?_ | refine pkc_split ?_ ?_ | refine condc_bool ?_ ?_) <;> intro hq <;> (first | exact bcontra (by assumption) hq | exact bcontra hq (by assumption) | simp -implicitDefEqProofs only [hq, avm, reduceCtorEq, ↓reduceIte, sevalprocAttr, encs] at h ⊢))
    | (refine bd_go h fun y hy h => ?_
       first | refine callsc (a_prefix_Sane hy) ?_ ?_ | refine callc (a_prefix_Sane hy) ?_ ?_ | ((first | refine callsc (act_le (a_prefix_Sane hy) ?_) ?_ ?_ | refine callc (act_le (a_prefix_Sane hy) ?_) ?_ ?_); (focus (repeat' (first | exact trivial | exact le_same _ | exact le_enc | exact le_nil | exact le_imm (.inl rfl) | exact le_imm (.inr rfl) | (refine le_agg ?_) | apply And.intro | (refine le_eq ?_; simp only [*]; done)))))
       exact tk2
       simp -implicitDefEqProofs only [avm, reduceCtorEq, ↓reduceIte, sevalprocAttr, encs])
    | (refine bd_go h fun y hy h => ?_
       first | refine callsc (a_prefix_size hy) ?_ ?_ | refine callc (a_prefix_size hy) ?_ ?_ | ((first | refine callsc (act_le (a_prefix_size hy) ?_) ?_ ?_ | refine callc (act_le (a_prefix_size hy) ?_) ?_ ?_); (focus (repeat' (first | exact trivial | exact le_same _ | exact le_enc | exact le_nil | exact le_imm (.inl rfl) | exact le_imm (.inr rfl) | (refine le_agg ?_) | apply And.intro | (refine le_eq ?_; simp only [*]; done)))))
       exact tk2
       simp -implicitDefEqProofs only [avm, reduceCtorEq, ↓reduceIte, sevalprocAttr, encs])
    | (refine bd_go h fun y hy h => ?_
       first | refine callsc (a_octet_Put_app hy (by decide)) ?_ ?_ | refine callc (a_octet_Put_app hy (by decide)) ?_ ?_ | ((first | refine callsc (act_le (a_octet_Put_app hy (by decide)) ?_) ?_ ?_ | refine callc (act_le (a_octet_Put_app hy (by decide)) ?_) ?_ ?_); (focus (repeat' (first | exact trivial | exact le_same _ | exact le_enc | exact le_nil | exact le_imm (.inl rfl) | exact le_imm (.inr rfl) | (refine le_agg ?_) | apply And.intro | (refine le_eq ?_; simp only [*]; done)))))
       exact tk2
       simp -implicitDefEqProofs only [avm, reduceCtorEq, ↓reduceIte, sevalprocAttr, encs])
    | (refine bd_go h fun y hy h => ?_
       first | refine callsc (a_octet_Put hy) ?_ ?_ | refine callc (a_octet_Put hy) ?_ ?_ | ((first | refine callsc (act_le (a_octet_Put hy) ?_) ?_ ?_ | refine callc (act_le (a_octet_Put hy) ?_) ?_ ?_); (focus (repeat' (first | exact trivial | exact le_same _ | exact le_enc | exact le_nil | exact le_imm (.inl rfl) | exact le_imm (.inr rfl) | (refine le_agg ?_) | apply And.intro | (refine le_eq ?_; simp only [*]; done)))))
       exact tk2
       simp -implicitDefEqProofs only [avm, reduceCtorEq, ↓reduceIte, sevalprocAttr, encs])
    | (refine nn_go h fun hb h => ?_; simp -implicitDefEqProofs only [eq_false hb, avm, reduceCtorEq, ↓reduceIte, sevalprocAttr, encs] at h ⊢)
    | (cases h
       try simp -implicitDefEqProofs only [avm, reduceCtorEq, ↓reduceIte, sevalprocAttr, encs]
       first | refine retLt (by first | exact .inr rfl | exact .inl rfl) (by rfl) ?_ | refine retL1 (by first | exact .inr rfl | exact .inl rfl) (by rfl) ?_
       repeat' (first | exact trivial | apply And.intro)
       all_goals exact tk0)
    | fail)
theorem a_update_prefixes {a0 : (List Prefix)} {r : (List UInt8)} (h : m_update_prefixes a0 = some r) : ACt Try.prog 45 [Enc.enc a0] (.slice (.app 0) 1 (List.map Enc.enc r)) [(5, r.length)] := by
  refine act_of p_update_prefixes (by simp [c_update_prefixes]) ?_
  show AW _ b_update_prefixes (RetOk [.tmp 2] _ _) { n := 18, tm := [(0, _)], box := [], fr := [] }
  unfold b_update_prefixes
  unfold m_update_prefixes at h
  try simp -implicitDefEqProofs only [avm, reduceCtorEq, ↓reduceIte, sevalprocAttr, encs] at h
  repeat' (first
    | (refine (hκ _).mpr ?_; clear hκ)
    | refine kn1 ?_
    | refine kr1 ?_
    | refine ke1 ?_
    | refine kn2 ?_
    | refine kr2 ?_
    | refine kx2 ?_
    | refine ke2 rfl ?_
    | refine kr5 ?_
    | refine ke5 ?_
    | refine kr6 ?_
    | refine ke6 ?_
    | (refine w_loopm [6, 7] (fun (j : ((List UInt8) × Int)) => [(3, (.slice (.app 0) 1 (List.map Enc.enc j.1))), (8, (.int .i64 j.2))]) (fun (j : ((List UInt8) × Int)) => []) (fun (j : ((List UInt8) × Int)) => []) (fun (j : ((List UInt8) × Int)) => [(5, j.1.length)]) (show loopC (s_update_prefixes1 _) _ BIG _ = some _ from h) ?_ ?_
       · try simp -implicitDefEqProofs only [pats, avm, reduceCtorEq, ↓reduceIte, sevalprocAttr, encs]
         (first
          | (refine wk_m 0 _ rfl ?_ rfl rfl ?_ ?_ ?_ ?_
             iterate 3 exact tk3
             all_goals (repeat' (first | exact trivial | apply And.intro))
             all_goals exact tk1))
       clear h
       intro n st h
       simp -implicitDefEqProofs only [s_update_prefixes1.eq_1, pats, avm, reduceCtorEq, ↓reduceIte, sevalprocAttr, encs] at h ⊢)
    | refine w_seq ?_
    | refine w_block ?_
    | refine w_scope ?_
    | refine kn7 ?_
    | refine kr7 ?_
    | refine ke7 ?_
    | (refine aw_regk fun κ hκ => ?_; simp -implicitDefEqProofs only [avm, reduceCtorEq, ↓reduceIte, sevalprocAttr, encs])
    | (cases h; exact aw_ret_full rfl rfl rfl)
    | refine aw_exit ?_
    | refine aw_ret ?_
    | refine aw_skip ?_
    | refine aw_label ?_
    | refine condc_t ?_
    | refine condc_f ?_
    | (refine aw_cond2 tk4 ?_)
    | ((first | refine gkc_fork ?_ ?_ | refine pkc_fork ?_ ?_ | refine condc_fork ?_ ?_) <;> intro hq <;> (first | contradiction | simp -implicitDefEqProofs only [eq_false hq, Decidable.not_not, avm, reduceCtorEq, ↓reduceIte, sevalprocAttr, encs] at h ⊢ | simp -implicitDefEqProofs only [eq_true hq, avm, reduceCtorEq, ↓reduceIte, sevalprocAttr, encs] at h ⊢))
    | ((first | refine gkc_split ?_ ?_ | refine pkc_split ?_ ?_ | refine condc_bool ?_ ?_) <;> intro hq <;> (first | exact bcontra (by assumption) hq | exact bcontra hq (by assumption) | simp -implicitDefEqProofs only [hq, avm, reduceCtorEq, ↓reduceIte, sevalprocAttr, encs] at h ⊢))
    | (refine stc_plain rfl ?_; simp -implicitDefEqProofs only [putCells.eq_1, avm, reduceCtorEq, ↓reduceIte, sevalprocAttr, encs])
    | (refine bd_go h fun y hy h => ?_; refine ixc hy ?_; simp -implicitDefEqProofs only [avm, reduceCtorEq, ↓reduceIte, sevalprocAttr, encs])
    | (refine bd_go h fun y hy h => ?_
       refine apc hy tk5 tk5 (by first | exact .inl rfl | exact .inr rfl) (by first | exact .inl rfl | exact .inr rfl) tk6 ?_
       simp -implicitDefEqProofs only [avm, reduceCtorEq, ↓reduceIte, sevalprocAttr, encs])
    | (refine bd_go h fun y hy h => ?_
       first | refine callsc (a_prefix_Put hy) ?_ ?_ | refine callc (a_prefix_Put hy) ?_ ?_ | ((first | refine callsc (act_le (a_prefix_Put hy) ?_) ?_ ?_ | refine callc (act_le (a_prefix_Put hy) ?_) ?_ ?_); (focus (repeat' (first | exact trivial | exact le_same _ | exact le_enc | exact le_nil | exact le_imm (.inl rfl) | exact le_imm (.inr rfl) | (refine le_agg ?_) | apply And.intro | (refine le_eq ?_; simp only [*]; done)))))
       exact tk2
       simp -implicitDefEqProofs only [avm, reduceCtorEq, ↓reduceIte, sevalprocAttr, encs])
    | (first | refine kn6 ⟨_, h, ?_⟩ | refine kn5 ⟨_, h, ?_⟩
       try simp -implicitDefEqProofs only [pats, avm, reduceCtorEq, ↓reduceIte, sevalprocAttr, encs]
       (first
          | (refine wk_m 0 _ rfl ?_ rfl rfl ?_ ?_ ?_ ?_
             iterate 3 exact tk3
             all_goals (repeat' (first | exact trivial | apply And.intro))
             all_goals exact tk1)
          | (refine wk_m 1 _ rfl ?_ rfl rfl ?_ ?_ ?_ ?_
             iterate 3 exact tk3
             all_goals (repeat' (first | exact trivial | apply And.intro))
             all_goals exact tk1)))
    | (first | refine kn6 ⟨_, h, ?_⟩ | refine kn5 ⟨_, h, ?_⟩
       try simp -implicitDefEqProofs only [*, pats, avm, reduceCtorEq, ↓reduceIte, sevalprocAttr, encs]
       (first
          | (refine wk_m 0 _ rfl ?_ rfl rfl ?_ ?_ ?_ ?_
             iterate 3 exact tk3
             all_goals (repeat' (first | exact trivial | apply And.intro))
             all_goals exact tk1)
          | (refine wk_m 1 _ rfl ?_ rfl rfl ?_ ?_ ?_ ?_
             iterate 3 exact tk3
             all_goals (repeat' (first | exact trivial | apply And.intro))
             all_goals exact tk1)))
    | (cases h
       (exact ret_app rfl rfl (purL_enc _)))
    | fail)
theorem a_attr_segment {a0 : (List Int)} {r : (List UInt8)} (h : m_attr_segment a0 = some r) : ACt Try.prog 90 [Enc.enc a0] (Enc.enc r) [] := by
  refine act_of p_attr_segment (by simp [c_attr_segment]) ?_
  show AW _ b_attr_segment (RetOk [.tmp 2] _ _) { n := 25, tm := [(0, _)], box := [], fr := [] }
  unfold b_attr_segment
  unfold m_attr_segment at h
  try simp -implicitDefEqProofs only [avm, reduceCtorEq, ↓reduceIte, sevalprocAttr, encs] at h
  repeat' (first
    | (refine (hκ _).mpr ?_; clear hκ)
    | refine kn1 ?_
    | refine kr1 ?_
    | refine ke1 ?_
    | refine kn2 ?_
    | refine kr2 ?_
    | refine kx2 ?_
    | refine ke2 rfl ?_
    | refine kr5 ?_
    | refine ke5 ?_
    | refine kr6 ?_
    | refine ke6 ?_
    | (refine w_loopm [13, 14] (fun (j : ((List UInt8) × Int)) => [(3, (.slice (.app 0) 1 (List.map Enc.enc j.1))), (15, (.int .i64 j.2))]) (fun (j : ((List UInt8) × Int)) => []) (fun (j : ((List UInt8) × Int)) => []) (fun (j : ((List UInt8) × Int)) => [(5, j.1.length)]) (show loopC (s_attr_segment1 _) _ BIG _ = some _ from h) ?_ ?_
       · try simp -implicitDefEqProofs only [pats, avm, reduceCtorEq, ↓reduceIte, sevalprocAttr, encs]
         (first
          | (refine wk_m 0 _ rfl ?_ rfl rfl ?_ ?_ ?_ ?_
             iterate 3 exact tk3
             all_goals (repeat' (first | exact trivial | apply And.intro))
             all_goals exact tk1))
       clear h
       intro n st h
       simp -implicitDefEqProofs only [s_attr_segment1.eq_1, pats, avm, reduceCtorEq, ↓reduceIte, sevalprocAttr, encs] at h ⊢)
    | refine w_seq ?_
    | refine w_block ?_
    | refine w_scope ?_
    | refine kn7 ?_
    | refine kr7 ?_
    | refine ke7 ?_
    | (refine aw_regk fun κ hκ => ?_; simp -implicitDefEqProofs only [avm, reduceCtorEq, ↓reduceIte, sevalprocAttr, encs])
    | refine aw_exit ?_
    | refine aw_ret ?_
    | refine aw_skip ?_
    | refine aw_label ?_
    | refine condc_t ?_
    | refine condc_f ?_
    | (refine aw_cond2 tk4 ?_)
    | ((first | refine gkc_fork ?_ ?_ | refine pkc_fork ?_ ?_ | refine condc_fork ?_ ?_) <;> intro hq <;> (first | contradiction | simp -implicitDefEqProofs only [eq_false hq, Decidable.not_not, avm, reduceCtorEq, ↓reduceIte, sevalprocAttr, encs] at h ⊢ | simp -implicitDefEqProofs only [eq_true hq, avm, reduceCtorEq, ↓reduceIte, sevalprocAttr, encs] at h ⊢))
    | ((first | refine gkc_split ?_ ?_ | refine pkc_split ?_ ?_ | refine condc_bool ?_ ?_) <;> intro hq <;> (first | exact bcontra (by assumption) hq | exact bcontra hq (by assumption) | simp -implicitDefEqProofs only [hq, avm, reduceCtorEq, ↓reduceIte, sevalprocAttr, encs] at h ⊢))
    | (refine bd_go h fun y hy h => ?_; refine ixc hy ?_; simp -implicitDefEqProofs only [avm, reduceCtorEq, ↓reduceIte, sevalprocAttr, encs])
    | (refine bd_go h fun y hy h => ?_
       refine apc hy tk5 tk5 (by first | exact .inl rfl | exact .inr rfl) (by first | exact .inl rfl | exact .inr rfl) tk6 ?_
       simp -implicitDefEqProofs only [avm, reduceCtorEq, ↓reduceIte, sevalprocAttr, encs])
    | (refine bd_go h fun y hy h => ?_
       first | refine callsc (a_octet_Put_app hy (by decide)) ?_ ?_ | refine callc (a_octet_Put_app hy (by decide)) ?_ ?_ | ((first | refine callsc (act_le (a_octet_Put_app hy (by decide)) ?_) ?_ ?_ | refine callc (act_le (a_octet_Put_app hy (by decide)) ?_) ?_ ?_); (focus (repeat' (first | exact trivial | exact le_same _ | exact le_enc | exact le_nil | exact le_imm (.inl rfl) | exact le_imm (.inr rfl) | (refine le_agg ?_) | apply And.intro | (refine le_eq ?_; simp only [*]; done)))))
       exact tk2
       simp -implicitDefEqProofs only [avm, reduceCtorEq, ↓reduceIte, sevalprocAttr, encs])
    | (refine bd_go h fun y hy h => ?_
       first | refine callsc (a_octet_Put hy) ?_ ?_ | refine callc (a_octet_Put hy) ?_ ?_ | ((first | refine callsc (act_le (a_octet_Put hy) ?_) ?_ ?_ | refine callc (act_le (a_octet_Put hy) ?_) ?_ ?_); (focus (repeat' (first | exact trivial | exact le_same _ | exact le_enc | exact le_nil | exact le_imm (.inl rfl) | exact le_imm (.inr rfl) | (refine le_agg ?_) | apply And.intro | (refine le_eq ?_; simp only [*]; done)))))
       exact tk2
       simp -implicitDefEqProofs only [avm, reduceCtorEq, ↓reduceIte, sevalprocAttr, encs])
    | (first | refine kn6 ⟨_, h, ?_⟩ | refine kn5 ⟨_, h, ?_⟩
       try simp -implicitDefEqProofs only [pats, avm, reduceCtorEq, ↓reduceIte, sevalprocAttr, encs]
       (first
          | (refine wk_m 0 _ rfl ?_ rfl rfl ?_ ?_ ?_ ?_
             iterate 3 exact tk3
             all_goals (repeat' (first | exact trivial | apply And.intro))
             all_goals exact tk1)
          | (refine wk_m 1 _ rfl ?_ rfl rfl ?_ ?_ ?_ ?_
             iterate 3 exact tk3
             all_goals (repeat' (first | exact trivial | apply And.intro))
             all_goals exact tk1)))
    | (first | refine kn6 ⟨_, h, ?_⟩ | refine kn5 ⟨_, h, ?_⟩
       try simp -implicitDefEqProofs only [*, pats, avm, reduceCtorEq, ↓reduceIte, sevalprocAttr, encs]
       (first
          | (refine wk_m 0 _ rfl ?_ rfl rfl ?_ ?_ ?_ ?_
             iterate 3 exact tk3
             all_goals (repeat' (first | exact trivial | apply And.intro))
             all_goals exact tk1)
          | (refine wk_m 1 _ rfl ?_ rfl rfl ?_ ?_ ?_ ?_
             iterate 3 exact tk3
             all_goals (repeat' (first | exact trivial | apply And.intro))
             all_goals exact tk1)))
    | (cases h
       try simp -implicitDefEqProofs only [avm, reduceCtorEq, ↓reduceIte, sevalprocAttr, encs]
       first | refine retLt (by first | exact .inr rfl | exact .inl rfl) (by rfl) ?_ | refine retL1 (by first | exact .inr rfl | exact .inl rfl) (by rfl) ?_
       repeat' (first | exact trivial | apply And.intro)
       all_goals exact tk0)
    | fail)
end Go.Proofs.Ytkdodhkiemfpeaa
