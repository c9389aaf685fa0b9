import Derived.Test.YtibploaibljcmaaGreatDoorLfa
import Derived.Test.YtibploaibljcmaaGreatDoorAcz1
import Derived.Test.YtibploaibljcmaaGreatDoorMz1
namespace Go.Proofs.YtibploaibljcmaaGreatDoor
open Go.RowKit
set_option maxHeartbeats 8000000
set_option maxRecDepth 100000
set_option linter.unusedSimpArgs false
set_option linter.unusedVariables false
theorem av : type_of% (And.intro @avm @encs) := And.intro @avm @encs
theorem pats : type_of% (And.intro @patOf.eq_1 (And.intro @setB.eq_1 (And.intro @setB.eq_2 (And.intro @setF.eq_1 (And.intro @setF.eq_2 (And.intro @List.map_cons.{0, 0} (And.intro @List.map_nil.{0, 0} (And.intro @List.modify_zero_cons.{0} (And.intro @List.modify_succ_cons.{0} (And.intro @List.set_cons_zero.{0} (And.intro @List.set_cons_succ.{0} (And.intro @List.append_nil.{0} (And.intro @List.nil_append.{0} (And.intro @List.cons_append.{0} (And.intro @setO.eq_1 (@tupC.eq_1)))))))))))))))) := And.intro @patOf.eq_1 (And.intro @setB.eq_1 (And.intro @setB.eq_2 (And.intro @setF.eq_1 (And.intro @setF.eq_2 (And.intro @List.map_cons.{0, 0} (And.intro @List.map_nil.{0, 0} (And.intro @List.modify_zero_cons.{0} (And.intro @List.modify_succ_cons.{0} (And.intro @List.set_cons_zero.{0} (And.intro @List.set_cons_succ.{0} (And.intro @List.append_nil.{0} (And.intro @List.nil_append.{0} (And.intro @List.cons_append.{0} (And.intro @setO.eq_1 (@tupC.eq_1)))))))))))))))
theorem prs : type_of% (And.intro @pur.eq_1 (And.intro @pur.eq_2 (And.intro @pur.eq_3 (And.intro @pur.eq_4 (And.intro @pur.eq_5 (And.intro @pur.eq_6 (And.intro @pur.eq_7 (And.intro @pur.eq_8 (And.intro @pur.eq_9 (And.intro @pur.eq_10 (And.intro @pur.eq_11 (And.intro @pur.eq_12 (And.intro @purL.eq_1 (And.intro @purL.eq_2 (And.intro @purL_enc (And.intro @Bool.and_self (@Bool.and_true))))))))))))))))) := And.intro @pur.eq_1 (And.intro @pur.eq_2 (And.intro @pur.eq_3 (And.intro @pur.eq_4 (And.intro @pur.eq_5 (And.intro @pur.eq_6 (And.intro @pur.eq_7 (And.intro @pur.eq_8 (And.intro @pur.eq_9 (And.intro @pur.eq_10 (And.intro @pur.eq_11 (And.intro @pur.eq_12 (And.intro @purL.eq_1 (And.intro @purL.eq_2 (And.intro @purL_enc (And.intro @Bool.and_self (@Bool.and_true))))))))))))))))
theorem tk0 {P : Prop} (h : P := by first | exact .same _ rfl | exact reta_imm | exact reta_nil | (refine .imm _ _ _ ?_; simp only [prs]; done) | exact .same _ (Enc.pure_enc _) | exact .same _ pur_enc_sl | exact .same _ pur_enc_fl | (refine .same _ ?_; simp only [prs]; done) | (refine .le _ _ ?_ ?_; (focus (repeat' (first | exact le_same _ | exact le_enc | exact le_nil | exact le_imm (.inl rfl) | exact le_imm (.inr rfl) | refine le_agg ?_ | exact trivial | apply And.intro))); (simp only [prs]; done)) | fail) : P := h
theorem tk1 {P : Prop} (h : P := by first | exact rfl | exact wkc_FL | exact wka_full | exact wka_full0 | exact .same _ rfl | exact wka_imm | exact wka_app (by decide) | exact wka_tag (by decide) rfl | exact wka_tagn (by decide) rfl | exact wka_tagr (by decide) rfl (by simp only [prs]) | exact wka_immn | (refine .imm _ _ _ _ (.inl rfl) (okBL_pur ?_); simp only [prs]; done) | exact wka_tag0 (by decide) rfl | exact wka_imm0 | exact wka_pur (Enc.pure_enc _) | exact wka_pur pur_enc_sl | exact wka_pur pur_enc_fl | exact .und _ | (refine wka_pur ?_; simp only [prs]; done) | (refine .same _ ?_; simp only [okB, okBL, okBL_enc, Bool.and_self, Bool.and_true, decide_true, sevalprocAttr]; done) | (refine .le _ _ ?_ (okB_pur ?_); (focus (repeat' (first | exact le_same _ | exact le_enc | exact le_nil | exact le_imm (.inl rfl) | exact le_imm (.inr rfl) | refine le_agg ?_ | exact trivial | apply And.intro))); (simp only [prs]; done)) | fail) : P := h
theorem tk2 {P : Prop} (h : P := by first | (focus (first | rfl | (simp only [purL, pur, purL_enc, Enc.pure_enc, Bool.and_self, Bool.and_true]; done))) | fail) : P := h
theorem tk3 {P : Prop} (h : P := by first | exact Nat.zero_le _ | exact Nat.le_refl _ | (focus (simp; done)) | fail) : P := h
theorem tk4 {P : Prop} (h : P := by first | (simp -implicitDefEqProofs only [av, reduceCtorEq, ↓reduceIte, sevalprocAttr]; rfl) | fail) : P := h
theorem tk5 {P : Prop} (h : P := by first | exact .inr rfl | exact .inl rfl | fail) : P := h
theorem tk6 {P : Prop} (h : P := by first | rfl | (simp -implicitDefEqProofs only [av, reduceCtorEq, ↓reduceIte, sevalprocAttr]; done) | fail) : P := h
theorem tk7 {P : Prop} (h : P := by first | exact .inl rfl | exact .inr rfl | fail) : P := h
theorem tk8 {P : Prop} (h : P := by first | (simp only [apTag, List.getElem?_cons_zero, List.getElem?_cons_succ, ↓reduceIte, List.set_cons_zero, List.set_cons_succ, List.nil_append, List.cons_append, List.length_nil, List.length_cons, sevalprocAttr]; rfl) | fail) : P := h
theorem tk9 {P : Prop} (h : P := by first | (simp [c_ridgewayref06_reader__one]) | fail) : P := h
theorem tk10 {P : Prop} (h : P := by first | (simp [c_ridgewayref06_reader__wrong]) | fail) : P := h
theorem k_session_does : ACt Tryz.prog 28 [] (.agg [(.fn 51 []), (.fn 52 []), (.fn 53 []), (.fn 54 [])]) [] := execF_ok tab_ok (O := []) trivial (n := 40) (d := 12) (by kernel_rfl)
theorem a_conf_saneNumber {a0 : Int} {r : Bool} (h : m_conf_saneNumber a0 = some r) : ACt Tryz.prog 63 [Enc.enc a0] (Enc.enc r) [] := by
 refine act_of p_conf_saneNumber (by simp [c_conf_saneNumber]) ?_
 show AW _ b_conf_saneNumber (RetOk [.tmp 2] _ _) { n := 9, tm := [(0, _)], box := [], fr := [] }
 unfold b_conf_saneNumber
 unfold m_conf_saneNumber at h
 try simp -implicitDefEqProofs only [av, reduceCtorEq, ↓reduceIte, sevalprocAttr] at h
 repeat' (first
   | (refine (hκ _).mpr ?_; clear hκ)
   | refine kn1 ?_
   | refine kr1 ?_
   | refine ke1 ?_
   | refine kn2 ?_
   | refine kr2 ?_
   | refine kx2 ?_
   | refine ke2 rfl ?_
   | refine kr5 ?_
   | refine ke5 ?_
   | refine kr6 ?_
   | refine ke6 ?_
   | refine w_seq ?_
   | refine w_block ?_
   | refine w_scope ?_
   | refine kn7 ?_
   | refine kr7 ?_
   | refine ke7 ?_
   | (refine aw_regk fun κ hκ => ?_; simp -implicitDefEqProofs only [av, reduceCtorEq, ↓reduceIte, sevalprocAttr])
   | refine aw_exit ?_
   | refine aw_ret ?_
   | refine aw_skip ?_
   | refine aw_label ?_
   | refine condc_t ?_
   | refine condc_f ?_
   | (refine aw_cond2 tk4 ?_)
   | ((first | refine gkc_fork ?_ ?_ | refine pkc_fork ?_ ?_ | refine condc_fork ?_ ?_) <;> intro hq <;> (first | contradiction | simp -implicitDefEqProofs only [eq_false hq, Decidable.not_not, av, reduceCtorEq, ↓reduceIte, sevalprocAttr] at h ⊢ | simp -implicitDefEqProofs only [eq_true hq, av, reduceCtorEq, ↓reduceIte, sevalprocAttr] at h ⊢))
   | ((first | refine gkc_split ?_ ?_ | refine pkc_split ?_ ?_ | refine condc_bool ?_ ?_) <;> intro hq <;> (first | exact bcontra (by assumption) hq | exact bcontra hq (by assumption) | simp -implicitDefEqProofs only [hq, av, reduceCtorEq, ↓reduceIte, sevalprocAttr] at h ⊢))
   | (cases h
      try simp -implicitDefEqProofs only [av, reduceCtorEq, ↓reduceIte, sevalprocAttr]
      first | refine retLt tk5 (by rfl) ?_ | refine retL1 tk5 (by rfl) ?_
      repeat' (first | exact trivial | apply And.intro)
      all_goals exact tk0)
   | fail)
theorem a_conf_saneHold {a0 : Int} {r : Bool} (h : m_conf_saneHold a0 = some r) : ACt Tryz.prog 64 [Enc.enc a0] (Enc.enc r) [] := by
 refine act_of p_conf_saneHold (by simp [c_conf_saneHold]) ?_
 show AW _ b_conf_saneHold (RetOk [.tmp 2] _ _) { n := 13, tm := [(0, _)], box := [], fr := [] }
 unfold b_conf_saneHold
 unfold m_conf_saneHold at h
 try simp -implicitDefEqProofs only [av, reduceCtorEq, ↓reduceIte, sevalprocAttr] at h
 repeat' (first
   | (refine (hκ _).mpr ?_; clear hκ)
   | refine kn1 ?_
   | refine kr1 ?_
   | refine ke1 ?_
   | refine kn2 ?_
   | refine kr2 ?_
   | refine kx2 ?_
   | refine ke2 rfl ?_
   | refine kr5 ?_
   | refine ke5 ?_
   | refine kr6 ?_
   | refine ke6 ?_
   | refine w_seq ?_
   | refine w_block ?_
   | refine w_scope ?_
   | refine kn7 ?_
   | refine kr7 ?_
   | refine ke7 ?_
   | (refine aw_regk fun κ hκ => ?_; simp -implicitDefEqProofs only [av, reduceCtorEq, ↓reduceIte, sevalprocAttr])
   | refine aw_exit ?_
   | refine aw_ret ?_
   | refine aw_skip ?_
   | refine aw_label ?_
   | refine condc_t ?_
   | refine condc_f ?_
   | (refine aw_cond2 tk4 ?_)
   | ((first | refine gkc_fork ?_ ?_ | refine pkc_fork ?_ ?_ | refine condc_fork ?_ ?_) <;> intro hq <;> (first | contradiction | simp -implicitDefEqProofs only [eq_false hq, Decidable.not_not, av, reduceCtorEq, ↓reduceIte, sevalprocAttr] at h ⊢ | simp -implicitDefEqProofs only [eq_true hq, av, reduceCtorEq, ↓reduceIte, sevalprocAttr] at h ⊢))
   | ((first | refine gkc_split ?_ ?_ | refine pkc_split ?_ ?_ | refine condc_bool ?_ ?_) <;> intro hq <;> (first | exact bcontra (by assumption) hq | exact bcontra hq (by assumption) | simp -implicitDefEqProofs only [hq, av, reduceCtorEq, ↓reduceIte, sevalprocAttr] at h ⊢))
   | (cases h
      try simp -implicitDefEqProofs only [av, reduceCtorEq, ↓reduceIte, sevalprocAttr]
      first | refine retLt tk5 (by rfl) ?_ | refine retL1 tk5 (by rfl) ?_
      repeat' (first | exact trivial | apply And.intro)
      all_goals exact tk0)
   | fail)
theorem a_conf_saneCap {a0 : Int} {r : Bool} (h : m_conf_saneCap a0 = some r) : ACt Tryz.prog 65 [Enc.enc a0] (Enc.enc r) [] := by
 refine act_of p_conf_saneCap (by simp [c_conf_saneCap]) ?_
 show AW _ b_conf_saneCap (RetOk [.tmp 2] _ _) { n := 9, tm := [(0, _)], box := [], fr := [] }
 unfold b_conf_saneCap
 unfold m_conf_saneCap at h
 try simp -implicitDefEqProofs only [av, reduceCtorEq, ↓reduceIte, sevalprocAttr] at h
 repeat' (first
   | (refine (hκ _).mpr ?_; clear hκ)
   | refine kn1 ?_
   | refine kr1 ?_
   | refine ke1 ?_
   | refine kn2 ?_
   | refine kr2 ?_
   | refine kx2 ?_
   | refine ke2 rfl ?_
   | refine kr5 ?_
   | refine ke5 ?_
   | refine kr6 ?_
   | refine ke6 ?_
   | refine w_seq ?_
   | refine w_block ?_
   | refine w_scope ?_
   | refine kn7 ?_
   | refine kr7 ?_
   | refine ke7 ?_
   | (refine aw_regk fun κ hκ => ?_; simp -implicitDefEqProofs only [av, reduceCtorEq, ↓reduceIte, sevalprocAttr])
   | refine aw_exit ?_
   | refine aw_ret ?_
   | refine aw_skip ?_
   | refine aw_label ?_
   | refine condc_t ?_
   | refine condc_f ?_
   | (refine aw_cond2 tk4 ?_)
   | ((first | refine gkc_fork ?_ ?_ | refine pkc_fork ?_ ?_ | refine condc_fork ?_ ?_) <;> intro hq <;> (first | contradiction | simp -implicitDefEqProofs only [eq_false hq, Decidable.not_not, av, reduceCtorEq, ↓reduceIte, sevalprocAttr] at h ⊢ | simp -implicitDefEqProofs only [eq_true hq, av, reduceCtorEq, ↓reduceIte, sevalprocAttr] at h ⊢))
   | ((first | refine gkc_split ?_ ?_ | refine pkc_split ?_ ?_ | refine condc_bool ?_ ?_) <;> intro hq <;> (first | exact bcontra (by assumption) hq | exact bcontra hq (by assumption) | simp -implicitDefEqProofs only [hq, av, reduceCtorEq, ↓reduceIte, sevalprocAttr] at h ⊢))
   | (cases h
      try simp -implicitDefEqProofs only [av, reduceCtorEq, ↓reduceIte, sevalprocAttr]
      first | refine retLt tk5 (by rfl) ?_ | refine retL1 tk5 (by rfl) ?_
      repeat' (first | exact trivial | apply And.intro)
      all_goals exact tk0)
   | fail)
theorem a_prefix_Mask {a0 : Int} {a1 : Int} {r : Int} (h : m_prefix_Mask a0 a1 = some r) : ACt Tryz.prog 90 [Enc.enc a0, Enc.enc a1] (Enc.enc r) [] := by
 refine act_of p_prefix_Mask (by simp [c_prefix_Mask]) ?_
 show AW _ b_prefix_Mask (RetOk [.tmp 4] _ _) { n := 16, tm := [(0, _), (1, _)], box := [], fr := [] }
 unfold b_prefix_Mask
 unfold m_prefix_Mask at h
 try simp -implicitDefEqProofs only [av, reduceCtorEq, ↓reduceIte, sevalprocAttr] at h
 repeat' (first
   | (refine (hκ _).mpr ?_; clear hκ)
   | refine kn1 ?_
   | refine kr1 ?_
   | refine ke1 ?_
   | refine kn2 ?_
   | refine kr2 ?_
   | refine kx2 ?_
   | refine ke2 rfl ?_
   | refine kr5 ?_
   | refine ke5 ?_
   | refine kr6 ?_
   | refine ke6 ?_
   | refine w_seq ?_
   | refine w_block ?_
   | refine w_scope ?_
   | refine kn7 ?_
   | refine kr7 ?_
   | refine ke7 ?_
   | (refine aw_regk fun κ hκ => ?_; simp -implicitDefEqProofs only [av, reduceCtorEq, ↓reduceIte, sevalprocAttr])
   | refine aw_exit ?_
   | refine aw_ret ?_
   | refine aw_skip ?_
   | refine aw_label ?_
   | refine condc_t ?_
   | refine condc_f ?_
   | (refine aw_cond2 tk4 ?_)
   | ((first | refine gkc_fork ?_ ?_ | refine pkc_fork ?_ ?_ | refine condc_fork ?_ ?_) <;> intro hq <;> (first | contradiction | simp -implicitDefEqProofs only [eq_false hq, Decidable.not_not, av, reduceCtorEq, ↓reduceIte, sevalprocAttr] at h ⊢ | simp -implicitDefEqProofs only [eq_true hq, av, reduceCtorEq, ↓reduceIte, sevalprocAttr] at h ⊢))
   | ((first | refine gkc_split ?_ ?_ | refine pkc_split ?_ ?_ | refine condc_bool ?_ ?_) <;> intro hq <;> (first | exact bcontra (by assumption) hq | exact bcontra hq (by assumption) | simp -implicitDefEqProofs only [hq, av, reduceCtorEq, ↓reduceIte, sevalprocAttr] at h ⊢))
   | (refine nn_go h fun hb h => ?_; simp -implicitDefEqProofs only [eq_false hb, av, reduceCtorEq, ↓reduceIte, sevalprocAttr] at h ⊢)
   | (cases h
      try simp -implicitDefEqProofs only [av, reduceCtorEq, ↓reduceIte, sevalprocAttr]
      first | refine retLt tk5 (by rfl) ?_ | refine retL1 tk5 (by rfl) ?_
      repeat' (first | exact trivial | apply And.intro)
      all_goals exact tk0)
   | fail)
theorem a_prefix_Sane {a0 : Prefix} {r : Bool} (h : m_prefix_Sane a0 = some r) : ACt Tryz.prog 79 [Enc.enc a0] (Enc.enc r) [] := by
 refine act_of p_prefix_Sane (by simp [c_prefix_Sane]) ?_
 show AW _ b_prefix_Sane (RetOk [.tmp 2] _ _) { n := 21, tm := [(0, _)], box := [], fr := [] }
 unfold b_prefix_Sane
 unfold m_prefix_Sane at h
 try simp -implicitDefEqProofs only [av, reduceCtorEq, ↓reduceIte, sevalprocAttr] at h
 repeat' (first
   | (refine (hκ _).mpr ?_; clear hκ)
   | refine kn1 ?_
   | refine kr1 ?_
   | refine ke1 ?_
   | refine kn2 ?_
   | refine kr2 ?_
   | refine kx2 ?_
   | refine ke2 rfl ?_
   | refine kr5 ?_
   | refine ke5 ?_
   | refine kr6 ?_
   | refine ke6 ?_
   | refine w_seq ?_
   | refine w_block ?_
   | refine w_scope ?_
   | refine kn7 ?_
   | refine kr7 ?_
   | refine ke7 ?_
   | (refine aw_regk fun κ hκ => ?_; simp -implicitDefEqProofs only [av, reduceCtorEq, ↓reduceIte, sevalprocAttr])
   | refine aw_exit ?_
   | refine aw_ret ?_
   | refine aw_skip ?_
   | refine aw_label ?_
   | refine condc_t ?_
   | refine condc_f ?_
   | (refine aw_cond2 tk4 ?_)
   | ((first | refine gkc_fork ?_ ?_ | refine pkc_fork ?_ ?_ | refine condc_fork ?_ ?_) <;> intro hq <;> (first | contradiction | simp -implicitDefEqProofs only [eq_false hq, Decidable.not_not, av, reduceCtorEq, ↓reduceIte, sevalprocAttr] at h ⊢ | simp -implicitDefEqProofs only [eq_true hq, av, reduceCtorEq, ↓reduceIte, sevalprocAttr] at h ⊢))
   | ((first | refine gkc_split ?_ ?_ | refine pkc_split ?_ ?_ | refine condc_bool ?_ ?_) <;> intro hq <;> (first | exact bcontra (by assumption) hq | exact bcontra hq (by assumption) | simp -implicitDefEqProofs only [hq, av, reduceCtorEq, ↓reduceIte, sevalprocAttr] at h ⊢))
   | (refine bd_go h fun y hy h => ?_
      first | refine callsc (a_prefix_Mask hy) ?_ ?_ | refine callc (a_prefix_Mask hy) ?_ ?_ | ((first | refine callsc (act_le (a_prefix_Mask hy) ?_) ?_ ?_ | refine callc (act_le (a_prefix_Mask hy) ?_) ?_ ?_); (focus (repeat' (first | exact trivial | exact le_same _ | exact le_enc | exact le_nil | exact le_imm (.inl rfl) | exact le_imm (.inr rfl) | (refine le_agg ?_) | apply And.intro | (refine le_eq ?_; simp only [*]; done)))))
      exact tk2
      simp -implicitDefEqProofs only [av, reduceCtorEq, ↓reduceIte, sevalprocAttr])
   | (cases h
      try simp -implicitDefEqProofs only [av, reduceCtorEq, ↓reduceIte, sevalprocAttr]
      first | refine retLt tk5 (by rfl) ?_ | refine retL1 tk5 (by rfl) ?_
      repeat' (first | exact trivial | apply And.intro)
      all_goals exact tk0)
   | fail)
theorem a_slices_Index___api_Prefix_api_Prefix {a0 : (List Prefix)} {a1 : Prefix} {r : Int} (h : m_slices_Index___api_Prefix_api_Prefix a0 a1 = some r) : ACt Tryz.prog 91 [Enc.enc a0, Enc.enc a1] (Enc.enc r) [] := by
 refine act_of p_slices_Index___api_Prefix_api_Prefix (by simp [c_slices_Index___api_Prefix_api_Prefix]) ?_
 show AW _ b_slices_Index___api_Prefix_api_Prefix (RetOk [.tmp 4] _ _) { n := 19, tm := [(0, _), (1, _)], box := [], fr := [] }
 unfold b_slices_Index___api_Prefix_api_Prefix
 unfold m_slices_Index___api_Prefix_api_Prefix at h
 try simp -implicitDefEqProofs only [av, reduceCtorEq, ↓reduceIte, sevalprocAttr] at h
 repeat' (first
   | (refine (hκ _).mpr ?_; clear hκ)
   | refine kn1 ?_
   | refine kr1 ?_
   | refine ke1 ?_
   | refine kn2 ?_
   | refine kr2 ?_
   | refine kx2 ?_
   | refine ke2 rfl ?_
   | refine kr5 ?_
   | refine ke5 ?_
   | refine kr6 ?_
   | refine ke6 ?_
   | (refine w_loopm [0, 3, 7] (fun (j : (Int)) => [(8, (.int .i64 j))]) (fun (j : (Int)) => []) (fun (j : (Int)) => []) (fun (j : (Int)) => []) (show loopC (s_slices_Index___api_Prefix_api_Prefix1 _ _) _ BIG _ = some _ from h) ?_ ?_
      · try simp -implicitDefEqProofs only [pats, av, reduceCtorEq, ↓reduceIte, sevalprocAttr]
        (first
         | (refine wk_m 0 _ rfl ?_ rfl rfl ?_ ?_ ?_ ?_
            iterate 3 exact tk3
            all_goals (repeat' (first | exact trivial | apply And.intro))
            all_goals exact tk1))
      clear h
      intro n st h
      simp -implicitDefEqProofs only [s_slices_Index___api_Prefix_api_Prefix1.eq_1, pats, av, reduceCtorEq, ↓reduceIte, sevalprocAttr] at h ⊢)
   | refine w_seq ?_
   | refine w_block ?_
   | refine w_scope ?_
   | refine kn7 ?_
   | refine kr7 ?_
   | refine ke7 ?_
   | (refine aw_regk fun κ hκ => ?_; simp -implicitDefEqProofs only [av, reduceCtorEq, ↓reduceIte, sevalprocAttr])
   | refine aw_exit ?_
   | refine aw_ret ?_
   | refine aw_skip ?_
   | refine aw_label ?_
   | refine condc_t ?_
   | refine condc_f ?_
   | (refine aw_cond2 tk4 ?_)
   | ((first | refine gkc_fork ?_ ?_ | refine pkc_fork ?_ ?_ | refine condc_fork ?_ ?_) <;> intro hq <;> (first | contradiction | simp -implicitDefEqProofs only [eq_false hq, Decidable.not_not, av, reduceCtorEq, ↓reduceIte, sevalprocAttr] at h ⊢ | simp -implicitDefEqProofs only [eq_true hq, av, reduceCtorEq, ↓reduceIte, sevalprocAttr] at h ⊢))
   | ((first | refine gkc_split ?_ ?_ | refine pkc_split ?_ ?_ | refine condc_bool ?_ ?_) <;> intro hq <;> (first | exact bcontra (by assumption) hq | exact bcontra hq (by assumption) | simp -implicitDefEqProofs only [hq, av, reduceCtorEq, ↓reduceIte, sevalprocAttr] at h ⊢))
   | (refine bd_go h fun y hy h => ?_; refine ixc hy ?_; simp -implicitDefEqProofs only [av, reduceCtorEq, ↓reduceIte, sevalprocAttr])
   | (first | refine kn6 ⟨_, h, ?_⟩ | refine kn5 ⟨_, h, ?_⟩
      try simp -implicitDefEqProofs only [pats, av, reduceCtorEq, ↓reduceIte, sevalprocAttr]
      (first
         | (refine wk_m 0 _ rfl ?_ rfl rfl ?_ ?_ ?_ ?_
            iterate 3 exact tk3
            all_goals (repeat' (first | exact trivial | apply And.intro))
            all_goals exact tk1)))
   | (first | refine kn6 ⟨_, h, ?_⟩ | refine kn5 ⟨_, h, ?_⟩
      try simp -implicitDefEqProofs only [*, pats, av, reduceCtorEq, ↓reduceIte, sevalprocAttr]
      (first
         | (refine wk_m 0 _ rfl ?_ rfl rfl ?_ ?_ ?_ ?_
            iterate 3 exact tk3
            all_goals (repeat' (first | exact trivial | apply And.intro))
            all_goals exact tk1)))
   | (cases h
      try simp -implicitDefEqProofs only [av, reduceCtorEq, ↓reduceIte, sevalprocAttr]
      first | refine retLt tk5 (by rfl) ?_ | refine retL1 tk5 (by rfl) ?_
      repeat' (first | exact trivial | apply And.intro)
      all_goals exact tk0)
   | fail)
theorem a_slices_Contains___api_Prefix_api_Prefix {a0 : (List Prefix)} {a1 : Prefix} {r : Bool} (h : m_slices_Contains___api_Prefix_api_Prefix a0 a1 = some r) : ACt Tryz.prog 80 [Enc.enc a0, Enc.enc a1] (Enc.enc r) [] := by
 refine act_of p_slices_Contains___api_Prefix_api_Prefix (by simp [c_slices_Contains___api_Prefix_api_Prefix]) ?_
 show AW _ b_slices_Contains___api_Prefix_api_Prefix (RetOk [.tmp 4] _ _) { n := 9, tm := [(0, _), (1, _)], box := [], fr := [] }
 unfold b_slices_Contains___api_Prefix_api_Prefix
 unfold m_slices_Contains___api_Prefix_api_Prefix at h
 try simp -implicitDefEqProofs only [av, reduceCtorEq, ↓reduceIte, sevalprocAttr] at h
 repeat' (first
   | (refine (hκ _).mpr ?_; clear hκ)
   | refine kn1 ?_
   | refine kr1 ?_
   | refine ke1 ?_
   | refine kn2 ?_
   | refine kr2 ?_
   | refine kx2 ?_
   | refine ke2 rfl ?_
   | refine kr5 ?_
   | refine ke5 ?_
   | refine kr6 ?_
   | refine ke6 ?_
   | refine w_seq ?_
   | refine w_block ?_
   | refine w_scope ?_
   | refine kn7 ?_
   | refine kr7 ?_
   | refine ke7 ?_
   | (refine aw_regk fun κ hκ => ?_; simp -implicitDefEqProofs only [av, reduceCtorEq, ↓reduceIte, sevalprocAttr])
   | refine aw_exit ?_
   | refine aw_ret ?_
   | refine aw_skip ?_
   | refine aw_label ?_
   | refine condc_t ?_
   | refine condc_f ?_
   | (refine aw_cond2 tk4 ?_)
   | ((first | refine gkc_fork ?_ ?_ | refine pkc_fork ?_ ?_ | refine condc_fork ?_ ?_) <;> intro hq <;> (first | contradiction | simp -implicitDefEqProofs only [eq_false hq, Decidable.not_not, av, reduceCtorEq, ↓reduceIte, sevalprocAttr] at h ⊢ | simp -implicitDefEqProofs only [eq_true hq, av, reduceCtorEq, ↓reduceIte, sevalprocAttr] at h ⊢))
   | ((first | refine gkc_split ?_ ?_ | refine pkc_split ?_ ?_ | refine condc_bool ?_ ?_) <;> intro hq <;> (first | exact bcontra (by assumption) hq | exact bcontra hq (by assumption) | simp -implicitDefEqProofs only [hq, av, reduceCtorEq, ↓reduceIte, sevalprocAttr] at h ⊢))
   | (refine bd_go h fun y hy h => ?_
      first | refine callsc (a_slices_Index___api_Prefix_api_Prefix hy) ?_ ?_ | refine callc (a_slices_Index___api_Prefix_api_Prefix hy) ?_ ?_ | ((first | refine callsc (act_le (a_slices_Index___api_Prefix_api_Prefix hy) ?_) ?_ ?_ | refine callc (act_le (a_slices_Index___api_Prefix_api_Prefix hy) ?_) ?_ ?_); (focus (repeat' (first | exact trivial | exact le_same _ | exact le_enc | exact le_nil | exact le_imm (.inl rfl) | exact le_imm (.inr rfl) | (refine le_agg ?_) | apply And.intro | (refine le_eq ?_; simp only [*]; done)))))
      exact tk2
      simp -implicitDefEqProofs only [av, reduceCtorEq, ↓reduceIte, sevalprocAttr])
   | (cases h
      try simp -implicitDefEqProofs only [av, reduceCtorEq, ↓reduceIte, sevalprocAttr]
      first | refine retLt tk5 (by rfl) ?_ | refine retL1 tk5 (by rfl) ?_
      repeat' (first | exact trivial | apply And.intro)
      all_goals exact tk0)
   | fail)
theorem a_conf_saneOwn {a0 : (List Prefix)} {r : Bool} (h : m_conf_saneOwn a0 = some r) : ACt Tryz.prog 66 [Enc.enc a0] (Enc.enc r) [] := by
 refine act_of p_conf_saneOwn (by simp [c_conf_saneOwn]) ?_
 show AW _ b_conf_saneOwn (RetOk [.tmp 2] _ _) { n := 26, tm := [(0, _)], box := [], fr := [] }
 unfold b_conf_saneOwn
 unfold m_conf_saneOwn at h
 try simp -implicitDefEqProofs only [av, reduceCtorEq, ↓reduceIte, sevalprocAttr] at h
 repeat' (first
   | (refine (hκ _).mpr ?_; clear hκ)
   | refine kn1 ?_
   | refine kr1 ?_
   | refine ke1 ?_
   | refine kn2 ?_
   | refine kr2 ?_
   | refine kx2 ?_
   | refine ke2 rfl ?_
   | refine kr5 ?_
   | refine ke5 ?_
   | refine kr6 ?_
   | refine ke6 ?_
   | (refine w_loopm [0, 8, 9] (fun (j : (Int)) => [(10, (.int .i64 j))]) (fun (j : (Int)) => []) (fun (j : (Int)) => []) (fun (j : (Int)) => []) (show loopC (s_conf_saneOwn1 _) _ BIG _ = some _ from h) ?_ ?_
      · try simp -implicitDefEqProofs only [pats, av, reduceCtorEq, ↓reduceIte, sevalprocAttr]
        (first
         | (refine wk_m 0 _ rfl ?_ rfl rfl ?_ ?_ ?_ ?_
            iterate 3 exact tk3
            all_goals (repeat' (first | exact trivial | apply And.intro))
            all_goals exact tk1))
      clear h
      intro n st h
      simp -implicitDefEqProofs only [s_conf_saneOwn1.eq_1, pats, av, reduceCtorEq, ↓reduceIte, sevalprocAttr] at h ⊢)
   | refine w_seq ?_
   | refine w_block ?_
   | refine w_scope ?_
   | refine kn7 ?_
   | refine kr7 ?_
   | refine ke7 ?_
   | (refine aw_regk fun κ hκ => ?_; simp -implicitDefEqProofs only [av, reduceCtorEq, ↓reduceIte, sevalprocAttr])
   | refine aw_exit ?_
   | refine aw_ret ?_
   | refine aw_skip ?_
   | refine aw_label ?_
   | refine condc_t ?_
   | refine condc_f ?_
   | (refine aw_cond2 tk4 ?_)
   | ((first | refine gkc_fork ?_ ?_ | refine pkc_fork ?_ ?_ | refine condc_fork ?_ ?_) <;> intro hq <;> (first | contradiction | simp -implicitDefEqProofs only [eq_false hq, Decidable.not_not, av, reduceCtorEq, ↓reduceIte, sevalprocAttr] at h ⊢ | simp -implicitDefEqProofs only [eq_true hq, av, reduceCtorEq, ↓reduceIte, sevalprocAttr] at h ⊢))
   | ((first | refine gkc_split ?_ ?_ | refine pkc_split ?_ ?_ | refine condc_bool ?_ ?_) <;> intro hq <;> (first | exact bcontra (by assumption) hq | exact bcontra hq (by assumption) | simp -implicitDefEqProofs only [hq, av, reduceCtorEq, ↓reduceIte, sevalprocAttr] at h ⊢))
   | (refine stc_plain rfl ?_; simp -implicitDefEqProofs only [putCells.eq_1, av, reduceCtorEq, ↓reduceIte, sevalprocAttr])
   | (refine bd_go h fun y hy h => ?_; refine ixc hy ?_; simp -implicitDefEqProofs only [av, reduceCtorEq, ↓reduceIte, sevalprocAttr])
   | (refine bd_go h fun y hy h => ?_; (first | refine slc_max hy rfl (.inl rfl) asn_none ?_ | refine slc_max hy rfl (.inl rfl) (asn_some (by first | decide | omega)) ?_ | refine slc11 hy rfl (.inl rfl) ?_ | refine slc01 hy rfl (.inl rfl) ?_ | refine slc10 hy rfl (.inl rfl) ?_ | refine slc00 hy rfl (.inl rfl) ?_ | refine slc11 hy rfl (.inr rfl) ?_ | refine slc01 hy rfl (.inr rfl) ?_ | refine slc10 hy rfl (.inr rfl) ?_ | refine slc00 hy rfl (.inr rfl) ?_); simp -implicitDefEqProofs only [av, reduceCtorEq, ↓reduceIte, sevalprocAttr])
   | (refine bd_go h fun y hy h => ?_
      first | refine callsc (a_prefix_Sane hy) ?_ ?_ | refine callc (a_prefix_Sane hy) ?_ ?_ | ((first | refine callsc (act_le (a_prefix_Sane hy) ?_) ?_ ?_ | refine callc (act_le (a_prefix_Sane hy) ?_) ?_ ?_); (focus (repeat' (first | exact trivial | exact le_same _ | exact le_enc | exact le_nil | exact le_imm (.inl rfl) | exact le_imm (.inr rfl) | (refine le_agg ?_) | apply And.intro | (refine le_eq ?_; simp only [*]; done)))))
      exact tk2
      simp -implicitDefEqProofs only [av, reduceCtorEq, ↓reduceIte, sevalprocAttr])
   | (refine bd_go h fun y hy h => ?_
      first | refine callsc (a_slices_Contains___api_Prefix_api_Prefix hy) ?_ ?_ | refine callc (a_slices_Contains___api_Prefix_api_Prefix hy) ?_ ?_ | ((first | refine callsc (act_le (a_slices_Contains___api_Prefix_api_Prefix hy) ?_) ?_ ?_ | refine callc (act_le (a_slices_Contains___api_Prefix_api_Prefix hy) ?_) ?_ ?_); (focus (repeat' (first | exact trivial | exact le_same _ | exact le_enc | exact le_nil | exact le_imm (.inl rfl) | exact le_imm (.inr rfl) | (refine le_agg ?_) | apply And.intro | (refine le_eq ?_; simp only [*]; done)))))
      exact tk2
      simp -implicitDefEqProofs only [av, reduceCtorEq, ↓reduceIte, sevalprocAttr])
   | (first | refine kn6 ⟨_, h, ?_⟩ | refine kn5 ⟨_, h, ?_⟩
      try simp -implicitDefEqProofs only [pats, av, reduceCtorEq, ↓reduceIte, sevalprocAttr]
      (first
         | (refine wk_m 0 _ rfl ?_ rfl rfl ?_ ?_ ?_ ?_
            iterate 3 exact tk3
            all_goals (repeat' (first | exact trivial | apply And.intro))
            all_goals exact tk1)))
   | (first | refine kn6 ⟨_, h, ?_⟩ | refine kn5 ⟨_, h, ?_⟩
      try simp -implicitDefEqProofs only [*, pats, av, reduceCtorEq, ↓reduceIte, sevalprocAttr]
      (first
         | (refine wk_m 0 _ rfl ?_ rfl rfl ?_ ?_ ?_ ?_
            iterate 3 exact tk3
            all_goals (repeat' (first | exact trivial | apply And.intro))
            all_goals exact tk1)))
   | (cases h
      try simp -implicitDefEqProofs only [av, reduceCtorEq, ↓reduceIte, sevalprocAttr]
      first | refine retLt tk5 (by rfl) ?_ | refine retL1 tk5 (by rfl) ?_
      repeat' (first | exact trivial | apply And.intro)
      all_goals exact tk0)
   | fail)
theorem a_conf_taken {a0 : Int} {a1 : (List Side)} {a2 : Int} {r : Bool} (h : m_conf_taken a0 a1 a2 = some r) : ACt Tryz.prog 81 [Enc.enc a0, Enc.enc a1, Enc.enc a2] (Enc.enc r) [] := by
 refine act_of p_conf_taken (by simp [c_conf_taken]) ?_
 show AW _ b_conf_taken (RetOk [.tmp 6] _ _) { n := 15, tm := [(0, _), (1, _), (2, _)], box := [], fr := [] }
 unfold b_conf_taken
 unfold m_conf_taken at h
 try simp -implicitDefEqProofs only [av, reduceCtorEq, ↓reduceIte, sevalprocAttr] at h
 repeat' (first
   | (refine (hκ _).mpr ?_; clear hκ)
   | refine kn1 ?_
   | refine kr1 ?_
   | refine ke1 ?_
   | refine kn2 ?_
   | refine kr2 ?_
   | refine kx2 ?_
   | refine ke2 rfl ?_
   | refine kr5 ?_
   | refine ke5 ?_
   | refine kr6 ?_
   | refine ke6 ?_
   | (refine w_loopm [0, 1, 7] (fun (j : (Int)) => [(8, (.int .i64 j))]) (fun (j : (Int)) => []) (fun (j : (Int)) => []) (fun (j : (Int)) => []) (show loopC (s_conf_taken1 _ _ _) _ BIG _ = some _ from h) ?_ ?_
      · try simp -implicitDefEqProofs only [pats, av, reduceCtorEq, ↓reduceIte, sevalprocAttr]
        (first
         | (refine wk_m 0 _ rfl ?_ rfl rfl ?_ ?_ ?_ ?_
            iterate 3 exact tk3
            all_goals (repeat' (first | exact trivial | apply And.intro))
            all_goals exact tk1))
      clear h
      intro n st h
      simp -implicitDefEqProofs only [s_conf_taken1.eq_1, pats, av, reduceCtorEq, ↓reduceIte, sevalprocAttr] at h ⊢)
   | refine w_seq ?_
   | refine w_block ?_
   | refine w_scope ?_
   | refine kn7 ?_
   | refine kr7 ?_
   | refine ke7 ?_
   | (refine aw_regk fun κ hκ => ?_; simp -implicitDefEqProofs only [av, reduceCtorEq, ↓reduceIte, sevalprocAttr])
   | refine aw_exit ?_
   | refine aw_ret ?_
   | refine aw_skip ?_
   | refine aw_label ?_
   | refine condc_t ?_
   | refine condc_f ?_
   | (refine aw_cond2 tk4 ?_)
   | ((first | refine gkc_fork ?_ ?_ | refine pkc_fork ?_ ?_ | refine condc_fork ?_ ?_) <;> intro hq <;> (first | contradiction | simp -implicitDefEqProofs only [eq_false hq, Decidable.not_not, av, reduceCtorEq, ↓reduceIte, sevalprocAttr] at h ⊢ | simp -implicitDefEqProofs only [eq_true hq, av, reduceCtorEq, ↓reduceIte, sevalprocAttr] at h ⊢))
   | ((first | refine gkc_split ?_ ?_ | refine pkc_split ?_ ?_ | refine condc_bool ?_ ?_) <;> intro hq <;> (first | exact bcontra (by assumption) hq | exact bcontra hq (by assumption) | simp -implicitDefEqProofs only [hq, av, reduceCtorEq, ↓reduceIte, sevalprocAttr] at h ⊢))
   | (refine bd_go h fun y hy h => ?_; refine ixc hy ?_; simp -implicitDefEqProofs only [av, reduceCtorEq, ↓reduceIte, sevalprocAttr])
   | (refine call_cut p_slices_IndexFunc___api_Side_api_Side (by simp [c_slices_IndexFunc___api_Side_api_Side]) (fun (j : (Int)) => (.int .i64 j)) (fun (j : (Int)) => []) (fun (j : (Int)) => []) (show jn 101 _ _ = some _ from h) ?_ ?_
      rotate_left
      intro j h
      simp -implicitDefEqProofs only [pats, av, reduceCtorEq, ↓reduceIte, sevalprocAttr] at h ⊢
      rotate_left
      clear h
      intro k' h
      simp -implicitDefEqProofs only [c_slices_IndexFunc___api_Side_api_Side, b_slices_IndexFunc___api_Side_api_Side, pats, av, reduceCtorEq, ↓reduceIte, sevalprocAttr] at h ⊢)
   | (refine call_in p_slices_ContainsFunc___api_Side_api_Side (by simp [c_slices_ContainsFunc___api_Side_api_Side]) ?_
      simp -implicitDefEqProofs only [c_slices_ContainsFunc___api_Side_api_Side, b_slices_ContainsFunc___api_Side_api_Side, av, reduceCtorEq, ↓reduceIte, sevalprocAttr])
   | (refine call_in p_conf_taken_1 (by simp [c_conf_taken_1]) ?_
      simp -implicitDefEqProofs only [c_conf_taken_1, b_conf_taken_1, av, reduceCtorEq, ↓reduceIte, sevalprocAttr])
   | (first | refine kn6 ⟨_, h, ?_⟩ | refine kn5 ⟨_, h, ?_⟩
      try simp -implicitDefEqProofs only [pats, av, reduceCtorEq, ↓reduceIte, sevalprocAttr]
      (first
         | (refine wk_m 0 _ rfl ?_ rfl rfl ?_ ?_ ?_ ?_
            iterate 3 exact tk3
            all_goals (repeat' (first | exact trivial | apply And.intro))
            all_goals exact tk1)))
   | (first | refine kn6 ⟨_, h, ?_⟩ | refine kn5 ⟨_, h, ?_⟩
      try simp -implicitDefEqProofs only [*, pats, av, reduceCtorEq, ↓reduceIte, sevalprocAttr]
      (first
         | (refine wk_m 0 _ rfl ?_ rfl rfl ?_ ?_ ?_ ?_
            iterate 3 exact tk3
            all_goals (repeat' (first | exact trivial | apply And.intro))
            all_goals exact tk1)))
   | (refine rets_in tk5 rfl ?_; simp -implicitDefEqProofs only [av, reduceCtorEq, ↓reduceIte, sevalprocAttr])
   | (refine retj_one 0 tk5 h rfl ?_ ?_ ?_ rfl rfl ?_ ?_
      · first | exact Nat.le_refl _ | exact Nat.zero_le _ | (simp; done)
      · first | exact Nat.zero_le _ | exact Nat.le_refl _ | (simp; done)
      · first | exact Nat.zero_le _ | exact Nat.le_refl _ | (simp; done)
      all_goals (try simp -implicitDefEqProofs only [pats, av, reduceCtorEq, ↓reduceIte, sevalprocAttr])
      all_goals (repeat' (first | exact trivial | apply And.intro))
      all_goals exact tk1)
   | (refine retj_tup 0 tk5 h rfl ?_ ?_ ?_ rfl rfl ?_ ?_
      · first | exact Nat.le_refl _ | exact Nat.zero_le _ | (simp; done)
      · first | exact Nat.zero_le _ | exact Nat.le_refl _ | (simp; done)
      · first | exact Nat.zero_le _ | exact Nat.le_refl _ | (simp; done)
      all_goals (try simp -implicitDefEqProofs only [pats, av, reduceCtorEq, ↓reduceIte, sevalprocAttr])
      all_goals (repeat' (first | exact trivial | apply And.intro))
      all_goals exact tk1)
   | (refine retj_nil 0 tk5 h rfl ?_ ?_ ?_ rfl rfl ?_
      · first | exact Nat.le_refl _ | exact Nat.zero_le _ | (simp; done)
      · first | exact Nat.zero_le _ | exact Nat.le_refl _ | (simp; done)
      · first | exact Nat.zero_le _ | exact Nat.le_refl _ | (simp; done)
      all_goals (try simp -implicitDefEqProofs only [pats, av, reduceCtorEq, ↓reduceIte, sevalprocAttr])
      all_goals (repeat' (first | exact trivial | apply And.intro))
      all_goals exact tk1)
   | (cases h
      try simp -implicitDefEqProofs only [av, reduceCtorEq, ↓reduceIte, sevalprocAttr]
      first | refine retLt tk5 (by rfl) ?_ | refine retL1 tk5 (by rfl) ?_
      repeat' (first | exact trivial | apply And.intro)
      all_goals exact tk0)
   | fail)
theorem a_policy_saneMatch {a0 : Rule} {a1 : Bool} {r : Bool} (h : m_policy_saneMatch a0 a1 = some r) : ACt Tryz.prog 103 [Enc.enc a0, Enc.enc a1] (Enc.enc r) [] := by
 refine act_of p_policy_saneMatch (by simp [c_policy_saneMatch]) ?_
 show AW _ b_policy_saneMatch (RetOk [.tmp 4] _ _) { n := 61, tm := [(0, _), (1, _)], box := [], fr := [] }
 unfold b_policy_saneMatch
 unfold m_policy_saneMatch at h
 try simp -implicitDefEqProofs only [av, reduceCtorEq, ↓reduceIte, sevalprocAttr] at h
 repeat' (first
   | (refine (hκ _).mpr ?_; clear hκ)
   | refine kn1 ?_
   | refine kr1 ?_
   | refine ke1 ?_
   | refine kn2 ?_
   | refine kr2 ?_
   | refine kx2 ?_
   | refine ke2 rfl ?_
   | refine kr5 ?_
   | refine ke5 ?_
   | refine kr6 ?_
   | refine ke6 ?_
   | refine w_seq ?_
   | refine w_block ?_
   | refine w_scope ?_
   | refine kn7 ?_
   | refine kr7 ?_
   | refine ke7 ?_
   | (refine aw_regk fun κ hκ => ?_; simp -implicitDefEqProofs only [av, reduceCtorEq, ↓reduceIte, sevalprocAttr])
   | refine aw_exit ?_
   | refine aw_ret ?_
   | refine aw_skip ?_
   | refine aw_label ?_
   | refine condc_t ?_
   | refine condc_f ?_
   | (refine aw_cond2 tk4 ?_)
   | ((first | refine gkc_fork ?_ ?_ | refine pkc_fork ?_ ?_ | refine condc_fork ?_ ?_) <;> intro hq <;> (first | contradiction | simp -implicitDefEqProofs only [eq_false hq, Decidable.not_not, av, reduceCtorEq, ↓reduceIte, sevalprocAttr] at h ⊢ | simp -implicitDefEqProofs only [eq_true hq, av, reduceCtorEq, ↓reduceIte, sevalprocAttr] at h ⊢))
   | ((first | refine gkc_split ?_ ?_ | refine pkc_split ?_ ?_ | refine condc_bool ?_ ?_) <;> intro hq <;> (first | exact bcontra (by assumption) hq | exact bcontra hq (by assumption) | simp -implicitDefEqProofs only [hq, av, reduceCtorEq, ↓reduceIte, sevalprocAttr] at h ⊢))
   | (refine bd_go h fun y hy h => ?_
      first | refine callsc (a_prefix_Sane hy) ?_ ?_ | refine callc (a_prefix_Sane hy) ?_ ?_ | ((first | refine callsc (act_le (a_prefix_Sane hy) ?_) ?_ ?_ | refine callc (act_le (a_prefix_Sane hy) ?_) ?_ ?_); (focus (repeat' (first | exact trivial | exact le_same _ | exact le_enc | exact le_nil | exact le_imm (.inl rfl) | exact le_imm (.inr rfl) | (refine le_agg ?_) | apply And.intro | (refine le_eq ?_; simp only [*]; done)))))
      exact tk2
      simp -implicitDefEqProofs only [av, reduceCtorEq, ↓reduceIte, sevalprocAttr])
   | (cases h
      try simp -implicitDefEqProofs only [av, reduceCtorEq, ↓reduceIte, sevalprocAttr]
      first | refine retLt tk5 (by rfl) ?_ | refine retL1 tk5 (by rfl) ?_
      repeat' (first | exact trivial | apply And.intro)
      all_goals exact tk0)
   | (cases h
      simp -implicitDefEqProofs only [*, Bool.true_and, Bool.false_and, Bool.and_true, av, reduceCtorEq, ↓reduceIte, sevalprocAttr]
      first | refine retLt tk5 (by rfl) ?_ | refine retL1 tk5 (by rfl) ?_
      repeat' (first | exact trivial | apply And.intro)
      all_goals exact tk0)
   | fail)
theorem a_policy_saneAct {a0 : Rule} {a1 : Bool} {r : Bool} (h : m_policy_saneAct a0 a1 = some r) : ACt Tryz.prog 104 [Enc.enc a0, Enc.enc a1] (Enc.enc r) [] := by
 refine act_of p_policy_saneAct (by simp [c_policy_saneAct]) ?_
 show AW _ b_policy_saneAct (RetOk [.tmp 4] _ _) { n := 48, tm := [(0, _), (1, _)], box := [], fr := [] }
 unfold b_policy_saneAct
 unfold m_policy_saneAct at h
 try simp -implicitDefEqProofs only [av, reduceCtorEq, ↓reduceIte, sevalprocAttr] at h
 repeat' (first
   | (refine (hκ _).mpr ?_; clear hκ)
   | refine kn1 ?_
   | refine kr1 ?_
   | refine ke1 ?_
   | refine kn2 ?_
   | refine kr2 ?_
   | refine kx2 ?_
   | refine ke2 rfl ?_
   | refine kr5 ?_
   | refine ke5 ?_
   | refine kr6 ?_
   | refine ke6 ?_
   | refine w_seq ?_
   | refine w_block ?_
   | refine w_scope ?_
   | refine kn7 ?_
   | refine kr7 ?_
   | refine ke7 ?_
   | (refine aw_regk fun κ hκ => ?_; simp -implicitDefEqProofs only [av, reduceCtorEq, ↓reduceIte, sevalprocAttr])
   | refine aw_exit ?_
   | refine aw_ret ?_
   | refine aw_skip ?_
   | refine aw_label ?_
   | refine condc_t ?_
   | refine condc_f ?_
   | (refine aw_cond2 tk4 ?_)
   | ((first | refine gkc_fork ?_ ?_ | refine pkc_fork ?_ ?_ | refine condc_fork ?_ ?_) <;> intro hq <;> (first | contradiction | simp -implicitDefEqProofs only [eq_false hq, Decidable.not_not, av, reduceCtorEq, ↓reduceIte, sevalprocAttr] at h ⊢ | simp -implicitDefEqProofs only [eq_true hq, av, reduceCtorEq, ↓reduceIte, sevalprocAttr] at h ⊢))
   | ((first | refine gkc_split ?_ ?_ | refine pkc_split ?_ ?_ | refine condc_bool ?_ ?_) <;> intro hq <;> (first | exact bcontra (by assumption) hq | exact bcontra hq (by assumption) | simp -implicitDefEqProofs only [hq, av, reduceCtorEq, ↓reduceIte, sevalprocAttr] at h ⊢))
   | (cases h
      try simp -implicitDefEqProofs only [av, reduceCtorEq, ↓reduceIte, sevalprocAttr]
      first | refine retLt tk5 (by rfl) ?_ | refine retL1 tk5 (by rfl) ?_
      repeat' (first | exact trivial | apply And.intro)
      all_goals exact tk0)
   | fail)
theorem a_policy_Sane {a0 : Rule} {a1 : Bool} {r : Bool} (h : m_policy_Sane a0 a1 = some r) : ACt Tryz.prog 94 [Enc.enc a0, Enc.enc a1] (Enc.enc r) [] := by
 refine act_of p_policy_Sane (by simp [c_policy_Sane]) ?_
 show AW _ b_policy_Sane (RetOk [.tmp 4] _ _) { n := 13, tm := [(0, _), (1, _)], box := [], fr := [] }
 unfold b_policy_Sane
 unfold m_policy_Sane at h
 try simp -implicitDefEqProofs only [av, reduceCtorEq, ↓reduceIte, sevalprocAttr] at h
 repeat' (first
   | (refine (hκ _).mpr ?_; clear hκ)
   | refine kn1 ?_
   | refine kr1 ?_
   | refine ke1 ?_
   | refine kn2 ?_
   | refine kr2 ?_
   | refine kx2 ?_
   | refine ke2 rfl ?_
   | refine kr5 ?_
   | refine ke5 ?_
   | refine kr6 ?_
   | refine ke6 ?_
   | refine w_seq ?_
   | refine w_block ?_
   | refine w_scope ?_
   | refine kn7 ?_
   | refine kr7 ?_
   | refine ke7 ?_
   | (refine aw_regk fun κ hκ => ?_; simp -implicitDefEqProofs only [av, reduceCtorEq, ↓reduceIte, sevalprocAttr])
   | refine aw_exit ?_
   | refine aw_ret ?_
   | refine aw_skip ?_
   | refine aw_label ?_
   | refine condc_t ?_
   | refine condc_f ?_
   | (refine aw_cond2 tk4 ?_)
   | ((first | refine gkc_fork ?_ ?_ | refine pkc_fork ?_ ?_ | refine condc_fork ?_ ?_) <;> intro hq <;> (first | contradiction | simp -implicitDefEqProofs only [eq_false hq, Decidable.not_not, av, reduceCtorEq, ↓reduceIte, sevalprocAttr] at h ⊢ | simp -implicitDefEqProofs only [eq_true hq, av, reduceCtorEq, ↓reduceIte, sevalprocAttr] at h ⊢))
   | ((first | refine gkc_split ?_ ?_ | refine pkc_split ?_ ?_ | refine condc_bool ?_ ?_) <;> intro hq <;> (first | exact bcontra (by assumption) hq | exact bcontra hq (by assumption) | simp -implicitDefEqProofs only [hq, av, reduceCtorEq, ↓reduceIte, sevalprocAttr] at h ⊢))
   | (refine bd_go h fun y hy h => ?_
      first | refine callsc (a_policy_saneMatch hy) ?_ ?_ | refine callc (a_policy_saneMatch hy) ?_ ?_ | ((first | refine callsc (act_le (a_policy_saneMatch hy) ?_) ?_ ?_ | refine callc (act_le (a_policy_saneMatch hy) ?_) ?_ ?_); (focus (repeat' (first | exact trivial | exact le_same _ | exact le_enc | exact le_nil | exact le_imm (.inl rfl) | exact le_imm (.inr rfl) | (refine le_agg ?_) | apply And.intro | (refine le_eq ?_; simp only [*]; done)))))
      exact tk2
      simp -implicitDefEqProofs only [av, reduceCtorEq, ↓reduceIte, sevalprocAttr])
   | (refine bd_go h fun y hy h => ?_
      first | refine callsc (a_policy_saneAct hy) ?_ ?_ | refine callc (a_policy_saneAct hy) ?_ ?_ | ((first | refine callsc (act_le (a_policy_saneAct hy) ?_) ?_ ?_ | refine callc (act_le (a_policy_saneAct hy) ?_) ?_ ?_); (focus (repeat' (first | exact trivial | exact le_same _ | exact le_enc | exact le_nil | exact le_imm (.inl rfl) | exact le_imm (.inr rfl) | (refine le_agg ?_) | apply And.intro | (refine le_eq ?_; simp only [*]; done)))))
      exact tk2
      simp -implicitDefEqProofs only [av, reduceCtorEq, ↓reduceIte, sevalprocAttr])
   | (cases h
      try simp -implicitDefEqProofs only [av, reduceCtorEq, ↓reduceIte, sevalprocAttr]
      first | refine retLt tk5 (by rfl) ?_ | refine retL1 tk5 (by rfl) ?_
      repeat' (first | exact trivial | apply And.intro)
      all_goals exact tk0)
   | fail)
theorem a_conf_saneRules {a0 : (List Rule)} {a1 : Bool} {r : Bool} (h : m_conf_saneRules a0 a1 = some r) : ACt Tryz.prog 82 [Enc.enc a0, Enc.enc a1] (Enc.enc r) [] := by
 refine act_of p_conf_saneRules (by simp [c_conf_saneRules]) ?_
 show AW _ b_conf_saneRules (RetOk [.tmp 4] _ _) { n := 21, tm := [(0, _), (1, _)], box := [], fr := [] }
 unfold b_conf_saneRules
 unfold m_conf_saneRules at h
 try simp -implicitDefEqProofs only [av, reduceCtorEq, ↓reduceIte, sevalprocAttr] at h
 repeat' (first
   | (refine (hκ _).mpr ?_; clear hκ)
   | refine kn1 ?_
   | refine kr1 ?_
   | refine ke1 ?_
   | refine kn2 ?_
   | refine kr2 ?_
   | refine kx2 ?_
   | refine ke2 rfl ?_
   | refine kr5 ?_
   | refine ke5 ?_
   | refine kr6 ?_
   | refine ke6 ?_
   | (refine w_loopm [1, 10, 11] (fun (j : (Int)) => [(12, (.int .i64 j))]) (fun (j : (Int)) => []) (fun (j : (Int)) => []) (fun (j : (Int)) => []) (show loopC (s_conf_saneRules1 _ _) _ BIG _ = some _ from h) ?_ ?_
      · try simp -implicitDefEqProofs only [pats, av, reduceCtorEq, ↓reduceIte, sevalprocAttr]
        (first
         | (refine wk_m 0 _ rfl ?_ rfl rfl ?_ ?_ ?_ ?_
            iterate 3 exact tk3
            all_goals (repeat' (first | exact trivial | apply And.intro))
            all_goals exact tk1))
      clear h
      intro n st h
      simp -implicitDefEqProofs only [s_conf_saneRules1.eq_1, pats, av, reduceCtorEq, ↓reduceIte, sevalprocAttr] at h ⊢)
   | refine w_seq ?_
   | refine w_block ?_
   | refine w_scope ?_
   | refine kn7 ?_
   | refine kr7 ?_
   | refine ke7 ?_
   | (refine aw_regk fun κ hκ => ?_; simp -implicitDefEqProofs only [av, reduceCtorEq, ↓reduceIte, sevalprocAttr])
   | refine aw_exit ?_
   | refine aw_ret ?_
   | refine aw_skip ?_
   | refine aw_label ?_
   | refine condc_t ?_
   | refine condc_f ?_
   | (refine aw_cond2 tk4 ?_)
   | ((first | refine gkc_fork ?_ ?_ | refine pkc_fork ?_ ?_ | refine condc_fork ?_ ?_) <;> intro hq <;> (first | contradiction | simp -implicitDefEqProofs only [eq_false hq, Decidable.not_not, av, reduceCtorEq, ↓reduceIte, sevalprocAttr] at h ⊢ | simp -implicitDefEqProofs only [eq_true hq, av, reduceCtorEq, ↓reduceIte, sevalprocAttr] at h ⊢))
   | ((first | refine gkc_split ?_ ?_ | refine pkc_split ?_ ?_ | refine condc_bool ?_ ?_) <;> intro hq <;> (first | exact bcontra (by assumption) hq | exact bcontra hq (by assumption) | simp -implicitDefEqProofs only [hq, av, reduceCtorEq, ↓reduceIte, sevalprocAttr] at h ⊢))
   | (refine stc_plain rfl ?_; simp -implicitDefEqProofs only [putCells.eq_1, av, reduceCtorEq, ↓reduceIte, sevalprocAttr])
   | (refine bd_go h fun y hy h => ?_; refine ixc hy ?_; simp -implicitDefEqProofs only [av, reduceCtorEq, ↓reduceIte, sevalprocAttr])
   | (refine bd_go h fun y hy h => ?_
      first | refine callsc (a_policy_Sane hy) ?_ ?_ | refine callc (a_policy_Sane hy) ?_ ?_ | ((first | refine callsc (act_le (a_policy_Sane hy) ?_) ?_ ?_ | refine callc (act_le (a_policy_Sane hy) ?_) ?_ ?_); (focus (repeat' (first | exact trivial | exact le_same _ | exact le_enc | exact le_nil | exact le_imm (.inl rfl) | exact le_imm (.inr rfl) | (refine le_agg ?_) | apply And.intro | (refine le_eq ?_; simp only [*]; done)))))
      exact tk2
      simp -implicitDefEqProofs only [av, reduceCtorEq, ↓reduceIte, sevalprocAttr])
   | (first | refine kn6 ⟨_, h, ?_⟩ | refine kn5 ⟨_, h, ?_⟩
      try simp -implicitDefEqProofs only [pats, av, reduceCtorEq, ↓reduceIte, sevalprocAttr]
      (first
         | (refine wk_m 0 _ rfl ?_ rfl rfl ?_ ?_ ?_ ?_
            iterate 3 exact tk3
            all_goals (repeat' (first | exact trivial | apply And.intro))
            all_goals exact tk1)))
   | (first | refine kn6 ⟨_, h, ?_⟩ | refine kn5 ⟨_, h, ?_⟩
      try simp -implicitDefEqProofs only [*, pats, av, reduceCtorEq, ↓reduceIte, sevalprocAttr]
      (first
         | (refine wk_m 0 _ rfl ?_ rfl rfl ?_ ?_ ?_ ?_
            iterate 3 exact tk3
            all_goals (repeat' (first | exact trivial | apply And.intro))
            all_goals exact tk1)))
   | (cases h
      try simp -implicitDefEqProofs only [av, reduceCtorEq, ↓reduceIte, sevalprocAttr]
      first | refine retLt tk5 (by rfl) ?_ | refine retL1 tk5 (by rfl) ?_
      repeat' (first | exact trivial | apply And.intro)
      all_goals exact tk0)
   | fail)
theorem a_conf_saneSides {a0 : Conf} {r : Bool} (h : m_conf_saneSides a0 = some r) : ACt Tryz.prog 67 [Enc.enc a0] (Enc.enc r) [] := by
 refine act_of p_conf_saneSides (by simp [c_conf_saneSides]) ?_
 show AW _ b_conf_saneSides (RetOk [.tmp 2] _ _) { n := 53, tm := [(0, _)], box := [], fr := [] }
 unfold b_conf_saneSides
 unfold m_conf_saneSides at h
 try simp -implicitDefEqProofs only [av, reduceCtorEq, ↓reduceIte, sevalprocAttr] at h
 repeat' (first
   | (refine (hκ _).mpr ?_; clear hκ)
   | refine kn1 ?_
   | refine kr1 ?_
   | refine ke1 ?_
   | refine kn2 ?_
   | refine kr2 ?_
   | refine kx2 ?_
   | refine ke2 rfl ?_
   | refine kr5 ?_
   | refine ke5 ?_
   | refine kr6 ?_
   | refine ke6 ?_
   | (refine w_loopm [1, 10, 11] (fun (j : (Int)) => [(12, (.int .i64 j))]) (fun (j : (Int)) => []) (fun (j : (Int)) => []) (fun (j : (Int)) => []) (show loopC (s_conf_saneSides1 _) _ BIG _ = some _ from h) ?_ ?_
      · try simp -implicitDefEqProofs only [pats, av, reduceCtorEq, ↓reduceIte, sevalprocAttr]
        (first
         | (refine wk_m 0 _ rfl ?_ rfl rfl ?_ ?_ ?_ ?_
            iterate 3 exact tk3
            all_goals (repeat' (first | exact trivial | apply And.intro))
            all_goals exact tk1))
      clear h
      intro n st h
      simp -implicitDefEqProofs only [s_conf_saneSides1.eq_1, pats, av, reduceCtorEq, ↓reduceIte, sevalprocAttr] at h ⊢)
   | refine w_seq ?_
   | refine w_block ?_
   | refine w_scope ?_
   | refine kn7 ?_
   | refine kr7 ?_
   | refine ke7 ?_
   | (refine aw_regk fun κ hκ => ?_; simp -implicitDefEqProofs only [av, reduceCtorEq, ↓reduceIte, sevalprocAttr])
   | refine aw_exit ?_
   | refine aw_ret ?_
   | refine aw_skip ?_
   | refine aw_label ?_
   | refine condc_t ?_
   | refine condc_f ?_
   | (refine aw_cond2 tk4 ?_)
   | ((first | refine gkc_fork ?_ ?_ | refine pkc_fork ?_ ?_ | refine condc_fork ?_ ?_) <;> intro hq <;> (first | contradiction | simp -implicitDefEqProofs only [eq_false hq, Decidable.not_not, av, reduceCtorEq, ↓reduceIte, sevalprocAttr] at h ⊢ | simp -implicitDefEqProofs only [eq_true hq, av, reduceCtorEq, ↓reduceIte, sevalprocAttr] at h ⊢))
   | ((first | refine gkc_split ?_ ?_ | refine pkc_split ?_ ?_ | refine condc_bool ?_ ?_) <;> intro hq <;> (first | exact bcontra (by assumption) hq | exact bcontra hq (by assumption) | simp -implicitDefEqProofs only [hq, av, reduceCtorEq, ↓reduceIte, sevalprocAttr] at h ⊢))
   | (refine stc_plain rfl ?_; simp -implicitDefEqProofs only [putCells.eq_1, av, reduceCtorEq, ↓reduceIte, sevalprocAttr])
   | (refine bd_go h fun y hy h => ?_; refine ixc hy ?_; simp -implicitDefEqProofs only [av, reduceCtorEq, ↓reduceIte, sevalprocAttr])
   | (refine bd_go h fun y hy h => ?_; (first | refine slc_max hy rfl (.inl rfl) asn_none ?_ | refine slc_max hy rfl (.inl rfl) (asn_some (by first | decide | omega)) ?_ | refine slc11 hy rfl (.inl rfl) ?_ | refine slc01 hy rfl (.inl rfl) ?_ | refine slc10 hy rfl (.inl rfl) ?_ | refine slc00 hy rfl (.inl rfl) ?_ | refine slc11 hy rfl (.inr rfl) ?_ | refine slc01 hy rfl (.inr rfl) ?_ | refine slc10 hy rfl (.inr rfl) ?_ | refine slc00 hy rfl (.inr rfl) ?_); simp -implicitDefEqProofs only [av, reduceCtorEq, ↓reduceIte, sevalprocAttr])
   | (refine bd_go h fun y hy h => ?_
      first | refine callsc (a_conf_saneNumber hy) ?_ ?_ | refine callc (a_conf_saneNumber hy) ?_ ?_ | ((first | refine callsc (act_le (a_conf_saneNumber hy) ?_) ?_ ?_ | refine callc (act_le (a_conf_saneNumber hy) ?_) ?_ ?_); (focus (repeat' (first | exact trivial | exact le_same _ | exact le_enc | exact le_nil | exact le_imm (.inl rfl) | exact le_imm (.inr rfl) | (refine le_agg ?_) | apply And.intro | (refine le_eq ?_; simp only [*]; done)))))
      exact tk2
      simp -implicitDefEqProofs only [av, reduceCtorEq, ↓reduceIte, sevalprocAttr])
   | (refine bd_go h fun y hy h => ?_
      first | refine callsc (a_conf_taken hy) ?_ ?_ | refine callc (a_conf_taken hy) ?_ ?_ | ((first | refine callsc (act_le (a_conf_taken hy) ?_) ?_ ?_ | refine callc (act_le (a_conf_taken hy) ?_) ?_ ?_); (focus (repeat' (first | exact trivial | exact le_same _ | exact le_enc | exact le_nil | exact le_imm (.inl rfl) | exact le_imm (.inr rfl) | (refine le_agg ?_) | apply And.intro | (refine le_eq ?_; simp only [*]; done)))))
      exact tk2
      simp -implicitDefEqProofs only [av, reduceCtorEq, ↓reduceIte, sevalprocAttr])
   | (refine bd_go h fun y hy h => ?_
      first | refine callsc (a_conf_saneRules hy) ?_ ?_ | refine callc (a_conf_saneRules hy) ?_ ?_ | ((first | refine callsc (act_le (a_conf_saneRules hy) ?_) ?_ ?_ | refine callc (act_le (a_conf_saneRules hy) ?_) ?_ ?_); (focus (repeat' (first | exact trivial | exact le_same _ | exact le_enc | exact le_nil | exact le_imm (.inl rfl) | exact le_imm (.inr rfl) | (refine le_agg ?_) | apply And.intro | (refine le_eq ?_; simp only [*]; done)))))
      exact tk2
      simp -implicitDefEqProofs only [av, reduceCtorEq, ↓reduceIte, sevalprocAttr])
   | (first | refine kn6 ⟨_, h, ?_⟩ | refine kn5 ⟨_, h, ?_⟩
      try simp -implicitDefEqProofs only [pats, av, reduceCtorEq, ↓reduceIte, sevalprocAttr]
      (first
         | (refine wk_m 0 _ rfl ?_ rfl rfl ?_ ?_ ?_ ?_
            iterate 3 exact tk3
            all_goals (repeat' (first | exact trivial | apply And.intro))
            all_goals exact tk1)))
   | (first | refine kn6 ⟨_, h, ?_⟩ | refine kn5 ⟨_, h, ?_⟩
      try simp -implicitDefEqProofs only [*, pats, av, reduceCtorEq, ↓reduceIte, sevalprocAttr]
      (first
         | (refine wk_m 0 _ rfl ?_ rfl rfl ?_ ?_ ?_ ?_
            iterate 3 exact tk3
            all_goals (repeat' (first | exact trivial | apply And.intro))
            all_goals exact tk1)))
   | (cases h
      try simp -implicitDefEqProofs only [av, reduceCtorEq, ↓reduceIte, sevalprocAttr]
      first | refine retLt tk5 (by rfl) ?_ | refine retL1 tk5 (by rfl) ?_
      repeat' (first | exact trivial | apply And.intro)
      all_goals exact tk0)
   | fail)
theorem a_conf_Sane {a0 : Conf} {r : Bool} (h : m_conf_Sane a0 = some r) : ACt Tryz.prog 41 [Enc.enc a0] (Enc.enc r) [] := by
 refine act_of p_conf_Sane (by simp [c_conf_Sane]) ?_
 show AW _ b_conf_Sane (RetOk [.tmp 2] _ _) { n := 30, tm := [(0, _)], box := [], fr := [] }
 unfold b_conf_Sane
 unfold m_conf_Sane at h
 try simp -implicitDefEqProofs only [av, reduceCtorEq, ↓reduceIte, sevalprocAttr] at h
 repeat' (first
   | (refine (hκ _).mpr ?_; clear hκ)
   | refine kn1 ?_
   | refine kr1 ?_
   | refine ke1 ?_
   | refine kn2 ?_
   | refine kr2 ?_
   | refine kx2 ?_
   | refine ke2 rfl ?_
   | refine kr5 ?_
   | refine ke5 ?_
   | refine kr6 ?_
   | refine ke6 ?_
   | refine w_seq ?_
   | refine w_block ?_
   | refine w_scope ?_
   | refine kn7 ?_
   | refine kr7 ?_
   | refine ke7 ?_
   | (refine aw_regk fun κ hκ => ?_; simp -implicitDefEqProofs only [av, reduceCtorEq, ↓reduceIte, sevalprocAttr])
   | refine aw_exit ?_
   | refine aw_ret ?_
   | refine aw_skip ?_
   | refine aw_label ?_
   | refine condc_t ?_
   | refine condc_f ?_
   | (refine aw_cond2 tk4 ?_)
   | ((first | refine gkc_fork ?_ ?_ | refine pkc_fork ?_ ?_ | refine condc_fork ?_ ?_) <;> intro hq <;> (first | contradiction | simp -implicitDefEqProofs only [eq_false hq, Decidable.not_not, av, reduceCtorEq, ↓reduceIte, sevalprocAttr] at h ⊢ | simp -implicitDefEqProofs only [eq_true hq, av, reduceCtorEq, ↓reduceIte, sevalprocAttr] at h ⊢))
   | ((first | refine gkc_split ?_ ?_ | refine pkc_split ?_ ?_ | refine condc_bool ?_ ?_) <;> intro hq <;> (first | exact bcontra (by assumption) hq | exact bcontra hq (by assumption) | simp -implicitDefEqProofs only [hq, av, reduceCtorEq, ↓reduceIte, sevalprocAttr] at h ⊢))
   | (refine bd_go h fun y hy h => ?_
      first | refine callsc (a_conf_saneNumber hy) ?_ ?_ | refine callc (a_conf_saneNumber hy) ?_ ?_ | ((first | refine callsc (act_le (a_conf_saneNumber hy) ?_) ?_ ?_ | refine callc (act_le (a_conf_saneNumber hy) ?_) ?_ ?_); (focus (repeat' (first | exact trivial | exact le_same _ | exact le_enc | exact le_nil | exact le_imm (.inl rfl) | exact le_imm (.inr rfl) | (refine le_agg ?_) | apply And.intro | (refine le_eq ?_; simp only [*]; done)))))
      exact tk2
      simp -implicitDefEqProofs only [av, reduceCtorEq, ↓reduceIte, sevalprocAttr])
   | (refine bd_go h fun y hy h => ?_
      first | refine callsc (a_conf_saneHold hy) ?_ ?_ | refine callc (a_conf_saneHold hy) ?_ ?_ | ((first | refine callsc (act_le (a_conf_saneHold hy) ?_) ?_ ?_ | refine callc (act_le (a_conf_saneHold hy) ?_) ?_ ?_); (focus (repeat' (first | exact trivial | exact le_same _ | exact le_enc | exact le_nil | exact le_imm (.inl rfl) | exact le_imm (.inr rfl) | (refine le_agg ?_) | apply And.intro | (refine le_eq ?_; simp only [*]; done)))))
      exact tk2
      simp -implicitDefEqProofs only [av, reduceCtorEq, ↓reduceIte, sevalprocAttr])
   | (refine bd_go h fun y hy h => ?_
      first | refine callsc (a_conf_saneCap hy) ?_ ?_ | refine callc (a_conf_saneCap hy) ?_ ?_ | ((first | refine callsc (act_le (a_conf_saneCap hy) ?_) ?_ ?_ | refine callc (act_le (a_conf_saneCap hy) ?_) ?_ ?_); (focus (repeat' (first | exact trivial | exact le_same _ | exact le_enc | exact le_nil | exact le_imm (.inl rfl) | exact le_imm (.inr rfl) | (refine le_agg ?_) | apply And.intro | (refine le_eq ?_; simp only [*]; done)))))
      exact tk2
      simp -implicitDefEqProofs only [av, reduceCtorEq, ↓reduceIte, sevalprocAttr])
   | (refine bd_go h fun y hy h => ?_
      first | refine callsc (a_conf_saneOwn hy) ?_ ?_ | refine callc (a_conf_saneOwn hy) ?_ ?_ | ((first | refine callsc (act_le (a_conf_saneOwn hy) ?_) ?_ ?_ | refine callc (act_le (a_conf_saneOwn hy) ?_) ?_ ?_); (focus (repeat' (first | exact trivial | exact le_same _ | exact le_enc | exact le_nil | exact le_imm (.inl rfl) | exact le_imm (.inr rfl) | (refine le_agg ?_) | apply And.intro | (refine le_eq ?_; simp only [*]; done)))))
      exact tk2
      simp -implicitDefEqProofs only [av, reduceCtorEq, ↓reduceIte, sevalprocAttr])
   | (refine bd_go h fun y hy h => ?_
      first | refine callsc (a_conf_saneSides hy) ?_ ?_ | refine callc (a_conf_saneSides hy) ?_ ?_ | ((first | refine callsc (act_le (a_conf_saneSides hy) ?_) ?_ ?_ | refine callc (act_le (a_conf_saneSides hy) ?_) ?_ ?_); (focus (repeat' (first | exact trivial | exact le_same _ | exact le_enc | exact le_nil | exact le_imm (.inl rfl) | exact le_imm (.inr rfl) | (refine le_agg ?_) | apply And.intro | (refine le_eq ?_; simp only [*]; done)))))
      exact tk2
      simp -implicitDefEqProofs only [av, reduceCtorEq, ↓reduceIte, sevalprocAttr])
   | (cases h
      try simp -implicitDefEqProofs only [av, reduceCtorEq, ↓reduceIte, sevalprocAttr]
      first | refine retLt tk5 (by rfl) ?_ | refine retL1 tk5 (by rfl) ?_
      repeat' (first | exact trivial | apply And.intro)
      all_goals exact tk0)
   | fail)
theorem a_session_there {a0 : Conf} {a1 : Int} {r : Bool} (h : m_session_there a0 a1 = some r) : ACt Tryz.prog 23 [Enc.enc a0, Enc.enc a1] (Enc.enc r) [] := by
 refine act_of p_session_there (by simp [c_session_there]) ?_
 show AW _ b_session_there (RetOk [.tmp 4] _ _) { n := 18, tm := [(0, _), (1, _)], box := [], fr := [] }
 unfold b_session_there
 unfold m_session_there at h
 try simp -implicitDefEqProofs only [av, reduceCtorEq, ↓reduceIte, sevalprocAttr] at h
 repeat' (first
   | (refine (hκ _).mpr ?_; clear hκ)
   | refine kn1 ?_
   | refine kr1 ?_
   | refine ke1 ?_
   | refine kn2 ?_
   | refine kr2 ?_
   | refine kx2 ?_
   | refine ke2 rfl ?_
   | refine kr5 ?_
   | refine ke5 ?_
   | refine kr6 ?_
   | refine ke6 ?_
   | refine w_seq ?_
   | refine w_block ?_
   | refine w_scope ?_
   | refine kn7 ?_
   | refine kr7 ?_
   | refine ke7 ?_
   | (refine aw_regk fun κ hκ => ?_; simp -implicitDefEqProofs only [av, reduceCtorEq, ↓reduceIte, sevalprocAttr])
   | refine aw_exit ?_
   | refine aw_ret ?_
   | refine aw_skip ?_
   | refine aw_label ?_
   | refine condc_t ?_
   | refine condc_f ?_
   | (refine aw_cond2 tk4 ?_)
   | ((first | refine gkc_fork ?_ ?_ | refine pkc_fork ?_ ?_ | refine condc_fork ?_ ?_) <;> intro hq <;> (first | contradiction | simp -implicitDefEqProofs only [eq_false hq, Decidable.not_not, av, reduceCtorEq, ↓reduceIte, sevalprocAttr] at h ⊢ | simp -implicitDefEqProofs only [eq_true hq, av, reduceCtorEq, ↓reduceIte, sevalprocAttr] at h ⊢))
   | ((first | refine gkc_split ?_ ?_ | refine pkc_split ?_ ?_ | refine condc_bool ?_ ?_) <;> intro hq <;> (first | exact bcontra (by assumption) hq | exact bcontra hq (by assumption) | simp -implicitDefEqProofs only [hq, av, reduceCtorEq, ↓reduceIte, sevalprocAttr] at h ⊢))
   | (refine bd_go h fun y hy h => ?_
      first | refine callsc (a_conf_Sane hy) ?_ ?_ | refine callc (a_conf_Sane hy) ?_ ?_ | ((first | refine callsc (act_le (a_conf_Sane hy) ?_) ?_ ?_ | refine callc (act_le (a_conf_Sane hy) ?_) ?_ ?_); (focus (repeat' (first | exact trivial | exact le_same _ | exact le_enc | exact le_nil | exact le_imm (.inl rfl) | exact le_imm (.inr rfl) | (refine le_agg ?_) | apply And.intro | (refine le_eq ?_; simp only [*]; done)))))
      exact tk2
      simp -implicitDefEqProofs only [av, reduceCtorEq, ↓reduceIte, sevalprocAttr])
   | (cases h
      try simp -implicitDefEqProofs only [av, reduceCtorEq, ↓reduceIte, sevalprocAttr]
      first | refine retLt tk5 (by rfl) ?_ | refine retL1 tk5 (by rfl) ?_
      repeat' (first | exact trivial | apply And.intro)
      all_goals exact tk0)
   | fail)
theorem a_role_Mine {a0 : Int} {r : Int} (h : m_role_Mine a0 = some r) : ACt Tryz.prog 38 [Enc.enc a0] (Enc.enc r) [] := by
 refine act_of p_role_Mine (by simp [c_role_Mine]) ?_
 show AW _ b_role_Mine (RetOk [.tmp 2] _ _) { n := 10, tm := [(0, _)], box := [], fr := [] }
 unfold b_role_Mine
 unfold m_role_Mine at h
 try simp -implicitDefEqProofs only [av, reduceCtorEq, ↓reduceIte, sevalprocAttr] at h
 repeat' (first
   | (refine (hκ _).mpr ?_; clear hκ)
   | refine kn1 ?_
   | refine kr1 ?_
   | refine ke1 ?_
   | refine kn2 ?_
   | refine kr2 ?_
   | refine kx2 ?_
   | refine ke2 rfl ?_
   | refine kr5 ?_
   | refine ke5 ?_
   | refine kr6 ?_
   | refine ke6 ?_
   | refine w_seq ?_
   | refine w_block ?_
   | refine w_scope ?_
   | refine kn7 ?_
   | refine kr7 ?_
   | refine ke7 ?_
   | (refine aw_regk fun κ hκ => ?_; simp -implicitDefEqProofs only [av, reduceCtorEq, ↓reduceIte, sevalprocAttr])
   | refine aw_exit ?_
   | refine aw_ret ?_
   | refine aw_skip ?_
   | refine aw_label ?_
   | refine condc_t ?_
   | refine condc_f ?_
   | (refine aw_cond2 tk4 ?_)
   | ((first | refine gkc_fork ?_ ?_ | refine pkc_fork ?_ ?_ | refine condc_fork ?_ ?_) <;> intro hq <;> (first | contradiction | simp -implicitDefEqProofs only [eq_false hq, Decidable.not_not, av, reduceCtorEq, ↓reduceIte, sevalprocAttr] at h ⊢ | simp -implicitDefEqProofs only [eq_true hq, av, reduceCtorEq, ↓reduceIte, sevalprocAttr] at h ⊢))
   | ((first | refine gkc_split ?_ ?_ | refine pkc_split ?_ ?_ | refine condc_bool ?_ ?_) <;> intro hq <;> (first | exact bcontra (by assumption) hq | exact bcontra hq (by assumption) | simp -implicitDefEqProofs only [hq, av, reduceCtorEq, ↓reduceIte, sevalprocAttr] at h ⊢))
   | (cases h
      try simp -implicitDefEqProofs only [av, reduceCtorEq, ↓reduceIte, sevalprocAttr]
      first | refine retLt tk5 (by rfl) ?_ | refine retL1 tk5 (by rfl) ?_
      repeat' (first | exact trivial | apply And.intro)
      all_goals exact tk0)
   | fail)
theorem a_session_Hello {a0 : Conf} {a1 : Int} {r : Hello} (h : m_session_Hello a0 a1 = some r) : ACt Tryz.prog 17 [Enc.enc a0, Enc.enc a1] (Enc.enc r) [] := by
 refine act_of p_session_Hello (by simp [c_session_Hello]) ?_
 show AW _ b_session_Hello (RetOk [.cell 4 (some 4)] _ _) { n := 24, tm := [(0, _), (1, _)], box := [], fr := [] }
 unfold b_session_Hello
 unfold m_session_Hello at h
 try simp -implicitDefEqProofs only [av, reduceCtorEq, ↓reduceIte, sevalprocAttr] at h
 repeat' (first
   | (refine (hκ _).mpr ?_; clear hκ)
   | refine kn1 ?_
   | refine kr1 ?_
   | refine ke1 ?_
   | refine kn2 ?_
   | refine kr2 ?_
   | refine kx2 ?_
   | refine ke2 rfl ?_
   | refine kr5 ?_
   | refine ke5 ?_
   | refine kr6 ?_
   | refine ke6 ?_
   | refine w_seq ?_
   | refine w_block ?_
   | refine w_scope ?_
   | refine kn7 ?_
   | refine kr7 ?_
   | refine ke7 ?_
   | (refine aw_regk fun κ hκ => ?_; simp -implicitDefEqProofs only [av, reduceCtorEq, ↓reduceIte, sevalprocAttr])
   | refine aw_exit ?_
   | refine aw_ret ?_
   | refine aw_skip ?_
   | refine aw_label ?_
   | refine condc_t ?_
   | refine condc_f ?_
   | (refine aw_cond2 tk4 ?_)
   | ((first | refine gkc_fork ?_ ?_ | refine pkc_fork ?_ ?_ | refine condc_fork ?_ ?_) <;> intro hq <;> (first | contradiction | simp -implicitDefEqProofs only [eq_false hq, Decidable.not_not, av, reduceCtorEq, ↓reduceIte, sevalprocAttr] at h ⊢ | simp -implicitDefEqProofs only [eq_true hq, av, reduceCtorEq, ↓reduceIte, sevalprocAttr] at h ⊢))
   | ((first | refine gkc_split ?_ ?_ | refine pkc_split ?_ ?_ | refine condc_bool ?_ ?_) <;> intro hq <;> (first | exact bcontra (by assumption) hq | exact bcontra hq (by assumption) | simp -implicitDefEqProofs only [hq, av, reduceCtorEq, ↓reduceIte, sevalprocAttr] at h ⊢))
   | (refine stc_plain rfl ?_; simp -implicitDefEqProofs only [putCells.eq_1, av, reduceCtorEq, ↓reduceIte, sevalprocAttr])
   | (refine bd_go h fun y hy h => ?_; refine ixc hy ?_; simp -implicitDefEqProofs only [av, reduceCtorEq, ↓reduceIte, sevalprocAttr])
   | (refine bd_go h fun y hy h => ?_
      first | refine callsc (a_session_there hy) ?_ ?_ | refine callc (a_session_there hy) ?_ ?_ | ((first | refine callsc (act_le (a_session_there hy) ?_) ?_ ?_ | refine callc (act_le (a_session_there hy) ?_) ?_ ?_); (focus (repeat' (first | exact trivial | exact le_same _ | exact le_enc | exact le_nil | exact le_imm (.inl rfl) | exact le_imm (.inr rfl) | (refine le_agg ?_) | apply And.intro | (refine le_eq ?_; simp only [*]; done)))))
      exact tk2
      simp -implicitDefEqProofs only [av, reduceCtorEq, ↓reduceIte, sevalprocAttr])
   | (refine bd_go h fun y hy h => ?_
      first | refine callsc (a_role_Mine hy) ?_ ?_ | refine callc (a_role_Mine hy) ?_ ?_ | ((first | refine callsc (act_le (a_role_Mine hy) ?_) ?_ ?_ | refine callc (act_le (a_role_Mine hy) ?_) ?_ ?_); (focus (repeat' (first | exact trivial | exact le_same _ | exact le_enc | exact le_nil | exact le_imm (.inl rfl) | exact le_imm (.inr rfl) | (refine le_agg ?_) | apply And.intro | (refine le_eq ?_; simp only [*]; done)))))
      exact tk2
      simp -implicitDefEqProofs only [av, reduceCtorEq, ↓reduceIte, sevalprocAttr])
   | (cases h
      try simp -implicitDefEqProofs only [av, reduceCtorEq, ↓reduceIte, sevalprocAttr]
      first | refine retLt tk5 (by rfl) ?_ | refine retL1 tk5 (by rfl) ?_
      repeat' (first | exact trivial | apply And.intro)
      all_goals exact tk0)
   | fail)
theorem a_session_third {a0 : Int} {r : Int} (h : m_session_third a0 = some r) : ACt Tryz.prog 37 [Enc.enc a0] (Enc.enc r) [] := by
 refine act_of p_session_third (by simp [c_session_third]) ?_
 show AW _ b_session_third (RetOk [.tmp 2] _ _) { n := 5, tm := [(0, _)], box := [], fr := [] }
 unfold b_session_third
 unfold m_session_third at h
 try simp -implicitDefEqProofs only [av, reduceCtorEq, ↓reduceIte, sevalprocAttr] at h
 repeat' (first
   | (refine (hκ _).mpr ?_; clear hκ)
   | refine kn1 ?_
   | refine kr1 ?_
   | refine ke1 ?_
   | refine kn2 ?_
   | refine kr2 ?_
   | refine kx2 ?_
   | refine ke2 rfl ?_
   | refine kr5 ?_
   | refine ke5 ?_
   | refine kr6 ?_
   | refine ke6 ?_
   | refine w_seq ?_
   | refine w_block ?_
   | refine w_scope ?_
   | refine kn7 ?_
   | refine kr7 ?_
   | refine ke7 ?_
   | (refine aw_regk fun κ hκ => ?_; simp -implicitDefEqProofs only [av, reduceCtorEq, ↓reduceIte, sevalprocAttr])
   | refine aw_exit ?_
   | refine aw_ret ?_
   | refine aw_skip ?_
   | refine aw_label ?_
   | refine condc_t ?_
   | refine condc_f ?_
   | (refine aw_cond2 tk4 ?_)
   | (cases h
      try simp -implicitDefEqProofs only [av, reduceCtorEq, ↓reduceIte, sevalprocAttr]
      first | refine retLt tk5 (by rfl) ?_ | refine retL1 tk5 (by rfl) ?_
      repeat' (first | exact trivial | apply And.intro)
      all_goals exact tk0)
   | fail)
theorem a_session_Sane {a0 : Sess} {r : Bool} (h : m_session_Sane a0 = some r) : ACt Tryz.prog 15 [Enc.enc a0] (Enc.enc r) [] := by
 refine act_of p_session_Sane (by simp [c_session_Sane]) ?_
 show AW _ b_session_Sane (RetOk [.tmp 2] _ _) { n := 77, tm := [(0, _)], box := [], fr := [] }
 unfold b_session_Sane
 unfold m_session_Sane at h
 try simp -implicitDefEqProofs only [av, reduceCtorEq, ↓reduceIte, sevalprocAttr] at h
 repeat' (first
   | (refine (hκ _).mpr ?_; clear hκ)
   | refine kn1 ?_
   | refine kr1 ?_
   | refine ke1 ?_
   | refine kn2 ?_
   | refine kr2 ?_
   | refine kx2 ?_
   | refine ke2 rfl ?_
   | refine kr5 ?_
   | refine ke5 ?_
   | refine kr6 ?_
   | refine ke6 ?_
   | (refine w_cutm (x := (.seq (.reg _) (.cond (.tmp 30) _ _))) [1] (fun (j : (Bool)) => [(30, (.bool j))]) (fun (j : (Bool)) => []) (fun (j : (Bool)) => []) (fun (j : (Bool)) => []) (show jn 1 _ _ = some _ from h) ?_ ?_
      rotate_left
      intro j h
      simp -implicitDefEqProofs only [pats, av, reduceCtorEq, ↓reduceIte, sevalprocAttr] at h ⊢
      rotate_left
      intro k' h
      try simp -implicitDefEqProofs only [av, reduceCtorEq, ↓reduceIte, sevalprocAttr] at h)
   | refine w_seq ?_
   | refine w_block ?_
   | refine w_scope ?_
   | refine kn7 ?_
   | refine kr7 ?_
   | refine ke7 ?_
   | (refine aw_regk fun κ hκ => ?_; simp -implicitDefEqProofs only [av, reduceCtorEq, ↓reduceIte, sevalprocAttr])
   | refine aw_exit ?_
   | refine aw_ret ?_
   | refine aw_skip ?_
   | refine aw_label ?_
   | refine condc_t ?_
   | refine condc_f ?_
   | (refine aw_cond2 tk4 ?_)
   | ((first | refine gkc_fork ?_ ?_ | refine pkc_fork ?_ ?_ | refine condc_fork ?_ ?_) <;> intro hq <;> (first | contradiction | simp -implicitDefEqProofs only [eq_false hq, Decidable.not_not, av, reduceCtorEq, ↓reduceIte, sevalprocAttr] at h ⊢ | simp -implicitDefEqProofs only [eq_true hq, av, reduceCtorEq, ↓reduceIte, sevalprocAttr] at h ⊢))
   | ((first | refine gkc_split ?_ ?_ | refine pkc_split ?_ ?_ | refine condc_bool ?_ ?_) <;> intro hq <;> (first | exact bcontra (by assumption) hq | exact bcontra hq (by assumption) | simp -implicitDefEqProofs only [hq, av, reduceCtorEq, ↓reduceIte, sevalprocAttr] at h ⊢))
   | (refine bd_go h fun y hy h => ?_
      first | refine callsc (a_session_third hy) ?_ ?_ | refine callc (a_session_third hy) ?_ ?_ | ((first | refine callsc (act_le (a_session_third hy) ?_) ?_ ?_ | refine callc (act_le (a_session_third hy) ?_) ?_ ?_); (focus (repeat' (first | exact trivial | exact le_same _ | exact le_enc | exact le_nil | exact le_imm (.inl rfl) | exact le_imm (.inr rfl) | (refine le_agg ?_) | apply And.intro | (refine le_eq ?_; simp only [*]; done)))))
      exact tk2
      simp -implicitDefEqProofs only [av, reduceCtorEq, ↓reduceIte, sevalprocAttr])
   | (first | refine kn6 ⟨_, h, ?_⟩ | refine kn5 ⟨_, h, ?_⟩
      try simp -implicitDefEqProofs only [pats, av, reduceCtorEq, ↓reduceIte, sevalprocAttr]
      (first
         | (refine wk_m 0 _ rfl ?_ rfl rfl ?_ ?_ ?_ ?_
            iterate 3 exact tk3
            all_goals (repeat' (first | exact trivial | apply And.intro))
            all_goals exact tk1)))
   | (first | refine kn6 ⟨_, h, ?_⟩ | refine kn5 ⟨_, h, ?_⟩
      try simp -implicitDefEqProofs only [*, pats, av, reduceCtorEq, ↓reduceIte, sevalprocAttr]
      (first
         | (refine wk_m 0 _ rfl ?_ rfl rfl ?_ ?_ ?_ ?_
            iterate 3 exact tk3
            all_goals (repeat' (first | exact trivial | apply And.intro))
            all_goals exact tk1)))
   | (cases h
      try simp -implicitDefEqProofs only [av, reduceCtorEq, ↓reduceIte, sevalprocAttr]
      first | refine retLt tk5 (by rfl) ?_ | refine retL1 tk5 (by rfl) ?_
      repeat' (first | exact trivial | apply And.intro)
      all_goals exact tk0)
   | (cases h
      simp -implicitDefEqProofs only [*, Bool.true_and, Bool.false_and, Bool.and_true, av, reduceCtorEq, ↓reduceIte, sevalprocAttr]
      first | refine retLt tk5 (by rfl) ?_ | refine retL1 tk5 (by rfl) ?_
      repeat' (first | exact trivial | apply And.intro)
      all_goals exact tk0)
   | fail)
theorem a_session_sane {a0 : Sess} {r : Sess} (h : m_session_sane a0 = some r) : ACt Tryz.prog 22 [Enc.enc a0] (Enc.enc r) [] := by
 refine act_of p_session_sane (by simp [c_session_sane]) ?_
 show AW _ b_session_sane (RetOk [.cell 2 (some 4)] _ _) { n := 8, tm := [(0, _)], box := [], fr := [] }
 unfold b_session_sane
 unfold m_session_sane at h
 try simp -implicitDefEqProofs only [av, reduceCtorEq, ↓reduceIte, sevalprocAttr] at h
 repeat' (first
   | (refine (hκ _).mpr ?_; clear hκ)
   | refine kn1 ?_
   | refine kr1 ?_
   | refine ke1 ?_
   | refine kn2 ?_
   | refine kr2 ?_
   | refine kx2 ?_
   | refine ke2 rfl ?_
   | refine kr5 ?_
   | refine ke5 ?_
   | refine kr6 ?_
   | refine ke6 ?_
   | refine w_seq ?_
   | refine w_block ?_
   | refine w_scope ?_
   | refine kn7 ?_
   | refine kr7 ?_
   | refine ke7 ?_
   | (refine aw_regk fun κ hκ => ?_; simp -implicitDefEqProofs only [av, reduceCtorEq, ↓reduceIte, sevalprocAttr])
   | refine aw_exit ?_
   | refine aw_ret ?_
   | refine aw_skip ?_
   | refine aw_label ?_
   | refine condc_t ?_
   | refine condc_f ?_
   | (refine aw_cond2 tk4 ?_)
   | ((first | refine gkc_fork ?_ ?_ | refine pkc_fork ?_ ?_ | refine condc_fork ?_ ?_) <;> intro hq <;> (first | contradiction | simp -implicitDefEqProofs only [eq_false hq, Decidable.not_not, av, reduceCtorEq, ↓reduceIte, sevalprocAttr] at h ⊢ | simp -implicitDefEqProofs only [eq_true hq, av, reduceCtorEq, ↓reduceIte, sevalprocAttr] at h ⊢))
   | ((first | refine gkc_split ?_ ?_ | refine pkc_split ?_ ?_ | refine condc_bool ?_ ?_) <;> intro hq <;> (first | exact bcontra (by assumption) hq | exact bcontra hq (by assumption) | simp -implicitDefEqProofs only [hq, av, reduceCtorEq, ↓reduceIte, sevalprocAttr] at h ⊢))
   | (refine stc_plain rfl ?_; simp -implicitDefEqProofs only [putCells.eq_1, av, reduceCtorEq, ↓reduceIte, sevalprocAttr])
   | (refine bd_go h fun y hy h => ?_
      first | refine callsc (a_session_Sane hy) ?_ ?_ | refine callc (a_session_Sane hy) ?_ ?_ | ((first | refine callsc (act_le (a_session_Sane hy) ?_) ?_ ?_ | refine callc (act_le (a_session_Sane hy) ?_) ?_ ?_); (focus (repeat' (first | exact trivial | exact le_same _ | exact le_enc | exact le_nil | exact le_imm (.inl rfl) | exact le_imm (.inr rfl) | (refine le_agg ?_) | apply And.intro | (refine le_eq ?_; simp only [*]; done)))))
      exact tk2
      simp -implicitDefEqProofs only [av, reduceCtorEq, ↓reduceIte, sevalprocAttr])
   | (cases h
      try simp -implicitDefEqProofs only [av, reduceCtorEq, ↓reduceIte, sevalprocAttr]
      first | refine retLt tk5 (by rfl) ?_ | refine retL1 tk5 (by rfl) ?_
      repeat' (first | exact trivial | apply And.intro)
      all_goals exact tk0)
   | fail)
theorem a_open_number {a0 : Int} {r : Bool} (h : m_open_number a0 = some r) : ACt Tryz.prog 68 [Enc.enc a0] (Enc.enc r) [] := by
 refine act_of p_open_number (by simp [c_open_number]) ?_
 show AW _ b_open_number (RetOk [.tmp 2] _ _) { n := 9, tm := [(0, _)], box := [], fr := [] }
 unfold b_open_number
 unfold m_open_number at h
 try simp -implicitDefEqProofs only [av, reduceCtorEq, ↓reduceIte, sevalprocAttr] at h
 repeat' (first
   | (refine (hκ _).mpr ?_; clear hκ)
   | refine kn1 ?_
   | refine kr1 ?_
   | refine ke1 ?_
   | refine kn2 ?_
   | refine kr2 ?_
   | refine kx2 ?_
   | refine ke2 rfl ?_
   | refine kr5 ?_
   | refine ke5 ?_
   | refine kr6 ?_
   | refine ke6 ?_
   | refine w_seq ?_
   | refine w_block ?_
   | refine w_scope ?_
   | refine kn7 ?_
   | refine kr7 ?_
   | refine ke7 ?_
   | (refine aw_regk fun κ hκ => ?_; simp -implicitDefEqProofs only [av, reduceCtorEq, ↓reduceIte, sevalprocAttr])
   | refine aw_exit ?_
   | refine aw_ret ?_
   | refine aw_skip ?_
   | refine aw_label ?_
   | refine condc_t ?_
   | refine condc_f ?_
   | (refine aw_cond2 tk4 ?_)
   | ((first | refine gkc_fork ?_ ?_ | refine pkc_fork ?_ ?_ | refine condc_fork ?_ ?_) <;> intro hq <;> (first | contradiction | simp -implicitDefEqProofs only [eq_false hq, Decidable.not_not, av, reduceCtorEq, ↓reduceIte, sevalprocAttr] at h ⊢ | simp -implicitDefEqProofs only [eq_true hq, av, reduceCtorEq, ↓reduceIte, sevalprocAttr] at h ⊢))
   | ((first | refine gkc_split ?_ ?_ | refine pkc_split ?_ ?_ | refine condc_bool ?_ ?_) <;> intro hq <;> (first | exact bcontra (by assumption) hq | exact bcontra hq (by assumption) | simp -implicitDefEqProofs only [hq, av, reduceCtorEq, ↓reduceIte, sevalprocAttr] at h ⊢))
   | (cases h
      try simp -implicitDefEqProofs only [av, reduceCtorEq, ↓reduceIte, sevalprocAttr]
      first | refine retLt tk5 (by rfl) ?_ | refine retL1 tk5 (by rfl) ?_
      repeat' (first | exact trivial | apply And.intro)
      all_goals exact tk0)
   | fail)
theorem a_open_holds {a0 : Int} {r : Bool} (h : m_open_holds a0 = some r) : ACt Tryz.prog 69 [Enc.enc a0] (Enc.enc r) [] := by
 refine act_of p_open_holds (by simp [c_open_holds]) ?_
 show AW _ b_open_holds (RetOk [.tmp 2] _ _) { n := 13, tm := [(0, _)], box := [], fr := [] }
 unfold b_open_holds
 unfold m_open_holds at h
 try simp -implicitDefEqProofs only [av, reduceCtorEq, ↓reduceIte, sevalprocAttr] at h
 repeat' (first
   | (refine (hκ _).mpr ?_; clear hκ)
   | refine kn1 ?_
   | refine kr1 ?_
   | refine ke1 ?_
   | refine kn2 ?_
   | refine kr2 ?_
   | refine kx2 ?_
   | refine ke2 rfl ?_
   | refine kr5 ?_
   | refine ke5 ?_
   | refine kr6 ?_
   | refine ke6 ?_
   | refine w_seq ?_
   | refine w_block ?_
   | refine w_scope ?_
   | refine kn7 ?_
   | refine kr7 ?_
   | refine ke7 ?_
   | (refine aw_regk fun κ hκ => ?_; simp -implicitDefEqProofs only [av, reduceCtorEq, ↓reduceIte, sevalprocAttr])
   | refine aw_exit ?_
   | refine aw_ret ?_
   | refine aw_skip ?_
   | refine aw_label ?_
   | refine condc_t ?_
   | refine condc_f ?_
   | (refine aw_cond2 tk4 ?_)
   | ((first | refine gkc_fork ?_ ?_ | refine pkc_fork ?_ ?_ | refine condc_fork ?_ ?_) <;> intro hq <;> (first | contradiction | simp -implicitDefEqProofs only [eq_false hq, Decidable.not_not, av, reduceCtorEq, ↓reduceIte, sevalprocAttr] at h ⊢ | simp -implicitDefEqProofs only [eq_true hq, av, reduceCtorEq, ↓reduceIte, sevalprocAttr] at h ⊢))
   | ((first | refine gkc_split ?_ ?_ | refine pkc_split ?_ ?_ | refine condc_bool ?_ ?_) <;> intro hq <;> (first | exact bcontra (by assumption) hq | exact bcontra hq (by assumption) | simp -implicitDefEqProofs only [hq, av, reduceCtorEq, ↓reduceIte, sevalprocAttr] at h ⊢))
   | (cases h
      try simp -implicitDefEqProofs only [av, reduceCtorEq, ↓reduceIte, sevalprocAttr]
      first | refine retLt tk5 (by rfl) ?_ | refine retL1 tk5 (by rfl) ?_
      repeat' (first | exact trivial | apply And.intro)
      all_goals exact tk0)
   | fail)
theorem a_open_Sane {a0 : Hello} {r : Bool} (h : m_open_Sane a0 = some r) : ACt Tryz.prog 42 [Enc.enc a0] (Enc.enc r) [] := by
 refine act_of p_open_Sane (by simp [c_open_Sane]) ?_
 show AW _ b_open_Sane (RetOk [.tmp 2] _ _) { n := 26, tm := [(0, _)], box := [], fr := [] }
 unfold b_open_Sane
 unfold m_open_Sane at h
 try simp -implicitDefEqProofs only [av, reduceCtorEq, ↓reduceIte, sevalprocAttr] at h
 repeat' (first
   | (refine (hκ _).mpr ?_; clear hκ)
   | refine kn1 ?_
   | refine kr1 ?_
   | refine ke1 ?_
   | refine kn2 ?_
   | refine kr2 ?_
   | refine kx2 ?_
   | refine ke2 rfl ?_
   | refine kr5 ?_
   | refine ke5 ?_
   | refine kr6 ?_
   | refine ke6 ?_
   | refine w_seq ?_
   | refine w_block ?_
   | refine w_scope ?_
   | refine kn7 ?_
   | refine kr7 ?_
   | refine ke7 ?_
   | (refine aw_regk fun κ hκ => ?_; simp -implicitDefEqProofs only [av, reduceCtorEq, ↓reduceIte, sevalprocAttr])
   | refine aw_exit ?_
   | refine aw_ret ?_
   | refine aw_skip ?_
   | refine aw_label ?_
   | refine condc_t ?_
   | refine condc_f ?_
   | (refine aw_cond2 tk4 ?_)
   | ((first | refine gkc_fork ?_ ?_ | refine pkc_fork ?_ ?_ | refine condc_fork ?_ ?_) <;> intro hq <;> (first | contradiction | simp -implicitDefEqProofs only [eq_false hq, Decidable.not_not, av, reduceCtorEq, ↓reduceIte, sevalprocAttr] at h ⊢ | simp -implicitDefEqProofs only [eq_true hq, av, reduceCtorEq, ↓reduceIte, sevalprocAttr] at h ⊢))
   | ((first | refine gkc_split ?_ ?_ | refine pkc_split ?_ ?_ | refine condc_bool ?_ ?_) <;> intro hq <;> (first | exact bcontra (by assumption) hq | exact bcontra hq (by assumption) | simp -implicitDefEqProofs only [hq, av, reduceCtorEq, ↓reduceIte, sevalprocAttr] at h ⊢))
   | (refine bd_go h fun y hy h => ?_
      first | refine callsc (a_open_number hy) ?_ ?_ | refine callc (a_open_number hy) ?_ ?_ | ((first | refine callsc (act_le (a_open_number hy) ?_) ?_ ?_ | refine callc (act_le (a_open_number hy) ?_) ?_ ?_); (focus (repeat' (first | exact trivial | exact le_same _ | exact le_enc | exact le_nil | exact le_imm (.inl rfl) | exact le_imm (.inr rfl) | (refine le_agg ?_) | apply And.intro | (refine le_eq ?_; simp only [*]; done)))))
      exact tk2
      simp -implicitDefEqProofs only [av, reduceCtorEq, ↓reduceIte, sevalprocAttr])
   | (refine bd_go h fun y hy h => ?_
      first | refine callsc (a_open_holds hy) ?_ ?_ | refine callc (a_open_holds hy) ?_ ?_ | ((first | refine callsc (act_le (a_open_holds hy) ?_) ?_ ?_ | refine callc (act_le (a_open_holds hy) ?_) ?_ ?_); (focus (repeat' (first | exact trivial | exact le_same _ | exact le_enc | exact le_nil | exact le_imm (.inl rfl) | exact le_imm (.inr rfl) | (refine le_agg ?_) | apply And.intro | (refine le_eq ?_; simp only [*]; done)))))
      exact tk2
      simp -implicitDefEqProofs only [av, reduceCtorEq, ↓reduceIte, sevalprocAttr])
   | (cases h
      try simp -implicitDefEqProofs only [av, reduceCtorEq, ↓reduceIte, sevalprocAttr]
      first | refine retLt tk5 (by rfl) ?_ | refine retL1 tk5 (by rfl) ?_
      repeat' (first | exact trivial | apply And.intro)
      all_goals exact tk0)
   | fail)
theorem a_open_labelled {a0 : Int} {a1 : (List UInt8)} {r : (List UInt8)} (h : m_open_labelled a0 a1 = some r) : ACt Tryz.prog 43 [Enc.enc a0, Enc.enc a1] (.slice (.app 0) 1 (List.map Enc.enc r)) [(5, r.length)] := by
 refine act_of p_open_labelled (by simp [c_open_labelled]) ?_
 show AW _ b_open_labelled (RetOk [.tmp 4] _ _) { n := 13, tm := [(0, _), (1, _)], box := [], fr := [] }
 unfold b_open_labelled
 unfold m_open_labelled at h
 try simp -implicitDefEqProofs only [av, reduceCtorEq, ↓reduceIte, sevalprocAttr] at h
 repeat' (first
   | (refine (hκ _).mpr ?_; clear hκ)
   | refine kn1 ?_
   | refine kr1 ?_
   | refine ke1 ?_
   | refine kn2 ?_
   | refine kr2 ?_
   | refine kx2 ?_
   | refine ke2 rfl ?_
   | refine kr5 ?_
   | refine ke5 ?_
   | refine kr6 ?_
   | refine ke6 ?_
   | refine w_seq ?_
   | refine w_block ?_
   | refine w_scope ?_
   | refine kn7 ?_
   | refine kr7 ?_
   | refine ke7 ?_
   | (refine aw_regk fun κ hκ => ?_; simp -implicitDefEqProofs only [av, reduceCtorEq, ↓reduceIte, sevalprocAttr])
   | (cases h; exact aw_ret_full rfl rfl rfl)
   | refine aw_exit ?_
   | refine aw_ret ?_
   | refine aw_skip ?_
   | refine aw_label ?_
   | refine condc_t ?_
   | refine condc_f ?_
   | (refine aw_cond2 tk4 ?_)
   | (refine bd_go h fun y hy h => ?_
      refine apc hy tk6 tk6 tk7 tk7 tk8 ?_
      simp -implicitDefEqProofs only [av, reduceCtorEq, ↓reduceIte, sevalprocAttr])
   | (cases h
      (exact ret_app rfl rfl (purL_enc _)))
   | fail)
theorem a_octet_Put {a0 : (List UInt8)} {a1 : Int} {a2 : Int} {r : (List UInt8)} (h : m_octet_Put a0 a1 a2 = some r) : ACt Tryz.prog 44 [Enc.enc a0, Enc.enc a1, Enc.enc a2] (Enc.enc r) [] := by
 refine act_of p_octet_Put (by simp [c_octet_Put]) ?_
 show AW _ b_octet_Put (RetOk [.tmp 6] _ _) { n := 39, tm := [(0, _), (1, _), (2, _)], box := [], fr := [] }
 unfold b_octet_Put
 unfold m_octet_Put at h
 try simp -implicitDefEqProofs only [av, reduceCtorEq, ↓reduceIte, sevalprocAttr] at h
 repeat' (first
   | (refine (hκ _).mpr ?_; clear hκ)
   | refine kn1 ?_
   | refine kr1 ?_
   | refine ke1 ?_
   | refine kn2 ?_
   | refine kr2 ?_
   | refine kx2 ?_
   | refine ke2 rfl ?_
   | refine kr5 ?_
   | refine ke5 ?_
   | refine kr6 ?_
   | refine ke6 ?_
   | (refine w_loopm [1, 2, 22] (fun (j : ((List UInt8) × Int)) => [(7, (.slice (.app 0) 1 (List.map Enc.enc j.1))), (23, (.int .i64 j.2))]) (fun (j : ((List UInt8) × Int)) => []) (fun (j : ((List UInt8) × Int)) => []) (fun (j : ((List UInt8) × Int)) => [(5, j.1.length)]) (show loopC (s_octet_Put1 _ _) _ BIG _ = some _ from h) ?_ ?_
      · try simp -implicitDefEqProofs only [pats, av, reduceCtorEq, ↓reduceIte, sevalprocAttr]
        (first
         | (refine wk_m 0 _ rfl ?_ rfl rfl ?_ ?_ ?_ ?_
            iterate 3 exact tk3
            all_goals (repeat' (first | exact trivial | apply And.intro))
            all_goals exact tk1))
      clear h
      intro n st h
      simp -implicitDefEqProofs only [s_octet_Put1.eq_1, pats, av, reduceCtorEq, ↓reduceIte, sevalprocAttr] at h ⊢)
   | refine w_seq ?_
   | refine w_block ?_
   | refine w_scope ?_
   | refine kn7 ?_
   | refine kr7 ?_
   | refine ke7 ?_
   | (refine aw_regk fun κ hκ => ?_; simp -implicitDefEqProofs only [av, reduceCtorEq, ↓reduceIte, sevalprocAttr])
   | refine aw_exit ?_
   | refine aw_ret ?_
   | refine aw_skip ?_
   | refine aw_label ?_
   | refine condc_t ?_
   | refine condc_f ?_
   | (refine aw_cond2 tk4 ?_)
   | ((first | refine gkc_fork ?_ ?_ | refine pkc_fork ?_ ?_ | refine condc_fork ?_ ?_) <;> intro hq <;> (first | contradiction | simp -implicitDefEqProofs only [eq_false hq, Decidable.not_not, av, reduceCtorEq, ↓reduceIte, sevalprocAttr] at h ⊢ | simp -implicitDefEqProofs only [eq_true hq, av, reduceCtorEq, ↓reduceIte, sevalprocAttr] at h ⊢))
   | ((first | refine gkc_split ?_ ?_ | refine pkc_split ?_ ?_ | refine condc_bool ?_ ?_) <;> intro hq <;> (first | exact bcontra (by assumption) hq | exact bcontra hq (by assumption) | simp -implicitDefEqProofs only [hq, av, reduceCtorEq, ↓reduceIte, sevalprocAttr] at h ⊢))
   | (refine bd_go h fun y hy h => ?_
      refine apc hy tk6 tk6 tk7 tk7 tk8 ?_
      simp -implicitDefEqProofs only [av, reduceCtorEq, ↓reduceIte, sevalprocAttr])
   | (refine bd_go h fun y hy h => ?_; (first | refine slc_max hy rfl (.inl rfl) asn_none ?_ | refine slc_max hy rfl (.inl rfl) (asn_some (by first | decide | omega)) ?_ | refine slc11 hy rfl (.inl rfl) ?_ | refine slc01 hy rfl (.inl rfl) ?_ | refine slc10 hy rfl (.inl rfl) ?_ | refine slc00 hy rfl (.inl rfl) ?_ | refine slc11 hy rfl (.inr rfl) ?_ | refine slc01 hy rfl (.inr rfl) ?_ | refine slc10 hy rfl (.inr rfl) ?_ | refine slc00 hy rfl (.inr rfl) ?_); simp -implicitDefEqProofs only [av, reduceCtorEq, ↓reduceIte, sevalprocAttr])
   | (refine nn_go h fun hb h => ?_; simp -implicitDefEqProofs only [eq_false hb, av, reduceCtorEq, ↓reduceIte, sevalprocAttr] at h ⊢)
   | (first | refine kn6 ⟨_, h, ?_⟩ | refine kn5 ⟨_, h, ?_⟩
      try simp -implicitDefEqProofs only [pats, av, reduceCtorEq, ↓reduceIte, sevalprocAttr]
      (first
         | (refine wk_m 0 _ rfl ?_ rfl rfl ?_ ?_ ?_ ?_
            iterate 3 exact tk3
            all_goals (repeat' (first | exact trivial | apply And.intro))
            all_goals exact tk1)
         | (refine wk_m 1 _ rfl ?_ rfl rfl ?_ ?_ ?_ ?_
            iterate 3 exact tk3
            all_goals (repeat' (first | exact trivial | apply And.intro))
            all_goals exact tk1)))
   | (first | refine kn6 ⟨_, h, ?_⟩ | refine kn5 ⟨_, h, ?_⟩
      try simp -implicitDefEqProofs only [*, pats, av, reduceCtorEq, ↓reduceIte, sevalprocAttr]
      (first
         | (refine wk_m 0 _ rfl ?_ rfl rfl ?_ ?_ ?_ ?_
            iterate 3 exact tk3
            all_goals (repeat' (first | exact trivial | apply And.intro))
            all_goals exact tk1)
         | (refine wk_m 1 _ rfl ?_ rfl rfl ?_ ?_ ?_ ?_
            iterate 3 exact tk3
            all_goals (repeat' (first | exact trivial | apply And.intro))
            all_goals exact tk1)))
   | (cases h
      try simp -implicitDefEqProofs only [av, reduceCtorEq, ↓reduceIte, sevalprocAttr]
      first | refine retLt tk5 (by rfl) ?_ | refine retL1 tk5 (by rfl) ?_
      repeat' (first | exact trivial | apply And.intro)
      all_goals exact tk0)
   | fail)
theorem a_octet_Put_app {a0 : (List UInt8)} {a1 : Int} {a2 : Int} {r : (List UInt8)} (h : m_octet_Put a0 a1 a2 = some r) (hc : ¬ (a2 < 1 ∨ a2 > 4)) : ACt Tryz.prog 44 [Enc.enc a0, Enc.enc a1, Enc.enc a2] (.slice (.app 0) 1 (List.map Enc.enc r)) [(5, r.length)] := by
 refine act_of p_octet_Put (by simp [c_octet_Put]) ?_
 show AW _ b_octet_Put (RetOk [.tmp 6] _ _) { n := 39, tm := [(0, _), (1, _), (2, _)], box := [], fr := [] }
 unfold b_octet_Put
 unfold m_octet_Put at h
 try simp -implicitDefEqProofs only [av, reduceCtorEq, ↓reduceIte, sevalprocAttr] at h
 repeat' (first
   | (refine (hκ _).mpr ?_; clear hκ)
   | refine kn1 ?_
   | refine kr1 ?_
   | refine ke1 ?_
   | refine kn2 ?_
   | refine kr2 ?_
   | refine kx2 ?_
   | refine ke2 rfl ?_
   | refine kr5 ?_
   | refine ke5 ?_
   | refine kr6 ?_
   | refine ke6 ?_
   | (refine w_loopm [1, 2, 22] (fun (j : ((List UInt8) × Int)) => [(7, (.slice (.app 0) 1 (List.map Enc.enc j.1))), (23, (.int .i64 j.2))]) (fun (j : ((List UInt8) × Int)) => []) (fun (j : ((List UInt8) × Int)) => []) (fun (j : ((List UInt8) × Int)) => [(5, j.1.length)]) (show loopC (s_octet_Put1 _ _) _ BIG _ = some _ from h) ?_ ?_
      · try simp -implicitDefEqProofs only [pats, av, reduceCtorEq, ↓reduceIte, sevalprocAttr]
        (first
         | (refine wk_m 0 _ rfl ?_ rfl rfl ?_ ?_ ?_ ?_
            iterate 3 exact tk3
            all_goals (repeat' (first | exact trivial | apply And.intro))
            all_goals exact tk1))
      clear h
      intro n st h
      simp -implicitDefEqProofs only [s_octet_Put1.eq_1, pats, av, reduceCtorEq, ↓reduceIte, sevalprocAttr] at h ⊢)
   | refine w_seq ?_
   | refine w_block ?_
   | refine w_scope ?_
   | refine kn7 ?_
   | refine kr7 ?_
   | refine ke7 ?_
   | (refine aw_regk fun κ hκ => ?_; simp -implicitDefEqProofs only [av, reduceCtorEq, ↓reduceIte, sevalprocAttr])
   | (cases h; exact aw_ret_full rfl rfl rfl)
   | refine aw_exit ?_
   | refine aw_ret ?_
   | refine aw_skip ?_
   | refine aw_label ?_
   | refine condc_t ?_
   | refine condc_f ?_
   | (refine aw_cond2 tk4 ?_)
   | ((first | refine gkc_fork ?_ ?_ | refine pkc_fork ?_ ?_ | refine condc_fork ?_ ?_) <;> intro hq <;> (first | contradiction | simp -implicitDefEqProofs only [eq_false hq, Decidable.not_not, av, reduceCtorEq, ↓reduceIte, sevalprocAttr] at h ⊢ | simp -implicitDefEqProofs only [eq_true hq, av, reduceCtorEq, ↓reduceIte, sevalprocAttr] at h ⊢))
   | ((first | refine gkc_split ?_ ?_ | refine pkc_split ?_ ?_ | refine condc_bool ?_ ?_) <;> intro hq <;> (first | exact bcontra (by assumption) hq | exact bcontra hq (by assumption) | simp -implicitDefEqProofs only [hq, av, reduceCtorEq, ↓reduceIte, sevalprocAttr] at h ⊢))
   | (refine bd_go h fun y hy h => ?_
      refine apc hy tk6 tk6 tk7 tk7 tk8 ?_
      simp -implicitDefEqProofs only [av, reduceCtorEq, ↓reduceIte, sevalprocAttr])
   | (refine bd_go h fun y hy h => ?_; (first | refine slc_max hy rfl (.inl rfl) asn_none ?_ | refine slc_max hy rfl (.inl rfl) (asn_some (by first | decide | omega)) ?_ | refine slc11 hy rfl (.inl rfl) ?_ | refine slc01 hy rfl (.inl rfl) ?_ | refine slc10 hy rfl (.inl rfl) ?_ | refine slc00 hy rfl (.inl rfl) ?_ | refine slc11 hy rfl (.inr rfl) ?_ | refine slc01 hy rfl (.inr rfl) ?_ | refine slc10 hy rfl (.inr rfl) ?_ | refine slc00 hy rfl (.inr rfl) ?_); simp -implicitDefEqProofs only [av, reduceCtorEq, ↓reduceIte, sevalprocAttr])
   | (refine nn_go h fun hb h => ?_; simp -implicitDefEqProofs only [eq_false hb, av, reduceCtorEq, ↓reduceIte, sevalprocAttr] at h ⊢)
   | (first | refine kn6 ⟨_, h, ?_⟩ | refine kn5 ⟨_, h, ?_⟩
      try simp -implicitDefEqProofs only [pats, av, reduceCtorEq, ↓reduceIte, sevalprocAttr]
      (first
         | (refine wk_m 0 _ rfl ?_ rfl rfl ?_ ?_ ?_ ?_
            iterate 3 exact tk3
            all_goals (repeat' (first | exact trivial | apply And.intro))
            all_goals exact tk1)
         | (refine wk_m 1 _ rfl ?_ rfl rfl ?_ ?_ ?_ ?_
            iterate 3 exact tk3
            all_goals (repeat' (first | exact trivial | apply And.intro))
            all_goals exact tk1)))
   | (first | refine kn6 ⟨_, h, ?_⟩ | refine kn5 ⟨_, h, ?_⟩
      try simp -implicitDefEqProofs only [*, pats, av, reduceCtorEq, ↓reduceIte, sevalprocAttr]
      (first
         | (refine wk_m 0 _ rfl ?_ rfl rfl ?_ ?_ ?_ ?_
            iterate 3 exact tk3
            all_goals (repeat' (first | exact trivial | apply And.intro))
            all_goals exact tk1)
         | (refine wk_m 1 _ rfl ?_ rfl rfl ?_ ?_ ?_ ?_
            iterate 3 exact tk3
            all_goals (repeat' (first | exact trivial | apply And.intro))
            all_goals exact tk1)))
   | (exfalso; first | exact hc.1 hq | omega)
   | (cases h
      (exact ret_app rfl rfl (purL_enc _)))
   | fail)
theorem a_open_short {a0 : Int} {r : Int} (h : m_open_short a0 = some r) : ACt Tryz.prog 45 [Enc.enc a0] (Enc.enc r) [] := by
 refine act_of p_open_short (by simp [c_open_short]) ?_
 show AW _ b_open_short (RetOk [.tmp 2] _ _) { n := 6, tm := [(0, _)], box := [], fr := [] }
 unfold b_open_short
 unfold m_open_short at h
 try simp -implicitDefEqProofs only [av, reduceCtorEq, ↓reduceIte, sevalprocAttr] at h
 repeat' (first
   | (refine (hκ _).mpr ?_; clear hκ)
   | refine kn1 ?_
   | refine kr1 ?_
   | refine ke1 ?_
   | refine kn2 ?_
   | refine kr2 ?_
   | refine kx2 ?_
   | refine ke2 rfl ?_
   | refine kr5 ?_
   | refine ke5 ?_
   | refine kr6 ?_
   | refine ke6 ?_
   | refine w_seq ?_
   | refine w_block ?_
   | refine w_scope ?_
   | refine kn7 ?_
   | refine kr7 ?_
   | refine ke7 ?_
   | (refine aw_regk fun κ hκ => ?_; simp -implicitDefEqProofs only [av, reduceCtorEq, ↓reduceIte, sevalprocAttr])
   | refine aw_exit ?_
   | refine aw_ret ?_
   | refine aw_skip ?_
   | refine aw_label ?_
   | refine condc_t ?_
   | refine condc_f ?_
   | (refine aw_cond2 tk4 ?_)
   | ((first | refine gkc_fork ?_ ?_ | refine pkc_fork ?_ ?_ | refine condc_fork ?_ ?_) <;> intro hq <;> (first | contradiction | simp -implicitDefEqProofs only [eq_false hq, Decidable.not_not, av, reduceCtorEq, ↓reduceIte, sevalprocAttr] at h ⊢ | simp -implicitDefEqProofs only [eq_true hq, av, reduceCtorEq, ↓reduceIte, sevalprocAttr] at h ⊢))
   | ((first | refine gkc_split ?_ ?_ | refine pkc_split ?_ ?_ | refine condc_bool ?_ ?_) <;> intro hq <;> (first | exact bcontra (by assumption) hq | exact bcontra hq (by assumption) | simp -implicitDefEqProofs only [hq, av, reduceCtorEq, ↓reduceIte, sevalprocAttr] at h ⊢))
   | (cases h
      try simp -implicitDefEqProofs only [av, reduceCtorEq, ↓reduceIte, sevalprocAttr]
      first | refine retLt tk5 (by rfl) ?_ | refine retL1 tk5 (by rfl) ?_
      repeat' (first | exact trivial | apply And.intro)
      all_goals exact tk0)
   | fail)
theorem a_open_Put {a0 : Hello} {r : Msg} (h : m_open_Put a0 = some r) : ACt Tryz.prog 24 [Enc.enc a0] (Enc.enc r) [] := by
 refine act_of p_open_Put (by simp [c_open_Put]) ?_
 show AW _ b_open_Put (RetOk [.cell 2 (some 2)] _ _) { n := 46, tm := [(0, _)], box := [], fr := [] }
 unfold b_open_Put
 unfold m_open_Put at h
 try simp -implicitDefEqProofs only [av, reduceCtorEq, ↓reduceIte, sevalprocAttr] at h
 repeat' (first
   | (refine (hκ _).mpr ?_; clear hκ)
   | refine kn1 ?_
   | refine kr1 ?_
   | refine ke1 ?_
   | refine kn2 ?_
   | refine kr2 ?_
   | refine kx2 ?_
   | refine ke2 rfl ?_
   | refine kr5 ?_
   | refine ke5 ?_
   | refine kr6 ?_
   | refine ke6 ?_
   | (refine w_cutm (x := (.seq (.reg _) (.cond (.tmp 16) _ _))) [1, 2] (fun (j : ((List UInt8))) => [(3, (.slice (.app 2) 1 (List.map Enc.enc j)))]) (fun (j : ((List UInt8))) => []) (fun (j : ((List UInt8))) => [(2, j.length)]) (fun (j : ((List UInt8))) => []) (show jn 1 _ _ = some _ from h) ?_ ?_
      rotate_left
      intro j h
      simp -implicitDefEqProofs only [pats, av, reduceCtorEq, ↓reduceIte, sevalprocAttr] at h ⊢
      rotate_left
      intro k' h
      try simp -implicitDefEqProofs only [av, reduceCtorEq, ↓reduceIte, sevalprocAttr] at h)
   | refine w_seq ?_
   | refine w_block ?_
   | refine w_scope ?_
   | refine kn7 ?_
   | refine kr7 ?_
   | refine ke7 ?_
   | (refine aw_regk fun κ hκ => ?_; simp -implicitDefEqProofs only [av, reduceCtorEq, ↓reduceIte, sevalprocAttr])
   | refine aw_exit ?_
   | refine aw_ret ?_
   | refine aw_skip ?_
   | refine aw_label ?_
   | refine condc_t ?_
   | refine condc_f ?_
   | (refine aw_cond2 tk4 ?_)
   | ((first | refine gkc_fork ?_ ?_ | refine pkc_fork ?_ ?_ | refine condc_fork ?_ ?_) <;> intro hq <;> (first | contradiction | simp -implicitDefEqProofs only [eq_false hq, Decidable.not_not, av, reduceCtorEq, ↓reduceIte, sevalprocAttr] at h ⊢ | simp -implicitDefEqProofs only [eq_true hq, av, reduceCtorEq, ↓reduceIte, sevalprocAttr] at h ⊢))
   | ((first | refine gkc_split ?_ ?_ | refine pkc_split ?_ ?_ | refine condc_bool ?_ ?_) <;> intro hq <;> (first | exact bcontra (by assumption) hq | exact bcontra hq (by assumption) | simp -implicitDefEqProofs only [hq, av, reduceCtorEq, ↓reduceIte, sevalprocAttr] at h ⊢))
   | (refine stc_plain rfl ?_; simp -implicitDefEqProofs only [putCells.eq_1, av, reduceCtorEq, ↓reduceIte, sevalprocAttr])
   | (refine bd_go h fun y hy h => ?_
      refine apc hy tk6 tk6 tk7 tk7 tk8 ?_
      simp -implicitDefEqProofs only [av, reduceCtorEq, ↓reduceIte, sevalprocAttr])
   | (refine bd_go h fun y hy h => ?_
      first | refine callsc (a_open_Sane hy) ?_ ?_ | refine callc (a_open_Sane hy) ?_ ?_ | ((first | refine callsc (act_le (a_open_Sane hy) ?_) ?_ ?_ | refine callc (act_le (a_open_Sane hy) ?_) ?_ ?_); (focus (repeat' (first | exact trivial | exact le_same _ | exact le_enc | exact le_nil | exact le_imm (.inl rfl) | exact le_imm (.inr rfl) | (refine le_agg ?_) | apply And.intro | (refine le_eq ?_; simp only [*]; done)))))
      exact tk2
      simp -implicitDefEqProofs only [av, reduceCtorEq, ↓reduceIte, sevalprocAttr])
   | (refine bd_go h fun y hy h => ?_
      first | refine callsc (a_octet_Put_app hy (by decide)) ?_ ?_ | refine callc (a_octet_Put_app hy (by decide)) ?_ ?_ | ((first | refine callsc (act_le (a_octet_Put_app hy (by decide)) ?_) ?_ ?_ | refine callc (act_le (a_octet_Put_app hy (by decide)) ?_) ?_ ?_); (focus (repeat' (first | exact trivial | exact le_same _ | exact le_enc | exact le_nil | exact le_imm (.inl rfl) | exact le_imm (.inr rfl) | (refine le_agg ?_) | apply And.intro | (refine le_eq ?_; simp only [*]; done)))))
      exact tk2
      simp -implicitDefEqProofs only [av, reduceCtorEq, ↓reduceIte, sevalprocAttr])
   | (refine bd_go h fun y hy h => ?_
      first | refine callsc (a_octet_Put hy) ?_ ?_ | refine callc (a_octet_Put hy) ?_ ?_ | ((first | refine callsc (act_le (a_octet_Put hy) ?_) ?_ ?_ | refine callc (act_le (a_octet_Put hy) ?_) ?_ ?_); (focus (repeat' (first | exact trivial | exact le_same _ | exact le_enc | exact le_nil | exact le_imm (.inl rfl) | exact le_imm (.inr rfl) | (refine le_agg ?_) | apply And.intro | (refine le_eq ?_; simp only [*]; done)))))
      exact tk2
      simp -implicitDefEqProofs only [av, reduceCtorEq, ↓reduceIte, sevalprocAttr])
   | (refine bd_go h fun y hy h => ?_
      first | refine callsc (a_open_labelled hy) ?_ ?_ | refine callc (a_open_labelled hy) ?_ ?_ | ((first | refine callsc (act_le (a_open_labelled hy) ?_) ?_ ?_ | refine callc (act_le (a_open_labelled hy) ?_) ?_ ?_); (focus (repeat' (first | exact trivial | exact le_same _ | exact le_enc | exact le_nil | exact le_imm (.inl rfl) | exact le_imm (.inr rfl) | (refine le_agg ?_) | apply And.intro | (refine le_eq ?_; simp only [*]; done)))))
      exact tk2
      simp -implicitDefEqProofs only [av, reduceCtorEq, ↓reduceIte, sevalprocAttr])
   | (refine bd_go h fun y hy h => ?_
      first | refine callsc (a_open_short hy) ?_ ?_ | refine callc (a_open_short hy) ?_ ?_ | ((first | refine callsc (act_le (a_open_short hy) ?_) ?_ ?_ | refine callc (act_le (a_open_short hy) ?_) ?_ ?_); (focus (repeat' (first | exact trivial | exact le_same _ | exact le_enc | exact le_nil | exact le_imm (.inl rfl) | exact le_imm (.inr rfl) | (refine le_agg ?_) | apply And.intro | (refine le_eq ?_; simp only [*]; done)))))
      exact tk2
      simp -implicitDefEqProofs only [av, reduceCtorEq, ↓reduceIte, sevalprocAttr])
   | (first | refine kn6 ⟨_, h, ?_⟩ | refine kn5 ⟨_, h, ?_⟩
      try simp -implicitDefEqProofs only [pats, av, reduceCtorEq, ↓reduceIte, sevalprocAttr]
      (first
         | (refine wk_m 3 _ rfl ?_ rfl rfl ?_ ?_ ?_ ?_
            iterate 3 exact tk3
            all_goals (repeat' (first | exact trivial | apply And.intro))
            all_goals exact tk1)))
   | (first | refine kn6 ⟨_, h, ?_⟩ | refine kn5 ⟨_, h, ?_⟩
      try simp -implicitDefEqProofs only [*, pats, av, reduceCtorEq, ↓reduceIte, sevalprocAttr]
      (first
         | (refine wk_m 3 _ rfl ?_ rfl rfl ?_ ?_ ?_ ?_
            iterate 3 exact tk3
            all_goals (repeat' (first | exact trivial | apply And.intro))
            all_goals exact tk1)))
   | (cases h
      try simp -implicitDefEqProofs only [av, reduceCtorEq, ↓reduceIte, sevalprocAttr]
      first | refine retLt tk5 (by rfl) ?_ | refine retL1 tk5 (by rfl) ?_
      repeat' (first | exact trivial | apply And.intro)
      all_goals exact tk0)
   | fail)
theorem a_session_Start {a0 : Sess} {a1 : Conf} {a2 : Int} {r : (Sess × (List Msg))} (h : m_session_Start a0 a1 a2 = some r) : ACt Tryz.prog 6 [Enc.enc a0, Enc.enc a1, Enc.enc a2] (.tup [Enc.enc r.1, Enc.enc r.2]) [] := by
 refine act_of p_session_Start (by simp [c_session_Start]) ?_
 show AW _ b_session_Start (RetOk [.cell 6 (some 4), .tmp 7] _ _) { n := 26, tm := [(0, _), (1, _), (2, _)], box := [], fr := [] }
 unfold b_session_Start
 unfold m_session_Start at h
 try simp -implicitDefEqProofs only [av, reduceCtorEq, ↓reduceIte, sevalprocAttr] at h
 repeat' (first
   | (refine (hκ _).mpr ?_; clear hκ)
   | refine kn1 ?_
   | refine kr1 ?_
   | refine ke1 ?_
   | refine kn2 ?_
   | refine kr2 ?_
   | refine kx2 ?_
   | refine ke2 rfl ?_
   | refine kr5 ?_
   | refine ke5 ?_
   | refine kr6 ?_
   | refine ke6 ?_
   | refine w_seq ?_
   | refine w_block ?_
   | refine w_scope ?_
   | refine kn7 ?_
   | refine kr7 ?_
   | refine ke7 ?_
   | (refine aw_regk fun κ hκ => ?_; simp -implicitDefEqProofs only [av, reduceCtorEq, ↓reduceIte, sevalprocAttr])
   | refine aw_exit ?_
   | refine aw_ret ?_
   | refine aw_skip ?_
   | refine aw_label ?_
   | refine condc_t ?_
   | refine condc_f ?_
   | (refine aw_cond2 tk4 ?_)
   | ((first | refine gkc_fork ?_ ?_ | refine pkc_fork ?_ ?_ | refine condc_fork ?_ ?_) <;> intro hq <;> (first | contradiction | simp -implicitDefEqProofs only [eq_false hq, Decidable.not_not, av, reduceCtorEq, ↓reduceIte, sevalprocAttr] at h ⊢ | simp -implicitDefEqProofs only [eq_true hq, av, reduceCtorEq, ↓reduceIte, sevalprocAttr] at h ⊢))
   | ((first | refine gkc_split ?_ ?_ | refine pkc_split ?_ ?_ | refine condc_bool ?_ ?_) <;> intro hq <;> (first | exact bcontra (by assumption) hq | exact bcontra hq (by assumption) | simp -implicitDefEqProofs only [hq, av, reduceCtorEq, ↓reduceIte, sevalprocAttr] at h ⊢))
   | (refine stc_plain rfl ?_; simp -implicitDefEqProofs only [putCells.eq_1, av, reduceCtorEq, ↓reduceIte, sevalprocAttr])
   | (refine bd_go h fun y hy h => ?_
      first | refine callsc (a_session_sane hy) ?_ ?_ | refine callc (a_session_sane hy) ?_ ?_ | ((first | refine callsc (act_le (a_session_sane hy) ?_) ?_ ?_ | refine callc (act_le (a_session_sane hy) ?_) ?_ ?_); (focus (repeat' (first | exact trivial | exact le_same _ | exact le_enc | exact le_nil | exact le_imm (.inl rfl) | exact le_imm (.inr rfl) | (refine le_agg ?_) | apply And.intro | (refine le_eq ?_; simp only [*]; done)))))
      exact tk2
      simp -implicitDefEqProofs only [av, reduceCtorEq, ↓reduceIte, sevalprocAttr])
   | (refine bd_go h fun y hy h => ?_
      first | refine callsc (a_session_there hy) ?_ ?_ | refine callc (a_session_there hy) ?_ ?_ | ((first | refine callsc (act_le (a_session_there hy) ?_) ?_ ?_ | refine callc (act_le (a_session_there hy) ?_) ?_ ?_); (focus (repeat' (first | exact trivial | exact le_same _ | exact le_enc | exact le_nil | exact le_imm (.inl rfl) | exact le_imm (.inr rfl) | (refine le_agg ?_) | apply And.intro | (refine le_eq ?_; simp only [*]; done)))))
      exact tk2
      simp -implicitDefEqProofs only [av, reduceCtorEq, ↓reduceIte, sevalprocAttr])
   | (refine bd_go h fun y hy h => ?_
      first | refine callsc (a_session_Hello hy) ?_ ?_ | refine callc (a_session_Hello hy) ?_ ?_ | ((first | refine callsc (act_le (a_session_Hello hy) ?_) ?_ ?_ | refine callc (act_le (a_session_Hello hy) ?_) ?_ ?_); (focus (repeat' (first | exact trivial | exact le_same _ | exact le_enc | exact le_nil | exact le_imm (.inl rfl) | exact le_imm (.inr rfl) | (refine le_agg ?_) | apply And.intro | (refine le_eq ?_; simp only [*]; done)))))
      exact tk2
      simp -implicitDefEqProofs only [av, reduceCtorEq, ↓reduceIte, sevalprocAttr])
   | (refine bd_go h fun y hy h => ?_
      first | refine callsc (a_open_Put hy) ?_ ?_ | refine callc (a_open_Put hy) ?_ ?_ | ((first | refine callsc (act_le (a_open_Put hy) ?_) ?_ ?_ | refine callc (act_le (a_open_Put hy) ?_) ?_ ?_); (focus (repeat' (first | exact trivial | exact le_same _ | exact le_enc | exact le_nil | exact le_imm (.inl rfl) | exact le_imm (.inr rfl) | (refine le_agg ?_) | apply And.intro | (refine le_eq ?_; simp only [*]; done)))))
      exact tk2
      simp -implicitDefEqProofs only [av, reduceCtorEq, ↓reduceIte, sevalprocAttr])
   | (cases h
      try simp -implicitDefEqProofs only [av, reduceCtorEq, ↓reduceIte, sevalprocAttr]
      first | refine retLt tk5 (by rfl) ?_ | refine retL1 tk5 (by rfl) ?_
      repeat' (first | exact trivial | apply And.intro)
      all_goals exact tk0)
   | fail)
theorem a_ridgewaylaw17_node {a0 : Int} {a1 : Int} {a2 : Int} {a3 : Int} {r : Conf} (h : m_ridgewaylaw17_node a0 a1 a2 a3 = some r) : ACt Tryz.prog 19 [Enc.enc a0, Enc.enc a1, Enc.enc a2, Enc.enc a3] (Enc.enc r) [] := by
 refine act_of p_ridgewaylaw17_node (by simp [c_ridgewaylaw17_node]) ?_
 show AW _ b_ridgewaylaw17_node (RetOk [.cell 8 (some 6)] _ _) { n := 17, tm := [(0, _), (1, _), (2, _), (3, _)], box := [], fr := [] }
 unfold b_ridgewaylaw17_node
 unfold m_ridgewaylaw17_node at h
 try simp -implicitDefEqProofs only [av, reduceCtorEq, ↓reduceIte, sevalprocAttr] at h
 repeat' (first
   | (refine (hκ _).mpr ?_; clear hκ)
   | refine kn1 ?_
   | refine kr1 ?_
   | refine ke1 ?_
   | refine kn2 ?_
   | refine kr2 ?_
   | refine kx2 ?_
   | refine ke2 rfl ?_
   | refine kr5 ?_
   | refine ke5 ?_
   | refine kr6 ?_
   | refine ke6 ?_
   | refine w_seq ?_
   | refine w_block ?_
   | refine w_scope ?_
   | refine kn7 ?_
   | refine kr7 ?_
   | refine ke7 ?_
   | (refine aw_regk fun κ hκ => ?_; simp -implicitDefEqProofs only [av, reduceCtorEq, ↓reduceIte, sevalprocAttr])
   | refine aw_exit ?_
   | refine aw_ret ?_
   | refine aw_skip ?_
   | refine aw_label ?_
   | refine condc_t ?_
   | refine condc_f ?_
   | (refine aw_cond2 tk4 ?_)
   | (refine stc_plain rfl ?_; simp -implicitDefEqProofs only [putCells.eq_1, av, reduceCtorEq, ↓reduceIte, sevalprocAttr])
   | (cases h
      try simp -implicitDefEqProofs only [av, reduceCtorEq, ↓reduceIte, sevalprocAttr]
      first | refine retLt tk5 (by rfl) ?_ | refine retL1 tk5 (by rfl) ?_
      repeat' (first | exact trivial | apply And.intro)
      all_goals exact tk0)
   | fail)
theorem a_msg_Least {a0 : Int} {r : Int} (h : m_msg_Least a0 = some r) : ACt Tryz.prog 49 [Enc.enc a0] (Enc.enc r) [] := by
 refine act_of p_msg_Least (by simp [c_msg_Least]) ?_
 show AW _ b_msg_Least (RetOk [.tmp 2] _ _) { n := 22, tm := [(0, _)], box := [], fr := [] }
 unfold b_msg_Least
 unfold m_msg_Least at h
 try simp -implicitDefEqProofs only [av, reduceCtorEq, ↓reduceIte, sevalprocAttr] at h
 repeat' (first
   | (refine (hκ _).mpr ?_; clear hκ)
   | refine kn1 ?_
   | refine kr1 ?_
   | refine ke1 ?_
   | refine kn2 ?_
   | refine kr2 ?_
   | refine kx2 ?_
   | refine ke2 rfl ?_
   | refine kr5 ?_
   | refine ke5 ?_
   | refine kr6 ?_
   | refine ke6 ?_
   | refine w_seq ?_
   | refine w_block ?_
   | refine w_scope ?_
   | refine kn7 ?_
   | refine kr7 ?_
   | refine ke7 ?_
   | (refine aw_regk fun κ hκ => ?_; simp -implicitDefEqProofs only [av, reduceCtorEq, ↓reduceIte, sevalprocAttr])
   | refine aw_exit ?_
   | refine aw_ret ?_
   | refine aw_skip ?_
   | refine aw_label ?_
   | refine condc_t ?_
   | refine condc_f ?_
   | (refine aw_cond2 tk4 ?_)
   | ((first | refine gkc_fork ?_ ?_ | refine pkc_fork ?_ ?_ | refine condc_fork ?_ ?_) <;> intro hq <;> (first | contradiction | simp -implicitDefEqProofs only [eq_false hq, Decidable.not_not, av, reduceCtorEq, ↓reduceIte, sevalprocAttr] at h ⊢ | simp -implicitDefEqProofs only [eq_true hq, av, reduceCtorEq, ↓reduceIte, sevalprocAttr] at h ⊢))
   | ((first | refine gkc_split ?_ ?_ | refine pkc_split ?_ ?_ | refine condc_bool ?_ ?_) <;> intro hq <;> (first | exact bcontra (by assumption) hq | exact bcontra hq (by assumption) | simp -implicitDefEqProofs only [hq, av, reduceCtorEq, ↓reduceIte, sevalprocAttr] at h ⊢))
   | (cases h
      try simp -implicitDefEqProofs only [av, reduceCtorEq, ↓reduceIte, sevalprocAttr]
      first | refine retLt tk5 (by rfl) ?_ | refine retL1 tk5 (by rfl) ?_
      repeat' (first | exact trivial | apply And.intro)
      all_goals exact tk0)
   | fail)
theorem a_msg_wrong {a0 : Int} {a1 : Int} {r : Bool} (h : m_msg_wrong a0 a1 = some r) : ACt Tryz.prog 50 [Enc.enc a0, Enc.enc a1] (Enc.enc r) [] := by
 refine act_of p_msg_wrong (by simp [c_msg_wrong]) ?_
 show AW _ b_msg_wrong (RetOk [.tmp 4] _ _) { n := 17, tm := [(0, _), (1, _)], box := [], fr := [] }
 unfold b_msg_wrong
 unfold m_msg_wrong at h
 try simp -implicitDefEqProofs only [av, reduceCtorEq, ↓reduceIte, sevalprocAttr] at h
 repeat' (first
   | (refine (hκ _).mpr ?_; clear hκ)
   | refine kn1 ?_
   | refine kr1 ?_
   | refine ke1 ?_
   | refine kn2 ?_
   | refine kr2 ?_
   | refine kx2 ?_
   | refine ke2 rfl ?_
   | refine kr5 ?_
   | refine ke5 ?_
   | refine kr6 ?_
   | refine ke6 ?_
   | refine w_seq ?_
   | refine w_block ?_
   | refine w_scope ?_
   | refine kn7 ?_
   | refine kr7 ?_
   | refine ke7 ?_
   | (refine aw_regk fun κ hκ => ?_; simp -implicitDefEqProofs only [av, reduceCtorEq, ↓reduceIte, sevalprocAttr])
   | refine aw_exit ?_
   | refine aw_ret ?_
   | refine aw_skip ?_
   | refine aw_label ?_
   | refine condc_t ?_
   | refine condc_f ?_
   | (refine aw_cond2 tk4 ?_)
   | ((first | refine gkc_fork ?_ ?_ | refine pkc_fork ?_ ?_ | refine condc_fork ?_ ?_) <;> intro hq <;> (first | contradiction | simp -implicitDefEqProofs only [eq_false hq, Decidable.not_not, av, reduceCtorEq, ↓reduceIte, sevalprocAttr] at h ⊢ | simp -implicitDefEqProofs only [eq_true hq, av, reduceCtorEq, ↓reduceIte, sevalprocAttr] at h ⊢))
   | ((first | refine gkc_split ?_ ?_ | refine pkc_split ?_ ?_ | refine condc_bool ?_ ?_) <;> intro hq <;> (first | exact bcontra (by assumption) hq | exact bcontra hq (by assumption) | simp -implicitDefEqProofs only [hq, av, reduceCtorEq, ↓reduceIte, sevalprocAttr] at h ⊢))
   | (refine bd_go h fun y hy h => ?_
      first | refine callsc (a_msg_Least hy) ?_ ?_ | refine callc (a_msg_Least hy) ?_ ?_ | ((first | refine callsc (act_le (a_msg_Least hy) ?_) ?_ ?_ | refine callc (act_le (a_msg_Least hy) ?_) ?_ ?_); (focus (repeat' (first | exact trivial | exact le_same _ | exact le_enc | exact le_nil | exact le_imm (.inl rfl) | exact le_imm (.inr rfl) | (refine le_agg ?_) | apply And.intro | (refine le_eq ?_; simp only [*]; done)))))
      exact tk2
      simp -implicitDefEqProofs only [av, reduceCtorEq, ↓reduceIte, sevalprocAttr])
   | (cases h
      try simp -implicitDefEqProofs only [av, reduceCtorEq, ↓reduceIte, sevalprocAttr]
      first | refine retLt tk5 (by rfl) ?_ | refine retL1 tk5 (by rfl) ?_
      repeat' (first | exact trivial | apply And.intro)
      all_goals exact tk0)
   | fail)
theorem a_msg_Sane {a0 : Msg} {r : Bool} (h : m_msg_Sane a0 = some r) : ACt Tryz.prog 27 [Enc.enc a0] (Enc.enc r) [] := by
 refine act_of p_msg_Sane (by simp [c_msg_Sane]) ?_
 show AW _ b_msg_Sane (RetOk [.tmp 2] _ _) { n := 24, tm := [(0, _)], box := [], fr := [] }
 unfold b_msg_Sane
 unfold m_msg_Sane at h
 try simp -implicitDefEqProofs only [av, reduceCtorEq, ↓reduceIte, sevalprocAttr] at h
 repeat' (first
   | (refine (hκ _).mpr ?_; clear hκ)
   | refine kn1 ?_
   | refine kr1 ?_
   | refine ke1 ?_
   | refine kn2 ?_
   | refine kr2 ?_
   | refine kx2 ?_
   | refine ke2 rfl ?_
   | refine kr5 ?_
   | refine ke5 ?_
   | refine kr6 ?_
   | refine ke6 ?_
   | refine w_seq ?_
   | refine w_block ?_
   | refine w_scope ?_
   | refine kn7 ?_
   | refine kr7 ?_
   | refine ke7 ?_
   | (refine aw_regk fun κ hκ => ?_; simp -implicitDefEqProofs only [av, reduceCtorEq, ↓reduceIte, sevalprocAttr])
   | refine aw_exit ?_
   | refine aw_ret ?_
   | refine aw_skip ?_
   | refine aw_label ?_
   | refine condc_t ?_
   | refine condc_f ?_
   | (refine aw_cond2 tk4 ?_)
   | ((first | refine gkc_fork ?_ ?_ | refine pkc_fork ?_ ?_ | refine condc_fork ?_ ?_) <;> intro hq <;> (first | contradiction | simp -implicitDefEqProofs only [eq_false hq, Decidable.not_not, av, reduceCtorEq, ↓reduceIte, sevalprocAttr] at h ⊢ | simp -implicitDefEqProofs only [eq_true hq, av, reduceCtorEq, ↓reduceIte, sevalprocAttr] at h ⊢))
   | ((first | refine gkc_split ?_ ?_ | refine pkc_split ?_ ?_ | refine condc_bool ?_ ?_) <;> intro hq <;> (first | exact bcontra (by assumption) hq | exact bcontra hq (by assumption) | simp -implicitDefEqProofs only [hq, av, reduceCtorEq, ↓reduceIte, sevalprocAttr] at h ⊢))
   | (refine bd_go h fun y hy h => ?_
      first | refine callsc (a_msg_Least hy) ?_ ?_ | refine callc (a_msg_Least hy) ?_ ?_ | ((first | refine callsc (act_le (a_msg_Least hy) ?_) ?_ ?_ | refine callc (act_le (a_msg_Least hy) ?_) ?_ ?_); (focus (repeat' (first | exact trivial | exact le_same _ | exact le_enc | exact le_nil | exact le_imm (.inl rfl) | exact le_imm (.inr rfl) | (refine le_agg ?_) | apply And.intro | (refine le_eq ?_; simp only [*]; done)))))
      exact tk2
      simp -implicitDefEqProofs only [av, reduceCtorEq, ↓reduceIte, sevalprocAttr])
   | (refine bd_go h fun y hy h => ?_
      first | refine callsc (a_msg_wrong hy) ?_ ?_ | refine callc (a_msg_wrong hy) ?_ ?_ | ((first | refine callsc (act_le (a_msg_wrong hy) ?_) ?_ ?_ | refine callc (act_le (a_msg_wrong hy) ?_) ?_ ?_); (focus (repeat' (first | exact trivial | exact le_same _ | exact le_enc | exact le_nil | exact le_imm (.inl rfl) | exact le_imm (.inr rfl) | (refine le_agg ?_) | apply And.intro | (refine le_eq ?_; simp only [*]; done)))))
      exact tk2
      simp -implicitDefEqProofs only [av, reduceCtorEq, ↓reduceIte, sevalprocAttr])
   | (cases h
      try simp -implicitDefEqProofs only [av, reduceCtorEq, ↓reduceIte, sevalprocAttr]
      first | refine retLt tk5 (by rfl) ?_ | refine retL1 tk5 (by rfl) ?_
      repeat' (first | exact trivial | apply And.intro)
      all_goals exact tk0)
   | fail)
theorem a_session_does_1 {a0 : SessionTurn} {r : (Sess × (List Msg) × Bool)} (h : m_session_does_1 a0 = some r) : ACt Tryz.prog 51 [Enc.enc a0] (.tup [Enc.enc r.1, Enc.enc r.2.1, Enc.enc r.2.2]) [] := by
 refine act_of p_session_does_1 (by simp [c_session_does_1]) ?_
 show AW _ b_session_does_1 (RetOk [.cell 2 (some 4), .tmp 3, .tmp 4] _ _) { n := 7, tm := [(0, _)], box := [], fr := [] }
 unfold b_session_does_1
 unfold m_session_does_1 at h
 try simp -implicitDefEqProofs only [av, reduceCtorEq, ↓reduceIte, sevalprocAttr] at h
 repeat' (first
   | (refine (hκ _).mpr ?_; clear hκ)
   | refine kn1 ?_
   | refine kr1 ?_
   | refine ke1 ?_
   | refine kn2 ?_
   | refine kr2 ?_
   | refine kx2 ?_
   | refine ke2 rfl ?_
   | refine kr5 ?_
   | refine ke5 ?_
   | refine kr6 ?_
   | refine ke6 ?_
   | refine w_seq ?_
   | refine w_block ?_
   | refine w_scope ?_
   | refine kn7 ?_
   | refine kr7 ?_
   | refine ke7 ?_
   | (refine aw_regk fun κ hκ => ?_; simp -implicitDefEqProofs only [av, reduceCtorEq, ↓reduceIte, sevalprocAttr])
   | refine aw_exit ?_
   | refine aw_ret ?_
   | refine aw_skip ?_
   | refine aw_label ?_
   | refine condc_t ?_
   | refine condc_f ?_
   | (refine aw_cond2 tk4 ?_)
   | (refine stc_plain rfl ?_; simp -implicitDefEqProofs only [putCells.eq_1, av, reduceCtorEq, ↓reduceIte, sevalprocAttr])
   | (cases h
      try simp -implicitDefEqProofs only [av, reduceCtorEq, ↓reduceIte, sevalprocAttr]
      first | refine retLt tk5 (by rfl) ?_ | refine retL1 tk5 (by rfl) ?_
      repeat' (first | exact trivial | apply And.intro)
      all_goals exact tk0)
   | fail)
theorem a_session_alive {r : (List Msg)} (h : m_session_alive = some r) : ACt Tryz.prog 58 [] (Enc.enc r) [] := by
 refine act_of p_session_alive (by simp [c_session_alive]) ?_
 show AW _ b_session_alive (RetOk [.tmp 0] _ _) { n := 3, tm := [], box := [], fr := [] }
 unfold b_session_alive
 unfold m_session_alive at h
 try simp -implicitDefEqProofs only [av, reduceCtorEq, ↓reduceIte, sevalprocAttr] at h
 repeat' (first
   | (refine (hκ _).mpr ?_; clear hκ)
   | refine kn1 ?_
   | refine kr1 ?_
   | refine ke1 ?_
   | refine kn2 ?_
   | refine kr2 ?_
   | refine kx2 ?_
   | refine ke2 rfl ?_
   | refine kr5 ?_
   | refine ke5 ?_
   | refine kr6 ?_
   | refine ke6 ?_
   | refine w_seq ?_
   | refine w_block ?_
   | refine w_scope ?_
   | refine kn7 ?_
   | refine kr7 ?_
   | refine ke7 ?_
   | (refine aw_regk fun κ hκ => ?_; simp -implicitDefEqProofs only [av, reduceCtorEq, ↓reduceIte, sevalprocAttr])
   | refine aw_exit ?_
   | refine aw_ret ?_
   | refine aw_skip ?_
   | refine aw_label ?_
   | refine condc_t ?_
   | refine condc_f ?_
   | (refine aw_cond2 tk4 ?_)
   | (cases h
      try simp -implicitDefEqProofs only [av, reduceCtorEq, ↓reduceIte, sevalprocAttr]
      first | refine retLt tk5 (by rfl) ?_ | refine retL1 tk5 (by rfl) ?_
      repeat' (first | exact trivial | apply And.intro)
      all_goals exact tk0)
   | fail)
theorem a_note_Sane {a0 : Note} {r : Bool} (h : m_note_Sane a0 = some r) : ACt Tryz.prog 33 [Enc.enc a0] (Enc.enc r) [] := by
 refine act_of p_note_Sane (by simp [c_note_Sane]) ?_
 show AW _ b_note_Sane (RetOk [.tmp 2] _ _) { n := 27, tm := [(0, _)], box := [], fr := [] }
 unfold b_note_Sane
 unfold m_note_Sane at h
 try simp -implicitDefEqProofs only [av, reduceCtorEq, ↓reduceIte, sevalprocAttr] at h
 repeat' (first
   | (refine (hκ _).mpr ?_; clear hκ)
   | refine kn1 ?_
   | refine kr1 ?_
   | refine ke1 ?_
   | refine kn2 ?_
   | refine kr2 ?_
   | refine kx2 ?_
   | refine ke2 rfl ?_
   | refine kr5 ?_
   | refine ke5 ?_
   | refine kr6 ?_
   | refine ke6 ?_
   | refine w_seq ?_
   | refine w_block ?_
   | refine w_scope ?_
   | refine kn7 ?_
   | refine kr7 ?_
   | refine ke7 ?_
   | (refine aw_regk fun κ hκ => ?_; simp -implicitDefEqProofs only [av, reduceCtorEq, ↓reduceIte, sevalprocAttr])
   | refine aw_exit ?_
   | refine aw_ret ?_
   | refine aw_skip ?_
   | refine aw_label ?_
   | refine condc_t ?_
   | refine condc_f ?_
   | (refine aw_cond2 tk4 ?_)
   | ((first | refine gkc_fork ?_ ?_ | refine pkc_fork ?_ ?_ | refine condc_fork ?_ ?_) <;> intro hq <;> (first | contradiction | simp -implicitDefEqProofs only [eq_false hq, Decidable.not_not, av, reduceCtorEq, ↓reduceIte, sevalprocAttr] at h ⊢ | simp -implicitDefEqProofs only [eq_true hq, av, reduceCtorEq, ↓reduceIte, sevalprocAttr] at h ⊢))
   | ((first | refine gkc_split ?_ ?_ | refine pkc_split ?_ ?_ | refine condc_bool ?_ ?_) <;> intro hq <;> (first | exact bcontra (by assumption) hq | exact bcontra hq (by assumption) | simp -implicitDefEqProofs only [hq, av, reduceCtorEq, ↓reduceIte, sevalprocAttr] at h ⊢))
   | (cases h
      try simp -implicitDefEqProofs only [av, reduceCtorEq, ↓reduceIte, sevalprocAttr]
      first | refine retLt tk5 (by rfl) ?_ | refine retL1 tk5 (by rfl) ?_
      repeat' (first | exact trivial | apply And.intro)
      all_goals exact tk0)
   | fail)
theorem a_note_Put {a0 : Note} {r : Msg} (h : m_note_Put a0 = some r) : ACt Tryz.prog 34 [Enc.enc a0] (Enc.enc r) [] := by
 refine act_of p_note_Put (by simp [c_note_Put]) ?_
 show AW _ b_note_Put (RetOk [.cell 2 (some 2)] _ _) { n := 18, tm := [(0, _)], box := [], fr := [] }
 unfold b_note_Put
 unfold m_note_Put at h
 try simp -implicitDefEqProofs only [av, reduceCtorEq, ↓reduceIte, sevalprocAttr] at h
 repeat' (first
   | (refine (hκ _).mpr ?_; clear hκ)
   | refine kn1 ?_
   | refine kr1 ?_
   | refine ke1 ?_
   | refine kn2 ?_
   | refine kr2 ?_
   | refine kx2 ?_
   | refine ke2 rfl ?_
   | refine kr5 ?_
   | refine ke5 ?_
   | refine kr6 ?_
   | refine ke6 ?_
   | refine w_seq ?_
   | refine w_block ?_
   | refine w_scope ?_
   | refine kn7 ?_
   | refine kr7 ?_
   | refine ke7 ?_
   | (refine aw_regk fun κ hκ => ?_; simp -implicitDefEqProofs only [av, reduceCtorEq, ↓reduceIte, sevalprocAttr])
   | refine aw_exit ?_
   | refine aw_ret ?_
   | refine aw_skip ?_
   | refine aw_label ?_
   | refine condc_t ?_
   | refine condc_f ?_
   | (refine aw_cond2 tk4 ?_)
   | ((first | refine gkc_fork ?_ ?_ | refine pkc_fork ?_ ?_ | refine condc_fork ?_ ?_) <;> intro hq <;> (first | contradiction | simp -implicitDefEqProofs only [eq_false hq, Decidable.not_not, av, reduceCtorEq, ↓reduceIte, sevalprocAttr] at h ⊢ | simp -implicitDefEqProofs only [eq_true hq, av, reduceCtorEq, ↓reduceIte, sevalprocAttr] at h ⊢))
   | ((first | refine gkc_split ?_ ?_ | refine pkc_split ?_ ?_ | refine condc_bool ?_ ?_) <;> intro hq <;> (first | exact bcontra (by assumption) hq | exact bcontra hq (by assumption) | simp -implicitDefEqProofs only [hq, av, reduceCtorEq, ↓reduceIte, sevalprocAttr] at h ⊢))
   | (refine stc_plain rfl ?_; simp -implicitDefEqProofs only [putCells.eq_1, av, reduceCtorEq, ↓reduceIte, sevalprocAttr])
   | (refine bd_go h fun y hy h => ?_
      refine apc hy tk6 tk6 tk7 tk7 tk8 ?_
      simp -implicitDefEqProofs only [av, reduceCtorEq, ↓reduceIte, sevalprocAttr])
   | (refine bd_go h fun y hy h => ?_
      first | refine callsc (a_note_Sane hy) ?_ ?_ | refine callc (a_note_Sane hy) ?_ ?_ | ((first | refine callsc (act_le (a_note_Sane hy) ?_) ?_ ?_ | refine callc (act_le (a_note_Sane hy) ?_) ?_ ?_); (focus (repeat' (first | exact trivial | exact le_same _ | exact le_enc | exact le_nil | exact le_imm (.inl rfl) | exact le_imm (.inr rfl) | (refine le_agg ?_) | apply And.intro | (refine le_eq ?_; simp only [*]; done)))))
      exact tk2
      simp -implicitDefEqProofs only [av, reduceCtorEq, ↓reduceIte, sevalprocAttr])
   | (cases h
      try simp -implicitDefEqProofs only [av, reduceCtorEq, ↓reduceIte, sevalprocAttr]
      first | refine retLt tk5 (by rfl) ?_ | refine retL1 tk5 (by rfl) ?_
      repeat' (first | exact trivial | apply And.intro)
      all_goals exact tk0)
   | fail)
theorem a_session_Stop {a0 : Sess} {a1 : Note} {r : (Sess × (List Msg))} (h : m_session_Stop a0 a1 = some r) : ACt Tryz.prog 12 [Enc.enc a0, Enc.enc a1] (.tup [Enc.enc r.1, Enc.enc r.2]) [] := by
 refine act_of p_session_Stop (by simp [c_session_Stop]) ?_
 show AW _ b_session_Stop (RetOk [.cell 4 (some 4), .tmp 5] _ _) { n := 20, tm := [(0, _), (1, _)], box := [], fr := [] }
 unfold b_session_Stop
 unfold m_session_Stop at h
 try simp -implicitDefEqProofs only [av, reduceCtorEq, ↓reduceIte, sevalprocAttr] at h
 repeat' (first
   | (refine (hκ _).mpr ?_; clear hκ)
   | refine kn1 ?_
   | refine kr1 ?_
   | refine ke1 ?_
   | refine kn2 ?_
   | refine kr2 ?_
   | refine kx2 ?_
   | refine ke2 rfl ?_
   | refine kr5 ?_
   | refine ke5 ?_
   | refine kr6 ?_
   | refine ke6 ?_
   | refine w_seq ?_
   | refine w_block ?_
   | refine w_scope ?_
   | refine kn7 ?_
   | refine kr7 ?_
   | refine ke7 ?_
   | (refine aw_regk fun κ hκ => ?_; simp -implicitDefEqProofs only [av, reduceCtorEq, ↓reduceIte, sevalprocAttr])
   | refine aw_exit ?_
   | refine aw_ret ?_
   | refine aw_skip ?_
   | refine aw_label ?_
   | refine condc_t ?_
   | refine condc_f ?_
   | (refine aw_cond2 tk4 ?_)
   | ((first | refine gkc_fork ?_ ?_ | refine pkc_fork ?_ ?_ | refine condc_fork ?_ ?_) <;> intro hq <;> (first | contradiction | simp -implicitDefEqProofs only [eq_false hq, Decidable.not_not, av, reduceCtorEq, ↓reduceIte, sevalprocAttr] at h ⊢ | simp -implicitDefEqProofs only [eq_true hq, av, reduceCtorEq, ↓reduceIte, sevalprocAttr] at h ⊢))
   | ((first | refine gkc_split ?_ ?_ | refine pkc_split ?_ ?_ | refine condc_bool ?_ ?_) <;> intro hq <;> (first | exact bcontra (by assumption) hq | exact bcontra hq (by assumption) | simp -implicitDefEqProofs only [hq, av, reduceCtorEq, ↓reduceIte, sevalprocAttr] at h ⊢))
   | (refine stc_plain rfl ?_; simp -implicitDefEqProofs only [putCells.eq_1, av, reduceCtorEq, ↓reduceIte, sevalprocAttr])
   | (refine bd_go h fun y hy h => ?_
      first | refine callsc (a_session_sane hy) ?_ ?_ | refine callc (a_session_sane hy) ?_ ?_ | ((first | refine callsc (act_le (a_session_sane hy) ?_) ?_ ?_ | refine callc (act_le (a_session_sane hy) ?_) ?_ ?_); (focus (repeat' (first | exact trivial | exact le_same _ | exact le_enc | exact le_nil | exact le_imm (.inl rfl) | exact le_imm (.inr rfl) | (refine le_agg ?_) | apply And.intro | (refine le_eq ?_; simp only [*]; done)))))
      exact tk2
      simp -implicitDefEqProofs only [av, reduceCtorEq, ↓reduceIte, sevalprocAttr])
   | (refine bd_go h fun y hy h => ?_
      first | refine callsc (a_note_Sane hy) ?_ ?_ | refine callc (a_note_Sane hy) ?_ ?_ | ((first | refine callsc (act_le (a_note_Sane hy) ?_) ?_ ?_ | refine callc (act_le (a_note_Sane hy) ?_) ?_ ?_); (focus (repeat' (first | exact trivial | exact le_same _ | exact le_enc | exact le_nil | exact le_imm (.inl rfl) | exact le_imm (.inr rfl) | (refine le_agg ?_) | apply And.intro | (refine le_eq ?_; simp only [*]; done)))))
      exact tk2
      simp -implicitDefEqProofs only [av, reduceCtorEq, ↓reduceIte, sevalprocAttr])
   | (refine bd_go h fun y hy h => ?_
      first | refine callsc (a_note_Put hy) ?_ ?_ | refine callc (a_note_Put hy) ?_ ?_ | ((first | refine callsc (act_le (a_note_Put hy) ?_) ?_ ?_ | refine callc (act_le (a_note_Put hy) ?_) ?_ ?_); (focus (repeat' (first | exact trivial | exact le_same _ | exact le_enc | exact le_nil | exact le_imm (.inl rfl) | exact le_imm (.inr rfl) | (refine le_agg ?_) | apply And.intro | (refine le_eq ?_; simp only [*]; done)))))
      exact tk2
      simp -implicitDefEqProofs only [av, reduceCtorEq, ↓reduceIte, sevalprocAttr])
   | (cases h
      try simp -implicitDefEqProofs only [av, reduceCtorEq, ↓reduceIte, sevalprocAttr]
      first | refine retLt tk5 (by rfl) ?_ | refine retL1 tk5 (by rfl) ?_
      repeat' (first | exact trivial | apply And.intro)
      all_goals exact tk0)
   | fail)
theorem a_session_turn__end {a0 : SessionTurn} {a1 : Note} {r : (Sess × (List Msg) × Bool)} (h : m_session_turn__end a0 a1 = some r) : ACt Tryz.prog 70 [Enc.enc a0, Enc.enc a1] (.tup [Enc.enc r.1, Enc.enc r.2.1, Enc.enc r.2.2]) [] := by
 refine act_of p_session_turn__end (by simp [c_session_turn__end]) ?_
 show AW _ b_session_turn__end (RetOk [.cell 4 (some 4), .tmp 5, .tmp 6] _ _) { n := 18, tm := [(0, _), (1, _)], box := [], fr := [] }
 unfold b_session_turn__end
 unfold m_session_turn__end at h
 try simp -implicitDefEqProofs only [av, reduceCtorEq, ↓reduceIte, sevalprocAttr] at h
 repeat' (first
   | (refine (hκ _).mpr ?_; clear hκ)
   | refine kn1 ?_
   | refine kr1 ?_
   | refine ke1 ?_
   | refine kn2 ?_
   | refine kr2 ?_
   | refine kx2 ?_
   | refine ke2 rfl ?_
   | refine kr5 ?_
   | refine ke5 ?_
   | refine kr6 ?_
   | refine ke6 ?_
   | refine w_seq ?_
   | refine w_block ?_
   | refine w_scope ?_
   | refine kn7 ?_
   | refine kr7 ?_
   | refine ke7 ?_
   | (refine aw_regk fun κ hκ => ?_; simp -implicitDefEqProofs only [av, reduceCtorEq, ↓reduceIte, sevalprocAttr])
   | refine aw_exit ?_
   | refine aw_ret ?_
   | refine aw_skip ?_
   | refine aw_label ?_
   | refine condc_t ?_
   | refine condc_f ?_
   | (refine aw_cond2 tk4 ?_)
   | (refine stc_plain rfl ?_; simp -implicitDefEqProofs only [putCells.eq_1, av, reduceCtorEq, ↓reduceIte, sevalprocAttr])
   | (refine bd_go h fun y hy h => ?_
      first | refine callsc (a_session_Stop hy) ?_ ?_ | refine callc (a_session_Stop hy) ?_ ?_ | ((first | refine callsc (act_le (a_session_Stop hy) ?_) ?_ ?_ | refine callc (act_le (a_session_Stop hy) ?_) ?_ ?_); (focus (repeat' (first | exact trivial | exact le_same _ | exact le_enc | exact le_nil | exact le_imm (.inl rfl) | exact le_imm (.inr rfl) | (refine le_agg ?_) | apply And.intro | (refine le_eq ?_; simp only [*]; done)))))
      exact tk2
      simp -implicitDefEqProofs only [av, reduceCtorEq, ↓reduceIte, sevalprocAttr])
   | (cases h
      try simp -implicitDefEqProofs only [av, reduceCtorEq, ↓reduceIte, sevalprocAttr]
      first | refine retLt tk5 (by rfl) ?_ | refine retL1 tk5 (by rfl) ?_
      repeat' (first | exact trivial | apply And.intro)
      all_goals exact tk0)
   | fail)
theorem a_octet_Take {a0 : (List UInt8)} {a1 : Int} {r : ((List UInt8) × (List UInt8) × Bool)} (h : m_octet_Take a0 a1 = some r) : ACt Tryz.prog 95 [Enc.enc a0, Enc.enc a1] (.tup [Enc.enc r.1, Enc.enc r.2.1, Enc.enc r.2.2]) [] := by
 refine act_of p_octet_Take (by simp [c_octet_Take]) ?_
 show AW _ b_octet_Take (RetOk [.tmp 4, .tmp 5, .tmp 6] _ _) { n := 22, tm := [(0, _), (1, _)], box := [], fr := [] }
 unfold b_octet_Take
 unfold m_octet_Take at h
 try simp -implicitDefEqProofs only [av, reduceCtorEq, ↓reduceIte, sevalprocAttr] at h
 repeat' (first
   | (refine (hκ _).mpr ?_; clear hκ)
   | refine kn1 ?_
   | refine kr1 ?_
   | refine ke1 ?_
   | refine kn2 ?_
   | refine kr2 ?_
   | refine kx2 ?_
   | refine ke2 rfl ?_
   | refine kr5 ?_
   | refine ke5 ?_
   | refine kr6 ?_
   | refine ke6 ?_
   | refine w_seq ?_
   | refine w_block ?_
   | refine w_scope ?_
   | refine kn7 ?_
   | refine kr7 ?_
   | refine ke7 ?_
   | (refine aw_regk fun κ hκ => ?_; simp -implicitDefEqProofs only [av, reduceCtorEq, ↓reduceIte, sevalprocAttr])
   | refine aw_exit ?_
   | refine aw_ret ?_
   | refine aw_skip ?_
   | refine aw_label ?_
   | refine condc_t ?_
   | refine condc_f ?_
   | (refine aw_cond2 tk4 ?_)
   | ((first | refine gkc_fork ?_ ?_ | refine pkc_fork ?_ ?_ | refine condc_fork ?_ ?_) <;> intro hq <;> (first | contradiction | simp -implicitDefEqProofs only [eq_false hq, Decidable.not_not, av, reduceCtorEq, ↓reduceIte, sevalprocAttr] at h ⊢ | simp -implicitDefEqProofs only [eq_true hq, av, reduceCtorEq, ↓reduceIte, sevalprocAttr] at h ⊢))
   | ((first | refine gkc_split ?_ ?_ | refine pkc_split ?_ ?_ | refine condc_bool ?_ ?_) <;> intro hq <;> (first | exact bcontra (by assumption) hq | exact bcontra hq (by assumption) | simp -implicitDefEqProofs only [hq, av, reduceCtorEq, ↓reduceIte, sevalprocAttr] at h ⊢))
   | (refine bd_go h fun y hy h => ?_; (first | refine slc_max hy rfl (.inl rfl) asn_none ?_ | refine slc_max hy rfl (.inl rfl) (asn_some (by first | decide | omega)) ?_ | refine slc11 hy rfl (.inl rfl) ?_ | refine slc01 hy rfl (.inl rfl) ?_ | refine slc10 hy rfl (.inl rfl) ?_ | refine slc00 hy rfl (.inl rfl) ?_ | refine slc11 hy rfl (.inr rfl) ?_ | refine slc01 hy rfl (.inr rfl) ?_ | refine slc10 hy rfl (.inr rfl) ?_ | refine slc00 hy rfl (.inr rfl) ?_); simp -implicitDefEqProofs only [av, reduceCtorEq, ↓reduceIte, sevalprocAttr])
   | (cases h
      try simp -implicitDefEqProofs only [av, reduceCtorEq, ↓reduceIte, sevalprocAttr]
      first | refine retLt tk5 (by rfl) ?_ | refine retL1 tk5 (by rfl) ?_
      repeat' (first | exact trivial | apply And.intro)
      all_goals exact tk0)
   | fail)
end Go.Proofs.YtibploaibljcmaaGreatDoor
