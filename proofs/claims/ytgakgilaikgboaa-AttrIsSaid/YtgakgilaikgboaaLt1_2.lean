/- Functions compute what their models do. -/
import Derived.Test.YtgakgilaikgboaaLfa
import Derived.Test.YtgakgilaikgboaaAct1
import Derived.Test.YtgakgilaikgboaaMt1
import Derived.Test.YtgakgilaikgboaaLt1
namespace Go.Proofs.Ytgakgilaikgboaa
open Go.RowKit
set_option maxHeartbeats 8000000
set_option maxRecDepth 100000
set_option linter.unusedSimpArgs false
set_option linter.unusedVariables false
theorem a_ridgewayref07_Of {a0 : Path} {r : (List Attr)} (h : m_ridgewayref07_Of a0 = some r) : ACt Try.prog 36 [Enc.enc a0] (Enc.enc r) [] := by
  refine act_of p_ridgewayref07_Of (by simp [c_ridgewayref07_Of]) ?_
  show AW _ b_ridgewayref07_Of (RetOk [.tmp 2] _ _) { n := 55, tm := [(0, _)], box := [], fr := [] }
  unfold b_ridgewayref07_Of
  unfold m_ridgewayref07_Of at h
  try simp -implicitDefEqProofs only [avm, reduceCtorEq, ↓reduceIte, sevalprocAttr, encs] at h
  repeat' (first
    | (refine (hκ _).mpr ?_; clear hκ)
    | refine kn1 ?_
    | refine kr1 ?_
    | refine ke1 ?_
    | refine kn2 ?_
    | refine kr2 ?_
    | refine kx2 ?_
    | refine ke2 rfl ?_
    | refine kr5 ?_
    | refine ke5 ?_
    | refine kr6 ?_
    | refine ke6 ?_
    | (refine w_cutm (x := (.seq (.reg _) (.cond (.tmp 12) _ _))) [1] (fun (j : ((List UInt8))) => [(3, (.slice .full 1 (List.map Enc.enc j)))]) (fun (j : ((List UInt8))) => []) (fun (j : ((List UInt8))) => []) (fun (j : ((List UInt8))) => []) (show jn 1 _ _ = some _ from h) ?_ ?_
       rotate_left
       intro j h
       simp -implicitDefEqProofs only [patOf, setB.eq_1, setB.eq_2, setF.eq_1, setF.eq_2, List.map_cons, List.map_nil, List.modify_zero_cons, List.modify_succ_cons, List.set_cons_zero, List.set_cons_succ, List.append_nil, List.nil_append, List.cons_append, setO.eq_1, tupC.eq_1, avm, reduceCtorEq, ↓reduceIte, sevalprocAttr, encs] at h ⊢
       rotate_left
       intro k' h
       try simp -implicitDefEqProofs only [avm, reduceCtorEq, ↓reduceIte, sevalprocAttr, encs] at h)
    | (refine w_loopm [1] (fun (j : ((List UInt8) × Int)) => [(3, (.slice .imm 1 (List.map Enc.enc j.1))), (4, (.int .i64 j.2))]) (fun (j : ((List UInt8) × Int)) => []) (fun (j : ((List UInt8) × Int)) => []) (fun (j : ((List UInt8) × Int)) => []) (show loopC (s_ridgewayref07_Of1 _) _ BIG _ = some _ from h) ?_ ?_
       · try simp -implicitDefEqProofs only [patOf, setB.eq_1, setB.eq_2, setF.eq_1, setF.eq_2, List.map_cons, List.map_nil, List.modify_zero_cons, List.modify_succ_cons, List.set_cons_zero, List.set_cons_succ, List.append_nil, List.nil_append, List.cons_append, setO.eq_1, tupC.eq_1, avm, reduceCtorEq, ↓reduceIte, sevalprocAttr, encs]
         (first
          | (refine wk_m 0 _ rfl ?_ rfl rfl ?_ ?_ ?_ ?_
             · first | exact Nat.le_refl _ | exact Nat.zero_le _ | (simp; done)
             · first | exact Nat.zero_le _ | exact Nat.le_refl _ | (simp; done)
             · first | exact Nat.zero_le _ | exact Nat.le_refl _ | (simp; done)
             all_goals (repeat' (first | exact trivial | apply And.intro))
             all_goals first | exact rfl | exact wkc_kv | exact wkc_FL | exact wka_full | exact wka_full0 | exact wka_fulln | exact .same _ rfl | exact wka_imm | exact wka_app (by decide) | exact wka_tag (by decide) rfl | exact wka_tagn (by decide) rfl | exact wka_tagr (by decide) rfl (by simp only [pur, purL, purL_enc, Bool.and_self, Bool.and_true]) | exact wka_immn | (refine .imm _ _ _ _ (.inl rfl) (okBL_pur ?_); simp only [pur, purL, purL_enc, Bool.and_self, Bool.and_true]; done) | exact wka_tag0 (by decide) rfl | exact wka_imm0 | exact wka_pur (Enc.pure_enc _) | exact wka_pur pur_enc_sl | exact wka_pur pur_enc_fl | exact .und _ | (refine wka_pur ?_; simp only [pur, purL, purL_enc, Bool.and_self, Bool.and_true]; done) | (refine .same _ ?_; simp only [okB, okBL, okBL_enc, Bool.and_self, Bool.and_true, decide_true, sevalprocAttr]; done) | (refine .le _ _ ?_ (okB_pur ?_); (focus (repeat' (first | exact le_same _ | exact le_enc | exact le_nil | exact le_imm (.inl rfl) | exact le_imm (.inr rfl) | refine le_agg ?_ | exact trivial | apply And.intro))); (simp only [pur, purL, purL_enc, Bool.and_self, Bool.and_true]; done))))
       clear h
       intro n st h
       simp -implicitDefEqProofs only [s_ridgewayref07_Of1.eq_1, patOf, setB.eq_1, setB.eq_2, setF.eq_1, setF.eq_2, List.map_cons, List.map_nil, List.modify_zero_cons, List.modify_succ_cons, List.set_cons_zero, List.set_cons_succ, List.append_nil, List.nil_append, List.cons_append, setO.eq_1, tupC.eq_1, avm, reduceCtorEq, ↓reduceIte, sevalprocAttr, encs] at h ⊢)
    | refine w_seq ?_
    | refine w_block ?_
    | refine w_scope ?_
    | refine kn7 ?_
    | refine kr7 ?_
    | refine ke7 ?_
    | (refine aw_regk fun κ hκ => ?_; simp -implicitDefEqProofs only [avm, reduceCtorEq, ↓reduceIte, sevalprocAttr, encs])
    | refine aw_exit ?_
    | refine aw_ret ?_
    | refine aw_skip ?_
    | refine aw_label ?_
    | refine condc_t ?_
    | refine condc_f ?_
    | (refine aw_cond2 (by simp -implicitDefEqProofs only [avm, reduceCtorEq, ↓reduceIte, sevalprocAttr, encs]; rfl) ?_)
    | ((first | refine gkc_fork ?_ ?_ | refine pkc_fork ?_ ?_ | refine condc_fork ?_ ?_) <;> intro hq <;> (first | contradiction | simp -implicitDefEqProofs only [eq_false hq, Decidable.not_not, avm, reduceCtorEq, ↓reduceIte, sevalprocAttr, encs] at h ⊢ | simp -implicitDefEqProofs only [eq_true hq, avm, reduceCtorEq, ↓reduceIte, sevalprocAttr, encs] at h ⊢))
    | ((first | refine gkc_split ?_ ?_ | refine pkc_split ?_ ?_ | refine condc_bool ?_ ?_) <;> intro hq <;> (first | exact bcontra (by assumption) hq | exact bcontra hq (by assumption) | simp -implicitDefEqProofs only [hq, avm, reduceCtorEq, ↓reduceIte, sevalprocAttr, encs] at h ⊢))
    | (refine bd_go h fun y hy h => ?_; refine ixc hy ?_; simp -implicitDefEqProofs only [avm, reduceCtorEq, ↓reduceIte, sevalprocAttr, encs])
    | (refine bd_go h fun y hy h => ?_
       refine apc hy (by first | rfl | (simp -implicitDefEqProofs only [avm, reduceCtorEq, ↓reduceIte, sevalprocAttr, encs]; done)) (by first | rfl | (simp -implicitDefEqProofs only [avm, reduceCtorEq, ↓reduceIte, sevalprocAttr, encs]; done)) (by first | exact .inl rfl | exact .inr rfl) (by first | exact .inl rfl | exact .inr rfl) (by simp only [apTag, List.getElem?_cons_zero, List.getElem?_cons_succ, ↓reduceIte, List.set_cons_zero, List.set_cons_succ, List.nil_append, List.cons_append, List.length_nil, List.length_cons, sevalprocAttr]; rfl) ?_
       simp -implicitDefEqProofs only [avm, reduceCtorEq, ↓reduceIte, sevalprocAttr, encs])
    | (refine bd_go h fun y hy h => ?_
       first | refine callsc (a_ridgewayref07_Sane hy) ?_ ?_ | refine callc (a_ridgewayref07_Sane hy) ?_ ?_ | ((first | refine callsc (act_le (a_ridgewayref07_Sane hy) ?_) ?_ ?_ | refine callc (act_le (a_ridgewayref07_Sane hy) ?_) ?_ ?_); (focus (repeat' (first | exact trivial | exact le_same _ | exact le_enc | exact le_nil | exact le_imm (.inl rfl) | exact le_imm (.inr rfl) | (refine le_agg ?_) | apply And.intro | (refine le_eq ?_; simp only [*]; done)))))
       focus (first | rfl | (simp only [purL, pur, purL_enc, Enc.pure_enc, Bool.and_self, Bool.and_true]; done))
       simp -implicitDefEqProofs only [avm, reduceCtorEq, ↓reduceIte, sevalprocAttr, encs])
    | (refine bd_go h fun y hy h => ?_
       first | refine callsc (a_ridgewayref01_Put hy) ?_ ?_ | refine callc (a_ridgewayref01_Put hy) ?_ ?_ | ((first | refine callsc (act_le (a_ridgewayref01_Put hy) ?_) ?_ ?_ | refine callc (act_le (a_ridgewayref01_Put hy) ?_) ?_ ?_); (focus (repeat' (first | exact trivial | exact le_same _ | exact le_enc | exact le_nil | exact le_imm (.inl rfl) | exact le_imm (.inr rfl) | (refine le_agg ?_) | apply And.intro | (refine le_eq ?_; simp only [*]; done)))))
       focus (first | rfl | (simp only [purL, pur, purL_enc, Enc.pure_enc, Bool.and_self, Bool.and_true]; done))
       simp -implicitDefEqProofs only [avm, reduceCtorEq, ↓reduceIte, sevalprocAttr, encs])
    | (first | refine kn6 ⟨_, h, ?_⟩ | refine kn5 ⟨_, h, ?_⟩
       try simp -implicitDefEqProofs only [patOf, setB.eq_1, setB.eq_2, setF.eq_1, setF.eq_2, List.map_cons, List.map_nil, List.modify_zero_cons, List.modify_succ_cons, List.set_cons_zero, List.set_cons_succ, List.append_nil, List.nil_append, List.cons_append, setO.eq_1, tupC.eq_1, avm, reduceCtorEq, ↓reduceIte, sevalprocAttr, encs]
       (first
          | (refine wk_m 0 _ rfl ?_ rfl rfl ?_ ?_ ?_ ?_
             · first | exact Nat.le_refl _ | exact Nat.zero_le _ | (simp; done)
             · first | exact Nat.zero_le _ | exact Nat.le_refl _ | (simp; done)
             · first | exact Nat.zero_le _ | exact Nat.le_refl _ | (simp; done)
             all_goals (repeat' (first | exact trivial | apply And.intro))
             all_goals first | exact rfl | exact wkc_kv | exact wkc_FL | exact wka_full | exact wka_full0 | exact wka_fulln | exact .same _ rfl | exact wka_imm | exact wka_app (by decide) | exact wka_tag (by decide) rfl | exact wka_tagn (by decide) rfl | exact wka_tagr (by decide) rfl (by simp only [pur, purL, purL_enc, Bool.and_self, Bool.and_true]) | exact wka_immn | (refine .imm _ _ _ _ (.inl rfl) (okBL_pur ?_); simp only [pur, purL, purL_enc, Bool.and_self, Bool.and_true]; done) | exact wka_tag0 (by decide) rfl | exact wka_imm0 | exact wka_pur (Enc.pure_enc _) | exact wka_pur pur_enc_sl | exact wka_pur pur_enc_fl | exact .und _ | (refine wka_pur ?_; simp only [pur, purL, purL_enc, Bool.and_self, Bool.and_true]; done) | (refine .same _ ?_; simp only [okB, okBL, okBL_enc, Bool.and_self, Bool.and_true, decide_true, sevalprocAttr]; done) | (refine .le _ _ ?_ (okB_pur ?_); (focus (repeat' (first | exact le_same _ | exact le_enc | exact le_nil | exact le_imm (.inl rfl) | exact le_imm (.inr rfl) | refine le_agg ?_ | exact trivial | apply And.intro))); (simp only [pur, purL, purL_enc, Bool.and_self, Bool.and_true]; done)))))
    | (first | refine kn6 ⟨_, h, ?_⟩ | refine kn5 ⟨_, h, ?_⟩
       try simp -implicitDefEqProofs only [*, patOf, setB.eq_1, setB.eq_2, setF.eq_1, setF.eq_2, List.map_cons, List.map_nil, List.modify_zero_cons, List.modify_succ_cons, List.set_cons_zero, List.set_cons_succ, List.append_nil, List.nil_append, List.cons_append, setO.eq_1, tupC.eq_1, avm, reduceCtorEq, ↓reduceIte, sevalprocAttr, encs]
       (first
          | (refine wk_m 0 _ rfl ?_ rfl rfl ?_ ?_ ?_ ?_
             · first | exact Nat.le_refl _ | exact Nat.zero_le _ | (simp; done)
             · first | exact Nat.zero_le _ | exact Nat.le_refl _ | (simp; done)
             · first | exact Nat.zero_le _ | exact Nat.le_refl _ | (simp; done)
             all_goals (repeat' (first | exact trivial | apply And.intro))
             all_goals first | exact rfl | exact wkc_kv | exact wkc_FL | exact wka_full | exact wka_full0 | exact wka_fulln | exact .same _ rfl | exact wka_imm | exact wka_app (by decide) | exact wka_tag (by decide) rfl | exact wka_tagn (by decide) rfl | exact wka_tagr (by decide) rfl (by simp only [pur, purL, purL_enc, Bool.and_self, Bool.and_true]) | exact wka_immn | (refine .imm _ _ _ _ (.inl rfl) (okBL_pur ?_); simp only [pur, purL, purL_enc, Bool.and_self, Bool.and_true]; done) | exact wka_tag0 (by decide) rfl | exact wka_imm0 | exact wka_pur (Enc.pure_enc _) | exact wka_pur pur_enc_sl | exact wka_pur pur_enc_fl | exact .und _ | (refine wka_pur ?_; simp only [pur, purL, purL_enc, Bool.and_self, Bool.and_true]; done) | (refine .same _ ?_; simp only [okB, okBL, okBL_enc, Bool.and_self, Bool.and_true, decide_true, sevalprocAttr]; done) | (refine .le _ _ ?_ (okB_pur ?_); (focus (repeat' (first | exact le_same _ | exact le_enc | exact le_nil | exact le_imm (.inl rfl) | exact le_imm (.inr rfl) | refine le_agg ?_ | exact trivial | apply And.intro))); (simp only [pur, purL, purL_enc, Bool.and_self, Bool.and_true]; done)))))
    | (cases h
       try simp -implicitDefEqProofs only [avm, reduceCtorEq, ↓reduceIte, sevalprocAttr, encs]
       first | refine retLt (by first | exact .inr rfl | exact .inl rfl) (by rfl) ?_ | refine retL1 (by first | exact .inr rfl | exact .inl rfl) (by rfl) ?_
       repeat' (first | exact trivial | apply And.intro)
       all_goals first | exact .same _ rfl | exact reta_imm | exact reta_nil | (refine .imm _ _ _ ?_; simp only [pur, purL, purL_enc, Bool.and_self, Bool.and_true]; done) | exact .same _ (Enc.pure_enc _) | exact .same _ pur_enc_sl | exact .same _ pur_enc_fl | (refine .same _ ?_; simp only [pur, purL, purL_enc, Bool.and_self, Bool.and_true]; done) | (refine .le _ _ ?_ ?_; (focus (repeat' (first | exact le_same _ | exact le_enc | exact le_nil | exact le_imm (.inl rfl) | exact le_imm (.inr rfl) | refine le_agg ?_ | exact trivial | apply And.intro))); (simp only [pur, purL, purL_enc, Bool.and_self, Bool.and_true]; done)))
    | fail)
theorem a_ridgewaylaw07_AttrIs {a0 : Attr} {a1 : (List UInt8)} {a2 : Path} {r : Bool} (h : m_ridgewaylaw07_AttrIs a0 a1 a2 = some r) : ACt Try.prog 8 [Enc.enc a0, Enc.enc a1, Enc.enc a2] (Enc.enc r) [] := by
  refine act_of p_ridgewaylaw07_AttrIs (by simp [c_ridgewaylaw07_AttrIs]) ?_
  show AW _ b_ridgewaylaw07_AttrIs (RetOk [.tmp 6] _ _) { n := 112, tm := [(0, _), (1, _), (2, _)], box := [], fr := [] }
  unfold b_ridgewaylaw07_AttrIs
  unfold m_ridgewaylaw07_AttrIs at h
  try simp -implicitDefEqProofs only [avm, reduceCtorEq, ↓reduceIte, sevalprocAttr, encs] at h
  repeat' (first
    | (refine (hκ _).mpr ?_; clear hκ)
    | refine kn1 ?_
    | refine kr1 ?_
    | refine ke1 ?_
    | refine kn2 ?_
    | refine kr2 ?_
    | refine kx2 ?_
    | refine ke2 rfl ?_
    | refine kr5 ?_
    | refine ke5 ?_
    | refine kr6 ?_
    | refine ke6 ?_
    | refine w_seq ?_
    | refine w_block ?_
    | refine w_scope ?_
    | refine kn7 ?_
    | refine kr7 ?_
    | refine ke7 ?_
    | (refine aw_regk fun κ hκ => ?_; simp -implicitDefEqProofs only [avm, reduceCtorEq, ↓reduceIte, sevalprocAttr, encs])
    | refine aw_exit ?_
    | refine aw_ret ?_
    | refine aw_skip ?_
    | refine aw_label ?_
    | refine condc_t ?_
    | refine condc_f ?_
    | (refine aw_cond2 (by simp -implicitDefEqProofs only [avm, reduceCtorEq, ↓reduceIte, sevalprocAttr, encs]; rfl) ?_)
    | ((first | refine gkc_fork ?_ ?_ | refine pkc_fork ?_ ?_ | refine condc_fork ?_ ?_) <;> intro hq <;> (first | contradiction | simp -implicitDefEqProofs only [eq_false hq, Decidable.not_not, avm, reduceCtorEq, ↓reduceIte, sevalprocAttr, encs] at h ⊢ | simp -implicitDefEqProofs only [eq_true hq, avm, reduceCtorEq, ↓reduceIte, sevalprocAttr, encs] at h ⊢))
    | ((first | refine gkc_split ?_ ?_ | refine pkc_split ?_ ?_ | refine condc_bool ?_ ?_) <;> intro hq <;> (first | exact bcontra (by assumption) hq | exact bcontra hq (by assumption) | simp -implicitDefEqProofs only [hq, avm, reduceCtorEq, ↓reduceIte, sevalprocAttr, encs] at h ⊢))
    | (refine stc_plain rfl ?_; simp -implicitDefEqProofs only [putCells.eq_1, avm, reduceCtorEq, ↓reduceIte, sevalprocAttr, encs])
    | (refine bd_go h fun y hy h => ?_
       first | refine callsc (a_ridgewaylaw07_awake hy) ?_ ?_ | refine callc (a_ridgewaylaw07_awake hy) ?_ ?_ | ((first | refine callsc (act_le (a_ridgewaylaw07_awake hy) ?_) ?_ ?_ | refine callc (act_le (a_ridgewaylaw07_awake hy) ?_) ?_ ?_); (focus (repeat' (first | exact trivial | exact le_same _ | exact le_enc | exact le_nil | exact le_imm (.inl rfl) | exact le_imm (.inr rfl) | (refine le_agg ?_) | apply And.intro | (refine le_eq ?_; simp only [*]; done)))))
       focus (first | rfl | (simp only [purL, pur, purL_enc, Enc.pure_enc, Bool.and_self, Bool.and_true]; done))
       simp -implicitDefEqProofs only [avm, reduceCtorEq, ↓reduceIte, sevalprocAttr, encs])
    | (refine bd_go h fun y hy h => ?_
       first | refine callsc (a_attr_Get hy) ?_ ?_ | refine callc (a_attr_Get hy) ?_ ?_ | ((first | refine callsc (act_le (a_attr_Get hy) ?_) ?_ ?_ | refine callc (act_le (a_attr_Get hy) ?_) ?_ ?_); (focus (repeat' (first | exact trivial | exact le_same _ | exact le_enc | exact le_nil | exact le_imm (.inl rfl) | exact le_imm (.inr rfl) | (refine le_agg ?_) | apply And.intro | (refine le_eq ?_; simp only [*]; done)))))
       focus (first | rfl | (simp only [purL, pur, purL_enc, Enc.pure_enc, Bool.and_self, Bool.and_true]; done))
       simp -implicitDefEqProofs only [avm, reduceCtorEq, ↓reduceIte, sevalprocAttr, encs])
    | (refine bd_go h fun y hy h => ?_
       first | refine callsc (a_ridgewayref07_Get hy) ?_ ?_ | refine callc (a_ridgewayref07_Get hy) ?_ ?_ | ((first | refine callsc (act_le (a_ridgewayref07_Get hy) ?_) ?_ ?_ | refine callc (act_le (a_ridgewayref07_Get hy) ?_) ?_ ?_); (focus (repeat' (first | exact trivial | exact le_same _ | exact le_enc | exact le_nil | exact le_imm (.inl rfl) | exact le_imm (.inr rfl) | (refine le_agg ?_) | apply And.intro | (refine le_eq ?_; simp only [*]; done)))))
       focus (first | rfl | (simp only [purL, pur, purL_enc, Enc.pure_enc, Bool.and_self, Bool.and_true]; done))
       simp -implicitDefEqProofs only [avm, reduceCtorEq, ↓reduceIte, sevalprocAttr, encs])
    | (refine bd_go h fun y hy h => ?_
       first | refine callsc (a_attr_All hy) ?_ ?_ | refine callc (a_attr_All hy) ?_ ?_ | ((first | refine callsc (act_le (a_attr_All hy) ?_) ?_ ?_ | refine callc (act_le (a_attr_All hy) ?_) ?_ ?_); (focus (repeat' (first | exact trivial | exact le_same _ | exact le_enc | exact le_nil | exact le_imm (.inl rfl) | exact le_imm (.inr rfl) | (refine le_agg ?_) | apply And.intro | (refine le_eq ?_; simp only [*]; done)))))
       focus (first | rfl | (simp only [purL, pur, purL_enc, Enc.pure_enc, Bool.and_self, Bool.and_true]; done))
       simp -implicitDefEqProofs only [avm, reduceCtorEq, ↓reduceIte, sevalprocAttr, encs])
    | (refine bd_go h fun y hy h => ?_
       first | refine callsc (a_ridgewayref07_All hy) ?_ ?_ | refine callc (a_ridgewayref07_All hy) ?_ ?_ | ((first | refine callsc (act_le (a_ridgewayref07_All hy) ?_) ?_ ?_ | refine callc (act_le (a_ridgewayref07_All hy) ?_) ?_ ?_); (focus (repeat' (first | exact trivial | exact le_same _ | exact le_enc | exact le_nil | exact le_imm (.inl rfl) | exact le_imm (.inr rfl) | (refine le_agg ?_) | apply And.intro | (refine le_eq ?_; simp only [*]; done)))))
       focus (first | rfl | (simp only [purL, pur, purL_enc, Enc.pure_enc, Bool.and_self, Bool.and_true]; done))
       simp -implicitDefEqProofs only [avm, reduceCtorEq, ↓reduceIte, sevalprocAttr, encs])
    | (refine bd_go h fun y hy h => ?_
       first | refine callsc (a_ridgewayref07_Same hy) ?_ ?_ | refine callc (a_ridgewayref07_Same hy) ?_ ?_ | ((first | refine callsc (act_le (a_ridgewayref07_Same hy) ?_) ?_ ?_ | refine callc (act_le (a_ridgewayref07_Same hy) ?_) ?_ ?_); (focus (repeat' (first | exact trivial | exact le_same _ | exact le_enc | exact le_nil | exact le_imm (.inl rfl) | exact le_imm (.inr rfl) | (refine le_agg ?_) | apply And.intro | (refine le_eq ?_; simp only [*]; done)))))
       focus (first | rfl | (simp only [purL, pur, purL_enc, Enc.pure_enc, Bool.and_self, Bool.and_true]; done))
       simp -implicitDefEqProofs only [avm, reduceCtorEq, ↓reduceIte, sevalprocAttr, encs])
    | (refine bd_go h fun y hy h => ?_
       first | refine callsc (a_attr_Put hy) ?_ ?_ | refine callc (a_attr_Put hy) ?_ ?_ | ((first | refine callsc (act_le (a_attr_Put hy) ?_) ?_ ?_ | refine callc (act_le (a_attr_Put hy) ?_) ?_ ?_); (focus (repeat' (first | exact trivial | exact le_same _ | exact le_enc | exact le_nil | exact le_imm (.inl rfl) | exact le_imm (.inr rfl) | (refine le_agg ?_) | apply And.intro | (refine le_eq ?_; simp only [*]; done)))))
       focus (first | rfl | (simp only [purL, pur, purL_enc, Enc.pure_enc, Bool.and_self, Bool.and_true]; done))
       simp -implicitDefEqProofs only [avm, reduceCtorEq, ↓reduceIte, sevalprocAttr, encs])
    | (refine bd_go h fun y hy h => ?_
       first | refine callsc (a_ridgewayref07_Put hy) ?_ ?_ | refine callc (a_ridgewayref07_Put hy) ?_ ?_ | ((first | refine callsc (act_le (a_ridgewayref07_Put hy) ?_) ?_ ?_ | refine callc (act_le (a_ridgewayref07_Put hy) ?_) ?_ ?_); (focus (repeat' (first | exact trivial | exact le_same _ | exact le_enc | exact le_nil | exact le_imm (.inl rfl) | exact le_imm (.inr rfl) | (refine le_agg ?_) | apply And.intro | (refine le_eq ?_; simp only [*]; done)))))
       focus (first | rfl | (simp only [purL, pur, purL_enc, Enc.pure_enc, Bool.and_self, Bool.and_true]; done))
       simp -implicitDefEqProofs only [avm, reduceCtorEq, ↓reduceIte, sevalprocAttr, encs])
    | (refine bd_go h fun y hy h => ?_
       first | refine callsc (a_attr_Sane hy) ?_ ?_ | refine callc (a_attr_Sane hy) ?_ ?_ | ((first | refine callsc (act_le (a_attr_Sane hy) ?_) ?_ ?_ | refine callc (act_le (a_attr_Sane hy) ?_) ?_ ?_); (focus (repeat' (first | exact trivial | exact le_same _ | exact le_enc | exact le_nil | exact le_imm (.inl rfl) | exact le_imm (.inr rfl) | (refine le_agg ?_) | apply And.intro | (refine le_eq ?_; simp only [*]; done)))))
       focus (first | rfl | (simp only [purL, pur, purL_enc, Enc.pure_enc, Bool.and_self, Bool.and_true]; done))
       simp -implicitDefEqProofs only [avm, reduceCtorEq, ↓reduceIte, sevalprocAttr, encs])
    | (refine bd_go h fun y hy h => ?_
       first | refine callsc (a_ridgewayref07_Sane hy) ?_ ?_ | refine callc (a_ridgewayref07_Sane hy) ?_ ?_ | ((first | refine callsc (act_le (a_ridgewayref07_Sane hy) ?_) ?_ ?_ | refine callc (act_le (a_ridgewayref07_Sane hy) ?_) ?_ ?_); (focus (repeat' (first | exact trivial | exact le_same _ | exact le_enc | exact le_nil | exact le_imm (.inl rfl) | exact le_imm (.inr rfl) | (refine le_agg ?_) | apply And.intro | (refine le_eq ?_; simp only [*]; done)))))
       focus (first | rfl | (simp only [purL, pur, purL_enc, Enc.pure_enc, Bool.and_self, Bool.and_true]; done))
       simp -implicitDefEqProofs only [avm, reduceCtorEq, ↓reduceIte, sevalprocAttr, encs])
    | (refine bd_go h fun y hy h => ?_
       first | refine callsc (a_attr_Of hy) ?_ ?_ | refine callc (a_attr_Of hy) ?_ ?_ | ((first | refine callsc (act_le (a_attr_Of hy) ?_) ?_ ?_ | refine callc (act_le (a_attr_Of hy) ?_) ?_ ?_); (focus (repeat' (first | exact trivial | exact le_same _ | exact le_enc | exact le_nil | exact le_imm (.inl rfl) | exact le_imm (.inr rfl) | (refine le_agg ?_) | apply And.intro | (refine le_eq ?_; simp only [*]; done)))))
       focus (first | rfl | (simp only [purL, pur, purL_enc, Enc.pure_enc, Bool.and_self, Bool.and_true]; done))
       simp -implicitDefEqProofs only [avm, reduceCtorEq, ↓reduceIte, sevalprocAttr, encs])
    | (refine bd_go h fun y hy h => ?_
       first | refine callsc (a_ridgewayref07_Of hy) ?_ ?_ | refine callc (a_ridgewayref07_Of hy) ?_ ?_ | ((first | refine callsc (act_le (a_ridgewayref07_Of hy) ?_) ?_ ?_ | refine callc (act_le (a_ridgewayref07_Of hy) ?_) ?_ ?_); (focus (repeat' (first | exact trivial | exact le_same _ | exact le_enc | exact le_nil | exact le_imm (.inl rfl) | exact le_imm (.inr rfl) | (refine le_agg ?_) | apply And.intro | (refine le_eq ?_; simp only [*]; done)))))
       focus (first | rfl | (simp only [purL, pur, purL_enc, Enc.pure_enc, Bool.and_self, Bool.and_true]; done))
       simp -implicitDefEqProofs only [avm, reduceCtorEq, ↓reduceIte, sevalprocAttr, encs])
    | (cases h
       try simp -implicitDefEqProofs only [avm, reduceCtorEq, ↓reduceIte, sevalprocAttr, encs]
       first | refine retLt (by first | exact .inr rfl | exact .inl rfl) (by rfl) ?_ | refine retL1 (by first | exact .inr rfl | exact .inl rfl) (by rfl) ?_
       repeat' (first | exact trivial | apply And.intro)
       all_goals first | exact .same _ rfl | exact reta_imm | exact reta_nil | (refine .imm _ _ _ ?_; simp only [pur, purL, purL_enc, Bool.and_self, Bool.and_true]; done) | exact .same _ (Enc.pure_enc _) | exact .same _ pur_enc_sl | exact .same _ pur_enc_fl | (refine .same _ ?_; simp only [pur, purL, purL_enc, Bool.and_self, Bool.and_true]; done) | (refine .le _ _ ?_ ?_; (focus (repeat' (first | exact le_same _ | exact le_enc | exact le_nil | exact le_imm (.inl rfl) | exact le_imm (.inr rfl) | refine le_agg ?_ | exact trivial | apply And.intro))); (simp only [pur, purL, purL_enc, Bool.and_self, Bool.and_true]; done)))
    | fail)
end Go.Proofs.Ytgakgilaikgboaa
