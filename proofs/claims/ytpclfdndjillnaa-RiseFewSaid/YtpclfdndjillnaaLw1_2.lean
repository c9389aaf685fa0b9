/- Functions compute what their models do. -/
import Derived.Test.YtpclfdndjillnaaLfa
import Derived.Test.YtpclfdndjillnaaAcw1
import Derived.Test.YtpclfdndjillnaaMw1
import Derived.Test.YtpclfdndjillnaaLw1
namespace Go.Proofs.Ytpclfdndjillnaa
open Go.RowKit
set_option maxHeartbeats 8000000
set_option maxRecDepth 100000
set_option linter.unusedSimpArgs false
set_option linter.unusedVariables false
theorem a_ridgewaylaw15_awake {r : Bool} (h : m_ridgewaylaw15_awake = some r) : ACt Try.prog 14 [] (Enc.enc r) [] := by
  refine act_of p_ridgewaylaw15_awake (by simp [c_ridgewaylaw15_awake]) ?_
  show AW _ b_ridgewaylaw15_awake (RetOk [.tmp 0] _ _) { n := 63, tm := [], box := [], fr := [] }
  unfold b_ridgewaylaw15_awake
  unfold m_ridgewaylaw15_awake at h
  try simp -implicitDefEqProofs only [avm, reduceCtorEq, ↓reduceIte, sevalprocAttr, encs] at h
  repeat' (first
    | (refine (hκ _).mpr ?_; clear hκ)
    | refine kn1 ?_
    | refine kr1 ?_
    | refine ke1 ?_
    | refine kn2 ?_
    | refine kr2 ?_
    | refine kx2 ?_
    | refine ke2 rfl ?_
    | refine kr5 ?_
    | refine ke5 ?_
    | refine kr6 ?_
    | refine ke6 ?_
    | refine w_seq ?_
    | refine w_block ?_
    | refine w_scope ?_
    | refine kn7 ?_
    | refine kr7 ?_
    | refine ke7 ?_
    | (refine aw_regk fun κ hκ => ?_; simp -implicitDefEqProofs only [avm, reduceCtorEq, ↓reduceIte, sevalprocAttr, encs])
    | refine aw_exit ?_
    | refine aw_ret ?_
    | refine aw_skip ?_
    | refine aw_label ?_
    | refine condc_t ?_
    | refine condc_f ?_
    | (refine aw_cond2 (by simp -implicitDefEqProofs only [avm, reduceCtorEq, ↓reduceIte, sevalprocAttr, encs]; rfl) ?_)
    | ((first | refine gkc_fork ?_ ?_ | refine pkc_fork ?_ ?_ | refine condc_fork ?_ ?_) <;> intro hq <;> (first | contradiction | simp -implicitDefEqProofs only [eq_false hq, Decidable.not_not, avm, reduceCtorEq, ↓reduceIte, sevalprocAttr, encs] at h ⊢ | simp -implicitDefEqProofs only [eq_true hq, avm, reduceCtorEq, ↓reduceIte, sevalprocAttr, encs] at h ⊢))
    | ((first | refine gkc_split ?_ ?_ | refine pkc_split ?_ ?_ | refine condc_bool ?_ ?_) <;> intro hq <;> (first | exact bcontra (by assumption) hq | exact bcontra hq (by assumption) | simp -implicitDefEqProofs only [hq, avm, reduceCtorEq, ↓reduceIte, sevalprocAttr, encs] at h ⊢))
    | (refine stc_plain rfl ?_; simp -implicitDefEqProofs only [putCells.eq_1, avm, reduceCtorEq, ↓reduceIte, sevalprocAttr, encs])
    | (refine bd_go h fun y hy h => ?_
       first | refine callsc (a_ridgewaylaw15_node hy) ?_ ?_ | refine callc (a_ridgewaylaw15_node hy) ?_ ?_ | ((first | refine callsc (act_le (a_ridgewaylaw15_node hy) ?_) ?_ ?_ | refine callc (act_le (a_ridgewaylaw15_node hy) ?_) ?_ ?_); (focus (repeat' (first | exact trivial | exact le_same _ | exact le_enc | exact le_nil | exact le_imm (.inl rfl) | exact le_imm (.inr rfl) | (refine le_agg ?_) | apply And.intro | (refine le_eq ?_; simp only [*]; done)))))
       focus (first | rfl | (simp only [purL, pur, purL_enc, Enc.pure_enc, Bool.and_self, Bool.and_true]; done))
       simp -implicitDefEqProofs only [avm, reduceCtorEq, ↓reduceIte, sevalprocAttr, encs])
    | (refine bd_go h fun y hy h => ?_
       first | refine callsc (a_rise_Low hy) ?_ ?_ | refine callc (a_rise_Low hy) ?_ ?_ | ((first | refine callsc (act_le (a_rise_Low hy) ?_) ?_ ?_ | refine callc (act_le (a_rise_Low hy) ?_) ?_ ?_); (focus (repeat' (first | exact trivial | exact le_same _ | exact le_enc | exact le_nil | exact le_imm (.inl rfl) | exact le_imm (.inr rfl) | (refine le_agg ?_) | apply And.intro | (refine le_eq ?_; simp only [*]; done)))))
       focus (first | rfl | (simp only [purL, pur, purL_enc, Enc.pure_enc, Bool.and_self, Bool.and_true]; done))
       simp -implicitDefEqProofs only [avm, reduceCtorEq, ↓reduceIte, sevalprocAttr, encs])
    | (refine bd_go h fun y hy h => ?_
       first | refine callsc (a_rise_High hy) ?_ ?_ | refine callc (a_rise_High hy) ?_ ?_ | ((first | refine callsc (act_le (a_rise_High hy) ?_) ?_ ?_ | refine callc (act_le (a_rise_High hy) ?_) ?_ ?_); (focus (repeat' (first | exact trivial | exact le_same _ | exact le_enc | exact le_nil | exact le_imm (.inl rfl) | exact le_imm (.inr rfl) | (refine le_agg ?_) | apply And.intro | (refine le_eq ?_; simp only [*]; done)))))
       focus (first | rfl | (simp only [purL, pur, purL_enc, Enc.pure_enc, Bool.and_self, Bool.and_true]; done))
       simp -implicitDefEqProofs only [avm, reduceCtorEq, ↓reduceIte, sevalprocAttr, encs])
    | (refine bd_go h fun y hy h => ?_
       first | refine callsc (a_rise_Side hy) ?_ ?_ | refine callc (a_rise_Side hy) ?_ ?_ | ((first | refine callsc (act_le (a_rise_Side hy) ?_) ?_ ?_ | refine callc (act_le (a_rise_Side hy) ?_) ?_ ?_); (focus (repeat' (first | exact trivial | exact le_same _ | exact le_enc | exact le_nil | exact le_imm (.inl rfl) | exact le_imm (.inr rfl) | (refine le_agg ?_) | apply And.intro | (refine le_eq ?_; simp only [*]; done)))))
       focus (first | rfl | (simp only [purL, pur, purL_enc, Enc.pure_enc, Bool.and_self, Bool.and_true]; done))
       simp -implicitDefEqProofs only [avm, reduceCtorEq, ↓reduceIte, sevalprocAttr, encs])
    | (refine bd_go h fun y hy h => ?_
       first | refine callsc (a_rise_Rises hy) ?_ ?_ | refine callc (a_rise_Rises hy) ?_ ?_ | ((first | refine callsc (act_le (a_rise_Rises hy) ?_) ?_ ?_ | refine callc (act_le (a_rise_Rises hy) ?_) ?_ ?_); (focus (repeat' (first | exact trivial | exact le_same _ | exact le_enc | exact le_nil | exact le_imm (.inl rfl) | exact le_imm (.inr rfl) | (refine le_agg ?_) | apply And.intro | (refine le_eq ?_; simp only [*]; done)))))
       focus (first | rfl | (simp only [purL, pur, purL_enc, Enc.pure_enc, Bool.and_self, Bool.and_true]; done))
       simp -implicitDefEqProofs only [avm, reduceCtorEq, ↓reduceIte, sevalprocAttr, encs])
    | (refine bd_go h fun y hy h => ?_
       first | refine callsc (a_rise_Tells hy) ?_ ?_ | refine callc (a_rise_Tells hy) ?_ ?_ | ((first | refine callsc (act_le (a_rise_Tells hy) ?_) ?_ ?_ | refine callc (act_le (a_rise_Tells hy) ?_) ?_ ?_); (focus (repeat' (first | exact trivial | exact le_same _ | exact le_enc | exact le_nil | exact le_imm (.inl rfl) | exact le_imm (.inr rfl) | (refine le_agg ?_) | apply And.intro | (refine le_eq ?_; simp only [*]; done)))))
       focus (first | rfl | (simp only [purL, pur, purL_enc, Enc.pure_enc, Bool.and_self, Bool.and_true]; done))
       simp -implicitDefEqProofs only [avm, reduceCtorEq, ↓reduceIte, sevalprocAttr, encs])
    | (cases h
       try simp -implicitDefEqProofs only [avm, reduceCtorEq, ↓reduceIte, sevalprocAttr, encs]
       first | refine retLt (by first | exact .inr rfl | exact .inl rfl) (by rfl) ?_ | refine retL1 (by first | exact .inr rfl | exact .inl rfl) (by rfl) ?_
       repeat' (first | exact trivial | apply And.intro)
       all_goals first | exact .same _ rfl | exact reta_imm | exact reta_nil | (refine .imm _ _ _ ?_; simp only [pur, purL, purL_enc, Bool.and_self, Bool.and_true]; done) | exact .same _ (Enc.pure_enc _) | exact .same _ pur_enc_sl | exact .same _ pur_enc_fl | (refine .same _ ?_; simp only [pur, purL, purL_enc, Bool.and_self, Bool.and_true]; done) | (refine .le _ _ ?_ ?_; (focus (repeat' (first | exact le_same _ | exact le_enc | exact le_nil | exact le_imm (.inl rfl) | exact le_imm (.inr rfl) | refine le_agg ?_ | exact trivial | apply And.intro))); (simp only [pur, purL, purL_enc, Bool.and_self, Bool.and_true]; done)))
    | fail)
theorem a_ridgewayref12_Few {a0 : Conf} {r : Bool} (h : m_ridgewayref12_Few a0 = some r) : ACt Try.prog 15 [Enc.enc a0] (Enc.enc r) [] := by
  refine act_of p_ridgewayref12_Few (by simp [c_ridgewayref12_Few]) ?_
  show AW _ b_ridgewayref12_Few (RetOk [.tmp 2] _ _) { n := 39, tm := [(0, _)], box := [], fr := [] }
  unfold b_ridgewayref12_Few
  unfold m_ridgewayref12_Few at h
  try simp -implicitDefEqProofs only [avm, reduceCtorEq, ↓reduceIte, sevalprocAttr, encs] at h
  repeat' (first
    | (refine (hκ _).mpr ?_; clear hκ)
    | refine kn1 ?_
    | refine kr1 ?_
    | refine ke1 ?_
    | refine kn2 ?_
    | refine kr2 ?_
    | refine kx2 ?_
    | refine ke2 rfl ?_
    | refine kr5 ?_
    | refine ke5 ?_
    | refine kr6 ?_
    | refine ke6 ?_
    | (refine w_loopm [1] (fun (j : (Int)) => [(3, (.int .i64 j))]) (fun (j : (Int)) => []) (fun (j : (Int)) => []) (fun (j : (Int)) => []) (show loopC (s_ridgewayref12_Few1 _) _ BIG _ = some _ from h) ?_ ?_
       · try simp -implicitDefEqProofs only [patOf, setB.eq_1, setB.eq_2, setF.eq_1, setF.eq_2, List.map_cons, List.map_nil, List.modify_zero_cons, List.modify_succ_cons, List.set_cons_zero, List.set_cons_succ, List.append_nil, List.nil_append, List.cons_append, setO.eq_1, tupC.eq_1, avm, reduceCtorEq, ↓reduceIte, sevalprocAttr, encs]
         (first
          | (refine wk_m 0 _ rfl ?_ rfl rfl ?_ ?_ ?_ ?_
             · first | exact Nat.le_refl _ | exact Nat.zero_le _ | (simp; done)
             · first | exact Nat.zero_le _ | exact Nat.le_refl _ | (simp; done)
             · first | exact Nat.zero_le _ | exact Nat.le_refl _ | (simp; done)
             all_goals (repeat' (first | exact trivial | apply And.intro))
             all_goals first | exact rfl | exact wkc_kv | exact wkc_FL | exact wka_full | exact wka_full0 | exact .same _ rfl | exact wka_imm | exact wka_app (by decide) | exact wka_tag (by decide) rfl | exact wka_tagn (by decide) rfl | exact wka_tagr (by decide) rfl (by simp only [pur, purL, purL_enc, Bool.and_self, Bool.and_true]) | exact wka_immn | (refine .imm _ _ _ _ (.inl rfl) (okBL_pur ?_); simp only [pur, purL, purL_enc, Bool.and_self, Bool.and_true]; done) | exact wka_tag0 (by decide) rfl | exact wka_imm0 | exact wka_pur (Enc.pure_enc _) | exact wka_pur pur_enc_sl | exact wka_pur pur_enc_fl | exact .und _ | (refine wka_pur ?_; simp only [pur, purL, purL_enc, Bool.and_self, Bool.and_true]; done) | (refine .same _ ?_; simp only [okB, okBL, okBL_enc, Bool.and_self, Bool.and_true, decide_true, sevalprocAttr]; done) | (refine .le _ _ ?_ (okB_pur ?_); (focus (repeat' (first | exact le_same _ | exact le_enc | exact le_nil | exact le_imm (.inl rfl) | exact le_imm (.inr rfl) | refine le_agg ?_ | exact trivial | apply And.intro))); (simp only [pur, purL, purL_enc, Bool.and_self, Bool.and_true]; done))))
       clear h
       intro n st h
       simp -implicitDefEqProofs only [s_ridgewayref12_Few1.eq_1, patOf, setB.eq_1, setB.eq_2, setF.eq_1, setF.eq_2, List.map_cons, List.map_nil, List.modify_zero_cons, List.modify_succ_cons, List.set_cons_zero, List.set_cons_succ, List.append_nil, List.nil_append, List.cons_append, setO.eq_1, tupC.eq_1, avm, reduceCtorEq, ↓reduceIte, sevalprocAttr, encs] at h ⊢)
    | refine w_seq ?_
    | refine w_block ?_
    | refine w_scope ?_
    | refine kn7 ?_
    | refine kr7 ?_
    | refine ke7 ?_
    | (refine aw_regk fun κ hκ => ?_; simp -implicitDefEqProofs only [avm, reduceCtorEq, ↓reduceIte, sevalprocAttr, encs])
    | refine aw_exit ?_
    | refine aw_ret ?_
    | refine aw_skip ?_
    | refine aw_label ?_
    | refine condc_t ?_
    | refine condc_f ?_
    | (refine aw_cond2 (by simp -implicitDefEqProofs only [avm, reduceCtorEq, ↓reduceIte, sevalprocAttr, encs]; rfl) ?_)
    | ((first | refine gkc_fork ?_ ?_ | refine pkc_fork ?_ ?_ | refine condc_fork ?_ ?_) <;> intro hq <;> (first | contradiction | simp -implicitDefEqProofs only [eq_false hq, Decidable.not_not, avm, reduceCtorEq, ↓reduceIte, sevalprocAttr, encs] at h ⊢ | simp -implicitDefEqProofs only [eq_true hq, avm, reduceCtorEq, ↓reduceIte, sevalprocAttr, encs] at h ⊢))
    | ((first | refine gkc_split ?_ ?_ | refine pkc_split ?_ ?_ | refine condc_bool ?_ ?_) <;> intro hq <;> (first | exact bcontra (by assumption) hq | exact bcontra hq (by assumption) | simp -implicitDefEqProofs only [hq, avm, reduceCtorEq, ↓reduceIte, sevalprocAttr, encs] at h ⊢))
    | (refine bd_go h fun y hy h => ?_; refine ixc hy ?_; simp -implicitDefEqProofs only [avm, reduceCtorEq, ↓reduceIte, sevalprocAttr, encs])
    | (first | refine kn6 ⟨_, h, ?_⟩ | refine kn5 ⟨_, h, ?_⟩
       try simp -implicitDefEqProofs only [patOf, setB.eq_1, setB.eq_2, setF.eq_1, setF.eq_2, List.map_cons, List.map_nil, List.modify_zero_cons, List.modify_succ_cons, List.set_cons_zero, List.set_cons_succ, List.append_nil, List.nil_append, List.cons_append, setO.eq_1, tupC.eq_1, avm, reduceCtorEq, ↓reduceIte, sevalprocAttr, encs]
       (first
          | (refine wk_m 0 _ rfl ?_ rfl rfl ?_ ?_ ?_ ?_
             · first | exact Nat.le_refl _ | exact Nat.zero_le _ | (simp; done)
             · first | exact Nat.zero_le _ | exact Nat.le_refl _ | (simp; done)
             · first | exact Nat.zero_le _ | exact Nat.le_refl _ | (simp; done)
             all_goals (repeat' (first | exact trivial | apply And.intro))
             all_goals first | exact rfl | exact wkc_kv | exact wkc_FL | exact wka_full | exact wka_full0 | exact .same _ rfl | exact wka_imm | exact wka_app (by decide) | exact wka_tag (by decide) rfl | exact wka_tagn (by decide) rfl | exact wka_tagr (by decide) rfl (by simp only [pur, purL, purL_enc, Bool.and_self, Bool.and_true]) | exact wka_immn | (refine .imm _ _ _ _ (.inl rfl) (okBL_pur ?_); simp only [pur, purL, purL_enc, Bool.and_self, Bool.and_true]; done) | exact wka_tag0 (by decide) rfl | exact wka_imm0 | exact wka_pur (Enc.pure_enc _) | exact wka_pur pur_enc_sl | exact wka_pur pur_enc_fl | exact .und _ | (refine wka_pur ?_; simp only [pur, purL, purL_enc, Bool.and_self, Bool.and_true]; done) | (refine .same _ ?_; simp only [okB, okBL, okBL_enc, Bool.and_self, Bool.and_true, decide_true, sevalprocAttr]; done) | (refine .le _ _ ?_ (okB_pur ?_); (focus (repeat' (first | exact le_same _ | exact le_enc | exact le_nil | exact le_imm (.inl rfl) | exact le_imm (.inr rfl) | refine le_agg ?_ | exact trivial | apply And.intro))); (simp only [pur, purL, purL_enc, Bool.and_self, Bool.and_true]; done)))))
    | (first | refine kn6 ⟨_, h, ?_⟩ | refine kn5 ⟨_, h, ?_⟩
       try simp -implicitDefEqProofs only [*, patOf, setB.eq_1, setB.eq_2, setF.eq_1, setF.eq_2, List.map_cons, List.map_nil, List.modify_zero_cons, List.modify_succ_cons, List.set_cons_zero, List.set_cons_succ, List.append_nil, List.nil_append, List.cons_append, setO.eq_1, tupC.eq_1, avm, reduceCtorEq, ↓reduceIte, sevalprocAttr, encs]
       (first
          | (refine wk_m 0 _ rfl ?_ rfl rfl ?_ ?_ ?_ ?_
             · first | exact Nat.le_refl _ | exact Nat.zero_le _ | (simp; done)
             · first | exact Nat.zero_le _ | exact Nat.le_refl _ | (simp; done)
             · first | exact Nat.zero_le _ | exact Nat.le_refl _ | (simp; done)
             all_goals (repeat' (first | exact trivial | apply And.intro))
             all_goals first | exact rfl | exact wkc_kv | exact wkc_FL | exact wka_full | exact wka_full0 | exact .same _ rfl | exact wka_imm | exact wka_app (by decide) | exact wka_tag (by decide) rfl | exact wka_tagn (by decide) rfl | exact wka_tagr (by decide) rfl (by simp only [pur, purL, purL_enc, Bool.and_self, Bool.and_true]) | exact wka_immn | (refine .imm _ _ _ _ (.inl rfl) (okBL_pur ?_); simp only [pur, purL, purL_enc, Bool.and_self, Bool.and_true]; done) | exact wka_tag0 (by decide) rfl | exact wka_imm0 | exact wka_pur (Enc.pure_enc _) | exact wka_pur pur_enc_sl | exact wka_pur pur_enc_fl | exact .und _ | (refine wka_pur ?_; simp only [pur, purL, purL_enc, Bool.and_self, Bool.and_true]; done) | (refine .same _ ?_; simp only [okB, okBL, okBL_enc, Bool.and_self, Bool.and_true, decide_true, sevalprocAttr]; done) | (refine .le _ _ ?_ (okB_pur ?_); (focus (repeat' (first | exact le_same _ | exact le_enc | exact le_nil | exact le_imm (.inl rfl) | exact le_imm (.inr rfl) | refine le_agg ?_ | exact trivial | apply And.intro))); (simp only [pur, purL, purL_enc, Bool.and_self, Bool.and_true]; done)))))
    | (cases h
       try simp -implicitDefEqProofs only [avm, reduceCtorEq, ↓reduceIte, sevalprocAttr, encs]
       first | refine retLt (by first | exact .inr rfl | exact .inl rfl) (by rfl) ?_ | refine retL1 (by first | exact .inr rfl | exact .inl rfl) (by rfl) ?_
       repeat' (first | exact trivial | apply And.intro)
       all_goals first | exact .same _ rfl | exact reta_imm | exact reta_nil | (refine .imm _ _ _ ?_; simp only [pur, purL, purL_enc, Bool.and_self, Bool.and_true]; done) | exact .same _ (Enc.pure_enc _) | exact .same _ pur_enc_sl | exact .same _ pur_enc_fl | (refine .same _ ?_; simp only [pur, purL, purL_enc, Bool.and_self, Bool.and_true]; done) | (refine .le _ _ ?_ ?_; (focus (repeat' (first | exact le_same _ | exact le_enc | exact le_nil | exact le_imm (.inl rfl) | exact le_imm (.inr rfl) | refine le_agg ?_ | exact trivial | apply And.intro))); (simp only [pur, purL, purL_enc, Bool.and_self, Bool.and_true]; done)))
    | fail)
theorem a_ridgewaylaw15_RiseFew {a0 : Conf} {a1 : Conf} {a2 : Int} {r : Bool} (h : m_ridgewaylaw15_RiseFew a0 a1 a2 = some r) : ACt Try.prog 6 [Enc.enc a0, Enc.enc a1, Enc.enc a2] (Enc.enc r) [] := by
  refine act_of p_ridgewaylaw15_RiseFew (by simp [c_ridgewaylaw15_RiseFew]) ?_
  show AW _ b_ridgewaylaw15_RiseFew (RetOk [.tmp 6] _ _) { n := 92, tm := [(0, _), (1, _), (2, _)], box := [], fr := [] }
  unfold b_ridgewaylaw15_RiseFew
  unfold m_ridgewaylaw15_RiseFew at h
  try simp -implicitDefEqProofs only [avm, reduceCtorEq, ↓reduceIte, sevalprocAttr, encs] at h
  repeat' (first
    | (refine (hκ _).mpr ?_; clear hκ)
    | refine kn1 ?_
    | refine kr1 ?_
    | refine ke1 ?_
    | refine kn2 ?_
    | refine kr2 ?_
    | refine kx2 ?_
    | refine ke2 rfl ?_
    | refine kr5 ?_
    | refine ke5 ?_
    | refine kr6 ?_
    | refine ke6 ?_
    | (refine w_cutm (x := (.seq (.reg _) (.cond (.tmp 70) _ _))) [2, 4, 7, 8, 10] (fun (j : ((List Rule))) => [(11, (.slice .imm 6 (List.map Enc.enc j)))]) (fun (j : ((List Rule))) => []) (fun (j : ((List Rule))) => []) (fun (j : ((List Rule))) => []) (show jn 1 _ _ = some _ from h) ?_ ?_
       rotate_left
       intro j h
       simp -implicitDefEqProofs only [patOf, setB.eq_1, setB.eq_2, setF.eq_1, setF.eq_2, List.map_cons, List.map_nil, List.modify_zero_cons, List.modify_succ_cons, List.set_cons_zero, List.set_cons_succ, List.append_nil, List.nil_append, List.cons_append, setO.eq_1, tupC.eq_1, avm, reduceCtorEq, ↓reduceIte, sevalprocAttr, encs] at h ⊢
       rotate_left
       intro k' h
       try simp -implicitDefEqProofs only [avm, reduceCtorEq, ↓reduceIte, sevalprocAttr, encs] at h)
    | (refine w_cutm (x := (.seq (.reg _) (.cond (.tmp 70) _ _))) [2, 4, 7, 8, 10] (fun (j : ((List Rule))) => [(11, (.slice .imm 6 (List.map Enc.enc j)))]) (fun (j : ((List Rule))) => []) (fun (j : ((List Rule))) => []) (fun (j : ((List Rule))) => []) (show jn 2 _ _ = some _ from h) ?_ ?_
       rotate_left
       intro j h
       simp -implicitDefEqProofs only [patOf, setB.eq_1, setB.eq_2, setF.eq_1, setF.eq_2, List.map_cons, List.map_nil, List.modify_zero_cons, List.modify_succ_cons, List.set_cons_zero, List.set_cons_succ, List.append_nil, List.nil_append, List.cons_append, setO.eq_1, tupC.eq_1, avm, reduceCtorEq, ↓reduceIte, sevalprocAttr, encs] at h ⊢
       rotate_left
       intro k' h
       try simp -implicitDefEqProofs only [avm, reduceCtorEq, ↓reduceIte, sevalprocAttr, encs] at h)
    | (refine bd_go h fun y hy h => ?_; have hl := fzn_get hy; refine aw_frzN _ rfl rfl (by decide) (Nat.zero_le _) ?_; simp -implicitDefEqProofs only [hl, avm, reduceCtorEq, ↓reduceIte, sevalprocAttr, encs, List.take_succ_cons, List.take_zero] at h ⊢)
    | refine w_seq ?_
    | refine w_block ?_
    | refine w_scope ?_
    | refine kn7 ?_
    | refine kr7 ?_
    | refine ke7 ?_
    | (refine aw_regk fun κ hκ => ?_; simp -implicitDefEqProofs only [avm, reduceCtorEq, ↓reduceIte, sevalprocAttr, encs])
    | refine aw_exit ?_
    | refine aw_ret ?_
    | refine aw_skip ?_
    | refine aw_label ?_
    | refine condc_t ?_
    | refine condc_f ?_
    | (refine aw_cond2 (by simp -implicitDefEqProofs only [avm, reduceCtorEq, ↓reduceIte, sevalprocAttr, encs]; rfl) ?_)
    | ((first | refine gkc_fork ?_ ?_ | refine pkc_fork ?_ ?_ | refine condc_fork ?_ ?_) <;> intro hq <;> (first | contradiction | simp -implicitDefEqProofs only [eq_false hq, Decidable.not_not, avm, reduceCtorEq, ↓reduceIte, sevalprocAttr, encs] at h ⊢ | simp -implicitDefEqProofs only [eq_true hq, avm, reduceCtorEq, ↓reduceIte, sevalprocAttr, encs] at h ⊢))
    | ((first | refine gkc_split ?_ ?_ | refine pkc_split ?_ ?_ | refine condc_bool ?_ ?_) <;> intro hq <;> (first | exact bcontra (by assumption) hq | exact bcontra hq (by assumption) | simp -implicitDefEqProofs only [hq, avm, reduceCtorEq, ↓reduceIte, sevalprocAttr, encs] at h ⊢))
    | (refine bd_go h fun y hy h => ?_; (first | refine slb10 hy ?_ | refine slb01 hy ?_); simp -implicitDefEqProofs only [avm, reduceCtorEq, ↓reduceIte, sevalprocAttr, encs])
    | (refine bd_go h fun y hy h => ?_; refine prc_cps hy (by rfl) (by rfl) (by rfl) (by first | exact .inl rfl | exact .inr rfl) (by decide) ?_; simp -implicitDefEqProofs only [avm, reduceCtorEq, ↓reduceIte, sevalprocAttr, encs])
    | (refine bd_go h fun y hy h => ?_; refine bd_go h fun z hz h => ?_; refine prc_cpb hy hz (by rfl) (by rfl) (by rfl) (by decide) (by decide) ?_; simp -implicitDefEqProofs only [avm, reduceCtorEq, ↓reduceIte, sevalprocAttr, encs])
    | (refine bd_go h fun y hy h => ?_; refine apn hy (by decide) ?_; simp -implicitDefEqProofs only [avm, reduceCtorEq, ↓reduceIte, sevalprocAttr, encs])
    | (refine ap_emp hq ?_; simp -implicitDefEqProofs only [avm, reduceCtorEq, ↓reduceIte, sevalprocAttr, encs])
    | (refine bd_go h fun y hy h => ?_; obtain ⟨hn, hy⟩ := ixn_get hy; refine ixb hy hn ?_; simp -implicitDefEqProofs only [avm, reduceCtorEq, ↓reduceIte, sevalprocAttr, encs])
    | ((first | refine qld_one (k := 0) (by assumption) rfl (by first | rfl | omega) rfl ?_ | refine qld_one (by assumption) rfl rfl rfl ?_); simp -implicitDefEqProofs only [avm, reduceCtorEq, ↓reduceIte, sevalprocAttr, encs])
    | ((first | refine qld_all (k := 0) (by assumption) rfl (by first | rfl | omega) (by first | (simp; done) | decide) ?_ | refine qld_all (by assumption) rfl rfl (by first | (simp; done) | decide) ?_); simp -implicitDefEqProofs only [avm, reduceCtorEq, ↓reduceIte, sevalprocAttr, encs])
    | (refine bd_go h fun y hy h => ?_; (first | refine stbL (k := 0) hy (by assumption) rfl rfl rfl (by first | rfl | omega) (by rfl) rfl (by first | exact le_same _ | exact le_enc | exact le_nil | exact le_imm (.inl rfl) | exact le_imm (.inr rfl)) (by rfl) (Nat.le_of_ble_eq_true rfl) (by rfl) (by decide) ?_ | refine stbL hy (by assumption) rfl rfl rfl rfl (by rfl) rfl (by first | exact le_same _ | exact le_enc | exact le_nil | exact le_imm (.inl rfl) | exact le_imm (.inr rfl)) (by rfl) (Nat.le_of_ble_eq_true rfl) (by rfl) (by decide) ?_ | refine stb (k := 0) hy (by assumption) rfl rfl rfl rfl (by first | rfl | omega) rfl (by first | (simp; done) | decide) (by first | rfl | (simp -implicitDefEqProofs only [putCells.eq_1, avm, reduceCtorEq, ↓reduceIte, sevalprocAttr, encs]; done)) (by decide) ?_ | refine stb hy (by assumption) rfl rfl rfl rfl rfl rfl (by first | (simp; done) | decide) (by first | rfl | (simp -implicitDefEqProofs only [putCells.eq_1, avm, reduceCtorEq, ↓reduceIte, sevalprocAttr, encs]; done)) (by decide) ?_ | fail); simp -implicitDefEqProofs only [avm, reduceCtorEq, ↓reduceIte, sevalprocAttr, encs] at h ⊢)
    | (refine stc_plain rfl ?_; simp -implicitDefEqProofs only [putCells.eq_1, avm, reduceCtorEq, ↓reduceIte, sevalprocAttr, encs])
    | (refine bd_go h fun y hy h => ?_; refine ixc hy ?_; simp -implicitDefEqProofs only [avm, reduceCtorEq, ↓reduceIte, sevalprocAttr, encs])
    | (refine bd_go h fun y hy h => ?_
       refine apc hy (by first | rfl | (simp -implicitDefEqProofs only [avm, reduceCtorEq, ↓reduceIte, sevalprocAttr, encs]; done)) (by first | rfl | (simp -implicitDefEqProofs only [avm, reduceCtorEq, ↓reduceIte, sevalprocAttr, encs]; done)) (by first | exact .inl rfl | exact .inr rfl) (by first | exact .inl rfl | exact .inr rfl) (by simp only [apTag, List.getElem?_cons_zero, List.getElem?_cons_succ, ↓reduceIte, List.set_cons_zero, List.set_cons_succ, List.nil_append, List.cons_append, List.length_nil, List.length_cons, sevalprocAttr]; rfl) ?_
       simp -implicitDefEqProofs only [avm, reduceCtorEq, ↓reduceIte, sevalprocAttr, encs])
    | (refine bd_go h fun y hy h => ?_; (first | refine slc_max hy rfl (.inl rfl) asn_none ?_ | refine slc_max hy rfl (.inl rfl) (asn_some (by first | decide | omega)) ?_ | refine slc11 hy rfl (.inl rfl) ?_ | refine slc01 hy rfl (.inl rfl) ?_ | refine slc10 hy rfl (.inl rfl) ?_ | refine slc00 hy rfl (.inl rfl) ?_ | refine slc11 hy rfl (.inr rfl) ?_ | refine slc01 hy rfl (.inr rfl) ?_ | refine slc10 hy rfl (.inr rfl) ?_ | refine slc00 hy rfl (.inr rfl) ?_); simp -implicitDefEqProofs only [avm, reduceCtorEq, ↓reduceIte, sevalprocAttr, encs])
    | (refine bd_go h fun y hy h => ?_
       first | refine callsc (a_ridgewaylaw15_awake hy) ?_ ?_ | refine callc (a_ridgewaylaw15_awake hy) ?_ ?_ | ((first | refine callsc (act_le (a_ridgewaylaw15_awake hy) ?_) ?_ ?_ | refine callc (act_le (a_ridgewaylaw15_awake hy) ?_) ?_ ?_); (focus (repeat' (first | exact trivial | exact le_same _ | exact le_enc | exact le_nil | exact le_imm (.inl rfl) | exact le_imm (.inr rfl) | (refine le_agg ?_) | apply And.intro | (refine le_eq ?_; simp only [*]; done)))))
       focus (first | rfl | (simp only [purL, pur, purL_enc, Enc.pure_enc, Bool.and_self, Bool.and_true]; done))
       simp -implicitDefEqProofs only [avm, reduceCtorEq, ↓reduceIte, sevalprocAttr, encs])
    | (refine bd_go h fun y hy h => ?_
       first | refine callsc (a_ridgewayref12_Few hy) ?_ ?_ | refine callc (a_ridgewayref12_Few hy) ?_ ?_ | ((first | refine callsc (act_le (a_ridgewayref12_Few hy) ?_) ?_ ?_ | refine callc (act_le (a_ridgewayref12_Few hy) ?_) ?_ ?_); (focus (repeat' (first | exact trivial | exact le_same _ | exact le_enc | exact le_nil | exact le_imm (.inl rfl) | exact le_imm (.inr rfl) | (refine le_agg ?_) | apply And.intro | (refine le_eq ?_; simp only [*]; done)))))
       focus (first | rfl | (simp only [purL, pur, purL_enc, Enc.pure_enc, Bool.and_self, Bool.and_true]; done))
       simp -implicitDefEqProofs only [avm, reduceCtorEq, ↓reduceIte, sevalprocAttr, encs])
    | (refine bd_go h fun y hy h => ?_
       first | refine callsc (a_rise_Rises hy) ?_ ?_ | refine callc (a_rise_Rises hy) ?_ ?_ | ((first | refine callsc (act_le (a_rise_Rises hy) ?_) ?_ ?_ | refine callc (act_le (a_rise_Rises hy) ?_) ?_ ?_); (focus (repeat' (first | exact trivial | exact le_same _ | exact le_enc | exact le_nil | exact le_imm (.inl rfl) | exact le_imm (.inr rfl) | (refine le_agg ?_) | apply And.intro | (refine le_eq ?_; simp only [*]; done)))))
       focus (first | rfl | (simp only [purL, pur, purL_enc, Enc.pure_enc, Bool.and_self, Bool.and_true]; done))
       simp -implicitDefEqProofs only [avm, reduceCtorEq, ↓reduceIte, sevalprocAttr, encs])
    | (refine bd_go h fun y hy h => ?_
       first | refine callsc (a_rise_Side hy) ?_ ?_ | refine callc (a_rise_Side hy) ?_ ?_ | ((first | refine callsc (act_le (a_rise_Side hy) ?_) ?_ ?_ | refine callc (act_le (a_rise_Side hy) ?_) ?_ ?_); (focus (repeat' (first | exact trivial | exact le_same _ | exact le_enc | exact le_nil | exact le_imm (.inl rfl) | exact le_imm (.inr rfl) | (refine le_agg ?_) | apply And.intro | (refine le_eq ?_; simp only [*]; done)))))
       focus (first | rfl | (simp only [purL, pur, purL_enc, Enc.pure_enc, Bool.and_self, Bool.and_true]; done))
       simp -implicitDefEqProofs only [avm, reduceCtorEq, ↓reduceIte, sevalprocAttr, encs])
    | (refine bd_go h fun y hy h => ?_
       first | refine callsc (a_rise_Tells hy) ?_ ?_ | refine callc (a_rise_Tells hy) ?_ ?_ | ((first | refine callsc (act_le (a_rise_Tells hy) ?_) ?_ ?_ | refine callc (act_le (a_rise_Tells hy) ?_) ?_ ?_); (focus (repeat' (first | exact trivial | exact le_same _ | exact le_enc | exact le_nil | exact le_imm (.inl rfl) | exact le_imm (.inr rfl) | (refine le_agg ?_) | apply And.intro | (refine le_eq ?_; simp only [*]; done)))))
       focus (first | rfl | (simp only [purL, pur, purL_enc, Enc.pure_enc, Bool.and_self, Bool.and_true]; done))
       simp -implicitDefEqProofs only [avm, reduceCtorEq, ↓reduceIte, sevalprocAttr, encs])
    | (first | refine kn6 ⟨_, h, ?_⟩ | refine kn5 ⟨_, h, ?_⟩
       try simp -implicitDefEqProofs only [patOf, setB.eq_1, setB.eq_2, setF.eq_1, setF.eq_2, List.map_cons, List.map_nil, List.modify_zero_cons, List.modify_succ_cons, List.set_cons_zero, List.set_cons_succ, List.append_nil, List.nil_append, List.cons_append, setO.eq_1, tupC.eq_1, avm, reduceCtorEq, ↓reduceIte, sevalprocAttr, encs]
       (first
          | (refine wk_m 1 _ rfl ?_ rfl rfl ?_ ?_ ?_ ?_
             · first | exact Nat.le_refl _ | exact Nat.zero_le _ | (simp; done)
             · first | exact Nat.zero_le _ | exact Nat.le_refl _ | (simp; done)
             · first | exact Nat.zero_le _ | exact Nat.le_refl _ | (simp; done)
             all_goals (repeat' (first | exact trivial | apply And.intro))
             all_goals first | exact rfl | exact wkc_kv | exact wkc_FL | exact wka_full | exact wka_full0 | exact .same _ rfl | exact wka_imm | exact wka_app (by decide) | exact wka_tag (by decide) rfl | exact wka_tagn (by decide) rfl | exact wka_tagr (by decide) rfl (by simp only [pur, purL, purL_enc, Bool.and_self, Bool.and_true]) | exact wka_immn | (refine .imm _ _ _ _ (.inl rfl) (okBL_pur ?_); simp only [pur, purL, purL_enc, Bool.and_self, Bool.and_true]; done) | exact wka_tag0 (by decide) rfl | exact wka_imm0 | exact wka_pur (Enc.pure_enc _) | exact wka_pur pur_enc_sl | exact wka_pur pur_enc_fl | exact .und _ | (refine wka_pur ?_; simp only [pur, purL, purL_enc, Bool.and_self, Bool.and_true]; done) | (refine .same _ ?_; simp only [okB, okBL, okBL_enc, Bool.and_self, Bool.and_true, decide_true, sevalprocAttr]; done) | (refine .le _ _ ?_ (okB_pur ?_); (focus (repeat' (first | exact le_same _ | exact le_enc | exact le_nil | exact le_imm (.inl rfl) | exact le_imm (.inr rfl) | refine le_agg ?_ | exact trivial | apply And.intro))); (simp only [pur, purL, purL_enc, Bool.and_self, Bool.and_true]; done)))
          | (refine wk_m 2 _ rfl ?_ rfl rfl ?_ ?_ ?_ ?_
             · first | exact Nat.le_refl _ | exact Nat.zero_le _ | (simp; done)
             · first | exact Nat.zero_le _ | exact Nat.le_refl _ | (simp; done)
             · first | exact Nat.zero_le _ | exact Nat.le_refl _ | (simp; done)
             all_goals (repeat' (first | exact trivial | apply And.intro))
             all_goals first | exact rfl | exact wkc_kv | exact wkc_FL | exact wka_full | exact wka_full0 | exact .same _ rfl | exact wka_imm | exact wka_app (by decide) | exact wka_tag (by decide) rfl | exact wka_tagn (by decide) rfl | exact wka_tagr (by decide) rfl (by simp only [pur, purL, purL_enc, Bool.and_self, Bool.and_true]) | exact wka_immn | (refine .imm _ _ _ _ (.inl rfl) (okBL_pur ?_); simp only [pur, purL, purL_enc, Bool.and_self, Bool.and_true]; done) | exact wka_tag0 (by decide) rfl | exact wka_imm0 | exact wka_pur (Enc.pure_enc _) | exact wka_pur pur_enc_sl | exact wka_pur pur_enc_fl | exact .und _ | (refine wka_pur ?_; simp only [pur, purL, purL_enc, Bool.and_self, Bool.and_true]; done) | (refine .same _ ?_; simp only [okB, okBL, okBL_enc, Bool.and_self, Bool.and_true, decide_true, sevalprocAttr]; done) | (refine .le _ _ ?_ (okB_pur ?_); (focus (repeat' (first | exact le_same _ | exact le_enc | exact le_nil | exact le_imm (.inl rfl) | exact le_imm (.inr rfl) | refine le_agg ?_ | exact trivial | apply And.intro))); (simp only [pur, purL, purL_enc, Bool.and_self, Bool.and_true]; done)))))
    | (first | refine kn6 ⟨_, h, ?_⟩ | refine kn5 ⟨_, h, ?_⟩
       try simp -implicitDefEqProofs only [*, patOf, setB.eq_1, setB.eq_2, setF.eq_1, setF.eq_2, List.map_cons, List.map_nil, List.modify_zero_cons, List.modify_succ_cons, List.set_cons_zero, List.set_cons_succ, List.append_nil, List.nil_append, List.cons_append, setO.eq_1, tupC.eq_1, avm, reduceCtorEq, ↓reduceIte, sevalprocAttr, encs]
       (first
          | (refine wk_m 1 _ rfl ?_ rfl rfl ?_ ?_ ?_ ?_
             · first | exact Nat.le_refl _ | exact Nat.zero_le _ | (simp; done)
             · first | exact Nat.zero_le _ | exact Nat.le_refl _ | (simp; done)
             · first | exact Nat.zero_le _ | exact Nat.le_refl _ | (simp; done)
             all_goals (repeat' (first | exact trivial | apply And.intro))
             all_goals first | exact rfl | exact wkc_kv | exact wkc_FL | exact wka_full | exact wka_full0 | exact .same _ rfl | exact wka_imm | exact wka_app (by decide) | exact wka_tag (by decide) rfl | exact wka_tagn (by decide) rfl | exact wka_tagr (by decide) rfl (by simp only [pur, purL, purL_enc, Bool.and_self, Bool.and_true]) | exact wka_immn | (refine .imm _ _ _ _ (.inl rfl) (okBL_pur ?_); simp only [pur, purL, purL_enc, Bool.and_self, Bool.and_true]; done) | exact wka_tag0 (by decide) rfl | exact wka_imm0 | exact wka_pur (Enc.pure_enc _) | exact wka_pur pur_enc_sl | exact wka_pur pur_enc_fl | exact .und _ | (refine wka_pur ?_; simp only [pur, purL, purL_enc, Bool.and_self, Bool.and_true]; done) | (refine .same _ ?_; simp only [okB, okBL, okBL_enc, Bool.and_self, Bool.and_true, decide_true, sevalprocAttr]; done) | (refine .le _ _ ?_ (okB_pur ?_); (focus (repeat' (first | exact le_same _ | exact le_enc | exact le_nil | exact le_imm (.inl rfl) | exact le_imm (.inr rfl) | refine le_agg ?_ | exact trivial | apply And.intro))); (simp only [pur, purL, purL_enc, Bool.and_self, Bool.and_true]; done)))
          | (refine wk_m 2 _ rfl ?_ rfl rfl ?_ ?_ ?_ ?_
             · first | exact Nat.le_refl _ | exact Nat.zero_le _ | (simp; done)
             · first | exact Nat.zero_le _ | exact Nat.le_refl _ | (simp; done)
             · first | exact Nat.zero_le _ | exact Nat.le_refl _ | (simp; done)
             all_goals (repeat' (first | exact trivial | apply And.intro))
             all_goals first | exact rfl | exact wkc_kv | exact wkc_FL | exact wka_full | exact wka_full0 | exact .same _ rfl | exact wka_imm | exact wka_app (by decide) | exact wka_tag (by decide) rfl | exact wka_tagn (by decide) rfl | exact wka_tagr (by decide) rfl (by simp only [pur, purL, purL_enc, Bool.and_self, Bool.and_true]) | exact wka_immn | (refine .imm _ _ _ _ (.inl rfl) (okBL_pur ?_); simp only [pur, purL, purL_enc, Bool.and_self, Bool.and_true]; done) | exact wka_tag0 (by decide) rfl | exact wka_imm0 | exact wka_pur (Enc.pure_enc _) | exact wka_pur pur_enc_sl | exact wka_pur pur_enc_fl | exact .und _ | (refine wka_pur ?_; simp only [pur, purL, purL_enc, Bool.and_self, Bool.and_true]; done) | (refine .same _ ?_; simp only [okB, okBL, okBL_enc, Bool.and_self, Bool.and_true, decide_true, sevalprocAttr]; done) | (refine .le _ _ ?_ (okB_pur ?_); (focus (repeat' (first | exact le_same _ | exact le_enc | exact le_nil | exact le_imm (.inl rfl) | exact le_imm (.inr rfl) | refine le_agg ?_ | exact trivial | apply And.intro))); (simp only [pur, purL, purL_enc, Bool.and_self, Bool.and_true]; done)))))
    | (cases h
       try simp -implicitDefEqProofs only [avm, reduceCtorEq, ↓reduceIte, sevalprocAttr, encs]
       first | refine retLt (by first | exact .inr rfl | exact .inl rfl) (by rfl) ?_ | refine retL1 (by first | exact .inr rfl | exact .inl rfl) (by rfl) ?_
       repeat' (first | exact trivial | apply And.intro)
       all_goals first | exact .same _ rfl | exact reta_imm | exact reta_nil | (refine .imm _ _ _ ?_; simp only [pur, purL, purL_enc, Bool.and_self, Bool.and_true]; done) | exact .same _ (Enc.pure_enc _) | exact .same _ pur_enc_sl | exact .same _ pur_enc_fl | (refine .same _ ?_; simp only [pur, purL, purL_enc, Bool.and_self, Bool.and_true]; done) | (refine .le _ _ ?_ ?_; (focus (repeat' (first | exact le_same _ | exact le_enc | exact le_nil | exact le_imm (.inl rfl) | exact le_imm (.inr rfl) | refine le_agg ?_ | exact trivial | apply And.intro))); (simp only [pur, purL, purL_enc, Bool.and_self, Bool.and_true]; done)))
    | (cases h; done)
    | ((refine sw_fork h (fun hq h => ?_) (fun hq h => ?_)) <;> (first | contradiction | simp -implicitDefEqProofs only [eq_false hq, Decidable.not_not, avm, reduceCtorEq, ↓reduceIte, sevalprocAttr, encs] at h ⊢ | simp -implicitDefEqProofs only [hq, avm, reduceCtorEq, ↓reduceIte, sevalprocAttr, encs] at h ⊢ | skip))
    | fail)
end Go.Proofs.Ytpclfdndjillnaa
