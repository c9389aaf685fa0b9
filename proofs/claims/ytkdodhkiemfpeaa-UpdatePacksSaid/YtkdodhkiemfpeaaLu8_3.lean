/- Functions compute what their models do. -/
import Derived.Test.YtkdodhkiemfpeaaLfa
import Derived.Test.YtkdodhkiemfpeaaAcu8
import Derived.Test.YtkdodhkiemfpeaaMu8
import Derived.Test.YtkdodhkiemfpeaaLu8_2
namespace Go.Proofs.Ytkdodhkiemfpeaa
open Go.RowKit
set_option maxHeartbeats 8000000
set_option maxRecDepth 100000
set_option linter.unusedSimpArgs false
set_option linter.unusedVariables false
theorem a_ridgewaylaw08_UpdatePacks {a0 : News} {r : Bool} (h : m_ridgewaylaw08_UpdatePacks a0 = some r) : ACt Try.prog 4 [Enc.enc a0] (Enc.enc r) [] := by
  refine act_of p_ridgewaylaw08_UpdatePacks (by simp [c_ridgewaylaw08_UpdatePacks]) ?_
  show AW _ b_ridgewaylaw08_UpdatePacks (RetOk [.tmp 2] _ _) { n := 17, tm := [(0, _)], box := [], fr := [] }
  unfold b_ridgewaylaw08_UpdatePacks
  unfold m_ridgewaylaw08_UpdatePacks at h
  try simp -implicitDefEqProofs only [avm, reduceCtorEq, ↓reduceIte, sevalprocAttr, encs] at h
  repeat' (first
    | (refine (hκ _).mpr ?_; clear hκ)
    | refine kn1 ?_
    | refine kr1 ?_
    | refine ke1 ?_
    | refine kn2 ?_
    | refine kr2 ?_
    | refine kx2 ?_
    | refine ke2 rfl ?_
    | refine kr5 ?_
    | refine ke5 ?_
    | refine kr6 ?_
    | refine ke6 ?_
    | refine w_seq ?_
    | refine w_block ?_
    | refine w_scope ?_
    | refine kn7 ?_
    | refine kr7 ?_
    | refine ke7 ?_
    | (refine aw_regk fun κ hκ => ?_; simp -implicitDefEqProofs only [avm, reduceCtorEq, ↓reduceIte, sevalprocAttr, encs])
    | refine aw_exit ?_
    | refine aw_ret ?_
    | refine aw_skip ?_
    | refine aw_label ?_
    | refine condc_t ?_
    | refine condc_f ?_
    | (refine aw_cond2 (by simp -implicitDefEqProofs only [avm, reduceCtorEq, ↓reduceIte, sevalprocAttr, encs]; rfl) ?_)
    | ((first | refine gkc_fork ?_ ?_ | refine pkc_fork ?_ ?_ | refine condc_fork ?_ ?_) <;> intro hq <;> (first | contradiction | simp -implicitDefEqProofs only [eq_false hq, Decidable.not_not, avm, reduceCtorEq, ↓reduceIte, sevalprocAttr, encs] at h ⊢ | simp -implicitDefEqProofs only [eq_true hq, avm, reduceCtorEq, ↓reduceIte, sevalprocAttr, encs] at h ⊢))
    | ((first | refine gkc_split ?_ ?_ | refine pkc_split ?_ ?_ | refine condc_bool ?_ ?_) <;> intro hq <;> (first | exact bcontra (by assumption) hq | exact bcontra hq (by assumption) | simp -implicitDefEqProofs only [hq, avm, reduceCtorEq, ↓reduceIte, sevalprocAttr, encs] at h ⊢))
    | (refine bd_go h fun y hy h => ?_
       first | refine callsc (a_ridgewaylaw08_awake hy) ?_ ?_ | refine callc (a_ridgewaylaw08_awake hy) ?_ ?_ | ((first | refine callsc (act_le (a_ridgewaylaw08_awake hy) ?_) ?_ ?_ | refine callc (act_le (a_ridgewaylaw08_awake hy) ?_) ?_ ?_); (focus (repeat' (first | exact trivial | exact le_same _ | exact le_enc | exact le_nil | exact le_imm (.inl rfl) | exact le_imm (.inr rfl) | (refine le_agg ?_) | apply And.intro | (refine le_eq ?_; simp only [*]; done)))))
       focus (first | rfl | (simp only [purL, pur, purL_enc, Enc.pure_enc, Bool.and_self, Bool.and_true]; done))
       simp -implicitDefEqProofs only [avm, reduceCtorEq, ↓reduceIte, sevalprocAttr, encs])
    | (refine bd_go h fun y hy h => ?_
       first | refine callsc (a_ridgewayref08_Few hy) ?_ ?_ | refine callc (a_ridgewayref08_Few hy) ?_ ?_ | ((first | refine callsc (act_le (a_ridgewayref08_Few hy) ?_) ?_ ?_ | refine callc (act_le (a_ridgewayref08_Few hy) ?_) ?_ ?_); (focus (repeat' (first | exact trivial | exact le_same _ | exact le_enc | exact le_nil | exact le_imm (.inl rfl) | exact le_imm (.inr rfl) | (refine le_agg ?_) | apply And.intro | (refine le_eq ?_; simp only [*]; done)))))
       focus (first | rfl | (simp only [purL, pur, purL_enc, Enc.pure_enc, Bool.and_self, Bool.and_true]; done))
       simp -implicitDefEqProofs only [avm, reduceCtorEq, ↓reduceIte, sevalprocAttr, encs])
    | (refine bd_go h fun y hy h => ?_
       first | refine callsc (a_update_Pack hy) ?_ ?_ | refine callc (a_update_Pack hy) ?_ ?_ | ((first | refine callsc (act_le (a_update_Pack hy) ?_) ?_ ?_ | refine callc (act_le (a_update_Pack hy) ?_) ?_ ?_); (focus (repeat' (first | exact trivial | exact le_same _ | exact le_enc | exact le_nil | exact le_imm (.inl rfl) | exact le_imm (.inr rfl) | (refine le_agg ?_) | apply And.intro | (refine le_eq ?_; simp only [*]; done)))))
       focus (first | rfl | (simp only [purL, pur, purL_enc, Enc.pure_enc, Bool.and_self, Bool.and_true]; done))
       simp -implicitDefEqProofs only [avm, reduceCtorEq, ↓reduceIte, sevalprocAttr, encs])
    | (refine bd_go h fun y hy h => ?_
       first | refine callsc (a_ridgewayref08_Pack hy) ?_ ?_ | refine callc (a_ridgewayref08_Pack hy) ?_ ?_ | ((first | refine callsc (act_le (a_ridgewayref08_Pack hy) ?_) ?_ ?_ | refine callc (act_le (a_ridgewayref08_Pack hy) ?_) ?_ ?_); (focus (repeat' (first | exact trivial | exact le_same _ | exact le_enc | exact le_nil | exact le_imm (.inl rfl) | exact le_imm (.inr rfl) | (refine le_agg ?_) | apply And.intro | (refine le_eq ?_; simp only [*]; done)))))
       focus (first | rfl | (simp only [purL, pur, purL_enc, Enc.pure_enc, Bool.and_self, Bool.and_true]; done))
       simp -implicitDefEqProofs only [avm, reduceCtorEq, ↓reduceIte, sevalprocAttr, encs])
    | (refine bd_go h fun y hy h => ?_
       first | refine callsc (a_ridgewayref03_SameAll hy) ?_ ?_ | refine callc (a_ridgewayref03_SameAll hy) ?_ ?_ | ((first | refine callsc (act_le (a_ridgewayref03_SameAll hy) ?_) ?_ ?_ | refine callc (act_le (a_ridgewayref03_SameAll hy) ?_) ?_ ?_); (focus (repeat' (first | exact trivial | exact le_same _ | exact le_enc | exact le_nil | exact le_imm (.inl rfl) | exact le_imm (.inr rfl) | (refine le_agg ?_) | apply And.intro | (refine le_eq ?_; simp only [*]; done)))))
       focus (first | rfl | (simp only [purL, pur, purL_enc, Enc.pure_enc, Bool.and_self, Bool.and_true]; done))
       simp -implicitDefEqProofs only [avm, reduceCtorEq, ↓reduceIte, sevalprocAttr, encs])
    | (cases h
       try simp -implicitDefEqProofs only [avm, reduceCtorEq, ↓reduceIte, sevalprocAttr, encs]
       first | refine retLt (by first | exact .inr rfl | exact .inl rfl) (by rfl) ?_ | refine retL1 (by first | exact .inr rfl | exact .inl rfl) (by rfl) ?_
       repeat' (first | exact trivial | apply And.intro)
       all_goals first | exact .same _ rfl | exact reta_imm | exact reta_nil | (refine .imm _ _ _ ?_; simp only [prs]; done) | exact .same _ (Enc.pure_enc _) | exact .same _ pur_enc_sl | exact .same _ pur_enc_fl | (refine .same _ ?_; simp only [prs]; done) | (refine .le _ _ ?_ ?_; (focus (repeat' (first | exact le_same _ | exact le_enc | exact le_nil | exact le_imm (.inl rfl) | exact le_imm (.inr rfl) | refine le_agg ?_ | exact trivial | apply And.intro))); (simp only [prs]; done)))
    | fail)
end Go.Proofs.Ytkdodhkiemfpeaa
