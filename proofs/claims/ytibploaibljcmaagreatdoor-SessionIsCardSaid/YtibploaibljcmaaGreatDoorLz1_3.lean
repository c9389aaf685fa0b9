import Derived.Test.YtibploaibljcmaaGreatDoorLfa
import Derived.Test.YtibploaibljcmaaGreatDoorAcz1
import Derived.Test.YtibploaibljcmaaGreatDoorMz1
import Derived.Test.YtibploaibljcmaaGreatDoorLz1_2
namespace Go.Proofs.YtibploaibljcmaaGreatDoor
open Go.RowKit
set_option maxHeartbeats 8000000
set_option maxRecDepth 100000
set_option linter.unusedSimpArgs false
set_option linter.unusedVariables false
theorem a_ridgewayref06_Put {a0 : Hello} {r : Msg} (h : m_ridgewayref06_Put a0 = some r) : ACt Tryz.prog 26 [Enc.enc a0] (Enc.enc r) [] := by
 refine act_of p_ridgewayref06_Put (by simp [c_ridgewayref06_Put]) ?_
 show AW _ b_ridgewayref06_Put (RetOk [.cell 2 (some 2)] _ _) { n := 48, tm := [(0, _)], box := [], fr := [] }
 unfold b_ridgewayref06_Put
 unfold m_ridgewayref06_Put at h
 try simp -implicitDefEqProofs only [av, reduceCtorEq, ↓reduceIte, sevalprocAttr] at h
 repeat' (first
   | (refine (hκ _).mpr ?_; clear hκ)
   | refine kn1 ?_
   | refine kr1 ?_
   | refine ke1 ?_
   | refine kn2 ?_
   | refine kr2 ?_
   | refine kx2 ?_
   | refine ke2 rfl ?_
   | refine kr5 ?_
   | refine ke5 ?_
   | refine kr6 ?_
   | refine ke6 ?_
   | (refine w_cutm (x := (.seq (.reg _) (.cond (.tmp 30) _ _))) [2, 3] (fun (j : ((List UInt8))) => [(4, (.slice (.app 3) 1 (List.map Enc.enc j)))]) (fun (j : ((List UInt8))) => []) (fun (j : ((List UInt8))) => [(3, j.length)]) (fun (j : ((List UInt8))) => []) (show jn 1 _ _ = some _ from h) ?_ ?_
      rotate_left
      intro j h
      simp -implicitDefEqProofs only [pats, av, reduceCtorEq, ↓reduceIte, sevalprocAttr] at h ⊢
      rotate_left
      intro k' h
      try simp -implicitDefEqProofs only [av, reduceCtorEq, ↓reduceIte, sevalprocAttr] at h)
   | refine w_seq ?_
   | refine w_block ?_
   | refine w_scope ?_
   | refine kn7 ?_
   | refine kr7 ?_
   | refine ke7 ?_
   | (refine aw_regk fun κ hκ => ?_; simp -implicitDefEqProofs only [av, reduceCtorEq, ↓reduceIte, sevalprocAttr])
   | refine aw_exit ?_
   | refine aw_ret ?_
   | refine aw_skip ?_
   | refine aw_label ?_
   | refine condc_t ?_
   | refine condc_f ?_
   | (refine aw_cond2 tk4 ?_)
   | ((first | refine gkc_fork ?_ ?_ | refine pkc_fork ?_ ?_ | refine condc_fork ?_ ?_) <;> intro hq <;> (first | contradiction | simp -implicitDefEqProofs only [eq_false hq, Decidable.not_not, av, reduceCtorEq, ↓reduceIte, sevalprocAttr] at h ⊢ | simp -implicitDefEqProofs only [eq_true hq, av, reduceCtorEq, ↓reduceIte, sevalprocAttr] at h ⊢))
   | ((first | refine gkc_split ?_ ?_ | refine pkc_split ?_ ?_ | refine condc_bool ?_ ?_) <;> intro hq <;> (first | exact bcontra (by assumption) hq | exact bcontra hq (by assumption) | simp -implicitDefEqProofs only [hq, av, reduceCtorEq, ↓reduceIte, sevalprocAttr] at h ⊢))
   | (refine stc_plain rfl ?_; simp -implicitDefEqProofs only [putCells.eq_1, av, reduceCtorEq, ↓reduceIte, sevalprocAttr])
   | (refine bd_go h fun y hy h => ?_
      refine apc hy tk6 tk6 tk7 tk7 tk8 ?_
      simp -implicitDefEqProofs only [av, reduceCtorEq, ↓reduceIte, sevalprocAttr])
   | (refine bd_go h fun y hy h => ?_
      first | refine callsc (a_ridgewayref06_Sane hy) ?_ ?_ | refine callc (a_ridgewayref06_Sane hy) ?_ ?_ | ((first | refine callsc (act_le (a_ridgewayref06_Sane hy) ?_) ?_ ?_ | refine callc (act_le (a_ridgewayref06_Sane hy) ?_) ?_ ?_); (focus (repeat' (first | exact trivial | exact le_same _ | exact le_enc | exact le_nil | exact le_imm (.inl rfl) | exact le_imm (.inr rfl) | (refine le_agg ?_) | apply And.intro | (refine le_eq ?_; simp only [*]; done)))))
      exact tk2
      simp -implicitDefEqProofs only [av, reduceCtorEq, ↓reduceIte, sevalprocAttr])
   | (refine bd_go h fun y hy h => ?_
      first | refine callsc (a_ridgewayref06_two hy) ?_ ?_ | refine callc (a_ridgewayref06_two hy) ?_ ?_ | ((first | refine callsc (act_le (a_ridgewayref06_two hy) ?_) ?_ ?_ | refine callc (act_le (a_ridgewayref06_two hy) ?_) ?_ ?_); (focus (repeat' (first | exact trivial | exact le_same _ | exact le_enc | exact le_nil | exact le_imm (.inl rfl) | exact le_imm (.inr rfl) | (refine le_agg ?_) | apply And.intro | (refine le_eq ?_; simp only [*]; done)))))
      exact tk2
      simp -implicitDefEqProofs only [av, reduceCtorEq, ↓reduceIte, sevalprocAttr])
   | (refine bd_go h fun y hy h => ?_
      first | refine callsc (a_ridgewayref01_Put hy) ?_ ?_ | refine callc (a_ridgewayref01_Put hy) ?_ ?_ | ((first | refine callsc (act_le (a_ridgewayref01_Put hy) ?_) ?_ ?_ | refine callc (act_le (a_ridgewayref01_Put hy) ?_) ?_ ?_); (focus (repeat' (first | exact trivial | exact le_same _ | exact le_enc | exact le_nil | exact le_imm (.inl rfl) | exact le_imm (.inr rfl) | (refine le_agg ?_) | apply And.intro | (refine le_eq ?_; simp only [*]; done)))))
      exact tk2
      simp -implicitDefEqProofs only [av, reduceCtorEq, ↓reduceIte, sevalprocAttr])
   | (first | refine kn6 ⟨_, h, ?_⟩ | refine kn5 ⟨_, h, ?_⟩
      try simp -implicitDefEqProofs only [pats, av, reduceCtorEq, ↓reduceIte, sevalprocAttr]
      (first
         | (refine wk_m 4 _ rfl ?_ rfl rfl ?_ ?_ ?_ ?_
            iterate 3 exact tk3
            all_goals (repeat' (first | exact trivial | apply And.intro))
            all_goals exact tk1)))
   | (first | refine kn6 ⟨_, h, ?_⟩ | refine kn5 ⟨_, h, ?_⟩
      try simp -implicitDefEqProofs only [*, pats, av, reduceCtorEq, ↓reduceIte, sevalprocAttr]
      (first
         | (refine wk_m 4 _ rfl ?_ rfl rfl ?_ ?_ ?_ ?_
            iterate 3 exact tk3
            all_goals (repeat' (first | exact trivial | apply And.intro))
            all_goals exact tk1)))
   | (cases h
      try simp -implicitDefEqProofs only [av, reduceCtorEq, ↓reduceIte, sevalprocAttr]
      first | refine retLt tk5 (by rfl) ?_ | refine retL1 tk5 (by rfl) ?_
      repeat' (first | exact trivial | apply And.intro)
      all_goals exact tk0)
   | fail)
theorem a_ridgewayref17_Start {a0 : Sess} {a1 : Conf} {a2 : Int} {r : (Sess × (List Msg))} (h : m_ridgewayref17_Start a0 a1 a2 = some r) : ACt Tryz.prog 7 [Enc.enc a0, Enc.enc a1, Enc.enc a2] (.tup [Enc.enc r.1, Enc.enc r.2]) [] := by
 refine act_of p_ridgewayref17_Start (by simp [c_ridgewayref17_Start]) ?_
 show AW _ b_ridgewayref17_Start (RetOk [.cell 6 (some 4), .tmp 7] _ _) { n := 28, tm := [(0, _), (1, _), (2, _)], box := [], fr := [] }
 unfold b_ridgewayref17_Start
 unfold m_ridgewayref17_Start at h
 try simp -implicitDefEqProofs only [av, reduceCtorEq, ↓reduceIte, sevalprocAttr] at h
 repeat' (first
   | (refine (hκ _).mpr ?_; clear hκ)
   | refine kn1 ?_
   | refine kr1 ?_
   | refine ke1 ?_
   | refine kn2 ?_
   | refine kr2 ?_
   | refine kx2 ?_
   | refine ke2 rfl ?_
   | refine kr5 ?_
   | refine ke5 ?_
   | refine kr6 ?_
   | refine ke6 ?_
   | refine w_seq ?_
   | refine w_block ?_
   | refine w_scope ?_
   | refine kn7 ?_
   | refine kr7 ?_
   | refine ke7 ?_
   | (refine aw_regk fun κ hκ => ?_; simp -implicitDefEqProofs only [av, reduceCtorEq, ↓reduceIte, sevalprocAttr])
   | refine aw_exit ?_
   | refine aw_ret ?_
   | refine aw_skip ?_
   | refine aw_label ?_
   | refine condc_t ?_
   | refine condc_f ?_
   | (refine aw_cond2 tk4 ?_)
   | ((first | refine gkc_fork ?_ ?_ | refine pkc_fork ?_ ?_ | refine condc_fork ?_ ?_) <;> intro hq <;> (first | contradiction | simp -implicitDefEqProofs only [eq_false hq, Decidable.not_not, av, reduceCtorEq, ↓reduceIte, sevalprocAttr] at h ⊢ | simp -implicitDefEqProofs only [eq_true hq, av, reduceCtorEq, ↓reduceIte, sevalprocAttr] at h ⊢))
   | ((first | refine gkc_split ?_ ?_ | refine pkc_split ?_ ?_ | refine condc_bool ?_ ?_) <;> intro hq <;> (first | exact bcontra (by assumption) hq | exact bcontra hq (by assumption) | simp -implicitDefEqProofs only [hq, av, reduceCtorEq, ↓reduceIte, sevalprocAttr] at h ⊢))
   | (refine stc_plain rfl ?_; simp -implicitDefEqProofs only [putCells.eq_1, av, reduceCtorEq, ↓reduceIte, sevalprocAttr])
   | (refine bd_go h fun y hy h => ?_
      first | refine callsc (a_ridgewayref17_As hy) ?_ ?_ | refine callc (a_ridgewayref17_As hy) ?_ ?_ | ((first | refine callsc (act_le (a_ridgewayref17_As hy) ?_) ?_ ?_ | refine callc (act_le (a_ridgewayref17_As hy) ?_) ?_ ?_); (focus (repeat' (first | exact trivial | exact le_same _ | exact le_enc | exact le_nil | exact le_imm (.inl rfl) | exact le_imm (.inr rfl) | (refine le_agg ?_) | apply And.intro | (refine le_eq ?_; simp only [*]; done)))))
      exact tk2
      simp -implicitDefEqProofs only [av, reduceCtorEq, ↓reduceIte, sevalprocAttr])
   | (refine bd_go h fun y hy h => ?_
      first | refine callsc (a_ridgewayref17_Hello hy) ?_ ?_ | refine callc (a_ridgewayref17_Hello hy) ?_ ?_ | ((first | refine callsc (act_le (a_ridgewayref17_Hello hy) ?_) ?_ ?_ | refine callc (act_le (a_ridgewayref17_Hello hy) ?_) ?_ ?_); (focus (repeat' (first | exact trivial | exact le_same _ | exact le_enc | exact le_nil | exact le_imm (.inl rfl) | exact le_imm (.inr rfl) | (refine le_agg ?_) | apply And.intro | (refine le_eq ?_; simp only [*]; done)))))
      exact tk2
      simp -implicitDefEqProofs only [av, reduceCtorEq, ↓reduceIte, sevalprocAttr])
   | (refine bd_go h fun y hy h => ?_
      first | refine callsc (a_ridgewayref06_Put hy) ?_ ?_ | refine callc (a_ridgewayref06_Put hy) ?_ ?_ | ((first | refine callsc (act_le (a_ridgewayref06_Put hy) ?_) ?_ ?_ | refine callc (act_le (a_ridgewayref06_Put hy) ?_) ?_ ?_); (focus (repeat' (first | exact trivial | exact le_same _ | exact le_enc | exact le_nil | exact le_imm (.inl rfl) | exact le_imm (.inr rfl) | (refine le_agg ?_) | apply And.intro | (refine le_eq ?_; simp only [*]; done)))))
      exact tk2
      simp -implicitDefEqProofs only [av, reduceCtorEq, ↓reduceIte, sevalprocAttr])
   | (cases h
      try simp -implicitDefEqProofs only [av, reduceCtorEq, ↓reduceIte, sevalprocAttr]
      first | refine retLt tk5 (by rfl) ?_ | refine retL1 tk5 (by rfl) ?_
      repeat' (first | exact trivial | apply And.intro)
      all_goals exact tk0)
   | fail)
theorem a_ridgewayref03_Least {a0 : Int} {r : Int} (h : m_ridgewayref03_Least a0 = some r) : ACt Tryz.prog 73 [Enc.enc a0] (Enc.enc r) [] := by
 refine act_of p_ridgewayref03_Least (by simp [c_ridgewayref03_Least]) ?_
 show AW _ b_ridgewayref03_Least (RetOk [.tmp 2] _ _) { n := 12, tm := [(0, _)], box := [], fr := [] }
 unfold b_ridgewayref03_Least
 unfold m_ridgewayref03_Least at h
 try simp -implicitDefEqProofs only [av, reduceCtorEq, ↓reduceIte, sevalprocAttr] at h
 repeat' (first
   | (refine (hκ _).mpr ?_; clear hκ)
   | refine kn1 ?_
   | refine kr1 ?_
   | refine ke1 ?_
   | refine kn2 ?_
   | refine kr2 ?_
   | refine kx2 ?_
   | refine ke2 rfl ?_
   | refine kr5 ?_
   | refine ke5 ?_
   | refine kr6 ?_
   | refine ke6 ?_
   | refine w_seq ?_
   | refine w_block ?_
   | refine w_scope ?_
   | refine kn7 ?_
   | refine kr7 ?_
   | refine ke7 ?_
   | (refine aw_regk fun κ hκ => ?_; simp -implicitDefEqProofs only [av, reduceCtorEq, ↓reduceIte, sevalprocAttr])
   | refine aw_exit ?_
   | refine aw_ret ?_
   | refine aw_skip ?_
   | refine aw_label ?_
   | refine condc_t ?_
   | refine condc_f ?_
   | (refine aw_cond2 tk4 ?_)
   | ((first | refine gkc_fork ?_ ?_ | refine pkc_fork ?_ ?_ | refine condc_fork ?_ ?_) <;> intro hq <;> (first | contradiction | simp -implicitDefEqProofs only [eq_false hq, Decidable.not_not, av, reduceCtorEq, ↓reduceIte, sevalprocAttr] at h ⊢ | simp -implicitDefEqProofs only [eq_true hq, av, reduceCtorEq, ↓reduceIte, sevalprocAttr] at h ⊢))
   | ((first | refine gkc_split ?_ ?_ | refine pkc_split ?_ ?_ | refine condc_bool ?_ ?_) <;> intro hq <;> (first | exact bcontra (by assumption) hq | exact bcontra hq (by assumption) | simp -implicitDefEqProofs only [hq, av, reduceCtorEq, ↓reduceIte, sevalprocAttr] at h ⊢))
   | (cases h
      try simp -implicitDefEqProofs only [av, reduceCtorEq, ↓reduceIte, sevalprocAttr]
      first | refine retLt tk5 (by rfl) ?_ | refine retL1 tk5 (by rfl) ?_
      repeat' (first | exact trivial | apply And.intro)
      all_goals exact tk0)
   | fail)
theorem a_ridgewayref03_fits {a0 : Int} {a1 : Int} {r : Bool} (h : m_ridgewayref03_fits a0 a1 = some r) : ACt Tryz.prog 55 [Enc.enc a0, Enc.enc a1] (Enc.enc r) [] := by
 refine act_of p_ridgewayref03_fits (by simp [c_ridgewayref03_fits]) ?_
 show AW _ b_ridgewayref03_fits (RetOk [.tmp 4] _ _) { n := 26, tm := [(0, _), (1, _)], box := [], fr := [] }
 unfold b_ridgewayref03_fits
 unfold m_ridgewayref03_fits at h
 try simp -implicitDefEqProofs only [av, reduceCtorEq, ↓reduceIte, sevalprocAttr] at h
 repeat' (first
   | (refine (hκ _).mpr ?_; clear hκ)
   | refine kn1 ?_
   | refine kr1 ?_
   | refine ke1 ?_
   | refine kn2 ?_
   | refine kr2 ?_
   | refine kx2 ?_
   | refine ke2 rfl ?_
   | refine kr5 ?_
   | refine ke5 ?_
   | refine kr6 ?_
   | refine ke6 ?_
   | refine w_seq ?_
   | refine w_block ?_
   | refine w_scope ?_
   | refine kn7 ?_
   | refine kr7 ?_
   | refine ke7 ?_
   | (refine aw_regk fun κ hκ => ?_; simp -implicitDefEqProofs only [av, reduceCtorEq, ↓reduceIte, sevalprocAttr])
   | refine aw_exit ?_
   | refine aw_ret ?_
   | refine aw_skip ?_
   | refine aw_label ?_
   | refine condc_t ?_
   | refine condc_f ?_
   | (refine aw_cond2 tk4 ?_)
   | ((first | refine gkc_fork ?_ ?_ | refine pkc_fork ?_ ?_ | refine condc_fork ?_ ?_) <;> intro hq <;> (first | contradiction | simp -implicitDefEqProofs only [eq_false hq, Decidable.not_not, av, reduceCtorEq, ↓reduceIte, sevalprocAttr] at h ⊢ | simp -implicitDefEqProofs only [eq_true hq, av, reduceCtorEq, ↓reduceIte, sevalprocAttr] at h ⊢))
   | ((first | refine gkc_split ?_ ?_ | refine pkc_split ?_ ?_ | refine condc_bool ?_ ?_) <;> intro hq <;> (first | exact bcontra (by assumption) hq | exact bcontra hq (by assumption) | simp -implicitDefEqProofs only [hq, av, reduceCtorEq, ↓reduceIte, sevalprocAttr] at h ⊢))
   | (refine bd_go h fun y hy h => ?_
      first | refine callsc (a_ridgewayref03_Least hy) ?_ ?_ | refine callc (a_ridgewayref03_Least hy) ?_ ?_ | ((first | refine callsc (act_le (a_ridgewayref03_Least hy) ?_) ?_ ?_ | refine callc (act_le (a_ridgewayref03_Least hy) ?_) ?_ ?_); (focus (repeat' (first | exact trivial | exact le_same _ | exact le_enc | exact le_nil | exact le_imm (.inl rfl) | exact le_imm (.inr rfl) | (refine le_agg ?_) | apply And.intro | (refine le_eq ?_; simp only [*]; done)))))
      exact tk2
      simp -implicitDefEqProofs only [av, reduceCtorEq, ↓reduceIte, sevalprocAttr])
   | (cases h
      try simp -implicitDefEqProofs only [av, reduceCtorEq, ↓reduceIte, sevalprocAttr]
      first | refine retLt tk5 (by rfl) ?_ | refine retL1 tk5 (by rfl) ?_
      repeat' (first | exact trivial | apply And.intro)
      all_goals exact tk0)
   | fail)
theorem a_ridgewayref03_Sane {a0 : Msg} {r : Bool} (h : m_ridgewayref03_Sane a0 = some r) : ACt Tryz.prog 29 [Enc.enc a0] (Enc.enc r) [] := by
 refine act_of p_ridgewayref03_Sane (by simp [c_ridgewayref03_Sane]) ?_
 show AW _ b_ridgewayref03_Sane (RetOk [.tmp 2] _ _) { n := 10, tm := [(0, _)], box := [], fr := [] }
 unfold b_ridgewayref03_Sane
 unfold m_ridgewayref03_Sane at h
 try simp -implicitDefEqProofs only [av, reduceCtorEq, ↓reduceIte, sevalprocAttr] at h
 repeat' (first
   | (refine (hκ _).mpr ?_; clear hκ)
   | refine kn1 ?_
   | refine kr1 ?_
   | refine ke1 ?_
   | refine kn2 ?_
   | refine kr2 ?_
   | refine kx2 ?_
   | refine ke2 rfl ?_
   | refine kr5 ?_
   | refine ke5 ?_
   | refine kr6 ?_
   | refine ke6 ?_
   | refine w_seq ?_
   | refine w_block ?_
   | refine w_scope ?_
   | refine kn7 ?_
   | refine kr7 ?_
   | refine ke7 ?_
   | (refine aw_regk fun κ hκ => ?_; simp -implicitDefEqProofs only [av, reduceCtorEq, ↓reduceIte, sevalprocAttr])
   | refine aw_exit ?_
   | refine aw_ret ?_
   | refine aw_skip ?_
   | refine aw_label ?_
   | refine condc_t ?_
   | refine condc_f ?_
   | (refine aw_cond2 tk4 ?_)
   | (refine bd_go h fun y hy h => ?_
      first | refine callsc (a_ridgewayref03_fits hy) ?_ ?_ | refine callc (a_ridgewayref03_fits hy) ?_ ?_ | ((first | refine callsc (act_le (a_ridgewayref03_fits hy) ?_) ?_ ?_ | refine callc (act_le (a_ridgewayref03_fits hy) ?_) ?_ ?_); (focus (repeat' (first | exact trivial | exact le_same _ | exact le_enc | exact le_nil | exact le_imm (.inl rfl) | exact le_imm (.inr rfl) | (refine le_agg ?_) | apply And.intro | (refine le_eq ?_; simp only [*]; done)))))
      exact tk2
      simp -implicitDefEqProofs only [av, reduceCtorEq, ↓reduceIte, sevalprocAttr])
   | (cases h
      try simp -implicitDefEqProofs only [av, reduceCtorEq, ↓reduceIte, sevalprocAttr]
      first | refine retLt tk5 (by rfl) ?_ | refine retL1 tk5 (by rfl) ?_
      repeat' (first | exact trivial | apply And.intro)
      all_goals exact tk0)
   | fail)
theorem a_ridgewayref05_Sane {a0 : Note} {r : Bool} (h : m_ridgewayref05_Sane a0 = some r) : ACt Tryz.prog 59 [Enc.enc a0] (Enc.enc r) [] := by
 refine act_of p_ridgewayref05_Sane (by simp [c_ridgewayref05_Sane]) ?_
 show AW _ b_ridgewayref05_Sane (RetOk [.tmp 2] _ _) { n := 27, tm := [(0, _)], box := [], fr := [] }
 unfold b_ridgewayref05_Sane
 unfold m_ridgewayref05_Sane at h
 try simp -implicitDefEqProofs only [av, reduceCtorEq, ↓reduceIte, sevalprocAttr] at h
 repeat' (first
   | (refine (hκ _).mpr ?_; clear hκ)
   | refine kn1 ?_
   | refine kr1 ?_
   | refine ke1 ?_
   | refine kn2 ?_
   | refine kr2 ?_
   | refine kx2 ?_
   | refine ke2 rfl ?_
   | refine kr5 ?_
   | refine ke5 ?_
   | refine kr6 ?_
   | refine ke6 ?_
   | refine w_seq ?_
   | refine w_block ?_
   | refine w_scope ?_
   | refine kn7 ?_
   | refine kr7 ?_
   | refine ke7 ?_
   | (refine aw_regk fun κ hκ => ?_; simp -implicitDefEqProofs only [av, reduceCtorEq, ↓reduceIte, sevalprocAttr])
   | refine aw_exit ?_
   | refine aw_ret ?_
   | refine aw_skip ?_
   | refine aw_label ?_
   | refine condc_t ?_
   | refine condc_f ?_
   | (refine aw_cond2 tk4 ?_)
   | ((first | refine gkc_fork ?_ ?_ | refine pkc_fork ?_ ?_ | refine condc_fork ?_ ?_) <;> intro hq <;> (first | contradiction | simp -implicitDefEqProofs only [eq_false hq, Decidable.not_not, av, reduceCtorEq, ↓reduceIte, sevalprocAttr] at h ⊢ | simp -implicitDefEqProofs only [eq_true hq, av, reduceCtorEq, ↓reduceIte, sevalprocAttr] at h ⊢))
   | ((first | refine gkc_split ?_ ?_ | refine pkc_split ?_ ?_ | refine condc_bool ?_ ?_) <;> intro hq <;> (first | exact bcontra (by assumption) hq | exact bcontra hq (by assumption) | simp -implicitDefEqProofs only [hq, av, reduceCtorEq, ↓reduceIte, sevalprocAttr] at h ⊢))
   | (cases h
      try simp -implicitDefEqProofs only [av, reduceCtorEq, ↓reduceIte, sevalprocAttr]
      first | refine retLt tk5 (by rfl) ?_ | refine retL1 tk5 (by rfl) ?_
      repeat' (first | exact trivial | apply And.intro)
      all_goals exact tk0)
   | fail)
theorem a_ridgewayref05_Put {a0 : Note} {r : Msg} (h : m_ridgewayref05_Put a0 = some r) : ACt Tryz.prog 35 [Enc.enc a0] (Enc.enc r) [] := by
 refine act_of p_ridgewayref05_Put (by simp [c_ridgewayref05_Put]) ?_
 show AW _ b_ridgewayref05_Put (RetOk [.cell 2 (some 2)] _ _) { n := 21, tm := [(0, _)], box := [], fr := [] }
 unfold b_ridgewayref05_Put
 unfold m_ridgewayref05_Put at h
 try simp -implicitDefEqProofs only [av, reduceCtorEq, ↓reduceIte, sevalprocAttr] at h
 repeat' (first
   | (refine (hκ _).mpr ?_; clear hκ)
   | refine kn1 ?_
   | refine kr1 ?_
   | refine ke1 ?_
   | refine kn2 ?_
   | refine kr2 ?_
   | refine kx2 ?_
   | refine ke2 rfl ?_
   | refine kr5 ?_
   | refine ke5 ?_
   | refine kr6 ?_
   | refine ke6 ?_
   | refine w_seq ?_
   | refine w_block ?_
   | refine w_scope ?_
   | refine kn7 ?_
   | refine kr7 ?_
   | refine ke7 ?_
   | (refine aw_regk fun κ hκ => ?_; simp -implicitDefEqProofs only [av, reduceCtorEq, ↓reduceIte, sevalprocAttr])
   | refine aw_exit ?_
   | refine aw_ret ?_
   | refine aw_skip ?_
   | refine aw_label ?_
   | refine condc_t ?_
   | refine condc_f ?_
   | (refine aw_cond2 tk4 ?_)
   | ((first | refine gkc_fork ?_ ?_ | refine pkc_fork ?_ ?_ | refine condc_fork ?_ ?_) <;> intro hq <;> (first | contradiction | simp -implicitDefEqProofs only [eq_false hq, Decidable.not_not, av, reduceCtorEq, ↓reduceIte, sevalprocAttr] at h ⊢ | simp -implicitDefEqProofs only [eq_true hq, av, reduceCtorEq, ↓reduceIte, sevalprocAttr] at h ⊢))
   | ((first | refine gkc_split ?_ ?_ | refine pkc_split ?_ ?_ | refine condc_bool ?_ ?_) <;> intro hq <;> (first | exact bcontra (by assumption) hq | exact bcontra hq (by assumption) | simp -implicitDefEqProofs only [hq, av, reduceCtorEq, ↓reduceIte, sevalprocAttr] at h ⊢))
   | (refine stc_plain rfl ?_; simp -implicitDefEqProofs only [putCells.eq_1, av, reduceCtorEq, ↓reduceIte, sevalprocAttr])
   | (refine bd_go h fun y hy h => ?_
      refine apc hy tk6 tk6 tk7 tk7 tk8 ?_
      simp -implicitDefEqProofs only [av, reduceCtorEq, ↓reduceIte, sevalprocAttr])
   | (refine bd_go h fun y hy h => ?_
      first | refine callsc (a_ridgewayref05_Sane hy) ?_ ?_ | refine callc (a_ridgewayref05_Sane hy) ?_ ?_ | ((first | refine callsc (act_le (a_ridgewayref05_Sane hy) ?_) ?_ ?_ | refine callc (act_le (a_ridgewayref05_Sane hy) ?_) ?_ ?_); (focus (repeat' (first | exact trivial | exact le_same _ | exact le_enc | exact le_nil | exact le_imm (.inl rfl) | exact le_imm (.inr rfl) | (refine le_agg ?_) | apply And.intro | (refine le_eq ?_; simp only [*]; done)))))
      exact tk2
      simp -implicitDefEqProofs only [av, reduceCtorEq, ↓reduceIte, sevalprocAttr])
   | (cases h
      try simp -implicitDefEqProofs only [av, reduceCtorEq, ↓reduceIte, sevalprocAttr]
      first | refine retLt tk5 (by rfl) ?_ | refine retL1 tk5 (by rfl) ?_
      repeat' (first | exact trivial | apply And.intro)
      all_goals exact tk0)
   | fail)
theorem a_ridgewayref17_Stop {a0 : Sess} {a1 : Note} {r : (Sess × (List Msg))} (h : m_ridgewayref17_Stop a0 a1 = some r) : ACt Tryz.prog 13 [Enc.enc a0, Enc.enc a1] (.tup [Enc.enc r.1, Enc.enc r.2]) [] := by
 refine act_of p_ridgewayref17_Stop (by simp [c_ridgewayref17_Stop]) ?_
 show AW _ b_ridgewayref17_Stop (RetOk [.cell 4 (some 4), .tmp 5] _ _) { n := 23, tm := [(0, _), (1, _)], box := [], fr := [] }
 unfold b_ridgewayref17_Stop
 unfold m_ridgewayref17_Stop at h
 try simp -implicitDefEqProofs only [av, reduceCtorEq, ↓reduceIte, sevalprocAttr] at h
 repeat' (first
   | (refine (hκ _).mpr ?_; clear hκ)
   | refine kn1 ?_
   | refine kr1 ?_
   | refine ke1 ?_
   | refine kn2 ?_
   | refine kr2 ?_
   | refine kx2 ?_
   | refine ke2 rfl ?_
   | refine kr5 ?_
   | refine ke5 ?_
   | refine kr6 ?_
   | refine ke6 ?_
   | refine w_seq ?_
   | refine w_block ?_
   | refine w_scope ?_
   | refine kn7 ?_
   | refine kr7 ?_
   | refine ke7 ?_
   | (refine aw_regk fun κ hκ => ?_; simp -implicitDefEqProofs only [av, reduceCtorEq, ↓reduceIte, sevalprocAttr])
   | refine aw_exit ?_
   | refine aw_ret ?_
   | refine aw_skip ?_
   | refine aw_label ?_
   | refine condc_t ?_
   | refine condc_f ?_
   | (refine aw_cond2 tk4 ?_)
   | ((first | refine gkc_fork ?_ ?_ | refine pkc_fork ?_ ?_ | refine condc_fork ?_ ?_) <;> intro hq <;> (first | contradiction | simp -implicitDefEqProofs only [eq_false hq, Decidable.not_not, av, reduceCtorEq, ↓reduceIte, sevalprocAttr] at h ⊢ | simp -implicitDefEqProofs only [eq_true hq, av, reduceCtorEq, ↓reduceIte, sevalprocAttr] at h ⊢))
   | ((first | refine gkc_split ?_ ?_ | refine pkc_split ?_ ?_ | refine condc_bool ?_ ?_) <;> intro hq <;> (first | exact bcontra (by assumption) hq | exact bcontra hq (by assumption) | simp -implicitDefEqProofs only [hq, av, reduceCtorEq, ↓reduceIte, sevalprocAttr] at h ⊢))
   | (refine stc_plain rfl ?_; simp -implicitDefEqProofs only [putCells.eq_1, av, reduceCtorEq, ↓reduceIte, sevalprocAttr])
   | (refine bd_go h fun y hy h => ?_
      first | refine callsc (a_ridgewayref17_As hy) ?_ ?_ | refine callc (a_ridgewayref17_As hy) ?_ ?_ | ((first | refine callsc (act_le (a_ridgewayref17_As hy) ?_) ?_ ?_ | refine callc (act_le (a_ridgewayref17_As hy) ?_) ?_ ?_); (focus (repeat' (first | exact trivial | exact le_same _ | exact le_enc | exact le_nil | exact le_imm (.inl rfl) | exact le_imm (.inr rfl) | (refine le_agg ?_) | apply And.intro | (refine le_eq ?_; simp only [*]; done)))))
      exact tk2
      simp -implicitDefEqProofs only [av, reduceCtorEq, ↓reduceIte, sevalprocAttr])
   | (refine bd_go h fun y hy h => ?_
      first | refine callsc (a_ridgewayref05_Put hy) ?_ ?_ | refine callc (a_ridgewayref05_Put hy) ?_ ?_ | ((first | refine callsc (act_le (a_ridgewayref05_Put hy) ?_) ?_ ?_ | refine callc (act_le (a_ridgewayref05_Put hy) ?_) ?_ ?_); (focus (repeat' (first | exact trivial | exact le_same _ | exact le_enc | exact le_nil | exact le_imm (.inl rfl) | exact le_imm (.inr rfl) | (refine le_agg ?_) | apply And.intro | (refine le_eq ?_; simp only [*]; done)))))
      exact tk2
      simp -implicitDefEqProofs only [av, reduceCtorEq, ↓reduceIte, sevalprocAttr])
   | (cases h
      try simp -implicitDefEqProofs only [av, reduceCtorEq, ↓reduceIte, sevalprocAttr]
      first | refine retLt tk5 (by rfl) ?_ | refine retL1 tk5 (by rfl) ?_
      repeat' (first | exact trivial | apply And.intro)
      all_goals exact tk0)
   | fail)
theorem a_ridgewayref17_ends {a0 : Sess} {a1 : Int} {a2 : Int} {r : (Sess × (List Msg) × Bool)} (h : m_ridgewayref17_ends a0 a1 a2 = some r) : ACt Tryz.prog 31 [Enc.enc a0, Enc.enc a1, Enc.enc a2] (.tup [Enc.enc r.1, Enc.enc r.2.1, Enc.enc r.2.2]) [] := by
 refine act_of p_ridgewayref17_ends (by simp [c_ridgewayref17_ends]) ?_
 show AW _ b_ridgewayref17_ends (RetOk [.cell 6 (some 4), .tmp 7, .tmp 8] _ _) { n := 21, tm := [(0, _), (1, _), (2, _)], box := [], fr := [] }
 unfold b_ridgewayref17_ends
 unfold m_ridgewayref17_ends at h
 try simp -implicitDefEqProofs only [av, reduceCtorEq, ↓reduceIte, sevalprocAttr] at h
 repeat' (first
   | (refine (hκ _).mpr ?_; clear hκ)
   | refine kn1 ?_
   | refine kr1 ?_
   | refine ke1 ?_
   | refine kn2 ?_
   | refine kr2 ?_
   | refine kx2 ?_
   | refine ke2 rfl ?_
   | refine kr5 ?_
   | refine ke5 ?_
   | refine kr6 ?_
   | refine ke6 ?_
   | refine w_seq ?_
   | refine w_block ?_
   | refine w_scope ?_
   | refine kn7 ?_
   | refine kr7 ?_
   | refine ke7 ?_
   | (refine aw_regk fun κ hκ => ?_; simp -implicitDefEqProofs only [av, reduceCtorEq, ↓reduceIte, sevalprocAttr])
   | refine aw_exit ?_
   | refine aw_ret ?_
   | refine aw_skip ?_
   | refine aw_label ?_
   | refine condc_t ?_
   | refine condc_f ?_
   | (refine aw_cond2 tk4 ?_)
   | (refine stc_plain rfl ?_; simp -implicitDefEqProofs only [putCells.eq_1, av, reduceCtorEq, ↓reduceIte, sevalprocAttr])
   | (refine bd_go h fun y hy h => ?_
      first | refine callsc (a_ridgewayref17_Stop hy) ?_ ?_ | refine callc (a_ridgewayref17_Stop hy) ?_ ?_ | ((first | refine callsc (act_le (a_ridgewayref17_Stop hy) ?_) ?_ ?_ | refine callc (act_le (a_ridgewayref17_Stop hy) ?_) ?_ ?_); (focus (repeat' (first | exact trivial | exact le_same _ | exact le_enc | exact le_nil | exact le_imm (.inl rfl) | exact le_imm (.inr rfl) | (refine le_agg ?_) | apply And.intro | (refine le_eq ?_; simp only [*]; done)))))
      exact tk2
      simp -implicitDefEqProofs only [av, reduceCtorEq, ↓reduceIte, sevalprocAttr])
   | (cases h
      try simp -implicitDefEqProofs only [av, reduceCtorEq, ↓reduceIte, sevalprocAttr]
      first | refine retLt tk5 (by rfl) ?_ | refine retL1 tk5 (by rfl) ?_
      repeat' (first | exact trivial | apply And.intro)
      all_goals exact tk0)
   | fail)
theorem a_ridgewayref06_bad {a0 : Int} {r : (Hello × Note)} (h : m_ridgewayref06_bad a0 = some r) : ACt Tryz.prog 74 [Enc.enc a0] (.tup [Enc.enc r.1, Enc.enc r.2]) [] := by
 refine act_of p_ridgewayref06_bad (by simp [c_ridgewayref06_bad]) ?_
 show AW _ b_ridgewayref06_bad (RetOk [.cell 2 (some 4), .cell 3 (some 3)] _ _) { n := 7, tm := [(0, _)], box := [], fr := [] }
 unfold b_ridgewayref06_bad
 unfold m_ridgewayref06_bad at h
 try simp -implicitDefEqProofs only [av, reduceCtorEq, ↓reduceIte, sevalprocAttr] at h
 repeat' (first
   | (refine (hκ _).mpr ?_; clear hκ)
   | refine kn1 ?_
   | refine kr1 ?_
   | refine ke1 ?_
   | refine kn2 ?_
   | refine kr2 ?_
   | refine kx2 ?_
   | refine ke2 rfl ?_
   | refine kr5 ?_
   | refine ke5 ?_
   | refine kr6 ?_
   | refine ke6 ?_
   | refine w_seq ?_
   | refine w_block ?_
   | refine w_scope ?_
   | refine kn7 ?_
   | refine kr7 ?_
   | refine ke7 ?_
   | (refine aw_regk fun κ hκ => ?_; simp -implicitDefEqProofs only [av, reduceCtorEq, ↓reduceIte, sevalprocAttr])
   | refine aw_exit ?_
   | refine aw_ret ?_
   | refine aw_skip ?_
   | refine aw_label ?_
   | refine condc_t ?_
   | refine condc_f ?_
   | (refine aw_cond2 tk4 ?_)
   | (refine stc_plain rfl ?_; simp -implicitDefEqProofs only [putCells.eq_1, av, reduceCtorEq, ↓reduceIte, sevalprocAttr])
   | (cases h
      try simp -implicitDefEqProofs only [av, reduceCtorEq, ↓reduceIte, sevalprocAttr]
      first | refine retLt tk5 (by rfl) ?_ | refine retL1 tk5 (by rfl) ?_
      repeat' (first | exact trivial | apply And.intro)
      all_goals exact tk0)
   | fail)
theorem a_ridgewayref01_Get {a0 : (List UInt8)} {a1 : Int} {r : (Int × (List UInt8) × Bool)} (h : m_ridgewayref01_Get a0 a1 = some r) : ACt Tryz.prog 76 [Enc.enc a0, Enc.enc a1] (.tup [Enc.enc r.1, Enc.enc r.2.1, Enc.enc r.2.2]) [] := by
 refine act_of p_ridgewayref01_Get (by simp [c_ridgewayref01_Get]) ?_
 show AW _ b_ridgewayref01_Get (RetOk [.tmp 4, .tmp 5, .tmp 6] _ _) { n := 38, tm := [(0, _), (1, _)], box := [], fr := [] }
 unfold b_ridgewayref01_Get
 unfold m_ridgewayref01_Get at h
 try simp -implicitDefEqProofs only [av, reduceCtorEq, ↓reduceIte, sevalprocAttr] at h
 repeat' (first
   | (refine (hκ _).mpr ?_; clear hκ)
   | refine kn1 ?_
   | refine kr1 ?_
   | refine ke1 ?_
   | refine kn2 ?_
   | refine kr2 ?_
   | refine kx2 ?_
   | refine ke2 rfl ?_
   | refine kr5 ?_
   | refine ke5 ?_
   | refine kr6 ?_
   | refine ke6 ?_
   | (refine w_loopm [0, 1] (fun (j : (Int × Int)) => [(7, (.int .i64 j.1)), (8, (.int .i64 j.2))]) (fun (j : (Int × Int)) => []) (fun (j : (Int × Int)) => []) (fun (j : (Int × Int)) => []) (show loopC (s_ridgewayref01_Get1 _ _) _ BIG _ = some _ from h) ?_ ?_
      · try simp -implicitDefEqProofs only [pats, av, reduceCtorEq, ↓reduceIte, sevalprocAttr]
        (first
         | (refine wk_m 0 _ rfl ?_ rfl rfl ?_ ?_ ?_ ?_
            iterate 3 exact tk3
            all_goals (repeat' (first | exact trivial | apply And.intro))
            all_goals exact tk1))
      clear h
      intro n st h
      simp -implicitDefEqProofs only [s_ridgewayref01_Get1.eq_1, pats, av, reduceCtorEq, ↓reduceIte, sevalprocAttr] at h ⊢)
   | refine w_seq ?_
   | refine w_block ?_
   | refine w_scope ?_
   | refine kn7 ?_
   | refine kr7 ?_
   | refine ke7 ?_
   | (refine aw_regk fun κ hκ => ?_; simp -implicitDefEqProofs only [av, reduceCtorEq, ↓reduceIte, sevalprocAttr])
   | refine aw_exit ?_
   | refine aw_ret ?_
   | refine aw_skip ?_
   | refine aw_label ?_
   | refine condc_t ?_
   | refine condc_f ?_
   | (refine aw_cond2 tk4 ?_)
   | ((first | refine gkc_fork ?_ ?_ | refine pkc_fork ?_ ?_ | refine condc_fork ?_ ?_) <;> intro hq <;> (first | contradiction | simp -implicitDefEqProofs only [eq_false hq, Decidable.not_not, av, reduceCtorEq, ↓reduceIte, sevalprocAttr] at h ⊢ | simp -implicitDefEqProofs only [eq_true hq, av, reduceCtorEq, ↓reduceIte, sevalprocAttr] at h ⊢))
   | ((first | refine gkc_split ?_ ?_ | refine pkc_split ?_ ?_ | refine condc_bool ?_ ?_) <;> intro hq <;> (first | exact bcontra (by assumption) hq | exact bcontra hq (by assumption) | simp -implicitDefEqProofs only [hq, av, reduceCtorEq, ↓reduceIte, sevalprocAttr] at h ⊢))
   | (refine bd_go h fun y hy h => ?_; refine ixc hy ?_; simp -implicitDefEqProofs only [av, reduceCtorEq, ↓reduceIte, sevalprocAttr])
   | (refine bd_go h fun y hy h => ?_; (first | refine slc_max hy rfl (.inl rfl) asn_none ?_ | refine slc_max hy rfl (.inl rfl) (asn_some (by first | decide | omega)) ?_ | refine slc11 hy rfl (.inl rfl) ?_ | refine slc01 hy rfl (.inl rfl) ?_ | refine slc10 hy rfl (.inl rfl) ?_ | refine slc00 hy rfl (.inl rfl) ?_ | refine slc11 hy rfl (.inr rfl) ?_ | refine slc01 hy rfl (.inr rfl) ?_ | refine slc10 hy rfl (.inr rfl) ?_ | refine slc00 hy rfl (.inr rfl) ?_); simp -implicitDefEqProofs only [av, reduceCtorEq, ↓reduceIte, sevalprocAttr])
   | (first | refine kn6 ⟨_, h, ?_⟩ | refine kn5 ⟨_, h, ?_⟩
      try simp -implicitDefEqProofs only [pats, av, reduceCtorEq, ↓reduceIte, sevalprocAttr]
      (first
         | (refine wk_m 0 _ rfl ?_ rfl rfl ?_ ?_ ?_ ?_
            iterate 3 exact tk3
            all_goals (repeat' (first | exact trivial | apply And.intro))
            all_goals exact tk1)))
   | (first | refine kn6 ⟨_, h, ?_⟩ | refine kn5 ⟨_, h, ?_⟩
      try simp -implicitDefEqProofs only [*, pats, av, reduceCtorEq, ↓reduceIte, sevalprocAttr]
      (first
         | (refine wk_m 0 _ rfl ?_ rfl rfl ?_ ?_ ?_ ?_
            iterate 3 exact tk3
            all_goals (repeat' (first | exact trivial | apply And.intro))
            all_goals exact tk1)))
   | (cases h
      try simp -implicitDefEqProofs only [av, reduceCtorEq, ↓reduceIte, sevalprocAttr]
      first | refine retLt tk5 (by rfl) ?_ | refine retL1 tk5 (by rfl) ?_
      repeat' (first | exact trivial | apply And.intro)
      all_goals exact tk0)
   | fail)
theorem a_ridgewayref06_Get {a0 : Msg} {a1 : Int} {r : (Hello × Note)} (h : m_ridgewayref06_Get a0 a1 = some r) : ACt Tryz.prog 56 [Enc.enc a0, Enc.enc a1] (.tup [Enc.enc r.1, Enc.enc r.2]) [] := by
 refine act_of p_ridgewayref06_Get (by simp [c_ridgewayref06_Get]) ?_
 show AW _ b_ridgewayref06_Get (RetOk [.cell 4 (some 4), .cell 5 (some 3)] _ _) { n := 149, tm := [(0, _), (1, _)], box := [], fr := [] }
 unfold b_ridgewayref06_Get
 unfold m_ridgewayref06_Get at h
 try simp -implicitDefEqProofs only [av, reduceCtorEq, ↓reduceIte, sevalprocAttr] at h
 repeat' (first
   | (refine (hκ _).mpr ?_; clear hκ)
   | refine kn1 ?_
   | refine kr1 ?_
   | refine ke1 ?_
   | refine kn2 ?_
   | refine kr2 ?_
   | refine kx2 ?_
   | refine ke2 rfl ?_
   | refine kr5 ?_
   | refine ke5 ?_
   | refine kr6 ?_
   | refine ke6 ?_
   | (refine w_loopm [0] (fun (j : ((List UInt8) × Int × Bool × Int × Int)) => [(1, (.slice .imm 1 (List.map Enc.enc j.1)))]) (fun (j : ((List UInt8) × Int × Bool × Int × Int)) => [(3, 0, (.int .i64 j.2.1)), (3, 1, (.bool j.2.2.1)), (3, 2, (.int .i64 j.2.2.2.1)), (3, 3, (.int .i64 j.2.2.2.2))]) (fun (j : ((List UInt8) × Int × Bool × Int × Int)) => []) (fun (j : ((List UInt8) × Int × Bool × Int × Int)) => []) (show loopC (s_ridgewayref06_Get1 _) _ BIG _ = some _ from h) ?_ ?_
      · try simp -implicitDefEqProofs only [pats, av, reduceCtorEq, ↓reduceIte, sevalprocAttr]
        (first
         | (refine wk_m 0 _ rfl ?_ rfl rfl ?_ ?_ ?_ ?_
            iterate 3 exact tk3
            all_goals (repeat' (first | exact trivial | apply And.intro))
            all_goals exact tk1))
      clear h
      intro n st h
      simp -implicitDefEqProofs only [s_ridgewayref06_Get1.eq_1, pats, av, reduceCtorEq, ↓reduceIte, sevalprocAttr] at h ⊢)
   | (refine w_loopm [0] (fun (j : ((List UInt8) × Int × Bool × Int × Int)) => [(1, (.slice .imm 1 (List.map Enc.enc j.1)))]) (fun (j : ((List UInt8) × Int × Bool × Int × Int)) => [(3, 0, (.int .i64 j.2.1)), (3, 1, (.bool j.2.2.1)), (3, 2, (.int .i64 j.2.2.2.1)), (3, 3, (.int .i64 j.2.2.2.2))]) (fun (j : ((List UInt8) × Int × Bool × Int × Int)) => []) (fun (j : ((List UInt8) × Int × Bool × Int × Int)) => []) (show loopC (s_ridgewayref06_Get2 _) _ BIG _ = some _ from h) ?_ ?_
      · try simp -implicitDefEqProofs only [pats, av, reduceCtorEq, ↓reduceIte, sevalprocAttr]
        (first
         | (refine wk_m 0 _ rfl ?_ rfl rfl ?_ ?_ ?_ ?_
            iterate 3 exact tk3
            all_goals (repeat' (first | exact trivial | apply And.intro))
            all_goals exact tk1))
      clear h
      intro n st h
      simp -implicitDefEqProofs only [s_ridgewayref06_Get2.eq_1, pats, av, reduceCtorEq, ↓reduceIte, sevalprocAttr] at h ⊢)
   | refine w_seq ?_
   | refine w_block ?_
   | refine w_scope ?_
   | refine kn7 ?_
   | refine kr7 ?_
   | refine ke7 ?_
   | (refine aw_regk fun κ hκ => ?_; simp -implicitDefEqProofs only [av, reduceCtorEq, ↓reduceIte, sevalprocAttr])
   | refine aw_exit ?_
   | refine aw_ret ?_
   | refine aw_skip ?_
   | refine aw_label ?_
   | refine condc_t ?_
   | refine condc_f ?_
   | (refine aw_cond2 tk4 ?_)
   | ((first | refine gkc_fork ?_ ?_ | refine pkc_fork ?_ ?_ | refine condc_fork ?_ ?_) <;> intro hq <;> (first | contradiction | simp -implicitDefEqProofs only [eq_false hq, Decidable.not_not, av, reduceCtorEq, ↓reduceIte, sevalprocAttr] at h ⊢ | simp -implicitDefEqProofs only [eq_true hq, av, reduceCtorEq, ↓reduceIte, sevalprocAttr] at h ⊢))
   | ((first | refine gkc_split ?_ ?_ | refine pkc_split ?_ ?_ | refine condc_bool ?_ ?_) <;> intro hq <;> (first | exact bcontra (by assumption) hq | exact bcontra hq (by assumption) | simp -implicitDefEqProofs only [hq, av, reduceCtorEq, ↓reduceIte, sevalprocAttr] at h ⊢))
   | (refine stc_plain rfl ?_; simp -implicitDefEqProofs only [putCells.eq_1, av, reduceCtorEq, ↓reduceIte, sevalprocAttr])
   | (refine bd_go h fun y hy h => ?_; refine ixc hy ?_; simp -implicitDefEqProofs only [av, reduceCtorEq, ↓reduceIte, sevalprocAttr])
   | (refine bd_go h fun y hy h => ?_; (first | refine slc_max hy rfl (.inl rfl) asn_none ?_ | refine slc_max hy rfl (.inl rfl) (asn_some (by first | decide | omega)) ?_ | refine slc11 hy rfl (.inl rfl) ?_ | refine slc01 hy rfl (.inl rfl) ?_ | refine slc10 hy rfl (.inl rfl) ?_ | refine slc00 hy rfl (.inl rfl) ?_ | refine slc11 hy rfl (.inr rfl) ?_ | refine slc01 hy rfl (.inr rfl) ?_ | refine slc10 hy rfl (.inr rfl) ?_ | refine slc00 hy rfl (.inr rfl) ?_); simp -implicitDefEqProofs only [av, reduceCtorEq, ↓reduceIte, sevalprocAttr])
   | (refine call_cut p_ridgewayref06_reader__params (by simp [c_ridgewayref06_reader__params]) (fun (j : (Int × Bool × Int × Int)) => (.tup [])) (fun (j : (Int × Bool × Int × Int)) => [(3, 0, (.int .i64 j.1)), (3, 1, (.bool j.2.1)), (3, 2, (.int .i64 j.2.2.1)), (3, 3, (.int .i64 j.2.2.2))]) (fun (j : (Int × Bool × Int × Int)) => []) (show jn 101 _ _ = some _ from h) ?_ ?_
      rotate_left
      intro j h
      simp -implicitDefEqProofs only [pats, av, reduceCtorEq, ↓reduceIte, sevalprocAttr] at h ⊢
      rotate_left
      clear h
      intro k' h
      simp -implicitDefEqProofs only [c_ridgewayref06_reader__params, b_ridgewayref06_reader__params, pats, av, reduceCtorEq, ↓reduceIte, sevalprocAttr] at h ⊢)
   | (refine call_cut p_ridgewayref06_reader__caps (by simp [c_ridgewayref06_reader__caps]) (fun (j : (Int × Bool × Int × Int)) => (.tup [])) (fun (j : (Int × Bool × Int × Int)) => [(3, 0, (.int .i64 j.1)), (3, 1, (.bool j.2.1)), (3, 2, (.int .i64 j.2.2.1)), (3, 3, (.int .i64 j.2.2.2))]) (fun (j : (Int × Bool × Int × Int)) => []) (show jn 102 _ _ = some _ from h) ?_ ?_
      rotate_left
      intro j h
      simp -implicitDefEqProofs only [pats, av, reduceCtorEq, ↓reduceIte, sevalprocAttr] at h ⊢
      rotate_left
      clear h
      intro k' h
      simp -implicitDefEqProofs only [c_ridgewayref06_reader__caps, b_ridgewayref06_reader__caps, pats, av, reduceCtorEq, ↓reduceIte, sevalprocAttr] at h ⊢)
   | (refine call_cut p_ridgewayref06_reader__one tk9 (fun (j : (Int × Bool × Int × Int)) => (.tup [])) (fun (j : (Int × Bool × Int × Int)) => [(3, 0, (.int .i64 j.1)), (3, 1, (.bool j.2.1)), (3, 2, (.int .i64 j.2.2.1)), (3, 3, (.int .i64 j.2.2.2))]) (fun (j : (Int × Bool × Int × Int)) => []) (show jn 103 _ _ = some _ from h) ?_ ?_
      rotate_left
      intro j h
      simp -implicitDefEqProofs only [pats, av, reduceCtorEq, ↓reduceIte, sevalprocAttr] at h ⊢
      rotate_left
      clear h
      intro k' h
      simp -implicitDefEqProofs only [c_ridgewayref06_reader__one, b_ridgewayref06_reader__one, pats, av, reduceCtorEq, ↓reduceIte, sevalprocAttr] at h ⊢)
   | (refine call_cut p_ridgewayref06_reader__wrong tk10 (fun (j : (Int)) => (.tup [])) (fun (j : (Int)) => [(3, 3, (.int .i64 j))]) (fun (j : (Int)) => []) (show jn 104 _ _ = some _ from h) ?_ ?_
      rotate_left
      intro j h
      simp -implicitDefEqProofs only [pats, av, reduceCtorEq, ↓reduceIte, sevalprocAttr] at h ⊢
      rotate_left
      clear h
      intro k' h
      simp -implicitDefEqProofs only [c_ridgewayref06_reader__wrong, b_ridgewayref06_reader__wrong, pats, av, reduceCtorEq, ↓reduceIte, sevalprocAttr] at h ⊢)
   | (refine call_cut p_ridgewayref06_reader__wrong tk10 (fun (j : (Int)) => (.tup [])) (fun (j : (Int)) => [(3, 3, (.int .i64 j))]) (fun (j : (Int)) => []) (show jn 105 _ _ = some _ from h) ?_ ?_
      rotate_left
      intro j h
      simp -implicitDefEqProofs only [pats, av, reduceCtorEq, ↓reduceIte, sevalprocAttr] at h ⊢
      rotate_left
      clear h
      intro k' h
      simp -implicitDefEqProofs only [c_ridgewayref06_reader__wrong, b_ridgewayref06_reader__wrong, pats, av, reduceCtorEq, ↓reduceIte, sevalprocAttr] at h ⊢)
   | (refine call_cut p_ridgewayref06_reader__one tk9 (fun (j : (Int × Bool × Int × Int)) => (.tup [])) (fun (j : (Int × Bool × Int × Int)) => [(3, 0, (.int .i64 j.1)), (3, 1, (.bool j.2.1)), (3, 2, (.int .i64 j.2.2.1)), (3, 3, (.int .i64 j.2.2.2))]) (fun (j : (Int × Bool × Int × Int)) => []) (show jn 106 _ _ = some _ from h) ?_ ?_
      rotate_left
      intro j h
      simp -implicitDefEqProofs only [pats, av, reduceCtorEq, ↓reduceIte, sevalprocAttr] at h ⊢
      rotate_left
      clear h
      intro k' h
      simp -implicitDefEqProofs only [c_ridgewayref06_reader__one, b_ridgewayref06_reader__one, pats, av, reduceCtorEq, ↓reduceIte, sevalprocAttr] at h ⊢)
   | (refine call_cut p_ridgewayref06_reader__wrong tk10 (fun (j : (Int)) => (.tup [])) (fun (j : (Int)) => [(3, 3, (.int .i64 j))]) (fun (j : (Int)) => []) (show jn 107 _ _ = some _ from h) ?_ ?_
      rotate_left
      intro j h
      simp -implicitDefEqProofs only [pats, av, reduceCtorEq, ↓reduceIte, sevalprocAttr] at h ⊢
      rotate_left
      clear h
      intro k' h
      simp -implicitDefEqProofs only [c_ridgewayref06_reader__wrong, b_ridgewayref06_reader__wrong, pats, av, reduceCtorEq, ↓reduceIte, sevalprocAttr] at h ⊢)
   | (refine call_cut p_ridgewayref06_reader__wrong tk10 (fun (j : (Int)) => (.tup [])) (fun (j : (Int)) => [(3, 3, (.int .i64 j))]) (fun (j : (Int)) => []) (show jn 108 _ _ = some _ from h) ?_ ?_
      rotate_left
      intro j h
      simp -implicitDefEqProofs only [pats, av, reduceCtorEq, ↓reduceIte, sevalprocAttr] at h ⊢
      rotate_left
      clear h
      intro k' h
      simp -implicitDefEqProofs only [c_ridgewayref06_reader__wrong, b_ridgewayref06_reader__wrong, pats, av, reduceCtorEq, ↓reduceIte, sevalprocAttr] at h ⊢)
   | (refine call_cut p_ridgewayref06_reader__wrong tk10 (fun (j : (Int)) => (.tup [])) (fun (j : (Int)) => [(3, 3, (.int .i64 j))]) (fun (j : (Int)) => []) (show jn 109 _ _ = some _ from h) ?_ ?_
      rotate_left
      intro j h
      simp -implicitDefEqProofs only [pats, av, reduceCtorEq, ↓reduceIte, sevalprocAttr] at h ⊢
      rotate_left
      clear h
      intro k' h
      simp -implicitDefEqProofs only [c_ridgewayref06_reader__wrong, b_ridgewayref06_reader__wrong, pats, av, reduceCtorEq, ↓reduceIte, sevalprocAttr] at h ⊢)
   | (refine call_cut p_ridgewayref06_reader__wrong tk10 (fun (j : (Int)) => (.tup [])) (fun (j : (Int)) => [(3, 3, (.int .i64 j))]) (fun (j : (Int)) => []) (show jn 110 _ _ = some _ from h) ?_ ?_
      rotate_left
      intro j h
      simp -implicitDefEqProofs only [pats, av, reduceCtorEq, ↓reduceIte, sevalprocAttr] at h ⊢
      rotate_left
      clear h
      intro k' h
      simp -implicitDefEqProofs only [c_ridgewayref06_reader__wrong, b_ridgewayref06_reader__wrong, pats, av, reduceCtorEq, ↓reduceIte, sevalprocAttr] at h ⊢)
   | (refine call_cut p_ridgewayref06_reader__wrong tk10 (fun (j : (Int)) => (.tup [])) (fun (j : (Int)) => [(3, 3, (.int .i64 j))]) (fun (j : (Int)) => []) (show jn 111 _ _ = some _ from h) ?_ ?_
      rotate_left
      intro j h
      simp -implicitDefEqProofs only [pats, av, reduceCtorEq, ↓reduceIte, sevalprocAttr] at h ⊢
      rotate_left
      clear h
      intro k' h
      simp -implicitDefEqProofs only [c_ridgewayref06_reader__wrong, b_ridgewayref06_reader__wrong, pats, av, reduceCtorEq, ↓reduceIte, sevalprocAttr] at h ⊢)
   | (refine call_cut p_ridgewayref06_reader__wrong tk10 (fun (j : (Int)) => (.tup [])) (fun (j : (Int)) => [(3, 3, (.int .i64 j))]) (fun (j : (Int)) => []) (show jn 112 _ _ = some _ from h) ?_ ?_
      rotate_left
      intro j h
      simp -implicitDefEqProofs only [pats, av, reduceCtorEq, ↓reduceIte, sevalprocAttr] at h ⊢
      rotate_left
      clear h
      intro k' h
      simp -implicitDefEqProofs only [c_ridgewayref06_reader__wrong, b_ridgewayref06_reader__wrong, pats, av, reduceCtorEq, ↓reduceIte, sevalprocAttr] at h ⊢)
   | (refine call_cut p_ridgewayref06_reader__caps (by simp [c_ridgewayref06_reader__caps]) (fun (j : (Int × Bool × Int × Int)) => (.tup [])) (fun (j : (Int × Bool × Int × Int)) => [(3, 0, (.int .i64 j.1)), (3, 1, (.bool j.2.1)), (3, 2, (.int .i64 j.2.2.1)), (3, 3, (.int .i64 j.2.2.2))]) (fun (j : (Int × Bool × Int × Int)) => []) (show jn 113 _ _ = some _ from h) ?_ ?_
      rotate_left
      intro j h
      simp -implicitDefEqProofs only [pats, av, reduceCtorEq, ↓reduceIte, sevalprocAttr] at h ⊢
      rotate_left
      clear h
      intro k' h
      simp -implicitDefEqProofs only [c_ridgewayref06_reader__caps, b_ridgewayref06_reader__caps, pats, av, reduceCtorEq, ↓reduceIte, sevalprocAttr] at h ⊢)
   | (refine call_cut p_ridgewayref06_reader__wrong tk10 (fun (j : (Int)) => (.tup [])) (fun (j : (Int)) => [(3, 3, (.int .i64 j))]) (fun (j : (Int)) => []) (show jn 114 _ _ = some _ from h) ?_ ?_
      rotate_left
      intro j h
      simp -implicitDefEqProofs only [pats, av, reduceCtorEq, ↓reduceIte, sevalprocAttr] at h ⊢
      rotate_left
      clear h
      intro k' h
      simp -implicitDefEqProofs only [c_ridgewayref06_reader__wrong, b_ridgewayref06_reader__wrong, pats, av, reduceCtorEq, ↓reduceIte, sevalprocAttr] at h ⊢)
   | (refine call_cut p_ridgewayref06_reader__wrong tk10 (fun (j : (Int)) => (.tup [])) (fun (j : (Int)) => [(3, 3, (.int .i64 j))]) (fun (j : (Int)) => []) (show jn 115 _ _ = some _ from h) ?_ ?_
      rotate_left
      intro j h
      simp -implicitDefEqProofs only [pats, av, reduceCtorEq, ↓reduceIte, sevalprocAttr] at h ⊢
      rotate_left
      clear h
      intro k' h
      simp -implicitDefEqProofs only [c_ridgewayref06_reader__wrong, b_ridgewayref06_reader__wrong, pats, av, reduceCtorEq, ↓reduceIte, sevalprocAttr] at h ⊢)
   | (refine call_cut p_ridgewayref06_reader__one tk9 (fun (j : (Int × Bool × Int × Int)) => (.tup [])) (fun (j : (Int × Bool × Int × Int)) => [(3, 0, (.int .i64 j.1)), (3, 1, (.bool j.2.1)), (3, 2, (.int .i64 j.2.2.1)), (3, 3, (.int .i64 j.2.2.2))]) (fun (j : (Int × Bool × Int × Int)) => []) (show jn 116 _ _ = some _ from h) ?_ ?_
      rotate_left
      intro j h
      simp -implicitDefEqProofs only [pats, av, reduceCtorEq, ↓reduceIte, sevalprocAttr] at h ⊢
      rotate_left
      clear h
      intro k' h
      simp -implicitDefEqProofs only [c_ridgewayref06_reader__one, b_ridgewayref06_reader__one, pats, av, reduceCtorEq, ↓reduceIte, sevalprocAttr] at h ⊢)
   | (refine call_cut p_ridgewayref06_reader__wrong tk10 (fun (j : (Int)) => (.tup [])) (fun (j : (Int)) => [(3, 3, (.int .i64 j))]) (fun (j : (Int)) => []) (show jn 117 _ _ = some _ from h) ?_ ?_
      rotate_left
      intro j h
      simp -implicitDefEqProofs only [pats, av, reduceCtorEq, ↓reduceIte, sevalprocAttr] at h ⊢
      rotate_left
      clear h
      intro k' h
      simp -implicitDefEqProofs only [c_ridgewayref06_reader__wrong, b_ridgewayref06_reader__wrong, pats, av, reduceCtorEq, ↓reduceIte, sevalprocAttr] at h ⊢)
   | (refine call_cut p_ridgewayref06_reader__wrong tk10 (fun (j : (Int)) => (.tup [])) (fun (j : (Int)) => [(3, 3, (.int .i64 j))]) (fun (j : (Int)) => []) (show jn 118 _ _ = some _ from h) ?_ ?_
      rotate_left
      intro j h
      simp -implicitDefEqProofs only [pats, av, reduceCtorEq, ↓reduceIte, sevalprocAttr] at h ⊢
      rotate_left
      clear h
      intro k' h
      simp -implicitDefEqProofs only [c_ridgewayref06_reader__wrong, b_ridgewayref06_reader__wrong, pats, av, reduceCtorEq, ↓reduceIte, sevalprocAttr] at h ⊢)
   | (refine call_cut p_ridgewayref06_reader__wrong tk10 (fun (j : (Int)) => (.tup [])) (fun (j : (Int)) => [(3, 3, (.int .i64 j))]) (fun (j : (Int)) => []) (show jn 119 _ _ = some _ from h) ?_ ?_
      rotate_left
      intro j h
      simp -implicitDefEqProofs only [pats, av, reduceCtorEq, ↓reduceIte, sevalprocAttr] at h ⊢
      rotate_left
      clear h
      intro k' h
      simp -implicitDefEqProofs only [c_ridgewayref06_reader__wrong, b_ridgewayref06_reader__wrong, pats, av, reduceCtorEq, ↓reduceIte, sevalprocAttr] at h ⊢)
   | (refine call_cut p_ridgewayref06_reader__wrong tk10 (fun (j : (Int)) => (.tup [])) (fun (j : (Int)) => [(3, 3, (.int .i64 j))]) (fun (j : (Int)) => []) (show jn 120 _ _ = some _ from h) ?_ ?_
      rotate_left
      intro j h
      simp -implicitDefEqProofs only [pats, av, reduceCtorEq, ↓reduceIte, sevalprocAttr] at h ⊢
      rotate_left
      clear h
      intro k' h
      simp -implicitDefEqProofs only [c_ridgewayref06_reader__wrong, b_ridgewayref06_reader__wrong, pats, av, reduceCtorEq, ↓reduceIte, sevalprocAttr] at h ⊢)
   | (refine call_cut p_ridgewayref06_reader__wrong tk10 (fun (j : (Int)) => (.tup [])) (fun (j : (Int)) => [(3, 3, (.int .i64 j))]) (fun (j : (Int)) => []) (show jn 121 _ _ = some _ from h) ?_ ?_
      rotate_left
      intro j h
      simp -implicitDefEqProofs only [pats, av, reduceCtorEq, ↓reduceIte, sevalprocAttr] at h ⊢
      rotate_left
      clear h
      intro k' h
      simp -implicitDefEqProofs only [c_ridgewayref06_reader__wrong, b_ridgewayref06_reader__wrong, pats, av, reduceCtorEq, ↓reduceIte, sevalprocAttr] at h ⊢)
   | (refine call_cut p_ridgewayref06_reader__one tk9 (fun (j : (Int × Bool × Int × Int)) => (.tup [])) (fun (j : (Int × Bool × Int × Int)) => [(3, 0, (.int .i64 j.1)), (3, 1, (.bool j.2.1)), (3, 2, (.int .i64 j.2.2.1)), (3, 3, (.int .i64 j.2.2.2))]) (fun (j : (Int × Bool × Int × Int)) => []) (show jn 122 _ _ = some _ from h) ?_ ?_
      rotate_left
      intro j h
      simp -implicitDefEqProofs only [pats, av, reduceCtorEq, ↓reduceIte, sevalprocAttr] at h ⊢
      rotate_left
      clear h
      intro k' h
      simp -implicitDefEqProofs only [c_ridgewayref06_reader__one, b_ridgewayref06_reader__one, pats, av, reduceCtorEq, ↓reduceIte, sevalprocAttr] at h ⊢)
   | (refine call_cut p_ridgewayref06_reader__wrong tk10 (fun (j : (Int)) => (.tup [])) (fun (j : (Int)) => [(3, 3, (.int .i64 j))]) (fun (j : (Int)) => []) (show jn 123 _ _ = some _ from h) ?_ ?_
      rotate_left
      intro j h
      simp -implicitDefEqProofs only [pats, av, reduceCtorEq, ↓reduceIte, sevalprocAttr] at h ⊢
      rotate_left
      clear h
      intro k' h
      simp -implicitDefEqProofs only [c_ridgewayref06_reader__wrong, b_ridgewayref06_reader__wrong, pats, av, reduceCtorEq, ↓reduceIte, sevalprocAttr] at h ⊢)
   | (refine call_cut p_ridgewayref06_reader__wrong tk10 (fun (j : (Int)) => (.tup [])) (fun (j : (Int)) => [(3, 3, (.int .i64 j))]) (fun (j : (Int)) => []) (show jn 124 _ _ = some _ from h) ?_ ?_
      rotate_left
      intro j h
      simp -implicitDefEqProofs only [pats, av, reduceCtorEq, ↓reduceIte, sevalprocAttr] at h ⊢
      rotate_left
      clear h
      intro k' h
      simp -implicitDefEqProofs only [c_ridgewayref06_reader__wrong, b_ridgewayref06_reader__wrong, pats, av, reduceCtorEq, ↓reduceIte, sevalprocAttr] at h ⊢)
   | (refine call_cut p_ridgewayref06_reader__wrong tk10 (fun (j : (Int)) => (.tup [])) (fun (j : (Int)) => [(3, 3, (.int .i64 j))]) (fun (j : (Int)) => []) (show jn 125 _ _ = some _ from h) ?_ ?_
      rotate_left
      intro j h
      simp -implicitDefEqProofs only [pats, av, reduceCtorEq, ↓reduceIte, sevalprocAttr] at h ⊢
      rotate_left
      clear h
      intro k' h
      simp -implicitDefEqProofs only [c_ridgewayref06_reader__wrong, b_ridgewayref06_reader__wrong, pats, av, reduceCtorEq, ↓reduceIte, sevalprocAttr] at h ⊢)
   | (refine call_in p_ridgewayref06_reader__wrong tk10 ?_
      simp -implicitDefEqProofs only [c_ridgewayref06_reader__wrong, b_ridgewayref06_reader__wrong, av, reduceCtorEq, ↓reduceIte, sevalprocAttr])
   | (refine bd_go h fun y hy h => ?_
      first | refine callsc (a_ridgewayref06_bad hy) ?_ ?_ | refine callc (a_ridgewayref06_bad hy) ?_ ?_ | ((first | refine callsc (act_le (a_ridgewayref06_bad hy) ?_) ?_ ?_ | refine callc (act_le (a_ridgewayref06_bad hy) ?_) ?_ ?_); (focus (repeat' (first | exact trivial | exact le_same _ | exact le_enc | exact le_nil | exact le_imm (.inl rfl) | exact le_imm (.inr rfl) | (refine le_agg ?_) | apply And.intro | (refine le_eq ?_; simp only [*]; done)))))
      exact tk2
      simp -implicitDefEqProofs only [av, reduceCtorEq, ↓reduceIte, sevalprocAttr])
   | (refine bd_go h fun y hy h => ?_
      first | refine callsc (a_ridgewayref03_Sane hy) ?_ ?_ | refine callc (a_ridgewayref03_Sane hy) ?_ ?_ | ((first | refine callsc (act_le (a_ridgewayref03_Sane hy) ?_) ?_ ?_ | refine callc (act_le (a_ridgewayref03_Sane hy) ?_) ?_ ?_); (focus (repeat' (first | exact trivial | exact le_same _ | exact le_enc | exact le_nil | exact le_imm (.inl rfl) | exact le_imm (.inr rfl) | (refine le_agg ?_) | apply And.intro | (refine le_eq ?_; simp only [*]; done)))))
      exact tk2
      simp -implicitDefEqProofs only [av, reduceCtorEq, ↓reduceIte, sevalprocAttr])
   | (refine bd_go h fun y hy h => ?_
      first | refine callsc (a_ridgewayref01_Get hy) ?_ ?_ | refine callc (a_ridgewayref01_Get hy) ?_ ?_ | ((first | refine callsc (act_le (a_ridgewayref01_Get hy) ?_) ?_ ?_ | refine callc (act_le (a_ridgewayref01_Get hy) ?_) ?_ ?_); (focus (repeat' (first | exact trivial | exact le_same _ | exact le_enc | exact le_nil | exact le_imm (.inl rfl) | exact le_imm (.inr rfl) | (refine le_agg ?_) | apply And.intro | (refine le_eq ?_; simp only [*]; done)))))
      exact tk2
      simp -implicitDefEqProofs only [av, reduceCtorEq, ↓reduceIte, sevalprocAttr])
   | (refine bd_go h fun y hy h => ?_
      first | refine callsc (a_ridgewayref06_two hy) ?_ ?_ | refine callc (a_ridgewayref06_two hy) ?_ ?_ | ((first | refine callsc (act_le (a_ridgewayref06_two hy) ?_) ?_ ?_ | refine callc (act_le (a_ridgewayref06_two hy) ?_) ?_ ?_); (focus (repeat' (first | exact trivial | exact le_same _ | exact le_enc | exact le_nil | exact le_imm (.inl rfl) | exact le_imm (.inr rfl) | (refine le_agg ?_) | apply And.intro | (refine le_eq ?_; simp only [*]; done)))))
      exact tk2
      simp -implicitDefEqProofs only [av, reduceCtorEq, ↓reduceIte, sevalprocAttr])
   | (first | refine kn6 ⟨_, h, ?_⟩ | refine kn5 ⟨_, h, ?_⟩
      try simp -implicitDefEqProofs only [pats, av, reduceCtorEq, ↓reduceIte, sevalprocAttr]
      (first
         | (refine wk_m 0 _ rfl ?_ rfl rfl ?_ ?_ ?_ ?_
            iterate 3 exact tk3
            all_goals (repeat' (first | exact trivial | apply And.intro))
            all_goals exact tk1)))
   | (first | refine kn6 ⟨_, h, ?_⟩ | refine kn5 ⟨_, h, ?_⟩
      try simp -implicitDefEqProofs only [*, pats, av, reduceCtorEq, ↓reduceIte, sevalprocAttr]
      (first
         | (refine wk_m 0 _ rfl ?_ rfl rfl ?_ ?_ ?_ ?_
            iterate 3 exact tk3
            all_goals (repeat' (first | exact trivial | apply And.intro))
            all_goals exact tk1)))
   | (refine rets_in tk5 rfl ?_; simp -implicitDefEqProofs only [av, reduceCtorEq, ↓reduceIte, sevalprocAttr])
   | (refine retj_one 0 tk5 h rfl ?_ ?_ ?_ rfl rfl ?_ ?_
      · first | exact Nat.le_refl _ | exact Nat.zero_le _ | (simp; done)
      · first | exact Nat.zero_le _ | exact Nat.le_refl _ | (simp; done)
      · first | exact Nat.zero_le _ | exact Nat.le_refl _ | (simp; done)
      all_goals (try simp -implicitDefEqProofs only [pats, av, reduceCtorEq, ↓reduceIte, sevalprocAttr])
      all_goals (repeat' (first | exact trivial | apply And.intro))
      all_goals exact tk1)
   | (refine retj_tup 0 tk5 h rfl ?_ ?_ ?_ rfl rfl ?_ ?_
      · first | exact Nat.le_refl _ | exact Nat.zero_le _ | (simp; done)
      · first | exact Nat.zero_le _ | exact Nat.le_refl _ | (simp; done)
      · first | exact Nat.zero_le _ | exact Nat.le_refl _ | (simp; done)
      all_goals (try simp -implicitDefEqProofs only [pats, av, reduceCtorEq, ↓reduceIte, sevalprocAttr])
      all_goals (repeat' (first | exact trivial | apply And.intro))
      all_goals exact tk1)
   | (refine retj_nil 0 tk5 h rfl ?_ ?_ ?_ rfl rfl ?_
      · first | exact Nat.le_refl _ | exact Nat.zero_le _ | (simp; done)
      · first | exact Nat.zero_le _ | exact Nat.le_refl _ | (simp; done)
      · first | exact Nat.zero_le _ | exact Nat.le_refl _ | (simp; done)
      all_goals (try simp -implicitDefEqProofs only [pats, av, reduceCtorEq, ↓reduceIte, sevalprocAttr])
      all_goals (repeat' (first | exact trivial | apply And.intro))
      all_goals exact tk1)
   | (cases h
      try simp -implicitDefEqProofs only [av, reduceCtorEq, ↓reduceIte, sevalprocAttr]
      first | refine retLt tk5 (by rfl) ?_ | refine retL1 tk5 (by rfl) ?_
      repeat' (first | exact trivial | apply And.intro)
      all_goals exact tk0)
   | fail)
theorem a_ridgewayref13_Pairs {a0 : Int} {a1 : Int} {r : Bool} (h : m_ridgewayref13_Pairs a0 a1 = some r) : ACt Tryz.prog 57 [Enc.enc a0, Enc.enc a1] (Enc.enc r) [] := by
 refine act_of p_ridgewayref13_Pairs (by simp [c_ridgewayref13_Pairs]) ?_
 show AW _ b_ridgewayref13_Pairs (RetOk [.tmp 4] _ _) { n := 43, tm := [(0, _), (1, _)], box := [], fr := [] }
 unfold b_ridgewayref13_Pairs
 unfold m_ridgewayref13_Pairs at h
 try simp -implicitDefEqProofs only [av, reduceCtorEq, ↓reduceIte, sevalprocAttr] at h
 repeat' (first
   | (refine (hκ _).mpr ?_; clear hκ)
   | refine kn1 ?_
   | refine kr1 ?_
   | refine ke1 ?_
   | refine kn2 ?_
   | refine kr2 ?_
   | refine kx2 ?_
   | refine ke2 rfl ?_
   | refine kr5 ?_
   | refine ke5 ?_
   | refine kr6 ?_
   | refine ke6 ?_
   | refine w_seq ?_
   | refine w_block ?_
   | refine w_scope ?_
   | refine kn7 ?_
   | refine kr7 ?_
   | refine ke7 ?_
   | (refine aw_regk fun κ hκ => ?_; simp -implicitDefEqProofs only [av, reduceCtorEq, ↓reduceIte, sevalprocAttr])
   | refine aw_exit ?_
   | refine aw_ret ?_
   | refine aw_skip ?_
   | refine aw_label ?_
   | refine condc_t ?_
   | refine condc_f ?_
   | (refine aw_cond2 tk4 ?_)
   | ((first | refine gkc_fork ?_ ?_ | refine pkc_fork ?_ ?_ | refine condc_fork ?_ ?_) <;> intro hq <;> (first | contradiction | simp -implicitDefEqProofs only [eq_false hq, Decidable.not_not, av, reduceCtorEq, ↓reduceIte, sevalprocAttr] at h ⊢ | simp -implicitDefEqProofs only [eq_true hq, av, reduceCtorEq, ↓reduceIte, sevalprocAttr] at h ⊢))
   | ((first | refine gkc_split ?_ ?_ | refine pkc_split ?_ ?_ | refine condc_bool ?_ ?_) <;> intro hq <;> (first | exact bcontra (by assumption) hq | exact bcontra hq (by assumption) | simp -implicitDefEqProofs only [hq, av, reduceCtorEq, ↓reduceIte, sevalprocAttr] at h ⊢))
   | (cases h
      try simp -implicitDefEqProofs only [av, reduceCtorEq, ↓reduceIte, sevalprocAttr]
      first | refine retLt tk5 (by rfl) ?_ | refine retL1 tk5 (by rfl) ?_
      repeat' (first | exact trivial | apply And.intro)
      all_goals exact tk0)
   | fail)
theorem a_ridgewayref17_opens {a0 : Sess} {a1 : Conf} {a2 : Int} {a3 : Msg} {r : (Sess × (List Msg) × Bool)} (h : m_ridgewayref17_opens a0 a1 a2 a3 = some r) : ACt Tryz.prog 30 [Enc.enc a0, Enc.enc a1, Enc.enc a2, Enc.enc a3] (.tup [Enc.enc r.1, Enc.enc r.2.1, Enc.enc r.2.2]) [] := by
 refine act_of p_ridgewayref17_opens (by simp [c_ridgewayref17_opens]) ?_
 show AW _ b_ridgewayref17_opens (RetOk [.cell 8 (some 4), .tmp 9, .tmp 10] _ _) { n := 71, tm := [(0, _), (1, _), (2, _), (3, _)], box := [], fr := [] }
 unfold b_ridgewayref17_opens
 unfold m_ridgewayref17_opens at h
 try simp -implicitDefEqProofs only [av, reduceCtorEq, ↓reduceIte, sevalprocAttr] at h
 repeat' (first
   | (refine (hκ _).mpr ?_; clear hκ)
   | refine kn1 ?_
   | refine kr1 ?_
   | refine ke1 ?_
   | refine kn2 ?_
   | refine kr2 ?_
   | refine kx2 ?_
   | refine ke2 rfl ?_
   | refine kr5 ?_
   | refine ke5 ?_
   | refine kr6 ?_
   | refine ke6 ?_
   | refine w_seq ?_
   | refine w_block ?_
   | refine w_scope ?_
   | refine kn7 ?_
   | refine kr7 ?_
   | refine ke7 ?_
   | (refine aw_regk fun κ hκ => ?_; simp -implicitDefEqProofs only [av, reduceCtorEq, ↓reduceIte, sevalprocAttr])
   | refine aw_exit ?_
   | refine aw_ret ?_
   | refine aw_skip ?_
   | refine aw_label ?_
   | refine condc_t ?_
   | refine condc_f ?_
   | (refine aw_cond2 tk4 ?_)
   | ((first | refine gkc_fork ?_ ?_ | refine pkc_fork ?_ ?_ | refine condc_fork ?_ ?_) <;> intro hq <;> (first | contradiction | simp -implicitDefEqProofs only [eq_false hq, Decidable.not_not, av, reduceCtorEq, ↓reduceIte, sevalprocAttr] at h ⊢ | simp -implicitDefEqProofs only [eq_true hq, av, reduceCtorEq, ↓reduceIte, sevalprocAttr] at h ⊢))
   | ((first | refine gkc_split ?_ ?_ | refine pkc_split ?_ ?_ | refine condc_bool ?_ ?_) <;> intro hq <;> (first | exact bcontra (by assumption) hq | exact bcontra hq (by assumption) | simp -implicitDefEqProofs only [hq, av, reduceCtorEq, ↓reduceIte, sevalprocAttr] at h ⊢))
   | (refine stc_plain rfl ?_; simp -implicitDefEqProofs only [putCells.eq_1, av, reduceCtorEq, ↓reduceIte, sevalprocAttr])
   | (refine bd_go h fun y hy h => ?_; refine ixc hy ?_; simp -implicitDefEqProofs only [av, reduceCtorEq, ↓reduceIte, sevalprocAttr])
   | (refine bd_go h fun y hy h => ?_
      first | refine callsc (a_ridgewayref06_Get hy) ?_ ?_ | refine callc (a_ridgewayref06_Get hy) ?_ ?_ | ((first | refine callsc (act_le (a_ridgewayref06_Get hy) ?_) ?_ ?_ | refine callc (act_le (a_ridgewayref06_Get hy) ?_) ?_ ?_); (focus (repeat' (first | exact trivial | exact le_same _ | exact le_enc | exact le_nil | exact le_imm (.inl rfl) | exact le_imm (.inr rfl) | (refine le_agg ?_) | apply And.intro | (refine le_eq ?_; simp only [*]; done)))))
      exact tk2
      simp -implicitDefEqProofs only [av, reduceCtorEq, ↓reduceIte, sevalprocAttr])
   | (refine bd_go h fun y hy h => ?_
      first | refine callsc (a_ridgewayref17_Stop hy) ?_ ?_ | refine callc (a_ridgewayref17_Stop hy) ?_ ?_ | ((first | refine callsc (act_le (a_ridgewayref17_Stop hy) ?_) ?_ ?_ | refine callc (act_le (a_ridgewayref17_Stop hy) ?_) ?_ ?_); (focus (repeat' (first | exact trivial | exact le_same _ | exact le_enc | exact le_nil | exact le_imm (.inl rfl) | exact le_imm (.inr rfl) | (refine le_agg ?_) | apply And.intro | (refine le_eq ?_; simp only [*]; done)))))
      exact tk2
      simp -implicitDefEqProofs only [av, reduceCtorEq, ↓reduceIte, sevalprocAttr])
   | (refine bd_go h fun y hy h => ?_
      first | refine callsc (a_ridgewayref13_Mine hy) ?_ ?_ | refine callc (a_ridgewayref13_Mine hy) ?_ ?_ | ((first | refine callsc (act_le (a_ridgewayref13_Mine hy) ?_) ?_ ?_ | refine callc (act_le (a_ridgewayref13_Mine hy) ?_) ?_ ?_); (focus (repeat' (first | exact trivial | exact le_same _ | exact le_enc | exact le_nil | exact le_imm (.inl rfl) | exact le_imm (.inr rfl) | (refine le_agg ?_) | apply And.intro | (refine le_eq ?_; simp only [*]; done)))))
      exact tk2
      simp -implicitDefEqProofs only [av, reduceCtorEq, ↓reduceIte, sevalprocAttr])
   | (refine bd_go h fun y hy h => ?_
      first | refine callsc (a_ridgewayref13_Pairs hy) ?_ ?_ | refine callc (a_ridgewayref13_Pairs hy) ?_ ?_ | ((first | refine callsc (act_le (a_ridgewayref13_Pairs hy) ?_) ?_ ?_ | refine callc (act_le (a_ridgewayref13_Pairs hy) ?_) ?_ ?_); (focus (repeat' (first | exact trivial | exact le_same _ | exact le_enc | exact le_nil | exact le_imm (.inl rfl) | exact le_imm (.inr rfl) | (refine le_agg ?_) | apply And.intro | (refine le_eq ?_; simp only [*]; done)))))
      exact tk2
      simp -implicitDefEqProofs only [av, reduceCtorEq, ↓reduceIte, sevalprocAttr])
   | (refine bd_go h fun y hy h => ?_
      first | refine callsc (a_ridgewayref17_ends hy) ?_ ?_ | refine callc (a_ridgewayref17_ends hy) ?_ ?_ | ((first | refine callsc (act_le (a_ridgewayref17_ends hy) ?_) ?_ ?_ | refine callc (act_le (a_ridgewayref17_ends hy) ?_) ?_ ?_); (focus (repeat' (first | exact trivial | exact le_same _ | exact le_enc | exact le_nil | exact le_imm (.inl rfl) | exact le_imm (.inr rfl) | (refine le_agg ?_) | apply And.intro | (refine le_eq ?_; simp only [*]; done)))))
      exact tk2
      simp -implicitDefEqProofs only [av, reduceCtorEq, ↓reduceIte, sevalprocAttr])
   | (cases h
      try simp -implicitDefEqProofs only [av, reduceCtorEq, ↓reduceIte, sevalprocAttr]
      first | refine retLt tk5 (by rfl) ?_ | refine retL1 tk5 (by rfl) ?_
      repeat' (first | exact trivial | apply And.intro)
      all_goals exact tk0)
   | fail)
theorem a_ridgewayref17_Take {a0 : Sess} {a1 : Conf} {a2 : Int} {a3 : Msg} {r : (Sess × (List Msg) × Bool)} (h : m_ridgewayref17_Take a0 a1 a2 a3 = some r) : ACt Tryz.prog 9 [Enc.enc a0, Enc.enc a1, Enc.enc a2, Enc.enc a3] (.tup [Enc.enc r.1, Enc.enc r.2.1, Enc.enc r.2.2]) [] := by
 refine act_of p_ridgewayref17_Take (by simp [c_ridgewayref17_Take]) ?_
 show AW _ b_ridgewayref17_Take (RetOk [.cell 8 (some 4), .tmp 9, .tmp 10] _ _) { n := 98, tm := [(0, _), (1, _), (2, _), (3, _)], box := [], fr := [] }
 unfold b_ridgewayref17_Take
 unfold m_ridgewayref17_Take at h
 try simp -implicitDefEqProofs only [av, reduceCtorEq, ↓reduceIte, sevalprocAttr] at h
 repeat' (first
   | (refine (hκ _).mpr ?_; clear hκ)
   | refine kn1 ?_
   | refine kr1 ?_
   | refine ke1 ?_
   | refine kn2 ?_
   | refine kr2 ?_
   | refine kx2 ?_
   | refine ke2 rfl ?_
   | refine kr5 ?_
   | refine ke5 ?_
   | refine kr6 ?_
   | refine ke6 ?_
   | refine w_seq ?_
   | refine w_block ?_
   | refine w_scope ?_
   | refine kn7 ?_
   | refine kr7 ?_
   | refine ke7 ?_
   | (refine aw_regk fun κ hκ => ?_; simp -implicitDefEqProofs only [av, reduceCtorEq, ↓reduceIte, sevalprocAttr])
   | refine aw_exit ?_
   | refine aw_ret ?_
   | refine aw_skip ?_
   | refine aw_label ?_
   | refine condc_t ?_
   | refine condc_f ?_
   | (refine aw_cond2 tk4 ?_)
   | ((first | refine gkc_fork ?_ ?_ | refine pkc_fork ?_ ?_ | refine condc_fork ?_ ?_) <;> intro hq <;> (first | contradiction | simp -implicitDefEqProofs only [eq_false hq, Decidable.not_not, av, reduceCtorEq, ↓reduceIte, sevalprocAttr] at h ⊢ | simp -implicitDefEqProofs only [eq_true hq, av, reduceCtorEq, ↓reduceIte, sevalprocAttr] at h ⊢))
   | ((first | refine gkc_split ?_ ?_ | refine pkc_split ?_ ?_ | refine condc_bool ?_ ?_) <;> intro hq <;> (first | exact bcontra (by assumption) hq | exact bcontra hq (by assumption) | simp -implicitDefEqProofs only [hq, av, reduceCtorEq, ↓reduceIte, sevalprocAttr] at h ⊢))
   | (refine stc_plain rfl ?_; simp -implicitDefEqProofs only [putCells.eq_1, av, reduceCtorEq, ↓reduceIte, sevalprocAttr])
   | (refine bd_go h fun y hy h => ?_
      first | refine callsc (a_ridgewayref17_As hy) ?_ ?_ | refine callc (a_ridgewayref17_As hy) ?_ ?_ | ((first | refine callsc (act_le (a_ridgewayref17_As hy) ?_) ?_ ?_ | refine callc (act_le (a_ridgewayref17_As hy) ?_) ?_ ?_); (focus (repeat' (first | exact trivial | exact le_same _ | exact le_enc | exact le_nil | exact le_imm (.inl rfl) | exact le_imm (.inr rfl) | (refine le_agg ?_) | apply And.intro | (refine le_eq ?_; simp only [*]; done)))))
      exact tk2
      simp -implicitDefEqProofs only [av, reduceCtorEq, ↓reduceIte, sevalprocAttr])
   | (refine bd_go h fun y hy h => ?_
      first | refine callsc (a_ridgewayref17_Hello hy) ?_ ?_ | refine callc (a_ridgewayref17_Hello hy) ?_ ?_ | ((first | refine callsc (act_le (a_ridgewayref17_Hello hy) ?_) ?_ ?_ | refine callc (act_le (a_ridgewayref17_Hello hy) ?_) ?_ ?_); (focus (repeat' (first | exact trivial | exact le_same _ | exact le_enc | exact le_nil | exact le_imm (.inl rfl) | exact le_imm (.inr rfl) | (refine le_agg ?_) | apply And.intro | (refine le_eq ?_; simp only [*]; done)))))
      exact tk2
      simp -implicitDefEqProofs only [av, reduceCtorEq, ↓reduceIte, sevalprocAttr])
   | (refine bd_go h fun y hy h => ?_
      first | refine callsc (a_ridgewayref03_Sane hy) ?_ ?_ | refine callc (a_ridgewayref03_Sane hy) ?_ ?_ | ((first | refine callsc (act_le (a_ridgewayref03_Sane hy) ?_) ?_ ?_ | refine callc (act_le (a_ridgewayref03_Sane hy) ?_) ?_ ?_); (focus (repeat' (first | exact trivial | exact le_same _ | exact le_enc | exact le_nil | exact le_imm (.inl rfl) | exact le_imm (.inr rfl) | (refine le_agg ?_) | apply And.intro | (refine le_eq ?_; simp only [*]; done)))))
      exact tk2
      simp -implicitDefEqProofs only [av, reduceCtorEq, ↓reduceIte, sevalprocAttr])
   | (refine bd_go h fun y hy h => ?_
      first | refine callsc (a_ridgewayref17_opens hy) ?_ ?_ | refine callc (a_ridgewayref17_opens hy) ?_ ?_ | ((first | refine callsc (act_le (a_ridgewayref17_opens hy) ?_) ?_ ?_ | refine callc (act_le (a_ridgewayref17_opens hy) ?_) ?_ ?_); (focus (repeat' (first | exact trivial | exact le_same _ | exact le_enc | exact le_nil | exact le_imm (.inl rfl) | exact le_imm (.inr rfl) | (refine le_agg ?_) | apply And.intro | (refine le_eq ?_; simp only [*]; done)))))
      exact tk2
      simp -implicitDefEqProofs only [av, reduceCtorEq, ↓reduceIte, sevalprocAttr])
   | (refine bd_go h fun y hy h => ?_
      first | refine callsc (a_ridgewayref17_ends hy) ?_ ?_ | refine callc (a_ridgewayref17_ends hy) ?_ ?_ | ((first | refine callsc (act_le (a_ridgewayref17_ends hy) ?_) ?_ ?_ | refine callc (act_le (a_ridgewayref17_ends hy) ?_) ?_ ?_); (focus (repeat' (first | exact trivial | exact le_same _ | exact le_enc | exact le_nil | exact le_imm (.inl rfl) | exact le_imm (.inr rfl) | (refine le_agg ?_) | apply And.intro | (refine le_eq ?_; simp only [*]; done)))))
      exact tk2
      simp -implicitDefEqProofs only [av, reduceCtorEq, ↓reduceIte, sevalprocAttr])
   | (cases h
      try simp -implicitDefEqProofs only [av, reduceCtorEq, ↓reduceIte, sevalprocAttr]
      first | refine retLt tk5 (by rfl) ?_ | refine retL1 tk5 (by rfl) ?_
      repeat' (first | exact trivial | apply And.intro)
      all_goals exact tk0)
   | fail)
theorem a_session_second {a0 : Sess} {r : (Sess × (List Msg))} (h : m_session_second a0 = some r) : ACt Tryz.prog 32 [Enc.enc a0] (.tup [Enc.enc r.1, Enc.enc r.2]) [] := by
 refine act_of p_session_second (by simp [c_session_second]) ?_
 show AW _ b_session_second (RetOk [.cell 2 (some 4), .tmp 3] _ _) { n := 38, tm := [(0, _)], box := [], fr := [] }
 unfold b_session_second
 unfold m_session_second at h
 try simp -implicitDefEqProofs only [av, reduceCtorEq, ↓reduceIte, sevalprocAttr] at h
 repeat' (first
   | (refine (hκ _).mpr ?_; clear hκ)
   | refine kn1 ?_
   | refine kr1 ?_
   | refine ke1 ?_
   | refine kn2 ?_
   | refine kr2 ?_
   | refine kx2 ?_
   | refine ke2 rfl ?_
   | refine kr5 ?_
   | refine ke5 ?_
   | refine kr6 ?_
   | refine ke6 ?_
   | refine w_seq ?_
   | refine w_block ?_
   | refine w_scope ?_
   | refine kn7 ?_
   | refine kr7 ?_
   | refine ke7 ?_
   | (refine aw_regk fun κ hκ => ?_; simp -implicitDefEqProofs only [av, reduceCtorEq, ↓reduceIte, sevalprocAttr])
   | refine aw_exit ?_
   | refine aw_ret ?_
   | refine aw_skip ?_
   | refine aw_label ?_
   | refine condc_t ?_
   | refine condc_f ?_
   | (refine aw_cond2 tk4 ?_)
   | ((first | refine gkc_fork ?_ ?_ | refine pkc_fork ?_ ?_ | refine condc_fork ?_ ?_) <;> intro hq <;> (first | contradiction | simp -implicitDefEqProofs only [eq_false hq, Decidable.not_not, av, reduceCtorEq, ↓reduceIte, sevalprocAttr] at h ⊢ | simp -implicitDefEqProofs only [eq_true hq, av, reduceCtorEq, ↓reduceIte, sevalprocAttr] at h ⊢))
   | ((first | refine gkc_split ?_ ?_ | refine pkc_split ?_ ?_ | refine condc_bool ?_ ?_) <;> intro hq <;> (first | exact bcontra (by assumption) hq | exact bcontra hq (by assumption) | simp -implicitDefEqProofs only [hq, av, reduceCtorEq, ↓reduceIte, sevalprocAttr] at h ⊢))
   | (refine stc_plain rfl ?_; simp -implicitDefEqProofs only [putCells.eq_1, av, reduceCtorEq, ↓reduceIte, sevalprocAttr])
   | (refine bd_go h fun y hy h => ?_
      first | refine callsc (a_session_Stop hy) ?_ ?_ | refine callc (a_session_Stop hy) ?_ ?_ | ((first | refine callsc (act_le (a_session_Stop hy) ?_) ?_ ?_ | refine callc (act_le (a_session_Stop hy) ?_) ?_ ?_); (focus (repeat' (first | exact trivial | exact le_same _ | exact le_enc | exact le_nil | exact le_imm (.inl rfl) | exact le_imm (.inr rfl) | (refine le_agg ?_) | apply And.intro | (refine le_eq ?_; simp only [*]; done)))))
      exact tk2
      simp -implicitDefEqProofs only [av, reduceCtorEq, ↓reduceIte, sevalprocAttr])
   | (refine bd_go h fun y hy h => ?_
      first | refine callsc (a_session_third hy) ?_ ?_ | refine callc (a_session_third hy) ?_ ?_ | ((first | refine callsc (act_le (a_session_third hy) ?_) ?_ ?_ | refine callc (act_le (a_session_third hy) ?_) ?_ ?_); (focus (repeat' (first | exact trivial | exact le_same _ | exact le_enc | exact le_nil | exact le_imm (.inl rfl) | exact le_imm (.inr rfl) | (refine le_agg ?_) | apply And.intro | (refine le_eq ?_; simp only [*]; done)))))
      exact tk2
      simp -implicitDefEqProofs only [av, reduceCtorEq, ↓reduceIte, sevalprocAttr])
   | (refine bd_go h fun y hy h => ?_
      first | refine callsc (a_session_alive hy) ?_ ?_ | refine callc (a_session_alive hy) ?_ ?_ | ((first | refine callsc (act_le (a_session_alive hy) ?_) ?_ ?_ | refine callc (act_le (a_session_alive hy) ?_) ?_ ?_); (focus (repeat' (first | exact trivial | exact le_same _ | exact le_enc | exact le_nil | exact le_imm (.inl rfl) | exact le_imm (.inr rfl) | (refine le_agg ?_) | apply And.intro | (refine le_eq ?_; simp only [*]; done)))))
      exact tk2
      simp -implicitDefEqProofs only [av, reduceCtorEq, ↓reduceIte, sevalprocAttr])
   | (cases h
      try simp -implicitDefEqProofs only [av, reduceCtorEq, ↓reduceIte, sevalprocAttr]
      first | refine retLt tk5 (by rfl) ?_ | refine retL1 tk5 (by rfl) ?_
      repeat' (first | exact trivial | apply And.intro)
      all_goals exact tk0)
   | fail)
theorem a_session_Tick {a0 : Sess} {a1 : Int} {r : (Sess × (List Msg))} (h : m_session_Tick a0 a1 = some r) : ACt Tryz.prog 10 [Enc.enc a0, Enc.enc a1] (.tup [Enc.enc r.1, Enc.enc r.2]) [] := by
 refine act_of p_session_Tick (by simp [c_session_Tick]) ?_
 show AW _ b_session_Tick (RetOk [.cell 4 (some 4), .tmp 5] _ _) { n := 27, tm := [(0, _), (1, _)], box := [], fr := [] }
 unfold b_session_Tick
 unfold m_session_Tick at h
 try simp -implicitDefEqProofs only [av, reduceCtorEq, ↓reduceIte, sevalprocAttr] at h
 repeat' (first
   | (refine (hκ _).mpr ?_; clear hκ)
   | refine kn1 ?_
   | refine kr1 ?_
   | refine ke1 ?_
   | refine kn2 ?_
   | refine kr2 ?_
   | refine kx2 ?_
   | refine ke2 rfl ?_
   | refine kr5 ?_
   | refine ke5 ?_
   | refine kr6 ?_
   | refine ke6 ?_
   | (refine w_loopm [2, 4, 12] (fun (j : ((List Msg) × Int × Int × Int × Int × Int)) => [(6, (.slice (.app 0) 2 (List.map Enc.enc j.1))), (13, (.int .i64 j.2.1))]) (fun (j : ((List Msg) × Int × Int × Int × Int × Int)) => [(0, 0, (.int .i64 j.2.2.1)), (0, 1, (.int .i64 j.2.2.2.1)), (0, 2, (.int .i64 j.2.2.2.2.1)), (0, 3, (.int .i64 j.2.2.2.2.2))]) (fun (j : ((List Msg) × Int × Int × Int × Int × Int)) => []) (fun (j : ((List Msg) × Int × Int × Int × Int × Int)) => [(30, j.1.length)]) (show loopC (s_session_Tick1 _) _ BIG _ = some _ from h) ?_ ?_
      · try simp -implicitDefEqProofs only [pats, av, reduceCtorEq, ↓reduceIte, sevalprocAttr]
        (first
         | (refine wk_m 0 _ rfl ?_ rfl rfl ?_ ?_ ?_ ?_
            iterate 3 exact tk3
            all_goals (repeat' (first | exact trivial | apply And.intro))
            all_goals exact tk1))
      clear h
      intro n st h
      simp -implicitDefEqProofs only [s_session_Tick1.eq_1, pats, av, reduceCtorEq, ↓reduceIte, sevalprocAttr] at h ⊢)
   | refine w_seq ?_
   | refine w_block ?_
   | refine w_scope ?_
   | refine kn7 ?_
   | refine kr7 ?_
   | refine ke7 ?_
   | (refine aw_regk fun κ hκ => ?_; simp -implicitDefEqProofs only [av, reduceCtorEq, ↓reduceIte, sevalprocAttr])
   | refine aw_exit ?_
   | refine aw_ret ?_
   | refine aw_skip ?_
   | refine aw_label ?_
   | refine condc_t ?_
   | refine condc_f ?_
   | (refine aw_cond2 tk4 ?_)
   | ((first | refine gkc_fork ?_ ?_ | refine pkc_fork ?_ ?_ | refine condc_fork ?_ ?_) <;> intro hq <;> (first | contradiction | simp -implicitDefEqProofs only [eq_false hq, Decidable.not_not, av, reduceCtorEq, ↓reduceIte, sevalprocAttr] at h ⊢ | simp -implicitDefEqProofs only [eq_true hq, av, reduceCtorEq, ↓reduceIte, sevalprocAttr] at h ⊢))
   | ((first | refine gkc_split ?_ ?_ | refine pkc_split ?_ ?_ | refine condc_bool ?_ ?_) <;> intro hq <;> (first | exact bcontra (by assumption) hq | exact bcontra hq (by assumption) | simp -implicitDefEqProofs only [hq, av, reduceCtorEq, ↓reduceIte, sevalprocAttr] at h ⊢))
   | (refine stc_plain rfl ?_; simp -implicitDefEqProofs only [putCells.eq_1, av, reduceCtorEq, ↓reduceIte, sevalprocAttr])
   | (refine bd_go h fun y hy h => ?_
      refine apc hy tk6 tk6 tk7 tk7 tk8 ?_
      simp -implicitDefEqProofs only [av, reduceCtorEq, ↓reduceIte, sevalprocAttr])
   | (refine bd_go h fun y hy h => ?_
      first | refine callsc (a_session_sane hy) ?_ ?_ | refine callc (a_session_sane hy) ?_ ?_ | ((first | refine callsc (act_le (a_session_sane hy) ?_) ?_ ?_ | refine callc (act_le (a_session_sane hy) ?_) ?_ ?_); (focus (repeat' (first | exact trivial | exact le_same _ | exact le_enc | exact le_nil | exact le_imm (.inl rfl) | exact le_imm (.inr rfl) | (refine le_agg ?_) | apply And.intro | (refine le_eq ?_; simp only [*]; done)))))
      exact tk2
      simp -implicitDefEqProofs only [av, reduceCtorEq, ↓reduceIte, sevalprocAttr])
   | (refine bd_go h fun y hy h => ?_
      first | refine callsc (a_session_second hy) ?_ ?_ | refine callc (a_session_second hy) ?_ ?_ | ((first | refine callsc (act_le (a_session_second hy) ?_) ?_ ?_ | refine callc (act_le (a_session_second hy) ?_) ?_ ?_); (focus (repeat' (first | exact trivial | exact le_same _ | exact le_enc | exact le_nil | exact le_imm (.inl rfl) | exact le_imm (.inr rfl) | (refine le_agg ?_) | apply And.intro | (refine le_eq ?_; simp only [*]; done)))))
      exact tk2
      simp -implicitDefEqProofs only [av, reduceCtorEq, ↓reduceIte, sevalprocAttr])
   | (first | refine kn6 ⟨_, h, ?_⟩ | refine kn5 ⟨_, h, ?_⟩
      try simp -implicitDefEqProofs only [pats, av, reduceCtorEq, ↓reduceIte, sevalprocAttr]
      (first
         | (refine wk_m 0 _ rfl ?_ rfl rfl ?_ ?_ ?_ ?_
            iterate 3 exact tk3
            all_goals (repeat' (first | exact trivial | apply And.intro))
            all_goals exact tk1)
         | (refine wk_m 1 _ rfl ?_ rfl rfl ?_ ?_ ?_ ?_
            iterate 3 exact tk3
            all_goals (repeat' (first | exact trivial | apply And.intro))
            all_goals exact tk1)))
   | (first | refine kn6 ⟨_, h, ?_⟩ | refine kn5 ⟨_, h, ?_⟩
      try simp -implicitDefEqProofs only [*, pats, av, reduceCtorEq, ↓reduceIte, sevalprocAttr]
      (first
         | (refine wk_m 0 _ rfl ?_ rfl rfl ?_ ?_ ?_ ?_
            iterate 3 exact tk3
            all_goals (repeat' (first | exact trivial | apply And.intro))
            all_goals exact tk1)
         | (refine wk_m 1 _ rfl ?_ rfl rfl ?_ ?_ ?_ ?_
            iterate 3 exact tk3
            all_goals (repeat' (first | exact trivial | apply And.intro))
            all_goals exact tk1)))
   | (cases h
      try simp -implicitDefEqProofs only [av, reduceCtorEq, ↓reduceIte, sevalprocAttr]
      first | refine retLt tk5 (by rfl) ?_ | refine retL1 tk5 (by rfl) ?_
      repeat' (first | exact trivial | apply And.intro)
      all_goals exact tk0)
   | fail)
theorem a_ridgewayref17_Tick {a0 : Sess} {a1 : Int} {r : (Sess × (List Msg))} (h : m_ridgewayref17_Tick a0 a1 = some r) : ACt Tryz.prog 11 [Enc.enc a0, Enc.enc a1] (.tup [Enc.enc r.1, Enc.enc r.2]) [] := by
 refine act_of p_ridgewayref17_Tick (by simp [c_ridgewayref17_Tick]) ?_
 show AW _ b_ridgewayref17_Tick (RetOk [.cell 4 (some 4), .tmp 5] _ _) { n := 62, tm := [(0, _), (1, _)], box := [], fr := [] }
 unfold b_ridgewayref17_Tick
 unfold m_ridgewayref17_Tick at h
 try simp -implicitDefEqProofs only [av, reduceCtorEq, ↓reduceIte, sevalprocAttr] at h
 repeat' (first
   | (refine (hκ _).mpr ?_; clear hκ)
   | refine kn1 ?_
   | refine kr1 ?_
   | refine ke1 ?_
   | refine kn2 ?_
   | refine kr2 ?_
   | refine kx2 ?_
   | refine ke2 rfl ?_
   | refine kr5 ?_
   | refine ke5 ?_
   | refine kr6 ?_
   | refine ke6 ?_
   | (refine w_loopm [1, 4, 6] (fun (j : ((List Msg) × Int × Int × Int)) => [(7, (.slice (.app 0) 2 (List.map Enc.enc j.1))), (8, (.int .i64 j.2.1))]) (fun (j : ((List Msg) × Int × Int × Int)) => [(2, 2, (.int .i64 j.2.2.1)), (2, 3, (.int .i64 j.2.2.2))]) (fun (j : ((List Msg) × Int × Int × Int)) => []) (fun (j : ((List Msg) × Int × Int × Int)) => [(30, j.1.length)]) (show loopC (s_ridgewayref17_Tick1 _ _) _ BIG _ = some _ from h) ?_ ?_
      · try simp -implicitDefEqProofs only [pats, av, reduceCtorEq, ↓reduceIte, sevalprocAttr]
        (first
         | (refine wk_m 0 _ rfl ?_ rfl rfl ?_ ?_ ?_ ?_
            iterate 3 exact tk3
            all_goals (repeat' (first | exact trivial | apply And.intro))
            all_goals exact tk1))
      clear h
      intro n st h
      simp -implicitDefEqProofs only [s_ridgewayref17_Tick1.eq_1, pats, av, reduceCtorEq, ↓reduceIte, sevalprocAttr] at h ⊢)
   | refine w_seq ?_
   | refine w_block ?_
   | refine w_scope ?_
   | refine kn7 ?_
   | refine kr7 ?_
   | refine ke7 ?_
   | (refine aw_regk fun κ hκ => ?_; simp -implicitDefEqProofs only [av, reduceCtorEq, ↓reduceIte, sevalprocAttr])
   | refine aw_exit ?_
   | refine aw_ret ?_
   | refine aw_skip ?_
   | refine aw_label ?_
   | refine condc_t ?_
   | refine condc_f ?_
   | (refine aw_cond2 tk4 ?_)
   | ((first | refine gkc_fork ?_ ?_ | refine pkc_fork ?_ ?_ | refine condc_fork ?_ ?_) <;> intro hq <;> (first | contradiction | simp -implicitDefEqProofs only [eq_false hq, Decidable.not_not, av, reduceCtorEq, ↓reduceIte, sevalprocAttr] at h ⊢ | simp -implicitDefEqProofs only [eq_true hq, av, reduceCtorEq, ↓reduceIte, sevalprocAttr] at h ⊢))
   | ((first | refine gkc_split ?_ ?_ | refine pkc_split ?_ ?_ | refine condc_bool ?_ ?_) <;> intro hq <;> (first | exact bcontra (by assumption) hq | exact bcontra hq (by assumption) | simp -implicitDefEqProofs only [hq, av, reduceCtorEq, ↓reduceIte, sevalprocAttr] at h ⊢))
   | (refine stc_plain rfl ?_; simp -implicitDefEqProofs only [putCells.eq_1, av, reduceCtorEq, ↓reduceIte, sevalprocAttr])
   | (refine bd_go h fun y hy h => ?_
      refine apc hy tk6 tk6 tk7 tk7 tk8 ?_
      simp -implicitDefEqProofs only [av, reduceCtorEq, ↓reduceIte, sevalprocAttr])
   | (refine bd_go h fun y hy h => ?_
      first | refine callsc (a_ridgewayref17_As hy) ?_ ?_ | refine callc (a_ridgewayref17_As hy) ?_ ?_ | ((first | refine callsc (act_le (a_ridgewayref17_As hy) ?_) ?_ ?_ | refine callc (act_le (a_ridgewayref17_As hy) ?_) ?_ ?_); (focus (repeat' (first | exact trivial | exact le_same _ | exact le_enc | exact le_nil | exact le_imm (.inl rfl) | exact le_imm (.inr rfl) | (refine le_agg ?_) | apply And.intro | (refine le_eq ?_; simp only [*]; done)))))
      exact tk2
      simp -implicitDefEqProofs only [av, reduceCtorEq, ↓reduceIte, sevalprocAttr])
   | (refine bd_go h fun y hy h => ?_
      first | refine callsc (a_ridgewayref17_Stop hy) ?_ ?_ | refine callc (a_ridgewayref17_Stop hy) ?_ ?_ | ((first | refine callsc (act_le (a_ridgewayref17_Stop hy) ?_) ?_ ?_ | refine callc (act_le (a_ridgewayref17_Stop hy) ?_) ?_ ?_); (focus (repeat' (first | exact trivial | exact le_same _ | exact le_enc | exact le_nil | exact le_imm (.inl rfl) | exact le_imm (.inr rfl) | (refine le_agg ?_) | apply And.intro | (refine le_eq ?_; simp only [*]; done)))))
      exact tk2
      simp -implicitDefEqProofs only [av, reduceCtorEq, ↓reduceIte, sevalprocAttr])
   | (first | refine kn6 ⟨_, h, ?_⟩ | refine kn5 ⟨_, h, ?_⟩
      try simp -implicitDefEqProofs only [pats, av, reduceCtorEq, ↓reduceIte, sevalprocAttr]
      (first
         | (refine wk_m 0 _ rfl ?_ rfl rfl ?_ ?_ ?_ ?_
            iterate 3 exact tk3
            all_goals (repeat' (first | exact trivial | apply And.intro))
            all_goals exact tk1)
         | (refine wk_m 1 _ rfl ?_ rfl rfl ?_ ?_ ?_ ?_
            iterate 3 exact tk3
            all_goals (repeat' (first | exact trivial | apply And.intro))
            all_goals exact tk1)))
   | (first | refine kn6 ⟨_, h, ?_⟩ | refine kn5 ⟨_, h, ?_⟩
      try simp -implicitDefEqProofs only [*, pats, av, reduceCtorEq, ↓reduceIte, sevalprocAttr]
      (first
         | (refine wk_m 0 _ rfl ?_ rfl rfl ?_ ?_ ?_ ?_
            iterate 3 exact tk3
            all_goals (repeat' (first | exact trivial | apply And.intro))
            all_goals exact tk1)
         | (refine wk_m 1 _ rfl ?_ rfl rfl ?_ ?_ ?_ ?_
            iterate 3 exact tk3
            all_goals (repeat' (first | exact trivial | apply And.intro))
            all_goals exact tk1)))
   | (cases h
      try simp -implicitDefEqProofs only [av, reduceCtorEq, ↓reduceIte, sevalprocAttr]
      first | refine retLt tk5 (by rfl) ?_ | refine retL1 tk5 (by rfl) ?_
      repeat' (first | exact trivial | apply And.intro)
      all_goals exact tk0)
   | fail)
theorem a_ridgewayref03_Same {a0 : Msg} {a1 : Msg} {r : Bool} (h : m_ridgewayref03_Same a0 a1 = some r) : ACt Tryz.prog 36 [Enc.enc a0, Enc.enc a1] (Enc.enc r) [] := by
 refine act_of p_ridgewayref03_Same (by simp [c_ridgewayref03_Same]) ?_
 show AW _ b_ridgewayref03_Same (RetOk [.tmp 4] _ _) { n := 19, tm := [(0, _), (1, _)], box := [], fr := [] }
 unfold b_ridgewayref03_Same
 unfold m_ridgewayref03_Same at h
 try simp -implicitDefEqProofs only [av, reduceCtorEq, ↓reduceIte, sevalprocAttr] at h
 repeat' (first
   | (refine (hκ _).mpr ?_; clear hκ)
   | refine kn1 ?_
   | refine kr1 ?_
   | refine ke1 ?_
   | refine kn2 ?_
   | refine kr2 ?_
   | refine kx2 ?_
   | refine ke2 rfl ?_
   | refine kr5 ?_
   | refine ke5 ?_
   | refine kr6 ?_
   | refine ke6 ?_
   | refine w_seq ?_
   | refine w_block ?_
   | refine w_scope ?_
   | refine kn7 ?_
   | refine kr7 ?_
   | refine ke7 ?_
   | (refine aw_regk fun κ hκ => ?_; simp -implicitDefEqProofs only [av, reduceCtorEq, ↓reduceIte, sevalprocAttr])
   | refine aw_exit ?_
   | refine aw_ret ?_
   | refine aw_skip ?_
   | refine aw_label ?_
   | refine condc_t ?_
   | refine condc_f ?_
   | (refine aw_cond2 tk4 ?_)
   | ((first | refine gkc_fork ?_ ?_ | refine pkc_fork ?_ ?_ | refine condc_fork ?_ ?_) <;> intro hq <;> (first | contradiction | simp -implicitDefEqProofs only [eq_false hq, Decidable.not_not, av, reduceCtorEq, ↓reduceIte, sevalprocAttr] at h ⊢ | simp -implicitDefEqProofs only [eq_true hq, av, reduceCtorEq, ↓reduceIte, sevalprocAttr] at h ⊢))
   | ((first | refine gkc_split ?_ ?_ | refine pkc_split ?_ ?_ | refine condc_bool ?_ ?_) <;> intro hq <;> (first | exact bcontra (by assumption) hq | exact bcontra hq (by assumption) | simp -implicitDefEqProofs only [hq, av, reduceCtorEq, ↓reduceIte, sevalprocAttr] at h ⊢))
   | (cases h
      try simp -implicitDefEqProofs only [av, reduceCtorEq, ↓reduceIte, sevalprocAttr]
      first | refine retLt tk5 (by rfl) ?_ | refine retL1 tk5 (by rfl) ?_
      repeat' (first | exact trivial | apply And.intro)
      all_goals exact tk0)
   | fail)
theorem a_ridgewayref03_SameAll {a0 : (List Msg)} {a1 : (List Msg)} {r : Bool} (h : m_ridgewayref03_SameAll a0 a1 = some r) : ACt Tryz.prog 14 [Enc.enc a0, Enc.enc a1] (Enc.enc r) [] := by
 refine act_of p_ridgewayref03_SameAll (by simp [c_ridgewayref03_SameAll]) ?_
 show AW _ b_ridgewayref03_SameAll (RetOk [.tmp 4] _ _) { n := 27, tm := [(0, _), (1, _)], box := [], fr := [] }
 unfold b_ridgewayref03_SameAll
 unfold m_ridgewayref03_SameAll at h
 try simp -implicitDefEqProofs only [av, reduceCtorEq, ↓reduceIte, sevalprocAttr] at h
 repeat' (first
   | (refine (hκ _).mpr ?_; clear hκ)
   | refine kn1 ?_
   | refine kr1 ?_
   | refine ke1 ?_
   | refine kn2 ?_
   | refine kr2 ?_
   | refine kx2 ?_
   | refine ke2 rfl ?_
   | refine kr5 ?_
   | refine ke5 ?_
   | refine kr6 ?_
   | refine ke6 ?_
   | (refine w_loopm [0, 1] (fun (j : (Int)) => [(5, (.int .i64 j))]) (fun (j : (Int)) => []) (fun (j : (Int)) => []) (fun (j : (Int)) => []) (show loopC (s_ridgewayref03_SameAll1 _ _) _ BIG _ = some _ from h) ?_ ?_
      · try simp -implicitDefEqProofs only [pats, av, reduceCtorEq, ↓reduceIte, sevalprocAttr]
        (first
         | (refine wk_m 0 _ rfl ?_ rfl rfl ?_ ?_ ?_ ?_
            iterate 3 exact tk3
            all_goals (repeat' (first | exact trivial | apply And.intro))
            all_goals exact tk1))
      clear h
      intro n st h
      simp -implicitDefEqProofs only [s_ridgewayref03_SameAll1.eq_1, pats, av, reduceCtorEq, ↓reduceIte, sevalprocAttr] at h ⊢)
   | refine w_seq ?_
   | refine w_block ?_
   | refine w_scope ?_
   | refine kn7 ?_
   | refine kr7 ?_
   | refine ke7 ?_
   | (refine aw_regk fun κ hκ => ?_; simp -implicitDefEqProofs only [av, reduceCtorEq, ↓reduceIte, sevalprocAttr])
   | refine aw_exit ?_
   | refine aw_ret ?_
   | refine aw_skip ?_
   | refine aw_label ?_
   | refine condc_t ?_
   | refine condc_f ?_
   | (refine aw_cond2 tk4 ?_)
   | ((first | refine gkc_fork ?_ ?_ | refine pkc_fork ?_ ?_ | refine condc_fork ?_ ?_) <;> intro hq <;> (first | contradiction | simp -implicitDefEqProofs only [eq_false hq, Decidable.not_not, av, reduceCtorEq, ↓reduceIte, sevalprocAttr] at h ⊢ | simp -implicitDefEqProofs only [eq_true hq, av, reduceCtorEq, ↓reduceIte, sevalprocAttr] at h ⊢))
   | ((first | refine gkc_split ?_ ?_ | refine pkc_split ?_ ?_ | refine condc_bool ?_ ?_) <;> intro hq <;> (first | exact bcontra (by assumption) hq | exact bcontra hq (by assumption) | simp -implicitDefEqProofs only [hq, av, reduceCtorEq, ↓reduceIte, sevalprocAttr] at h ⊢))
   | (refine bd_go h fun y hy h => ?_; refine ixc hy ?_; simp -implicitDefEqProofs only [av, reduceCtorEq, ↓reduceIte, sevalprocAttr])
   | (refine bd_go h fun y hy h => ?_
      first | refine callsc (a_ridgewayref03_Same hy) ?_ ?_ | refine callc (a_ridgewayref03_Same hy) ?_ ?_ | ((first | refine callsc (act_le (a_ridgewayref03_Same hy) ?_) ?_ ?_ | refine callc (act_le (a_ridgewayref03_Same hy) ?_) ?_ ?_); (focus (repeat' (first | exact trivial | exact le_same _ | exact le_enc | exact le_nil | exact le_imm (.inl rfl) | exact le_imm (.inr rfl) | (refine le_agg ?_) | apply And.intro | (refine le_eq ?_; simp only [*]; done)))))
      exact tk2
      simp -implicitDefEqProofs only [av, reduceCtorEq, ↓reduceIte, sevalprocAttr])
   | (first | refine kn6 ⟨_, h, ?_⟩ | refine kn5 ⟨_, h, ?_⟩
      try simp -implicitDefEqProofs only [pats, av, reduceCtorEq, ↓reduceIte, sevalprocAttr]
      (first
         | (refine wk_m 0 _ rfl ?_ rfl rfl ?_ ?_ ?_ ?_
            iterate 3 exact tk3
            all_goals (repeat' (first | exact trivial | apply And.intro))
            all_goals exact tk1)))
   | (first | refine kn6 ⟨_, h, ?_⟩ | refine kn5 ⟨_, h, ?_⟩
      try simp -implicitDefEqProofs only [*, pats, av, reduceCtorEq, ↓reduceIte, sevalprocAttr]
      (first
         | (refine wk_m 0 _ rfl ?_ rfl rfl ?_ ?_ ?_ ?_
            iterate 3 exact tk3
            all_goals (repeat' (first | exact trivial | apply And.intro))
            all_goals exact tk1)))
   | (cases h
      try simp -implicitDefEqProofs only [av, reduceCtorEq, ↓reduceIte, sevalprocAttr]
      first | refine retLt tk5 (by rfl) ?_ | refine retL1 tk5 (by rfl) ?_
      repeat' (first | exact trivial | apply And.intro)
      all_goals exact tk0)
   | fail)
theorem a_ridgewaylaw17_SessionIs {a0 : Sess} {a1 : Conf} {a2 : Int} {a3 : Msg} {a4 : Int} {r : Bool} (h : m_ridgewaylaw17_SessionIs a0 a1 a2 a3 a4 = some r) : ACt Tryz.prog 3 [Enc.enc a0, Enc.enc a1, Enc.enc a2, Enc.enc a3, Enc.enc a4] (Enc.enc r) [] := by
 refine act_of p_ridgewaylaw17_SessionIs (by simp [c_ridgewaylaw17_SessionIs]) ?_
 show AW _ b_ridgewaylaw17_SessionIs (RetOk [.tmp 10] _ _) { n := 158, tm := [(0, _), (1, _), (2, _), (3, _), (4, _)], box := [], fr := [] }
 unfold b_ridgewaylaw17_SessionIs
 unfold m_ridgewaylaw17_SessionIs at h
 try simp -implicitDefEqProofs only [av, reduceCtorEq, ↓reduceIte, sevalprocAttr] at h
 repeat' (first
   | (refine (hκ _).mpr ?_; clear hκ)
   | refine kn1 ?_
   | refine kr1 ?_
   | refine ke1 ?_
   | refine kn2 ?_
   | refine kr2 ?_
   | refine kx2 ?_
   | refine ke2 rfl ?_
   | refine kr5 ?_
   | refine ke5 ?_
   | refine kr6 ?_
   | refine ke6 ?_
   | refine w_seq ?_
   | refine w_block ?_
   | refine w_scope ?_
   | refine kn7 ?_
   | refine kr7 ?_
   | refine ke7 ?_
   | (refine aw_regk fun κ hκ => ?_; simp -implicitDefEqProofs only [av, reduceCtorEq, ↓reduceIte, sevalprocAttr])
   | refine aw_exit ?_
   | refine aw_ret ?_
   | refine aw_skip ?_
   | refine aw_label ?_
   | refine condc_t ?_
   | refine condc_f ?_
   | (refine aw_cond2 tk4 ?_)
   | ((first | refine gkc_fork ?_ ?_ | refine pkc_fork ?_ ?_ | refine condc_fork ?_ ?_) <;> intro hq <;> (first | contradiction | simp -implicitDefEqProofs only [eq_false hq, Decidable.not_not, av, reduceCtorEq, ↓reduceIte, sevalprocAttr] at h ⊢ | simp -implicitDefEqProofs only [eq_true hq, av, reduceCtorEq, ↓reduceIte, sevalprocAttr] at h ⊢))
   | ((first | refine gkc_split ?_ ?_ | refine pkc_split ?_ ?_ | refine condc_bool ?_ ?_) <;> intro hq <;> (first | exact bcontra (by assumption) hq | exact bcontra hq (by assumption) | simp -implicitDefEqProofs only [hq, av, reduceCtorEq, ↓reduceIte, sevalprocAttr] at h ⊢))
   | (refine stc_plain rfl ?_; simp -implicitDefEqProofs only [putCells.eq_1, av, reduceCtorEq, ↓reduceIte, sevalprocAttr])
   | (refine bd_go h fun y hy h => ?_
      first | refine callsc (a_ridgewaylaw17_awake hy) ?_ ?_ | refine callc (a_ridgewaylaw17_awake hy) ?_ ?_ | ((first | refine callsc (act_le (a_ridgewaylaw17_awake hy) ?_) ?_ ?_ | refine callc (act_le (a_ridgewaylaw17_awake hy) ?_) ?_ ?_); (focus (repeat' (first | exact trivial | exact le_same _ | exact le_enc | exact le_nil | exact le_imm (.inl rfl) | exact le_imm (.inr rfl) | (refine le_agg ?_) | apply And.intro | (refine le_eq ?_; simp only [*]; done)))))
      exact tk2
      simp -implicitDefEqProofs only [av, reduceCtorEq, ↓reduceIte, sevalprocAttr])
   | (refine bd_go h fun y hy h => ?_
      first | refine callsc (a_ridgewaylaw17_short hy) ?_ ?_ | refine callc (a_ridgewaylaw17_short hy) ?_ ?_ | ((first | refine callsc (act_le (a_ridgewaylaw17_short hy) ?_) ?_ ?_ | refine callc (act_le (a_ridgewaylaw17_short hy) ?_) ?_ ?_); (focus (repeat' (first | exact trivial | exact le_same _ | exact le_enc | exact le_nil | exact le_imm (.inl rfl) | exact le_imm (.inr rfl) | (refine le_agg ?_) | apply And.intro | (refine le_eq ?_; simp only [*]; done)))))
      exact tk2
      simp -implicitDefEqProofs only [av, reduceCtorEq, ↓reduceIte, sevalprocAttr])
   | (refine bd_go h fun y hy h => ?_
      first | refine callsc (a_session_Start hy) ?_ ?_ | refine callc (a_session_Start hy) ?_ ?_ | ((first | refine callsc (act_le (a_session_Start hy) ?_) ?_ ?_ | refine callc (act_le (a_session_Start hy) ?_) ?_ ?_); (focus (repeat' (first | exact trivial | exact le_same _ | exact le_enc | exact le_nil | exact le_imm (.inl rfl) | exact le_imm (.inr rfl) | (refine le_agg ?_) | apply And.intro | (refine le_eq ?_; simp only [*]; done)))))
      exact tk2
      simp -implicitDefEqProofs only [av, reduceCtorEq, ↓reduceIte, sevalprocAttr])
   | (refine bd_go h fun y hy h => ?_
      first | refine callsc (a_ridgewayref17_Start hy) ?_ ?_ | refine callc (a_ridgewayref17_Start hy) ?_ ?_ | ((first | refine callsc (act_le (a_ridgewayref17_Start hy) ?_) ?_ ?_ | refine callc (act_le (a_ridgewayref17_Start hy) ?_) ?_ ?_); (focus (repeat' (first | exact trivial | exact le_same _ | exact le_enc | exact le_nil | exact le_imm (.inl rfl) | exact le_imm (.inr rfl) | (refine le_agg ?_) | apply And.intro | (refine le_eq ?_; simp only [*]; done)))))
      exact tk2
      simp -implicitDefEqProofs only [av, reduceCtorEq, ↓reduceIte, sevalprocAttr])
   | (refine bd_go h fun y hy h => ?_
      first | refine callsc (a_session_Take hy) ?_ ?_ | refine callc (a_session_Take hy) ?_ ?_ | ((first | refine callsc (act_le (a_session_Take hy) ?_) ?_ ?_ | refine callc (act_le (a_session_Take hy) ?_) ?_ ?_); (focus (repeat' (first | exact trivial | exact le_same _ | exact le_enc | exact le_nil | exact le_imm (.inl rfl) | exact le_imm (.inr rfl) | (refine le_agg ?_) | apply And.intro | (refine le_eq ?_; simp only [*]; done)))))
      exact tk2
      simp -implicitDefEqProofs only [av, reduceCtorEq, ↓reduceIte, sevalprocAttr])
   | (refine bd_go h fun y hy h => ?_
      first | refine callsc (a_ridgewayref17_Take hy) ?_ ?_ | refine callc (a_ridgewayref17_Take hy) ?_ ?_ | ((first | refine callsc (act_le (a_ridgewayref17_Take hy) ?_) ?_ ?_ | refine callc (act_le (a_ridgewayref17_Take hy) ?_) ?_ ?_); (focus (repeat' (first | exact trivial | exact le_same _ | exact le_enc | exact le_nil | exact le_imm (.inl rfl) | exact le_imm (.inr rfl) | (refine le_agg ?_) | apply And.intro | (refine le_eq ?_; simp only [*]; done)))))
      exact tk2
      simp -implicitDefEqProofs only [av, reduceCtorEq, ↓reduceIte, sevalprocAttr])
   | (refine bd_go h fun y hy h => ?_
      first | refine callsc (a_session_Tick hy) ?_ ?_ | refine callc (a_session_Tick hy) ?_ ?_ | ((first | refine callsc (act_le (a_session_Tick hy) ?_) ?_ ?_ | refine callc (act_le (a_session_Tick hy) ?_) ?_ ?_); (focus (repeat' (first | exact trivial | exact le_same _ | exact le_enc | exact le_nil | exact le_imm (.inl rfl) | exact le_imm (.inr rfl) | (refine le_agg ?_) | apply And.intro | (refine le_eq ?_; simp only [*]; done)))))
      exact tk2
      simp -implicitDefEqProofs only [av, reduceCtorEq, ↓reduceIte, sevalprocAttr])
   | (refine bd_go h fun y hy h => ?_
      first | refine callsc (a_ridgewayref17_Tick hy) ?_ ?_ | refine callc (a_ridgewayref17_Tick hy) ?_ ?_ | ((first | refine callsc (act_le (a_ridgewayref17_Tick hy) ?_) ?_ ?_ | refine callc (act_le (a_ridgewayref17_Tick hy) ?_) ?_ ?_); (focus (repeat' (first | exact trivial | exact le_same _ | exact le_enc | exact le_nil | exact le_imm (.inl rfl) | exact le_imm (.inr rfl) | (refine le_agg ?_) | apply And.intro | (refine le_eq ?_; simp only [*]; done)))))
      exact tk2
      simp -implicitDefEqProofs only [av, reduceCtorEq, ↓reduceIte, sevalprocAttr])
   | (refine bd_go h fun y hy h => ?_
      first | refine callsc (a_session_Stop hy) ?_ ?_ | refine callc (a_session_Stop hy) ?_ ?_ | ((first | refine callsc (act_le (a_session_Stop hy) ?_) ?_ ?_ | refine callc (act_le (a_session_Stop hy) ?_) ?_ ?_); (focus (repeat' (first | exact trivial | exact le_same _ | exact le_enc | exact le_nil | exact le_imm (.inl rfl) | exact le_imm (.inr rfl) | (refine le_agg ?_) | apply And.intro | (refine le_eq ?_; simp only [*]; done)))))
      exact tk2
      simp -implicitDefEqProofs only [av, reduceCtorEq, ↓reduceIte, sevalprocAttr])
   | (refine bd_go h fun y hy h => ?_
      first | refine callsc (a_ridgewayref17_Stop hy) ?_ ?_ | refine callc (a_ridgewayref17_Stop hy) ?_ ?_ | ((first | refine callsc (act_le (a_ridgewayref17_Stop hy) ?_) ?_ ?_ | refine callc (act_le (a_ridgewayref17_Stop hy) ?_) ?_ ?_); (focus (repeat' (first | exact trivial | exact le_same _ | exact le_enc | exact le_nil | exact le_imm (.inl rfl) | exact le_imm (.inr rfl) | (refine le_agg ?_) | apply And.intro | (refine le_eq ?_; simp only [*]; done)))))
      exact tk2
      simp -implicitDefEqProofs only [av, reduceCtorEq, ↓reduceIte, sevalprocAttr])
   | (refine bd_go h fun y hy h => ?_
      first | refine callsc (a_ridgewayref03_SameAll hy) ?_ ?_ | refine callc (a_ridgewayref03_SameAll hy) ?_ ?_ | ((first | refine callsc (act_le (a_ridgewayref03_SameAll hy) ?_) ?_ ?_ | refine callc (act_le (a_ridgewayref03_SameAll hy) ?_) ?_ ?_); (focus (repeat' (first | exact trivial | exact le_same _ | exact le_enc | exact le_nil | exact le_imm (.inl rfl) | exact le_imm (.inr rfl) | (refine le_agg ?_) | apply And.intro | (refine le_eq ?_; simp only [*]; done)))))
      exact tk2
      simp -implicitDefEqProofs only [av, reduceCtorEq, ↓reduceIte, sevalprocAttr])
   | (refine bd_go h fun y hy h => ?_
      first | refine callsc (a_session_Sane hy) ?_ ?_ | refine callc (a_session_Sane hy) ?_ ?_ | ((first | refine callsc (act_le (a_session_Sane hy) ?_) ?_ ?_ | refine callc (act_le (a_session_Sane hy) ?_) ?_ ?_); (focus (repeat' (first | exact trivial | exact le_same _ | exact le_enc | exact le_nil | exact le_imm (.inl rfl) | exact le_imm (.inr rfl) | (refine le_agg ?_) | apply And.intro | (refine le_eq ?_; simp only [*]; done)))))
      exact tk2
      simp -implicitDefEqProofs only [av, reduceCtorEq, ↓reduceIte, sevalprocAttr])
   | (refine bd_go h fun y hy h => ?_
      first | refine callsc (a_ridgewayref17_Sane hy) ?_ ?_ | refine callc (a_ridgewayref17_Sane hy) ?_ ?_ | ((first | refine callsc (act_le (a_ridgewayref17_Sane hy) ?_) ?_ ?_ | refine callc (act_le (a_ridgewayref17_Sane hy) ?_) ?_ ?_); (focus (repeat' (first | exact trivial | exact le_same _ | exact le_enc | exact le_nil | exact le_imm (.inl rfl) | exact le_imm (.inr rfl) | (refine le_agg ?_) | apply And.intro | (refine le_eq ?_; simp only [*]; done)))))
      exact tk2
      simp -implicitDefEqProofs only [av, reduceCtorEq, ↓reduceIte, sevalprocAttr])
   | (refine bd_go h fun y hy h => ?_
      first | refine callsc (a_session_Hello hy) ?_ ?_ | refine callc (a_session_Hello hy) ?_ ?_ | ((first | refine callsc (act_le (a_session_Hello hy) ?_) ?_ ?_ | refine callc (act_le (a_session_Hello hy) ?_) ?_ ?_); (focus (repeat' (first | exact trivial | exact le_same _ | exact le_enc | exact le_nil | exact le_imm (.inl rfl) | exact le_imm (.inr rfl) | (refine le_agg ?_) | apply And.intro | (refine le_eq ?_; simp only [*]; done)))))
      exact tk2
      simp -implicitDefEqProofs only [av, reduceCtorEq, ↓reduceIte, sevalprocAttr])
   | (refine bd_go h fun y hy h => ?_
      first | refine callsc (a_ridgewayref17_Hello hy) ?_ ?_ | refine callc (a_ridgewayref17_Hello hy) ?_ ?_ | ((first | refine callsc (act_le (a_ridgewayref17_Hello hy) ?_) ?_ ?_ | refine callc (act_le (a_ridgewayref17_Hello hy) ?_) ?_ ?_); (focus (repeat' (first | exact trivial | exact le_same _ | exact le_enc | exact le_nil | exact le_imm (.inl rfl) | exact le_imm (.inr rfl) | (refine le_agg ?_) | apply And.intro | (refine le_eq ?_; simp only [*]; done)))))
      exact tk2
      simp -implicitDefEqProofs only [av, reduceCtorEq, ↓reduceIte, sevalprocAttr])
   | (cases h
      try simp -implicitDefEqProofs only [av, reduceCtorEq, ↓reduceIte, sevalprocAttr]
      first | refine retLt tk5 (by rfl) ?_ | refine retL1 tk5 (by rfl) ?_
      repeat' (first | exact trivial | apply And.intro)
      all_goals exact tk0)
   | (cases h
      simp -implicitDefEqProofs only [*, Bool.true_and, Bool.false_and, Bool.and_true, av, reduceCtorEq, ↓reduceIte, sevalprocAttr]
      first | refine retLt tk5 (by rfl) ?_ | refine retL1 tk5 (by rfl) ?_
      repeat' (first | exact trivial | apply And.intro)
      all_goals exact tk0)
   | fail)
end Go.Proofs.YtibploaibljcmaaGreatDoor
