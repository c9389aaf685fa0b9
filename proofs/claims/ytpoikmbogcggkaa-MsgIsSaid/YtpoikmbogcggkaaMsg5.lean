/- The walk of msg.Put. -/
import Derived.Test.YtpoikmbogcggkaaMsg4
namespace Go.Proofs.Ytpoikmbogcggkaa
open Go.RowKit
set_option maxHeartbeats 400000
set_option linter.unusedVariables false
set_option linter.unusedSimpArgs false

def headL (t : Int) (m : Nat) : List UInt8 := List.replicate 16 255 ++ putL (19 + m : Int) 2 ++ putL t 1
def msgL (t : Int) (body : List UInt8) : List UInt8 := headL t body.length ++ body

theorem rel_appendB {ops : Array Oper} {a0 : Act} {C : World → Prop} {Q : Env → Prop} {env : Env} {o : Oper} {rest : List Oper} (s x : Nat) (A : Option Addr) (n : Nat) (l l2 : List UInt8)
    (hop : o.op = .call { callee := .builtin .append, args := #[.tmp s, .tmp x], argTypes := #[22, 22] }) (hg : GuardYes ops a0 env o)
    (hs : slotFact a0 env s = Just (.slice A n n)) (hx : slotFact a0 env x = IsB l2) (h : Rel Try.prog ops C a0 Q ((o.dst.getD 0, IsB (l ++ l2)) :: env) rest)
    (hlen : l.length = n) (hA : ∀ w, C w → Lies w A (l.map bv)) (hbd : n + l2.length ≤ 140737488355328) : Rel Try.prog ops C a0 Q env (o :: rest) := by
  refine rel_op (IsB (l ++ l2)) (lasts_isB _) hg (fun ρ w hρ hC hk => ?_) h
  obtain ⟨dst, op, type, pos, after, guard⟩ := o
  simp only at hop
  subst hop
  simp only [looks, Op.operands, Call.operands] at hk
  simp [known] at hk
  rw [hs, hx] at hk
  obtain ⟨h1, A2, n2, c2, h2, hr⟩ := hk
  have h1 : ρ (.tmp s) = .slice A n n := h1
  have hl2 := hr.len
  obtain ⟨i0, hi, hz0, hz1, hz2⟩ := info_row infoB
  obtain ⟨A', c', w', hrun, hG⟩ := run_append_gr (P := Try.prog) w w.heap.size 22 type 5 i0 (.int .u8 0) 1 1 Try.underlying22 hi hz0 hz1 hz2 rfl (by decide) (.slice A n n) n (l.map bv)
    (.inr ⟨by simp [hlen], by unfold maxLen; omega, A, rfl, hA w hC⟩) A2 n2 c2 (l2.map bv) (by simp [hl2]) hr.lies (oneCell_bv _) (by unfold maxLen; omega) (by omega) (Nat.le_refl _)
  have hr' : RdB w' A' (n + n2) c' (l ++ l2) := by
    have hgr := hG.gr
    rw [← List.map_append] at hgr
    rcases hgr with ho | ⟨q1, q2, A3, q3, q4⟩
    · exact rdB_of_own ho
    · injection q3 with e1 e2 e3
      subst e1 e3
      exact ⟨by simpa using q1, Nat.le_refl _, q2, q4⟩
  simp [execOp, resolve, invoke, builtin, h1, h2, hrun, Result.andThen, StepOK]
  exact ⟨⟨_, _, _, rfl, hr'⟩, hG.below⟩

theorem mput_no (A : Option Addr) (n c : Nat) (t : Int) (B : Option Addr) (m d : Nat) (w : World) (hm : m ≤ 140737488355328) (hs : saneB t m = false) :
    Calls Try.prog 24 #[.slice A n c, .agg #[.int .i64 t, .slice B m d]] w fun e w' => e = .returned (.slice A n c) ∧ Below w.heap.size w w' := by
  have HS := Lib.hid hs
  clear hs
  go_enter Try.func24, Try.ntmps24
  go_wp2_with fail
  with_reducible refine (sane_any _ _ _ _ _ hm).mono ?_
  rw [HS.out]
  rintro e w1 ⟨rfl, hb1⟩
  go_wp2
  go_ret
  exact ⟨rfl, bstep (bnew w _) hb1⟩

theorem mput_yes (A : Option Addr) (n c : Nat) (l : List UInt8) (t : Int) (B : Option Addr) (m d : Nat) (body : List UInt8) (w : World) (h : RdB w A n c l) (hB : RdB w B m d body) (hn : n ≤ 100000000) (hm : m ≤ 100000000) (hs : saneB t m = true) :
    Calls Try.prog 24 #[.slice A n c, .agg #[.int .i64 t, .slice B m d]] w (Ret (IsB (l ++ msgL t body)) w) := by
  have HS := Lib.hid hs
  have HL := Lib.hid h
  have HBD := Lib.hid hB
  have hcap : (n : Int) ≤ c := by have := h.le; omega
  clear hs h hB
  go_enter Try.func24, Try.ntmps24
  go_wp2_with fail
  with_reducible refine (sane_any _ _ _ _ _ (by omega)).mono ?_
  rw [HS.out]
  rintro e w1 ⟨rfl, hb1⟩
  have HB1 := Lib.hid (bstep (bnew w _) hb1)
  have hg := (hb1.block w.heap.size (by simp)).trans (heap_alloc_new w _)
  have HG := Lib.hid hg
  clear hg hb1
  go_wp2_with fail
  refine wp_region_rel (by kernel_rfl) (by decide +kernel) (by rfl) ?_
  repeat (first
    | (refine rel_skip ⟨_, _, _, _, rfl, rfl, rfl, ?_⟩ ?_
       focus (intro h; cases h; done))
    | refine rel_move _ (Just _) (.inl rfl) (by first | exact .inl rfl | exact .inr ⟨_, _, _, rfl, rfl, rfl⟩) rfl (lasts_just _) ?_
    | refine rel_move _ (Just _) (.inr rfl) (by first | exact .inl rfl | exact .inr ⟨_, _, _, rfl, rfl, rfl⟩) rfl (lasts_just _) ?_
    | refine rel_moveC _ (.inl rfl) (by first | exact .inl rfl | exact .inr ⟨_, _, _, rfl, rfl, rfl⟩) ?_
    | refine rel_moveC _ (.inr rfl) (by first | exact .inl rfl | exact .inr ⟨_, _, _, rfl, rfl, rfl⟩) ?_
    | refine rel_str _ _ rfl (by first | exact .inl rfl | exact .inr ⟨_, _, _, rfl, rfl, rfl⟩) rfl ?_
    | refine rel_lenB _ _ rfl (by first | exact .inl rfl | exact .inr ⟨_, _, _, rfl, rfl, rfl⟩) rfl ?_
    | refine rel_move _ (IsB _) (.inl rfl) (by first | exact .inl rfl | exact .inr ⟨_, _, _, rfl, rfl, rfl⟩) rfl (lasts_isB _) ?_
    | refine rel_move _ (IsB _) (.inr rfl) (by first | exact .inl rfl | exact .inr ⟨_, _, _, rfl, rfl, rfl⟩) rfl (lasts_isB _) ?_
    | (refine rel_exact ?_ (by first | exact .inl rfl | exact .inr ⟨_, _, _, rfl, rfl, rfl⟩) ?_ ?_
       rotate_left
       (intro ρ W hρ hC hk
        simp [known, looks, Op.operands, Call.operands, slotFact, Just, List.lookup] at hk
        obtain ⟨hρ1, hρ2, hρ3⟩ := hρ
        go_simp
        rfl)))
  refine rel_op (IsB (List.replicate 16 255)) (lasts_isB _) (by first | exact .inl rfl | exact .inr ⟨_, _, _, rfl, rfl, rfl⟩) ?_ ?_
  · intro ρ W hρ hC hk
    simp [known, looks, Op.operands, Call.operands, slotFact, Just, List.lookup] at hk
    obtain ⟨hρ1, hρ2, hρ3⟩ := hρ
    go_simp
    exact ⟨Below.refl _ _, marked_any _⟩
  refine rel_appendB 15 16 A n l (List.replicate 16 255) rfl (by first | exact .inl rfl | exact .inr ⟨_, _, _, rfl, rfl, rfl⟩) rfl rfl ?_ ?_ ?_ ?_
  rotate_left
  · exact HL.out.len
  · exact fun w2 hC => ((HL.out.below HB1.out).below hC).lies
  · simp; omega
  repeat (first
    | (refine rel_skip ⟨_, _, _, _, rfl, rfl, rfl, ?_⟩ ?_
       focus (intro h; cases h; done))
    | refine rel_move _ (Just _) (.inl rfl) (by first | exact .inl rfl | exact .inr ⟨_, _, _, rfl, rfl, rfl⟩) rfl (lasts_just _) ?_
    | refine rel_move _ (Just _) (.inr rfl) (by first | exact .inl rfl | exact .inr ⟨_, _, _, rfl, rfl, rfl⟩) rfl (lasts_just _) ?_
    | refine rel_moveC _ (.inl rfl) (by first | exact .inl rfl | exact .inr ⟨_, _, _, rfl, rfl, rfl⟩) ?_
    | refine rel_moveC _ (.inr rfl) (by first | exact .inl rfl | exact .inr ⟨_, _, _, rfl, rfl, rfl⟩) ?_
    | refine rel_str _ _ rfl (by first | exact .inl rfl | exact .inr ⟨_, _, _, rfl, rfl, rfl⟩) rfl ?_
    | refine rel_lenB _ _ rfl (by first | exact .inl rfl | exact .inr ⟨_, _, _, rfl, rfl, rfl⟩) rfl ?_
    | refine rel_move _ (IsB _) (.inl rfl) (by first | exact .inl rfl | exact .inr ⟨_, _, _, rfl, rfl, rfl⟩) rfl (lasts_isB _) ?_
    | refine rel_move _ (IsB _) (.inr rfl) (by first | exact .inl rfl | exact .inr ⟨_, _, _, rfl, rfl, rfl⟩) rfl (lasts_isB _) ?_
    | (refine rel_exact ?_ (by first | exact .inl rfl | exact .inr ⟨_, _, _, rfl, rfl, rfl⟩) ?_ ?_
       rotate_left
       (intro ρ W hρ hC hk
        simp [known, looks, Op.operands, Call.operands, slotFact, Just, List.lookup] at hk
        obtain ⟨hρ1, hρ2, hρ3⟩ := hρ
        go_simp
        rfl)))
  refine rel_nil ?_
  intro a W hC hd hsz ht
  refine fin_exit hsz hd ht (of_decide_eq_true (by kernel_rfl)) ?_
  repeat (first
    | refine fin_just ?_
    | (intro _ _))
  refine fin_nil ?_
  simp only [Act.put, Option.getD_some, List.setIfInBounds_toArray, List.set_cons_zero, List.set_cons_succ]
  clear hd hsz ht
  rename_i v5 h5 v17 h17 v16 h16
  obtain ⟨A5, n5, c5, rfl, hr5⟩ := h5
  clear h17 h16
  have HG2 := Lib.hid ((hC.block w.heap.size (Array.getElem?_eq_some_iff.1 HG.out).1).trans HG.out)
  have q0 := cell_of_row _ _ 0 _ _ _ HG2.out
  have q1 := cell_of_row _ _ 1 _ _ _ HG2.out
  simp at q0 q1
  have hn5 : n5 ≤ 100000016 := by have := hr5.len; simp [HL.out.len] at this; omega
  have HB2 := Lib.hid (bstep HB1.out hC)
  have HR5 := Lib.hid hr5
  have hlt := (Array.getElem?_eq_some_iff.1 HG2.out).1
  clear hr5 hC HG
  go_wp2_with fail
  have hput : Calls Try.prog 13 #[.slice A5 n5 c5, .int .i64 (19 + m), .int .i64 2] W (PutDone W n5 2 (l ++ List.replicate 16 255) (19 + m)) := put_yes A5 n5 c5 _ (19 + m) 2 W HR5.out (by omega) (by omega) (by omega)
  with_reducible refine hput.mono ?_
  clear hput
  rintro e w3 ⟨A6, c6, rfl, ho6, hb3⟩
  have q0' := (hb3.cell (p := ⟨w.heap.size, 0, none⟩) hlt).trans q0
  have q1' := (hb3.cell (p := ⟨w.heap.size, 1, none⟩) hlt).trans q1
  have hlt3 : w.heap.size < w3.heap.size := Nat.lt_of_lt_of_le hlt hb3.size
  have HB3 := Lib.hid (bstep HB2.out hb3)
  have HR6 := Lib.hid (rdB_of_own ho6)
  clear ho6 hb3 q0 q1
  go_wp2_with fail
  have hput : Calls Try.prog 13 #[.slice A6 (n5 + 2) c6, .int .i64 t, .int .i64 1] w3 (PutDone w3 (n5 + 2) 1 (l ++ List.replicate 16 255 ++ putL (19 + m) 2) t) := put_yes A6 (n5 + 2) c6 _ t 1 w3 HR6.out (by omega) (by omega) (by omega)
  with_reducible refine hput.mono ?_
  clear hput
  rintro e w4 ⟨A7, c7, rfl, ho7, hb4⟩
  have q0 := (hb4.cell (p := ⟨w.heap.size, 0, none⟩) hlt3).trans q0'
  have q1 := (hb4.cell (p := ⟨w.heap.size, 1, none⟩) hlt3).trans q1'
  have HB4 := Lib.hid (bstep HB3.out hb4)
  obtain ⟨i0, hi, hz0, hz1, hz2⟩ := info_row infoB
  have HI := Lib.hid hi
  have H0 := Lib.hid hz0
  have H1 := Lib.hid hz1
  have H2 := Lib.hid hz2
  have HBF := Lib.hid (HBD.out.below HB4.out)
  have hml : body.length = m := HBD.out.len
  have HML := Lib.hid hml
  have HSZ := Lib.hid hb4.size
  have HO7 := Lib.hid ho7
  clear hi hz0 hz1 hz2 q0' q1' hml ho7 hb4
  go_wp2_with (at_builtin; (refine wpList_append_gr _ rfl _ _ 22 rfl w3.heap.size 5 i0 (.int .u8 0) 1 1 Try.underlying22 HI.out H0.out H1.out H2.out rfl (by decide) _ (n5 + 2 + 1) _ rfl (.inl HO7.out) _ m d (body.map bv) rfl (by simp [HML.out]) HBF.out.lies ?_ (oneCell_bv _) ?c2 ?c3 ?c4; intro A' c' w' hG))
  case c2 => unfold maxLen; omega
  case c3 => omega
  case c4 => exact HSZ.out
  have hG1 := hG.own (.inr HO7.out)
  rw [← List.map_append] at hG1
  have HR := Lib.hid (rdB_of_own hG1)
  have hb5 := hG.below.mono (B' := w.heap.size) (by omega)
  have HB5 := Lib.hid (HB4.out.trans hb5)
  clear hG hG1 hb5
  go_wp2
  go_ret
  refine ⟨_, rfl, ⟨_, _, _, rfl, ?_⟩, HB5.out⟩
  have := HR.out
  simp only [List.append_assoc] at this ⊢
  unfold msgL headL
  rw [HML.out]
  simpa only [List.append_assoc] using this

def mputL (l : List UInt8) (t : Int) (body : List UInt8) : List UInt8 := if saneB t body.length = true then l ++ msgL t body else l
theorem mput_any (A : Option Addr) (n c : Nat) (l : List UInt8) (t : Int) (B : Option Addr) (m d : Nat) (body : List UInt8) (w : World) (h : RdB w A n c l) (hB : RdB w B m d body) (hn : n ≤ 100000000) (hm : m ≤ 100000000) :
    Calls Try.prog 24 #[.slice A n c, .agg #[.int .i64 t, .slice B m d]] w (Ret (IsB (mputL l t body)) w) := by
  have hml := hB.len
  cases hs : saneB t m
  · refine (mput_no A n c t B m d w (by omega) hs).mono ?_
    rintro e w' ⟨rfl, hb⟩
    refine ⟨_, rfl, ?_, hb⟩
    unfold mputL
    rw [hml, hs, if_neg (by decide)]
    exact ⟨_, _, _, rfl, h.below hb⟩
  · have := mput_yes A n c l t B m d body w h hB hn hm hs
    unfold mputL
    rwa [hml, hs, if_pos rfl]
end Go.Proofs.Ytpoikmbogcggkaa
