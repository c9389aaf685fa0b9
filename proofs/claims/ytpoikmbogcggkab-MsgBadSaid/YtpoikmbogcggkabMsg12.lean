/- The law MsgBad. -/
import Derived.Test.YtpoikmbogcggkabMsg11
import Derived.Lib.SmallJoins
import Derived.Deep.Cut
namespace Go.Proofs.Ytpoikmbogcggkab
open Go.RowKit
set_option maxHeartbeats 400000
set_option maxRecDepth 100000
set_option linter.unusedVariables false
set_option linter.unusedSimpArgs false

/-- A row of m bytes, appended to an empty row that was just made: a new row of the call's own, in a block that is new. -/
theorem wpList_append_new (w : World) {ops : Array Oper} {rest : List Oper} {o : Oper} {a : Act} {Q : Exit → Act → World → Prop} (hgd : o.guard = none) (s x : Operand)
    (ho : o.op = .call { callee := .builtin .append, args := #[s, x], argTypes := #[22, 22] }) (g : Nat) (hs : a.eval s = .slice (some ⟨g, 0, none⟩) 0 0)
    (A : Option Addr) (m c : Nat) (l : List UInt8) (hx : a.eval x = .slice A m c) (hr : RdB w A m c l) (h0 : 0 < m) (h1 : m ≤ 140737488355328)
    (hK : ∀ g' c' w', w'.ownsRow w.heap.size 5 1 (.slice (some ⟨g', 0, none⟩) m c') m (l.map bv) → w.heap.size ≤ g' → g' < w'.heap.size → m ≤ c' → Below w.heap.size w w' → wpList Try.prog ops Q rest (a.put o.dst (.slice (some ⟨g', 0, none⟩) m c')) w') :
    wpList Try.prog ops Q (o :: rest) a w := by
  obtain ⟨i0, hi, hz0, hz1, hz2⟩ := info_row infoB
  refine wpList_append_gr w hgd s x 22 ho w.heap.size 5 i0 (.int .u8 0) 1 1 Try.underlying22 hi hz0 hz1 hz2 rfl (by decide) _ 0 [] hs (.inr ⟨rfl, Nat.zero_le _, _, rfl, .inl rfl⟩) A m c (l.map bv) hx (by simp [hr.len]) hr.lies (fun A' c' w' hG => ?_) (oneCell_bv _) (by unfold maxLen; omega) (by omega) (Nat.le_refl _)
  have hG1 := hG.own (.inl h0)
  have hG2 := hG.below
  simp only [Nat.zero_add, List.nil_append] at hG1 hG2 ⊢
  obtain ⟨g', cap, hv⟩ := Go.Joins.ownsRow_form hG1 h0
  injection hv with e1 e2 e3
  subst e1 e3
  obtain ⟨k1, k2⟩ := hG1.lt g' rfl
  exact hK g' _ w' hG1 k1 k2 (rdB_of_own hG1).le hG2

theorem own_cell {w : World} {base g n c : Nat} {e : TypeId} {xs : List Value} (h : w.ownsRow base e 1 (.slice (some ⟨g, 0, none⟩) n c) n xs) {j : Nat} (hj : j < n) : ∃ v, w.cell? ⟨g, j, none⟩ = some v ∧ w.frozen? ⟨g, j, none⟩ = false := by
  have hl := h.1
  have hjx : j < xs.length := by omega
  exact ⟨xs[j], (h.cellAt j (by omega)).trans (List.getElem?_eq_getElem hjx), h.frozenAt j⟩
theorem own_set_other {w : World} {base e size n : Nat} {v : Value} {xs : List Value} (h : w.ownsRow base e size v n xs) (a : Addr) (u : Value) (hne : v.ownBlock ≠ some a.block) : (w.setCell a u).ownsRow base e size v n xs :=
  ⟨h.1, h.2.imp id fun ⟨g, cap, cur, hv, h1, hg, rest⟩ => ⟨g, cap, cur, hv, h1, (Below.heap_setCell w a u g (fun e => hne (by rw [hv, ← e]; rfl))).trans hg, rest⟩⟩

theorem bv_ofInt {x : Int} (h0 : 0 ≤ x) (h1 : x ≤ 255) : bv (UInt8.ofNat x.toNat) = .int .u8 x := by
  unfold bv
  rw [UInt8.toNat_ofNat']
  congr 1
  omega
/-- The three ways in which a head is spoilt. -/
theorem spoilt_mark {M : List UInt8} {ii : Nat} {x : UInt8} (hl : 19 ≤ M.length) (hi : ii < 16) (hx : x ≠ 255) : getM (M.set ii x) = ⟨0, [], 0, 1, 1, []⟩ := by
  unfold getM
  have hP : ¬ (M.set ii x).take 16 = List.replicate 16 255 := by
    intro e
    have h1 := congrArg (fun l => l[ii]?) e
    simp only [List.getElem?_take, if_pos hi, List.getElem?_replicate] at h1
    rw [List.getElem?_set_self (by omega)] at h1
    injection h1 with h1
    exact hx h1
  rw [if_neg (by rw [List.length_set]; omega), decide_eq_false hP]
  have hf : faultN false (szN (M.set ii x)) (kdN (M.set ii x)) = (1, 1, []) := by unfold faultN; rw [if_pos rfl]
  rw [hf, if_pos (.inl (show (0 : Int) < 1 by decide))]
theorem spoilt_size {t : Int} {la : List UInt8} {y z : UInt8} {q : Nat} (hq : y.toNat * 256 + z.toNat = q) (hb : q < 19 ∨ 4096 < q) : ∃ d, getM (((msgL t la).set 16 y).set 17 z) = ⟨0, [], 0, 1, 2, d⟩ := by
  have e : ((msgL t la).set 16 y).set 17 z = List.replicate 16 255 ++ (y :: z :: octAt t 0 :: la) := by rw [msgL_form]; rfl
  rw [e]
  unfold getM
  rw [head_szN, head_kdN, head_take, decide_eq_true rfl, hq, if_neg (by simp)]
  have hf : faultN true (q : Int) (octAt t 0).toNat = (1, 2, putL q 2) := by
    unfold faultN
    rw [if_neg (by decide), if_neg (by omega)]
  rw [hf, if_pos (.inl (show (0 : Int) < 1 by decide))]
  exact ⟨_, rfl⟩
theorem spoilt_kind {t : Int} {la : List UInt8} {z : UInt8} (h : OkS t (19 + la.length)) (hz : 5 ≤ z.toNat) : ∃ d, getM ((msgL t la).set 18 z) = ⟨0, [], 0, 1, 3, d⟩ := by
  have e : (msgL t la).set 18 z = List.replicate 16 255 ++ (octAt ((19 + la.length : Nat) : Int) 1 :: octAt ((19 + la.length : Nat) : Int) 0 :: z :: la) := by rw [msgL_form]; rfl
  have h2 := h.2.2
  have e1 := octAt_two ((19 + la.length : Nat) : Int) (by omega) (by omega)
  have e3 : (octAt ((19 + la.length : Nat) : Int) 1).toNat * 256 + (octAt ((19 + la.length : Nat) : Int) 0).toNat = 19 + la.length := by omega
  rw [e]
  unfold getM
  rw [head_szN, head_kdN, head_take, decide_eq_true rfl, e3, if_neg (by simp)]
  have hk : leastZ z.toNat = 0 := by
    unfold leastZ
    rw [if_neg (by simp; omega), if_neg (by simp; omega), if_neg (by simp; omega), if_neg (by simp; omega)]
  have hf : faultN true ((19 + la.length : Nat) : Int) z.toNat = (1, 3, putL z.toNat 1) := by
    unfold faultN
    rw [if_neg (by decide), if_pos (by omega), if_pos (by rw [hk]; decide)]
  rw [hf, if_pos (.inl (show (0 : Int) < 1 by decide))]
  exact ⟨_, rfl⟩
theorem or4_ge (v : Nat) (h : v ≤ 255) : 4 ≤ v ||| 4 := by
  have : ∀ v : _root_.Fin 256, 4 ≤ (v : Nat) ||| 4 := by decide +kernel
  exact this ⟨v, by omega⟩

theorem mbad_main (w0 : World) (t : Int) (A : Option Addr) (n c : Nat) (la : List UInt8) (h : RdB w0 A n c la) (i : Int) (cc : Int) (hcc : 0 ≤ cc ∧ cc ≤ 255) (nn : Int) (hn : n ≤ 5000) (hsa : saneB t n = true) :
    Calls Try.prog 5 #[.agg #[.int .i64 t, .slice A n c], .int .i64 i, .int .u8 cc, .int .i64 nn] w0 fun e w' => e = .returned (.bool true) ∧ Below w0.heap.size w0 w' := by
  have h1 : ¬ (5000 : Int) < n := by omega
  have hi4 := and_mask i 4 (by omega)
  rw [show (2 : Int) ^ 4 - 1 = 15 by decide, show (2 : Int) ^ 4 = 16 by decide] at hi4
  obtain ⟨ii, hii⟩ : ∃ ii : Nat, i % 16 = ii := ⟨(i % 16).toNat, by omega⟩
  rw [hii] at hi4
  have hil : ii < 16 := by omega
  have hs16 := and_mask nn 16 (by omega)
  rw [show (2 : Int) ^ 16 - 1 = 65535 by decide, show (2 : Int) ^ 16 = 65536 by decide] at hs16
  obtain ⟨q, hq⟩ : ∃ q : Nat, nn % 65536 = q := ⟨(nn % 65536).toNat, by omega⟩
  rw [hq] at hs16
  have HQL := Lib.hid (show q < 65536 by omega)
  have hv8 := and_mask (nn / 65536) 8 (by omega)
  rw [show (2 : Int) ^ 8 - 1 = 255 by decide, show (2 : Int) ^ 8 = 256 by decide] at hv8
  obtain ⟨v, hv⟩ : ∃ v : Nat, nn / 65536 % 256 = v := ⟨(nn / 65536 % 256).toNat, by omega⟩
  rw [hv] at hv8
  have hvl : v ≤ 255 := by omega
  have hor : bits .or .u8 (v : Int) 4 = ((v ||| 4 : Nat) : Int) := u8_or_nat v 4 (by omega) (by omega)
  obtain ⟨zz, hzz⟩ : ∃ zz : Nat, v ||| 4 = zz := ⟨_, rfl⟩
  rw [hzz] at hor
  have HZZ := Lib.hid hzz
  have HSA := Lib.hid hsa
  have HA := Lib.hid h
  clear hsa h hq hii hv hzz
  go_enter Try.func5, Try.ntmps5
  go_wp2_with fail
  with_reducible refine (awake_any _).mono ?_
  rintro e w1 ⟨rfl, hb1⟩
  have HG1 := Lib.hid (row_to hb1 (heap_alloc_new w0 (.cells #[.int .i64 t, .slice A n c] 24)))
  obtain ⟨q0, q1⟩ := row2 HG1.out
  have z1 := row_lt HG1.out
  have HB1 := Lib.hid (bstep (bnew w0 _) hb1)
  clear hb1
  go_wp2_with fail
  with_reducible refine (sane_any _ _ _ _ _ (by omega)).mono ?_
  rw [HSA.out]
  rintro e w2 ⟨rfl, hb2⟩
  have HG2 := Lib.hid (row_to hb2 HG1.out)
  obtain ⟨p0, p1⟩ := row2 HG2.out
  have z2 := row_lt HG2.out
  have HB2 := Lib.hid (bstep HB1.out hb2)
  clear hb2 q0 q1 z1
  go_wp2_with fail
  have hput := mput_yes none 0 0 [] t A n c la (w2.alloc (.cells #[] 5)) (RdB.nil _) (HA.out.below (bstep HB2.out (bnew _ _))) (by omega) (by omega) HSA.out
  with_reducible refine hput.mono ?_
  clear hput
  rintro e w3 ⟨_, rfl, ⟨A3, n3, c3, rfl, hr3⟩, hb3⟩
  have HR3 := Lib.hid (show RdB w3 A3 n3 c3 (msgL t la) from hr3)
  have HN3 := Lib.hid (show n3 = 19 + n by have := HR3.out.len; rw [msgL_length, HA.out.len] at this; omega)
  have HNB := Lib.hid (show 0 < n3 ∧ n3 ≤ 6000 by have := HN3.out; omega)
  have HB3 := Lib.hid (bstep HB2.out (bstep (bnew _ _) hb3))
  have hn3 : (19 : Int) ≤ n3 := by have := HN3.out; omega
  clear hr3 hb3 p0 p1 z2
  go_upto_region 5 with (
    at_builtin
    refine wpList_append_new _ rfl _ _ rfl _ rfl A3 n3 c3 (msgL t la) rfl HR3.out HNB.out.1 (by have := HNB.out; omega) ?_
    intro gx cx wx hox hgx hgx2 hcx hbx
    have HOX := Lib.hid hox
    have HGX := Lib.hid hgx
    have HGX2 := Lib.hid hgx2
    have HCX := Lib.hid hcx
    have HBX := Lib.hid hbx
    clear hox hgx hgx2 hcx hbx)
  have hrx := (rdB_of_own HOX.out).below (bnew wx (.cells #[] 5))
  have HRX := Lib.hid hrx
  clear hrx
  go_upto_region 6 with (
    at_builtin
    refine wpList_append_new _ rfl _ _ rfl _ rfl (some ⟨gx, 0, none⟩) n3 cx (msgL t la) rfl HRX.out HNB.out.1 (by have := HNB.out; omega) ?_
    intro gy cy wy hoy hgy hgy2 hcy hby
    have HOY := Lib.hid hoy
    have HGY := Lib.hid hgy
    have HGY2 := Lib.hid hgy2
    have HCY := Lib.hid hcy
    have HBY := Lib.hid hby
    clear hoy hgy hgy2 hcy hby)
  have HBXY := Lib.hid (bstep (bnew wx (.cells #[] 5)) HBY.out)
  have hrx := (HRX.out.below HBY.out).below (bnew wy (.cells #[] 5))
  have HRX2 := Lib.hid hrx
  clear hrx
  go_upto_region 7 with (
    at_builtin
    refine wpList_append_new _ rfl _ _ rfl _ rfl (some ⟨gx, 0, none⟩) n3 cx (msgL t la) rfl HRX2.out HNB.out.1 (by have := HNB.out; omega) ?_
    intro gz cz wz hoz hgz hgz2 hcz hbz
    have HOZ := Lib.hid hoz
    have HGZ := Lib.hid hgz
    have HGZ2 := Lib.hid hgz2
    have HCZ := Lib.hid hcz
    have HBZ := Lib.hid hbz
    clear hoz hgz hgz2 hcz hbz)
  have HBYZ := Lib.hid (bstep (bnew wy (.cells #[] 5)) HBZ.out)
  have HB4 := Lib.hid (bstep HB3.out (bstep HBX.out (bstep HBXY.out HBYZ.out)))
  have HXZ := Lib.hid (own_below (own_below HOX.out HBXY.out) HBYZ.out)
  have HYZ := Lib.hid (own_below HOY.out HBYZ.out)
  have o1 : gx < gy := by
    have h1 := HGX2.out
    have h2 := HGY.out
    simp at h2
    omega
  have o2 : gy < gz := by
    have h1 := HGY2.out
    have h2 := HGZ.out
    simp at h2
    omega
  obtain ⟨vx, cx1, cx2⟩ := own_cell HXZ.out (j := ii) (by have := HN3.out; omega)
  obtain ⟨vy, cy1, cy2⟩ := own_cell HYZ.out (j := 16) (by have := HN3.out; omega)
  obtain ⟨vy', cy3, cy4⟩ := own_cell HYZ.out (j := 17) (by have := HN3.out; omega)
  obtain ⟨vz, cz1, cz2⟩ := own_cell HOZ.out (j := 18) (by have := HN3.out; omega)
  have hne1 : gx ≠ gy := by omega
  have hne2 : gx ≠ gz := by omega
  have hne3 : gy ≠ gz := by omega
  have hzx : gx < wz.heap.size := by have := HGZ2.out; omega
  have hzy : gy < wz.heap.size := by have := HGZ2.out; omega
  have hzz : gz < wz.heap.size := HGZ2.out
  have hi1 : (ii : Int) < n3 := by omega
  have hi2 : (16 : Int) < n3 := by omega
  have hi3 : (17 : Int) < n3 := by omega
  have hi5 : (18 : Int) < n3 := by omega
  have hq1 : (q : Int) ≤ 65535 := by have := HQL.out; omega
  have hq0 : (0 : Int) ≤ q := by omega
  have hvl1 : (v : Int) ≤ 255 := by omega
  have hvl0 : (0 : Int) ≤ v := by omega
  go_upto_region 14 with fail
  obtain ⟨cB, hcB⟩ : ∃ cB : UInt8, bv cB = .int .u8 cc := ⟨UInt8.ofNat cc.toNat, bv_ofInt hcc.1 hcc.2⟩
  obtain ⟨yB, hyB⟩ : ∃ yB : UInt8, bv yB = .int .u8 ((q : Int) / 256) := ⟨UInt8.ofNat ((q : Int) / 256).toNat, bv_ofInt (by omega) (by omega)⟩
  obtain ⟨y2B, hy2B⟩ : ∃ y2B : UInt8, bv y2B = .int .u8 ((q : Int) % 256) := ⟨UInt8.ofNat ((q : Int) % 256).toNat, bv_ofInt (by omega) (by omega)⟩
  have hzl : zz < 256 := by rw [← HZZ.out]; exact Nat.or_lt_two_pow (n := 8) (by omega) (by omega)
  obtain ⟨zB, hzB⟩ : ∃ zB : UInt8, bv zB = .int .u8 (zz : Int) := ⟨UInt8.ofNat (zz : Int).toNat, bv_ofInt (by omega) (by omega)⟩
  have kx : Value.ownBlock (.slice (some ⟨gx, 0, none⟩) n3 cx) = some gx := rfl
  have ky : Value.ownBlock (.slice (some ⟨gy, 0, none⟩) n3 cy) = some gy := rfl
  have kz : Value.ownBlock (.slice (some ⟨gz, 0, none⟩) n3 cz) = some gz := rfl
  have hX := own_set_other (own_set_other (own_set_other (HXZ.out.stored ii (.int .u8 cc)).1 ⟨gy, 16, none⟩ (.int .u8 ((q : Int) / 256)) (by rw [kx]; simp; omega)) ⟨gy, 17, none⟩ (.int .u8 ((q : Int) % 256)) (by rw [kx]; simp; omega)) ⟨gz, 18, none⟩ (.int .u8 (zz : Int)) (by rw [kx]; simp; omega)
  have hY := own_set_other (((own_set_other HYZ.out ⟨gx, ii, none⟩ (.int .u8 cc) (by rw [ky]; simp; omega)).stored 16 (.int .u8 ((q : Int) / 256))).1.stored 17 (.int .u8 ((q : Int) % 256))).1 ⟨gz, 18, none⟩ (.int .u8 (zz : Int)) (by rw [ky]; simp; omega)
  have hZ := ((own_set_other (own_set_other (own_set_other HOZ.out ⟨gx, ii, none⟩ (.int .u8 cc) (by rw [kz]; simp; omega)) ⟨gy, 16, none⟩ (.int .u8 ((q : Int) / 256)) (by rw [kz]; simp; omega)) ⟨gy, 17, none⟩ (.int .u8 ((q : Int) % 256)) (by rw [kz]; simp; omega)).stored 18 (.int .u8 (zz : Int))).1
  have hB := (((HB4.out.setCell (p := ⟨gx, ii, none⟩) (by have := HGX.out; have := HB3.out.size; show w0.heap.size ≤ gx; omega) (.int .u8 cc)).setCell (p := ⟨gy, 16, none⟩) (by have := HGX.out; have := HB3.out.size; show w0.heap.size ≤ gy; omega) (.int .u8 ((q : Int) / 256))).setCell (p := ⟨gy, 17, none⟩) (by have := HGX.out; have := HB3.out.size; show w0.heap.size ≤ gy; omega) (.int .u8 ((q : Int) % 256))).setCell (p := ⟨gz, 18, none⟩) (by have := HGX.out; have := HB3.out.size; show w0.heap.size ≤ gz; omega) (.int .u8 (zz : Int))
  generalize (((wz.setCell ⟨gx, ii, none⟩ (.int .u8 cc)).setCell ⟨gy, 16, none⟩ (.int .u8 ((q : Int) / 256))).setCell ⟨gy, 17, none⟩ (.int .u8 ((q : Int) % 256))).setCell ⟨gz, 18, none⟩ (.int .u8 (zz : Int)) = W4 at hX hY hZ hB ⊢
  rw [← hcB, ← List.map_set] at hX
  rw [← hyB, ← hy2B, ← List.map_set, ← List.map_set] at hY
  rw [← hzB, ← List.map_set] at hZ
  have HX := Lib.hid (rdB_of_own hX)
  have HY := Lib.hid (rdB_of_own hY)
  have HZ := Lib.hid (rdB_of_own hZ)
  have HB := Lib.hid hB
  clear hX hY hZ hB cx1 cx2 cy1 cy2 cy3 cy4 cz1 cz2 hne1 hne2 hne3 hzx hzy hzz hi1 hi2 hi3 o1 o2 kx ky kz
  have hZ4 : 4 ≤ zz := by rw [← HZZ.out]; exact or4_ge v hvl
  have FX : cc = 255 ∨ ((cc == 255) = false ∧ getM ((msgL t la).set ii cB) = ⟨0, [], 0, 1, 1, []⟩) := by
    by_cases hc : cc = 255
    · exact .inl hc
    · refine .inr ⟨beq_false_of_ne hc, spoilt_mark (by rw [msgL_length]; omega) hil (fun e => hc ?_)⟩
      rw [e] at hcB
      injection hcB with _ hcB
      exact hcB.symm
  have FY : (decide (19 ≤ (q : Int)) = true ∧ decide ((q : Int) ≤ 4096) = true) ∨ (decide (19 ≤ (q : Int)) = false ∧ ∃ d, getM (((msgL t la).set 16 yB).set 17 y2B) = ⟨0, [], 0, 1, 2, d⟩) ∨ (decide (19 ≤ (q : Int)) = true ∧ decide ((q : Int) ≤ 4096) = false ∧ ∃ d, getM (((msgL t la).set 16 yB).set 17 y2B) = ⟨0, [], 0, 1, 2, d⟩) := by
    by_cases hc : 19 ≤ (q : Int)
    · by_cases hc2 : (q : Int) ≤ 4096
      · exact .inl ⟨decide_eq_true hc, decide_eq_true hc2⟩
      · refine .inr (.inr ⟨decide_eq_true hc, decide_eq_false hc2, spoilt_size (q := q) ?_ (by omega)⟩)
        injection hyB with _ h1
        injection hy2B with _ h2
        omega
    · refine .inr (.inl ⟨decide_eq_false hc, spoilt_size (q := q) ?_ (by omega)⟩)
      injection hyB with _ h1
      injection hy2B with _ h2
      omega
  have FZ : zz = 4 ∨ (((zz : Int) == 4) = false ∧ ∃ d, getM ((msgL t la).set 18 zB) = ⟨0, [], 0, 1, 3, d⟩) := by
    by_cases hc : zz = 4
    · exact .inl hc
    · refine .inr ⟨beq_false_of_ne (by omega), spoilt_kind (okS_of_sane (by rw [HA.out.len]; exact HSA.out)) ?_⟩
      injection hzB with _ h1
      omega
  obtain ⟨gX, hgX⟩ : ∃ g, getM ((msgL t la).set ii cB) = g := ⟨_, rfl⟩
  obtain ⟨gY, hgY⟩ : ∃ g, getM (((msgL t la).set 16 yB).set 17 y2B) = g := ⟨_, rfl⟩
  obtain ⟨gZ, hgZ⟩ : ∃ g, getM ((msgL t la).set 18 zB) = g := ⟨_, rfl⟩
  rw [hgX] at FX
  rw [hgY] at FY
  rw [hgZ] at FZ
  have HFX := Lib.hid FX
  have HFY := Lib.hid FY
  have HFZ := Lib.hid FZ
  have HQX := Lib.hid hgX
  have HQY := Lib.hid hgY
  have HQZ := Lib.hid hgZ
  have HZB := Lib.hid hzB
  have HZ4 := Lib.hid hZ4
  clear FX FY FZ hgX hgY hgZ hcB hyB hy2B hzB hZ4
  have hget := get_any _ _ _ _ _ HX.out
  rw [HQX.out] at hget
  go_wp2_with fail
  with_reducible refine hget.mono ?_
  clear hget
  rintro e w5 ⟨_, rfl, ⟨A5, n5, c5, B5, m5, d5, rfl, _, _⟩, hb5⟩
  have HB5 := Lib.hid (bstep HB.out hb5)
  have HY5 := Lib.hid ((HY.out.below hb5).below (balloc (bnew w5 (.cells #[.int .i64 gX.kind, .slice A5 n5 c5] 24)) (.cells #[.int .i64 gX.code, .int .i64 gX.sub, .slice B5 m5 d5] 29)))
  have HZ5 := Lib.hid ((HZ.out.below hb5).below (balloc (bnew w5 (.cells #[.int .i64 gX.kind, .slice A5 n5 c5] 24)) (.cells #[.int .i64 gX.code, .int .i64 gX.sub, .slice B5 m5 d5] 29)))
  have hget := get_any _ _ _ _ _ HY5.out
  rw [HQY.out] at hget
  clear hb5
  go_wp2_with fail
  with_reducible refine hget.mono ?_
  clear hget
  rintro e w6 ⟨_, rfl, ⟨A6, n6, c6, B6, m6, d6, rfl, _, _⟩, hb6⟩
  have HN1 := Lib.hid (row_to hb6 (heap_alloc2_new w5 (.cells #[.int .i64 gX.kind, .slice A5 n5 c5] 24) (.cells #[.int .i64 gX.code, .int .i64 gX.sub, .slice B5 m5 d5] 29)))
  have HB6 := Lib.hid (bstep (balloc (balloc HB5.out (.cells #[.int .i64 gX.kind, .slice A5 n5 c5] 24)) (.cells #[.int .i64 gX.code, .int .i64 gX.sub, .slice B5 m5 d5] 29)) hb6)
  have HZ6 := Lib.hid ((HZ5.out.below hb6).below (balloc (bnew w6 (.cells #[.int .i64 gY.kind, .slice A6 n6 c6] 24)) (.cells #[.int .i64 gY.code, .int .i64 gY.sub, .slice B6 m6 d6] 29)))
  have hget := get_any _ _ _ _ _ HZ6.out
  rw [HQZ.out] at hget
  clear hb6
  go_wp2_with fail
  with_reducible refine hget.mono ?_
  clear hget
  rintro e w7 ⟨_, rfl, ⟨A7, n7, c7, B7, m7, d7, rfl, _, _⟩, hb7⟩
  have HN2 := Lib.hid (row_to hb7 (heap_alloc2_new w6 (.cells #[.int .i64 gY.kind, .slice A6 n6 c6] 24) (.cells #[.int .i64 gY.code, .int .i64 gY.sub, .slice B6 m6 d6] 29)))
  have HN3' := Lib.hid (row_to (bstep (balloc (bnew w6 (.cells #[.int .i64 gY.kind, .slice A6 n6 c6] 24)) (.cells #[.int .i64 gY.code, .int .i64 gY.sub, .slice B6 m6 d6] 29)) hb7) HN1.out)
  have HB7 := Lib.hid (bstep (balloc (balloc HB6.out (.cells #[.int .i64 gY.kind, .slice A6 n6 c6] 24)) (.cells #[.int .i64 gY.code, .int .i64 gY.sub, .slice B6 m6 d6] 29)) hb7)
  obtain ⟨b7, o7, hA7, hc7⟩ := (HZ6.out.below hb7).at_ (k := 18) (by have := HN3.out; omega)
  injection hA7 with hA7
  injection hA7 with e1 e2
  subst e1 e2
  have c18 := hc7 18 (by rw [List.length_set, msgL_length, HA.out.len]; have := HN3.out; omega)
  rw [List.getElem_set_self] at c18
  rw [show (Value.int .u8 (zB.toNat : Int)) = .int .u8 (zz : Int) from HZB.out, Nat.zero_add] at c18
  have hi5' : (18 : Int) < n3 := hi5
  clear hc7 hb7
  go_upto_region 17 with fail
  have hBE := balloc (balloc HB7.out (.cells #[.int .i64 gZ.kind, .slice A7 n7 c7] 24)) (.cells #[.int .i64 gZ.code, .int .i64 gZ.sub, .slice B7 m7 d7] 29)
  have hR0 := row_to (balloc (bnew w7 (.cells #[.int .i64 gZ.kind, .slice A7 n7 c7] 24)) (.cells #[.int .i64 gZ.code, .int .i64 gZ.sub, .slice B7 m7 d7] 29)) HN3'.out
  have hR2 := row_to (balloc (bnew w7 (.cells #[.int .i64 gZ.kind, .slice A7 n7 c7] 24)) (.cells #[.int .i64 gZ.code, .int .i64 gZ.sub, .slice B7 m7 d7] 29)) HN2.out
  have hR4 := heap_alloc2_new w7 (.cells #[.int .i64 gZ.kind, .slice A7 n7 c7] 24) (.cells #[.int .i64 gZ.code, .int .i64 gZ.sub, .slice B7 m7 d7] 29)
  have c18' := ((balloc (bnew w7 (.cells #[.int .i64 gZ.kind, .slice A7 n7 c7] 24)) (.cells #[.int .i64 gZ.code, .int .i64 gZ.sub, .slice B7 m7 d7] 29)).cell (p := ⟨gz, 18, none⟩) (World.block_lt_of_cell? _ _ c18)).trans c18
  generalize (w7.alloc (.cells #[.int .i64 gZ.kind, .slice A7 n7 c7] 24)).alloc (.cells #[.int .i64 gZ.code, .int .i64 gZ.sub, .slice B7 m7 d7] 29) = W8 at hBE hR0 hR2 hR4 c18' ⊢
  have HBE := Lib.hid hBE
  obtain ⟨r0, r1, _⟩ := row3 hR0
  obtain ⟨r2, r3, _⟩ := row3 hR2
  obtain ⟨r4, r5, _⟩ := row3 hR4
  clear hBE hR0 hR2 hR4 c18 HN2 HN3' HN1
  have hFX := HFX.out
  have hFY := HFY.out
  have hFZ := HFZ.out
  clear hvl hvl0 hvl1 hq0 hq1 HQX HQY HQZ HFX HFY HFZ hs16 hv8 hor hi4 hcc HZZ HZB HX HY HZ HY5 HZ5 HZ6
  rcases hFX with rfl | ⟨kx, rfl⟩ <;> rcases hFZ with rfl | ⟨kz, dz, rfl⟩ <;> rcases hFY with ⟨ky, ky2⟩ | ⟨ky, dy, rfl⟩ | ⟨ky, ky2, dy, rfl⟩
  all_goals
    go_wp2
    go_ret
    exact ⟨rfl, HBE.out⟩

theorem msgBad_law (w0 : World) (t : Int) (A : Option Addr) (n c : Nat) (la : List UInt8) (h : RdB w0 A n c la) (i : Int) (cc : Int) (hcc : 0 ≤ cc ∧ cc ≤ 255) (nn : Int) :
    Calls Try.prog 5 #[.agg #[.int .i64 t, .slice A n c], .int .i64 i, .int .u8 cc, .int .i64 nn] w0 fun e w' => e = .returned (.bool true) ∧ Below w0.heap.size w0 w' := by
  by_cases hn : n ≤ 5000
  · cases hsa : saneB t n
    · have h1 : ¬ (5000 : Int) < n := by omega
      have HSA := Lib.hid hsa
      clear hsa h hcc
      go_enter Try.func5, Try.ntmps5
      go_wp2_with fail
      with_reducible refine (awake_any _).mono ?_
      rintro e w1 ⟨rfl, hb1⟩
      obtain ⟨q0, q1⟩ := row2 (row_to hb1 (heap_alloc_new w0 _))
      have HB1 := Lib.hid (bstep (bnew w0 _) hb1)
      clear hb1
      go_wp2_with fail
      with_reducible refine (sane_any _ _ _ _ _ (by omega)).mono ?_
      rw [HSA.out]
      rintro e w2 ⟨rfl, hb2⟩
      go_wp2
      go_ret
      exact ⟨rfl, bstep HB1.out hb2⟩
    · exact mbad_main w0 t A n c la h i cc hcc nn hn hsa
  · have h1 : (5000 : Int) < n := by omega
    clear hn h hcc
    go_enter Try.func5, Try.ntmps5
    go_wp2_with fail
    with_reducible refine (awake_any _).mono ?_
    rintro e w1 ⟨rfl, hb1⟩
    obtain ⟨q0, q1⟩ := row2 (row_to hb1 (heap_alloc_new w0 _))
    go_wp2
    go_ret
    exact ⟨rfl, bstep (bnew w0 _) hb1⟩
end Go.Proofs.Ytpoikmbogcggkab
