/- The law RoleChain. -/
import Derived.Test.YtmlhbmlppgoklaaDoorRole4
namespace Go.Proofs.YtmlhbmlppgoklaaDoor
open Go.RowKit
set_option maxHeartbeats 400000
set_option linter.unusedVariables false
set_option linter.unusedSimpArgs false

/-- The slice (A, n, c) of ints holds the numbers zs. -/
structure RdI (w : World) (A : Option Addr) (n c : Nat) (zs : List Int) : Prop where
  len : zs.length = n
  le : n ≤ c
  max : c ≤ maxLen
  lies : Lies w A (zs.map (Value.int .i64))
theorem RdI.below {w w' : World} {n c : Nat} {A : Option Addr} {l : List Int} (h : RdI w A n c l) (hb : Below w.heap.size w w') : RdI w' A n c l := ⟨h.len, h.le, h.max, h.lies.below hb⟩
theorem RdI.at_ {w : World} {n c : Nat} {A : Option Addr} {l : List Int} (h : RdI w A n c l) {k : Nat} (hk : k < n) : ∃ b o, A = some ⟨b, o, none⟩ ∧ ∀ j, ∀ hj : j < l.length, w.cell? ⟨b, o + j, none⟩ = some (.int .i64 l[j]) := by
  rcases h.lies with e | ⟨b, o, hA, hc⟩
  · have : l.length = 0 := by simpa using congrArg List.length e
    have := h.len; omega
  · exact ⟨b, o, hA, fun j hj => by have := hc j (by simpa using hj); simpa using this⟩

theorem out_1 (own m : Int) (ho : own ≠ 0) (f : Int) (h : f = if m = 0 then own else m) : outZ 1 own m = (f, true) := by
  subst h
  unfold outZ
  by_cases hm : m = 0
  · subst hm; simp
  · have e1 : (m != 0) = true := by simpa using hm
    simp [e1, hm]
theorem in_3 (own n : Int) (hn : n ≠ 0) : inZ 3 own n = (n, true) := by
  unfold inZ
  have e1 : (n == 0) = false := by simpa using hn
  simp [e1]

theorem chain_some (w : World) (ht : Tab w) (otc : Int) (A : Option Addr) (n c : Nat) (l : List Int) (h : RdI w A n c l) (h100 : n ≤ 100) : Calls Tryd.prog 7 #[.int .i64 otc, .slice A n c] w fun e w' => e = .returned (.bool true) ∧ Below w.heap.size w w' := by
  have h1 : ¬ (100 : Int) < n := by omega
  have HL := Lib.hid h.len
  go_enter Tryd.func7, Tryd.ntmps7
  go_wp2_with fail
  with_reducible refine (rawake_any _ ht).mono ?_
  rintro e w1 ⟨rfl, hb1⟩
  have hr := h.below hb1
  clear ht
  go_wp2_with fail
  go_loop [6, 7, 8] (fun m f i => ∃ (j : Nat) (x : Int), j ≤ n ∧ i = .int .i64 j ∧ m = .int .i64 x ∧ f = .int .i64 x) (fun _ _ i => n - (intOf i).toNat)
  case atStart => exact ⟨0, otc, Nat.zero_le _, rfl, rfl, rfl⟩
  case round =>
    obtain ⟨j, x, hj, rfl, rfl, rfl⟩ := hrel
    by_cases hlt : j < n
    · have hlt' : (j : Int) < n := by omega
      obtain ⟨b, o, rfl, hc⟩ := hr.at_ hlt
      have hjl : j < l.length := by rw [HL.out]; exact hlt
      have hc1 := hc j hjl
      generalize l[j] = y at *
      clear hc hr h
      cases hy : (y == 0)
      · have hy' : y ≠ 0 := by simpa using hy
        cases hx : (x == 0)
        · have hx' : x ≠ 0 := by simpa using hx
          have HO := Lib.hid (out_1 y x hy' x (by rw [if_neg hx']))
          have HI := Lib.hid (in_3 y x hx')
          clear hy' hx'
          go_wp2_with fail
          with_reducible refine (out_any _ _ _ _).mono ?_
          rw [HO.out]
          rintro e w2 ⟨rfl, rfl⟩
          go_wp2_with fail
          with_reducible refine (in_any _ _ _ _).mono ?_
          rw [HI.out]
          rintro e w2 ⟨rfl, rfl⟩
          go_wp2
          go_round
          case rel => exact ⟨j + 1, x, by omega, by go_num, rfl, rfl⟩
          case measure => simp [intOf]; omega
        · have hx' : x = 0 := by simpa using hx
          subst hx'
          have HO := Lib.hid (out_1 y 0 hy' y (by rw [if_pos rfl]))
          have HI := Lib.hid (in_3 y y hy')
          clear hy'
          go_wp2_with fail
          with_reducible refine (out_any _ _ _ _).mono ?_
          rw [HO.out]
          rintro e w2 ⟨rfl, rfl⟩
          go_wp2_with fail
          with_reducible refine (in_any _ _ _ _).mono ?_
          rw [HI.out]
          rintro e w2 ⟨rfl, rfl⟩
          go_wp2
          go_round
          case rel => exact ⟨j + 1, y, by omega, by go_num, rfl, rfl⟩
          case measure => simp [intOf]; omega
      · go_wp2
        go_ret
        exact ⟨rfl, hb1⟩
    · have hge : (n : Int) ≤ j := by omega
      go_wp2
      go_ret
      exact ⟨rfl, hb1⟩

theorem roleChain_law (w : World) (ht : Tab w) (otc : Int) (A : Option Addr) (n c : Nat) (l : List Int) (h : RdI w A n c l) : Calls Tryd.prog 7 #[.int .i64 otc, .slice A n c] w fun e w' => e = .returned (.bool true) ∧ Below w.heap.size w w' := by
  by_cases h100 : n ≤ 100
  · exact chain_some w ht otc A n c l h h100
  · have h1 : (100 : Int) < n := by omega
    go_enter Tryd.func7, Tryd.ntmps7
    go_wp2_with fail
    with_reducible refine (rawake_any _ ht).mono ?_
    rintro e w1 ⟨rfl, hb1⟩
    go_wp2
    go_ret
    exact ⟨rfl, hb1⟩

theorem rdI_nil (w : World) : ∃ l, RdI w none 0 0 l := ⟨[], rfl, Nat.le_refl _, Nat.zero_le _, .inl rfl⟩
theorem rdI_of_ints {w : World} {x : Addr} {len cap : Nat} {zs : List Int} (hl : len ≤ cap) (hm : cap ≤ maxLen) (hz : zs.length = cap) (hcell : ∀ i, i < zs.length → w.cell? (x.add i) = some (.int .i64 (zs.getD i 0))) : ∃ l, RdI w (some x) len cap l := by
  refine ⟨zs.take len, by simp; omega, hl, hm, ?_⟩
  by_cases h0 : len = 0
  · left; subst h0; simp
  · right
    obtain ⟨b, o, sp⟩ := x
    have h1 := hcell 0 (by omega)
    have hsp : sp = none := by simpa [Addr.add] using World.cell?_spot h1
    subst hsp
    refine ⟨b, o, rfl, fun j hj => ?_⟩
    have hj' : j < zs.length := by simp at hj; omega
    have := hcell j hj'
    rw [Addr.add_lit] at this
    rw [this]
    simp [List.getD_eq_getElem?_getD, List.getElem?_eq_getElem hj']
end Go.Proofs.YtmlhbmlppgoklaaDoor
