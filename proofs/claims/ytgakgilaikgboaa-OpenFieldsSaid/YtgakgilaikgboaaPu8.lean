/- Opening: OpenFields. -/
import Derived.Test.YtgakgilaikgboaaPu7
import Derived.KernelRfl
namespace Go.Proofs.Ytgakgilaikgboaa
open Go.RowKit
set_option linter.unusedVariables false
set_option linter.unusedSimpArgs false
set_option maxRecDepth 100000
set_option maxHeartbeats 1000000

theorem law06_awake : m_ridgewaylaw06_awake = some true := by kernel_rfl
theorem ixn {α R : Type} {C : List α} {i : Int} {k : Option R} (h0 : 0 ≤ i) (h : i < C.length) : bd (ix C i) (fun _ => k) = k := by
  rw [ix_some h0 (List.getElem?_eq_getElem (by omega)), bd_some]
theorem an_some {α : Type} {b : Nat} {ys : List α} (h1 : 0 < ys.length) (h : ys.length * b ≤ 140737488355328) (h2 : ys.length ≤ 140737488355328) : an b ys = some ys := by
  rw [an_eq, if_pos ⟨h1, h, by unfold maxLen; omega⟩]
theorem bit_hold (v : UInt8) : toB (IntKind.u8.wrap ((1 : Int) + (IntKind.u8.wrap ((BitVec.ofInt IntKind.u8.bits (v.toNat : Int) &&& BitVec.ofInt IntKind.u8.bits (1 : Int)).toNat : Int)))) = 1 ∨ toB (IntKind.u8.wrap ((1 : Int) + (IntKind.u8.wrap ((BitVec.ofInt IntKind.u8.bits (v.toNat : Int) &&& BitVec.ofInt IntKind.u8.bits (1 : Int)).toNat : Int)))) = 2 := by
  revert v
  suffices h : ∀ n : Fin 256, toB (IntKind.u8.wrap ((1 : Int) + (IntKind.u8.wrap ((BitVec.ofInt IntKind.u8.bits ((n.val : Nat) : Int) &&& BitVec.ofInt IntKind.u8.bits (1 : Int)).toNat : Int)))) = 1 ∨ toB (IntKind.u8.wrap ((1 : Int) + (IntKind.u8.wrap ((BitVec.ofInt IntKind.u8.bits ((n.val : Nat) : Int) &&& BitVec.ofInt IntKind.u8.bits (1 : Int)).toNat : Int)))) = 2 from fun v => h ⟨v.toNat, v.toNat_lt⟩
  decide +kernel
theorem openBody_ten (h : Hello) : openBody h = ten 4 (octAt (shortOf h.As) 1) (octAt (shortOf h.As) 0) (octAt h.Hold 1) (octAt h.Hold 0) (octAt h.Id 3) (octAt h.Id 2) (octAt h.Id 1) (octAt h.Id 0) (octAt ((capsOf h).length : Int) 0) (capsOf h) := rfl

theorem openFields_true (h : Hello) (v : UInt8) : m_ridgewaylaw06_OpenFields h v = some true := by
  unfold m_ridgewaylaw06_OpenFields
  rw [law06_awake, bd_some]
  by_cases g : openOk h
  · have hl : (capsOf h).length ≤ 13 := by
      rw [capsOf_length]
      split <;> decide
    have hn : (((octAt ((capsOf h).length : Int) 0).toNat : Nat) : Int) = (capsOf h).length := octAt0 _ (by omega)
    rw [openPut_eq h g, bd_some, openSane_eq, bd_some, decide_eq_true g, Bool.not_true, cond_false]
    rw [openBody_ten]
    generalize hB : ten 4 (octAt (shortOf h.As) 1) (octAt (shortOf h.As) 0) (octAt h.Hold 1) (octAt h.Hold 0) (octAt h.Id 3) (octAt h.Id 2) (octAt h.Id 1) (octAt h.Id 0) (octAt ((capsOf h).length : Int) 0) (capsOf h) = B
    have hBl : B.length = (capsOf h).length + 10 := by rw [← hB]; rfl
    dsimp only
    rw [decide_eq_false (by omega), cond_false, decide_eq_false (by omega)]
    simp -implicitDefEqProofs only [cond_false]
    rw [an_some (by omega) (by omega) (by omega), bd_some, bd_some, bd_some]
    rw [ixn (by decide) (by omega), up_eq, bd_some, ixn (by decide) (by omega), up_eq, bd_some, ixn (by decide) (by simp; omega), up_eq, bd_some]
    rw [ixn (by decide) (by omega), up_eq, bd_some, ixn (by decide) (by simp; omega), up_eq, bd_some, ixn (by decide) (by simp; omega), up_eq, bd_some, ixn (by decide) (by simp; omega), up_eq, bd_some]
    rw [fz_eq, bd_some, fz_eq, bd_some, fz_eq, bd_some]
    have hr := read_eq h.As h.Role (by have := g.1; omega) (by have := g.2.2.2; omega)
    have hs := octAt2 (shortOf h.As) (shortOf_lt _ (by have := g.1; omega))
    have hid := octAt2 h.Hold (by have := g.2.2.1; omega)
    generalize hT : toB (IntKind.u8.wrap ((1 : Int) + (IntKind.u8.wrap ((BitVec.ofInt IntKind.u8.bits (v.toNat : Int) &&& BitVec.ofInt IntKind.u8.bits (1 : Int)).toNat : Int)))) = T
    have hT2 : T = 1 ∨ T = 2 := hT ▸ bit_hold v
    have e2 : m_open_Get ⟨1, (B.set (3 : Int).toNat 0).set (4 : Int).toNat T⟩ h.As = some (⟨0, 0, 0, 0⟩, ⟨2, 6, []⟩) := by
      rw [← hB]
      refine openGet_read _ _ 0 T _ _ _ _ _ _ h.As (by omega) hn ⟨h.As, h.Role⟩ hr _ ?_ (by decide)
      rw [hs]
      refine fault_hold ⟨h.As, h.Role⟩ g.1.1 _ _ ?_
      rcases hT2 with rfl | rfl <;> decide
    have e3 : m_open_Get ⟨1, (((B.set (5 : Int).toNat 0).set (6 : Int).toNat 0).set (7 : Int).toNat 0).set (8 : Int).toNat 0⟩ h.As = some (⟨0, 0, 0, 0⟩, ⟨2, 3, []⟩) := by
      rw [← hB]
      refine openGet_read _ _ _ _ 0 0 0 0 _ _ h.As (by omega) hn ⟨h.As, h.Role⟩ hr _ ?_ (by decide)
      rw [hs, hid]
      exact fault_id ⟨h.As, h.Role⟩ g.1.1 _ g.2.2.1
    have e1 : ∃ r, m_open_Get ⟨1, B.set (0 : Int).toNat v⟩ h.As = some r ∧ ((v.toNat : Int) = 4 ∨ r = (⟨0, 0, 0, 0⟩, ⟨2, 1, [0, 4]⟩)) := by
      rw [← hB]
      by_cases hv : (v.toNat : Int) = 4
      · obtain rfl : v = 4 := UInt8.toNat_inj.1 (by show v.toNat = 4; omega)
        refine ⟨_, openGet_ok _ _ _ _ _ _ _ _ _ _ h.As (by omega) hn ⟨h.As, h.Role⟩ hr ⟨0, 0, []⟩ ?_ rfl, Or.inl hv⟩
        rw [hs, hid]
        refine fault_no ⟨h.As, h.Role⟩ g.1.1 _ _ g.2.2.1 ?_
        rw [← putL4, num4 h.Id (by have := g.2.1; omega)]
        have := g.2.1
        omega
      · exact ⟨_, openGet_v _ _ _ _ _ _ _ _ _ _ _ h.As (by omega) hv, Or.inr rfl⟩
    obtain ⟨r, e1, hr1⟩ := e1
    rw [e1, bd_some, e2, bd_some, e3, bd_some]
    rw [cond_true]
    refine bif_dec (fun g4 => rfl) (fun g4 => ?_)
    rcases hr1 with hr1 | rfl
    · exact absurd hr1 g4
    · rfl
  · rw [openPut_no h g, bd_some, openSane_eq, bd_some, decide_eq_false g]
    rw [Bool.not_false, cond_true, cond_true, bd_some]
    rfl
end Go.Proofs.Ytgakgilaikgboaa
