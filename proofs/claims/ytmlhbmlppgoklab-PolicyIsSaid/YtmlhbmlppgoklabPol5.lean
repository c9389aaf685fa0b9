/- Slices of rules; the walk of policy.Pick. -/
import Derived.Test.YtmlhbmlppgoklabPol4
namespace Go.Proofs.Ytmlhbmlppgoklab
open Go.RowKit
set_option maxHeartbeats 1000000
set_option linter.unusedVariables false
set_option linter.unusedSimpArgs false

def rulesV (l : List Rul) : List Value := l.flatMap ruleV
theorem rulesV_length (l : List Rul) : (rulesV l).length = l.length * 6 := by
  induction l with
  | nil => rfl
  | cons r l ih => simp [rulesV, ruleV] at ih ⊢; omega
theorem rulesV_at : ∀ (l : List Rul) (j : Nat) (hj : j < l.length) (i : Nat) (hi : i < 6), (rulesV l)[j * 6 + i]? = (ruleV l[j])[i]?
  | r :: l, 0, _, i, hi => by
    show (ruleV r ++ rulesV l)[0 * 6 + i]? = _
    rw [Nat.zero_mul, Nat.zero_add, List.getElem?_append_left (by simpa [ruleV] using hi)]
    rfl
  | r :: l, j + 1, hj, i, hi => by
    show (ruleV r ++ rulesV l)[(j + 1) * 6 + i]? = _
    rw [List.getElem?_append_right (by simp [ruleV]; omega)]
    have := rulesV_at l j (by simpa using hj) i hi
    rw [show (j + 1) * 6 + i - (ruleV r).length = j * 6 + i by simp [ruleV]; omega, this]
    rfl
/-- A slice of rules. -/
structure RdR (w : World) (A : Option Addr) (n c : Nat) (l : List Rul) : Prop where
  len : l.length = n
  le : n ≤ c
  max : c ≤ maxLen
  lies : Lies w A (rulesV l)
theorem RdR.below {w w' : World} {n c : Nat} {A : Option Addr} {l : List Rul} (h : RdR w A n c l) (hb : Below w.heap.size w w') : RdR w' A n c l := ⟨h.len, h.le, h.max, h.lies.below hb⟩
theorem RdR.at_ {w : World} {n c : Nat} {A : Option Addr} {l : List Rul} (h : RdR w A n c l) {j : Nat} (hj : j < l.length) : ∃ b o, A = some ⟨b, o, none⟩ ∧ b < w.heap.size ∧
    w.cell? ⟨b, o + j * 6, none⟩ = some (.int .i64 l[j].1) ∧ w.cell? ⟨b, o + j * 6 + 1, none⟩ = some (.int .i64 l[j].2.1) ∧ w.cell? ⟨b, o + j * 6 + 2, none⟩ = some (.int .i64 l[j].2.2.1) ∧
    w.cell? ⟨b, o + j * 6 + 3, none⟩ = some (.int .i64 l[j].2.2.2.1) ∧ w.cell? ⟨b, o + j * 6 + 4, none⟩ = some (.int .i64 l[j].2.2.2.2.1) ∧ w.cell? ⟨b, o + j * 6 + 5, none⟩ = some (.int .i64 l[j].2.2.2.2.2) := by
  have hl := rulesV_length l
  rcases h.lies with h1 | ⟨b, o, hA, hc⟩
  · rw [h1] at hl
    simp at hl
    omega
  · have key : ∀ i, ∀ hi : i < 6, w.cell? ⟨b, o + (j * 6 + i), none⟩ = (ruleV l[j])[i]? := fun i hi => by
      have h2 : j * 6 + i < (rulesV l).length := by omega
      rw [hc _ h2, ← List.getElem?_eq_getElem h2, rulesV_at l j hj i hi]
    have k0 := key 0 (by omega)
    refine ⟨b, o, hA, World.block_lt_of_cell? _ _ k0, k0, ?_, ?_, ?_, ?_, ?_⟩
    · exact key 1 (by omega)
    · exact key 2 (by omega)
    · exact key 3 (by omega)
    · exact key 4 (by omega)
    · exact key 5 (by omega)

theorem fitsx (r : Rul) (va vn vc : Int) (us : List Int) (A : Option Addr) (n c : Nat) (w : World) (h : RdI w A n c us) : Calls Try.prog 11 #[.agg #[.int .i64 r.1, .int .i64 r.2.1, .int .i64 r.2.2.1, .int .i64 r.2.2.2.1, .int .i64 r.2.2.2.2.1, .int .i64 r.2.2.2.2.2], .agg #[.int .i64 va, .int .i64 vn, .slice A n c, .int .i64 vc]] w (Ret (Just (.bool (fitsB r ⟨va, vn, us, vc⟩))) w) :=
  fitsm_any r ⟨va, vn, us, vc⟩ A n c w h
def ruleA (r : Rul) : Array Value := #[.int .i64 r.1, .int .i64 r.2.1, .int .i64 r.2.2.1, .int .i64 r.2.2.2.1, .int .i64 r.2.2.2.2.1, .int .i64 r.2.2.2.2.2]
def pickV (p : Rul × Bool) : Value := .tuple #[.agg (ruleA p.1), .bool p.2]

theorem pick_any (B : Option Addr) (m d : Nat) (l : List Rul) (v : Vw) (A : Option Addr) (n c : Nat) (w : World) (hl : RdR w B m d l) (h : RdI w A n c v.as) :
    Calls Try.prog 15 #[.slice B m d, .agg #[.int .i64 v.a, .int .i64 v.n, .slice A n c, .int .i64 v.cl]] w (Ret (Just (pickV (pickL l v))) w) := by
  have hlen := hl.len
  have hmx := hl.max
  have hle := hl.le
  unfold maxLen at hmx
  have HL := Lib.hid hl
  have HR := Lib.hid h
  obtain ⟨va, vn, us, vc⟩ := v
  clear hl h
  go_enter Try.func15, Try.ntmps15
  go_wp2_with fail
  have hb := balloc (bnew w (.cells #[.int .i64 va, .int .i64 vn, .slice A n c, .int .i64 vc] 27)) (.cells #[.int .i64 0, .int .i64 0, .int .i64 0, .int .i64 0, .int .i64 0, .int .i64 0] 31)
  have R1 := Lib.hid (heap_alloc2_old w (.cells #[.int .i64 va, .int .i64 vn, .slice A n c, .int .i64 vc] 27) (.cells #[.int .i64 0, .int .i64 0, .int .i64 0, .int .i64 0, .int .i64 0, .int .i64 0] 31))
  have R2 := Lib.hid (heap_alloc2_new w (.cells #[.int .i64 va, .int .i64 vn, .slice A n c, .int .i64 vc] 27) (.cells #[.int .i64 0, .int .i64 0, .int .i64 0, .int .i64 0, .int .i64 0, .int .i64 0] 31))
  generalize ((w.alloc (.cells #[.int .i64 va, .int .i64 vn, .slice A n c, .int .i64 vc] 27)).alloc (.cells #[.int .i64 0, .int .i64 0, .int .i64 0, .int .i64 0, .int .i64 0, .int .i64 0] 31)) = W0 at *
  have HB := Lib.hid hb
  clear hb
  go_loopw [10] (fun i wr => ∃ j : Nat, j ≤ m ∧ i = .int .i64 j ∧ (∀ k, ∀ h : k < l.length, k < j → fitsB l[k] ⟨va, vn, us, vc⟩ = false) ∧ Below W0.heap.size W0 wr) (fun i _ => m - (intOf i).toNat)
  case atStart => exact ⟨0, by omega, rfl, fun k _ hk => absurd hk (by omega), Below.refl _ _⟩
  case round =>
    obtain ⟨j, hj, rfl, hno, hbr⟩ := hrel
    have HN := Lib.hid hno
    have HBR := Lib.hid hbr
    clear hno hbr
    by_cases hlt : j < m
    · have hjl : j < l.length := by omega
      obtain ⟨b, o, rfl, hbl, c0, c1, c2, c3, c4, c5⟩ := (HL.out.below (bstep HB.out HBR.out)).at_ hjl
      obtain ⟨r, hr⟩ : ∃ r, l[j] = r := ⟨_, rfl⟩
      rw [hr] at c0 c1 c2 c3 c4 c5
      have HRR := Lib.hid hr
      clear hr
      have hlt' : (j : Int) < m := by omega
      obtain ⟨p0, p1, p2, p3⟩ := row4 (row_to HBR.out R1.out)
      have z1 := row_lt (row_to HBR.out R1.out)
      obtain ⟨F, hF⟩ : ∃ F, fitsB r ⟨va, vn, us, vc⟩ = F := ⟨_, rfl⟩
      have HF := Lib.hid hF
      clear hF
      go_wp2_with fail
      have hf := fitsx r va vn vc us A n c _ (HR.out.below (balloc (bstep HB.out HBR.out) (.cells #[.int .i64 r.1, .int .i64 r.2.1, .int .i64 r.2.2.1, .int .i64 r.2.2.2.1, .int .i64 r.2.2.2.2.1, .int .i64 r.2.2.2.2.2] 31)))
      rw [HF.out] at hf
      with_reducible refine hf.mono ?_
      clear hf
      rintro e w2 ⟨_, rfl, rfl, hb2⟩
      have R7 := Lib.hid ((hb2.block wr.heap.size (by simp)).trans (heap_alloc_new wr _))
      have HB2 := Lib.hid (show Below W0.heap.size W0 w2 from bstep (balloc HBR.out _) hb2)
      have R2' := Lib.hid (row_to HB2.out R2.out)
      clear hb2 p0 p1 p2 p3 z1 c0 c1 c2 c3 c4 c5
      obtain ⟨q0, q1, q2, q3, q4, q5⟩ := row6 R7.out
      cases F
      · go_wp2
        go_roundw
        case rel => exact ⟨j + 1, by omega, by go_num, fun k hk hkj => by
          by_cases e : k = j
          · subst e
            rw [HRR.out]
            exact HF.out
          · exact HN.out k hk (by omega), HB2.out⟩
        case measure => simp [intOf]; omega
      · go_wp2_with (refine wpList_store_row rfl 31 _ _ rfl (w.heap.size + 1) #[.int .i64 r.1, .int .i64 r.2.1, .int .i64 r.2.2.1, .int .i64 r.2.2.2.1, .int .i64 r.2.2.2.2.1, .int .i64 r.2.2.2.2.2] rfl rfl 31 #[.int .i64 0, .int .i64 0, .int .i64 0, .int .i64 0, .int .i64 0, .int .i64 0] R2'.out ruleSize rfl (by simp [Value.oneCell']) ?_)
        have hrow := setRow_heap w2 (w.heap.size + 1) _ #[.int .i64 r.1, .int .i64 r.2.1, .int .i64 r.2.2.1, .int .i64 r.2.2.2.1, .int .i64 r.2.2.2.2.1, .int .i64 r.2.2.2.2.2] _ _ R2'.out
        refine bodyPost_ret (results_ct rfl _ _ (w.heap.size + 1) _ _ _ _ _ rfl rfl hrow Try.underlying31 rfl ruleSize) rfl ⟨_, rfl, ?_, below_setRow (bstep HB.out HB2.out) (by omega) _⟩
        have hpk := pickL_hit (v := ⟨va, vn, us, vc⟩) hjl (fun k hk => HN.out k (by omega) hk) (by rw [HRR.out]; exact HF.out)
        rw [hpk, HRR.out]
        rfl
    · obtain rfl : j = m := by omega
      have R2' := Lib.hid (row_to HBR.out R2.out)
      go_wp2_with (refine wpList_store_row rfl 31 _ _ rfl (w.heap.size + 1) #[.int .i64 0, .int .i64 0, .int .i64 0, .int .i64 0, .int .i64 0, .int .i64 0] rfl rfl 31 #[.int .i64 0, .int .i64 0, .int .i64 0, .int .i64 0, .int .i64 0, .int .i64 0] R2'.out ruleSize rfl (by simp [Value.oneCell']) ?_)
      have hrow := setRow_heap wr (w.heap.size + 1) _ #[.int .i64 0, .int .i64 0, .int .i64 0, .int .i64 0, .int .i64 0, .int .i64 0] _ _ R2'.out
      refine bodyPost_ret (results_ct rfl _ _ (w.heap.size + 1) _ _ _ _ _ rfl rfl hrow Try.underlying31 rfl ruleSize) rfl ⟨_, rfl, ?_, below_setRow (bstep HB.out HBR.out) (by omega) _⟩
      rw [pickL_none (v := ⟨va, vn, us, vc⟩) (fun k hk => HN.out k hk (by omega))]
      rfl
end Go.Proofs.Ytmlhbmlppgoklab
