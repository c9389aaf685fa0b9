/- Rules and views, as plain data: what fits, what is picked, what can be come to. -/
import Derived.Test.YtmlhbmlppgoklabWords
namespace Go.Proofs.Ytmlhbmlppgoklab
open Go.RowKit
set_option linter.unusedVariables false
set_option linter.unusedSimpArgs false

/-- A rule: what it is for, its prefix, its number, what is done, and the number of that. -/
abbrev Rul := Int × Int × Int × Int × Int × Int
def ruleV (r : Rul) : List Value := [.int .i64 r.1, .int .i64 r.2.1, .int .i64 r.2.2.1, .int .i64 r.2.2.2.1, .int .i64 r.2.2.2.2.1, .int .i64 r.2.2.2.2.2]
def rule0 : Rul := (0, 0, 0, 0, 0, 0)
/-- The first bits of an address. -/
def maskZ (a n : Int) : Int := a % 4294967296 / 2 ^ (32 - min (max n 0) 32).toNat * 2 ^ (32 - min (max n 0) 32).toNat
def pfxB (a n : Int) : Bool := decide (0 ≤ n) && (decide (n ≤ 32) && (maskZ a n == a))
def hasB (a n b m : Int) : Bool := pfxB a n && (pfxB b m && (decide (n ≤ m) && (maskZ b n == a)))
/-- A view: its prefix, its ASes, its class. -/
structure Vw where
  a : Int
  n : Int
  as : List Int
  cl : Int
def fitsB (r : Rul) (v : Vw) : Bool :=
  if r.1 = 0 then true else if r.1 = 1 then hasB r.2.1 r.2.2.1 v.a v.n else if r.1 = 2 then v.as.contains r.2.2.2.1 else if r.1 = 3 then decide (r.2.2.2.1 < v.as.length) else if r.1 = 4 then v.cl == r.2.2.2.1 else false
def totalB (r : Rul) (cl : Int) : Bool := r.1 == 0 || r.1 == 4 && r.2.2.2.1 == cl
def pickL (l : List Rul) (v : Vw) : Rul × Bool := match l.find? (fitsB · v) with | some r => (r, true) | none => (rule0, false)
def reachL (cl : Int) : List Rul → List Rul
  | [] => []
  | r :: t => if (r.1 == 4 && r.2.2.2.1 != cl) = true then reachL cl t else if totalB r cl = true then [r] else r :: reachL cl t

theorem pickL_hit {l : List Rul} {v : Vw} {j : Nat} (hj : j < l.length) (hno : ∀ k, ∀ h : k < j, fitsB (l[k]'(by omega)) v = false) (hf : fitsB l[j] v = true) : pickL l v = (l[j], true) := by
  have : l.find? (fitsB · v) = some l[j] := by
    rw [List.find?_eq_some_iff_getElem]
    exact ⟨hf, j, hj, rfl, fun k hk => by rw [hno k hk]; rfl⟩
  unfold pickL
  rw [this]
theorem pickL_none {l : List Rul} {v : Vw} (hno : ∀ k, ∀ h : k < l.length, fitsB l[k] v = false) : pickL l v = (rule0, false) := by
  have : l.find? (fitsB · v) = none := by
    rw [List.find?_eq_none]
    intro x hx
    obtain ⟨k, hk, rfl⟩ := List.getElem_of_mem hx
    rw [hno k hk]
    decide
  unfold pickL
  rw [this]
theorem totalB_fits {r : Rul} {v : Vw} (h : totalB r v.cl = true) : fitsB r v = true := by
  unfold totalB at h
  unfold fitsB
  rw [Bool.or_eq_true, Bool.and_eq_true] at h
  rcases h with h | ⟨h, h2⟩
  · rw [if_pos (eq_of_beq h)]
  · have e := eq_of_beq h
    rw [if_neg (by omega), if_neg (by omega), if_neg (by omega), if_neg (by omega), if_pos e, eq_of_beq h2]
    simp
theorem skip_fits {r : Rul} {v : Vw} (h : (r.1 == 4 && r.2.2.2.1 != v.cl) = true) : fitsB r v = false := by
  rw [Bool.and_eq_true] at h
  have e := eq_of_beq h.1
  unfold fitsB
  rw [if_neg (by omega), if_neg (by omega), if_neg (by omega), if_neg (by omega), if_pos e]
  have h2 : r.2.2.2.1 ≠ v.cl := by simpa using h.2
  exact beq_eq_false_iff_ne.2 (Ne.symm h2)
theorem reachL_sub (cl : Int) : ∀ l : List Rul, (reachL cl l).Sublist l
  | [] => List.Sublist.refl _
  | r :: t => by
    unfold reachL
    split
    · exact (reachL_sub cl t).cons r
    · split
      · exact (List.nil_sublist t).cons_cons r
      · exact (reachL_sub cl t).cons_cons r
theorem find_cons_yes {l : List Rul} {v : Vw} {r : Rul} (h : fitsB r v = true) : pickL (r :: l) v = (r, true) := by simp [pickL, h]
theorem find_cons_no {l : List Rul} {v : Vw} {r : Rul} (h : fitsB r v = false) : pickL (r :: l) v = pickL l v := by simp [pickL, h]
theorem pick_reach (v : Vw) : ∀ l : List Rul, pickL (reachL v.cl l) v = pickL l v
  | [] => rfl
  | r :: t => by
    unfold reachL
    split
    · rename_i h
      rw [find_cons_no (skip_fits h), pick_reach v t]
    · split
      · rename_i h
        rw [find_cons_yes (totalB_fits h), find_cons_yes (totalB_fits h)]
      · cases hf : fitsB r v
        · rw [find_cons_no hf, find_cons_no hf, pick_reach v t]
        · rw [find_cons_yes hf, find_cons_yes hf]
theorem pick_total (v : Vw) (l : List Rul) (r : Rul) (more : List Rul) (h : totalB r v.cl = true) : pickL (l ++ [r] ++ more) v = pickL (l ++ [r]) v ∧ (pickL (l ++ [r]) v).2 = true := by
  induction l with
  | nil =>
    simp only [List.nil_append, List.singleton_append]
    rw [find_cons_yes (totalB_fits h), find_cons_yes (totalB_fits h)]
    exact ⟨rfl, rfl⟩
  | cons x l ih =>
    simp only [List.cons_append]
    cases hf : fitsB x v
    · rw [find_cons_no hf, find_cons_no hf]
      simpa using ih
    · rw [find_cons_yes hf, find_cons_yes hf]
      exact ⟨rfl, rfl⟩
theorem reach_total (cl : Int) (l : List Rul) (r : Rul) (more : List Rul) (h : totalB r cl = true) : reachL cl (l ++ [r] ++ more) = reachL cl (l ++ [r]) := by
  have hs : (r.1 == 4 && r.2.2.2.1 != cl) = false := by
    unfold totalB at h
    rw [Bool.or_eq_true, Bool.and_eq_true] at h
    rcases h with h | ⟨h, h2⟩
    · have e := eq_of_beq h
      rw [show (r.1 == 4) = false from beq_eq_false_iff_ne.2 (by omega)]
      rfl
    · rw [show (r.2.2.2.1 != cl) = false by simpa using eq_of_beq h2]
      simp
  induction l with
  | nil => simp [reachL, hs, h]
  | cons x l ih =>
    simp only [List.cons_append, reachL]
    rw [show l ++ [r] ++ more = l ++ [r] ++ more from rfl, ih]
end Go.Proofs.Ytmlhbmlppgoklab
