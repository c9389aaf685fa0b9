/- Rise: what the models come to. -/
import Derived.Test.YtpclfdndjillnaaPl0
import Derived.Test.YtpclfdndjillnaaMrs
namespace Go.Proofs.Ytpclfdndjillnaa
open Go.RowKit
set_option linter.unusedVariables false
set_option linter.unusedSimpArgs false
set_option maxRecDepth 100000
set_option maxHeartbeats 1000000

def findN {α : Type} (p : α → Bool) : Nat → List α → Int
  | _, [] => -1
  | i, x :: xs => bif p x then (i : Int) else findN p (i + 1) xs
theorem walk_find {α R : Type} (p : α → Bool) (K : Int → R) : ∀ (l : List α) (i : Nat), walk (fun i x r => bif p x then K (i : Int) else r) (K (-1)) i l = K (findN p i l)
  | [], _ => rfl
  | x :: xs, i => by
    rw [walk, findN, walk_find p K xs]
    cases p x <;> rfl
theorem findN_any {α : Type} (p : α → Bool) : ∀ (l : List α) (i : Nat), decide (findN p i l ≥ 0) = l.any p
  | [], _ => rfl
  | x :: xs, i => by
    rw [findN, List.any_cons]
    cases p x with
    | true => rw [cond_true, Bool.true_or, decide_eq_true (by omega)]
    | false => rw [cond_false, Bool.false_or, findN_any p xs]
theorem findN_lt {α : Type} (p : α → Bool) : ∀ (l : List α) (i : Nat), findN p i l < (i + l.length : Nat) ∧ -1 ≤ findN p i l
  | [], i => by simp only [findN, List.length_nil]; omega
  | x :: xs, i => by
    have := findN_lt p xs (i + 1)
    rw [findN]
    simp only [List.length_cons]
    cases p x <;> simp only [cond_true, cond_false] <;> omega
def sideOf (c : Conf) (n : Int) : Int := findN (fun s : Side => decide (s.As = n)) 0 c.Sides
theorem riseSide_eq (c : Conf) (n : Int) (hl : c.Sides.length ≤ 140737488355328) : m_rise_Side c n = some (if (0 : Int) > sideOf c n then 0 else sideOf c n, decide (sideOf c n ≥ 0)) := by
  unfold m_rise_Side
  rw [jn_eq, loop_idx c.Sides (fun i x r => bif decide (x.As = n) then (fun i1 : Int => some ((if (0 : Int) > i1 then (0 : Int) else i1), decide (i1 ≥ (0 : Int)))) (i : Int) else r) _ hl ?_ ?_]
  rotate_left
  · exact some ((if (0 : Int) > -1 then (0 : Int) else -1), decide ((-1 : Int) ≥ (0 : Int)))
  · intro i h nx
    rw [s_rise_Side1, decide_eq_true (by omega), cond_true, ix_nat h, bd_some]
  · intro nx
    rw [s_rise_Side1, decide_eq_false (by omega), cond_false]
  · exact walk_find (fun s : Side => decide (s.As = n)) (fun i1 : Int => some ((if (0 : Int) > i1 then (0 : Int) else i1), decide (i1 ≥ (0 : Int)))) c.Sides 0

/-- Does a rule end the walk for a class? -/
def totalR (x : Rule) (c : Int) : Bool := decide (x.Match = 0) || (decide (x.Match = 4) && decide (x.V = c))
def reach (c : Int) : List Rule → List Rule
  | [] => []
  | x :: xs => if x.Match = 4 ∧ ¬ x.V = c then reach c xs else if totalR x c = true then [x] else x :: reach c xs
theorem polTotal_eq (x : Rule) (c : Int) : m_policy_Total x c = some (totalR x c) := by
  unfold m_policy_Total totalR
  by_cases h : x.Match = 0
  · rw [decide_eq_true h]; rfl
  · rw [decide_eq_false h, cond_false]
    by_cases h : x.Match = 4
    · rw [decide_eq_true h]; rfl
    · rw [decide_eq_false h]; rfl
theorem walkA_reach {R : Type} (c : Int) (e : List Rule → R) : ∀ (l : List Rule) (i : Nat) (b : List Rule),
    walkA (fun _ x nx b => if x.Match = 4 ∧ ¬ x.V = c then nx b else if totalR x c = true then e (b ++ [x]) else nx (b ++ [x])) e i l b = e (b ++ reach c l)
  | [], _, b => by rw [walkA, reach, List.append_nil]
  | x :: xs, i, b => by
    rw [walkA, reach]
    split
    · exact walkA_reach c e xs _ _
    · split
      · rfl
      · rw [walkA_reach c e xs, List.append_assoc]
        rfl
theorem polReach_eq (l : List Rule) (c : Int) (hl : l.length ≤ 1000000) : m_policy_Reach l c = some (reach c l) := by
  unfold m_policy_Reach
  rw [loop_acc l (fun _ x nx b => if x.Match = 4 ∧ ¬ x.V = c then nx b else if totalR x c = true then some (b ++ [x]) else nx (b ++ [x])) (fun b => some b) [] (fun i b => b.length ≤ i) (Nat.le_refl 0) (by omega) ?_ ?_]
  · exact walkA_reach c (fun b => some b) l 0 []
  · intro i h b nx nx' hb hnx go hgo
    rw [s_policy_Reach1]
    dsimp only
    rw [decide_eq_true (by omega), cond_true, ix_nat h, bd_some]
    have hap : ap 48 b [l[i]] = some (b ++ [l[i]]) := ap_some (by simp; omega) (by simp; omega)
    have e1 := hnx b (by omega)
    have e2 := hnx (b ++ [l[i]]) (by simp; omega)
    rw [hap, bd_some, polTotal_eq, bd_some, hgo, hgo, e1, e2]
    by_cases h4 : l[i].Match = 4
    · rw [decide_eq_true h4, cond_true]
      by_cases hv : l[i].V = c
      · rw [decide_eq_false (by omega), cond_false, if_neg (by omega)]
        cases totalR l[i] c <;> rfl
      · rw [decide_eq_true hv, cond_true, if_pos ⟨h4, hv⟩]
    · rw [decide_eq_false h4, cond_false, if_neg (by omega)]
      cases totalR l[i] c <;> rfl
  · intro b nx hb
    rw [s_policy_Reach1]
    dsimp only
    rw [decide_eq_false (by omega), cond_false]
theorem reach_le (c : Int) : ∀ l : List Rule, (reach c l).length ≤ l.length
  | [] => Nat.le_refl _
  | x :: xs => by
    have := reach_le c xs
    rw [reach]
    split
    · simp; omega
    · split
      · simp
      · simp; omega
/-- The preferences that rules may give. -/
def prefL (l : List Rule) : List Int := (l.filter fun x => decide (x.Act = 2)).map (·.N)
theorem walkA_prefs {R : Type} (e : List Int → R) : ∀ (l : List Rule) (i : Nat) (b : List Int),
    walkA (fun _ (x : Rule) nx b => bif decide (x.Act = 2) then nx (b ++ [x.N]) else nx b) e i l b = e (b ++ prefL l)
  | [], _, b => by rw [walkA, prefL]; simp
  | x :: xs, i, b => by
    rw [walkA, prefL, List.filter_cons]
    by_cases h : x.Act = 2
    · rw [decide_eq_true h, cond_true, if_pos rfl, walkA_prefs e xs, List.append_assoc]
      rfl
    · rw [decide_eq_false h, cond_false, if_neg (by decide), walkA_prefs e xs]
      rfl
theorem risePrefs_eq (s : Side) (c : Int) (hl : s.In.length ≤ 1000000) : m_rise_prefs s c = some (prefL (reach c s.In)) := by
  unfold m_rise_prefs
  have hr := reach_le c s.In
  rw [polReach_eq _ _ hl, bd_some]
  rw [loop_acc (reach c s.In) (fun _ (x : Rule) nx b => bif decide (x.Act = 2) then nx (b ++ [x.N]) else nx b) (fun b => some b) [] (fun i b => b.length ≤ i) (Nat.le_refl 0) (by omega) ?_ ?_]
  · exact walkA_prefs (fun b => some b) _ 0 []
  · intro i h b nx nx' hb hnx go hgo
    rw [s_rise_prefs1]
    dsimp only
    rw [decide_eq_true (by omega), cond_true, ix_nat h, bd_some]
    have hap : ap 8 b [(reach c s.In)[i].N] = some (b ++ [(reach c s.In)[i].N]) := ap_some (by simp; omega) (by simp; omega)
    rw [hap, bd_some, hgo, hgo, hnx b (by omega), hnx (b ++ [(reach c s.In)[i].N]) (by simp; omega)]
  · intro b nx hb
    rw [s_rise_prefs1]
    dsimp only
    rw [decide_eq_false (by omega), cond_false]
end Go.Proofs.Ytpclfdndjillnaa
