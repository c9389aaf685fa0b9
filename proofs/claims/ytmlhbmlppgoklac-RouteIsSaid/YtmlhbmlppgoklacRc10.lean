/- From a law's arguments to plain values. -/
import Derived.Test.YtmlhbmlppgoklacRc9
import Derived.Test.YtmlhbmlppgoklacRou5
namespace Go.Proofs.Ytmlhbmlppgoklac
open Go.RowKit
set_option maxHeartbeats 1000000
set_option maxRecDepth 100000
set_option linter.unusedSimpArgs false
set_option linter.unusedVariables false

theorem act_bool {P : Program} {f : FuncId} {q : List AV} {b : Bool} (h : ACt P f q (.bool b) []) {w : World} {args : Array Value} (ha : Reps (M0 w.cell?) args.toList q) : Calls P f args w fun e w' => e = .returned (.bool b) ∧ Below w.heap.size w w' :=
  (h.2 w w.cell? args (fun _ _ h => h) ha).mono fun e w' ⟨v, M', he, hm, _, hr⟩ => ⟨by
    have hr : Rep (M0 M'.κ) v (.bool b) := by
      unfold RepR at hr
      simp only at hr
      unfold RepR1 at hr
      exact hr
    cases hr
    exact he, hm.bel⟩
theorem flat_one1 {α : Type} (f : α → Value) (h : ∀ x, (f x).cells = #[f x]) : ∀ l : List α, flat (l.map f) = l.map f
  | [] => rfl
  | x :: l => by
    show (f x).cells.toList ++ flat (l.map f) = _
    rw [h x, flat_one1 f h l]
    rfl
theorem rep_ints {w : World} {A : Option Addr} {n c : Nat} {zs : List Int} (h : RdI w A n c zs) : Rep (M0 w.cell?) (.slice A n c) (.slice .imm 1 (zs.map iA)) := by
  refine .slice .imm A n c 1 (zs.map fun x => .int .i64 x) _ (by simp) (by simp [h.len]) h.le h.max ?_ ?_ ?_ trivial
  · intro v hv
    obtain ⟨x, _, rfl⟩ := List.mem_map.1 hv
    exact ⟨rfl, fun u hu => by
      have : u = .int .i64 x := by simpa [Value.cells] using hu
      subst this
      rfl⟩
  · rw [flat_one1 _ (fun _ => rfl)]
    exact h.lies
  · intro i h1 h2
    simp only [List.getElem_map]
    exact .int .i64 _
theorem rep_route {w : World} (x : Rv) (h : RdI w x.A x.n x.c x.r.as) : Rep (M0 w.cell?) (.agg (rvV x).toArray) (rtA x.r) := by
  refine .agg (rvV x) (rtC x.r) rfl ?_ ?_
  · intro v hv
    simp [rvV] at hv
    rcases hv with rfl | rfl | rfl | rfl | rfl | rfl <;> rfl
  · intro i h1 h2
    match i, h1, h2 with
    | 0, _, _ => exact .int _ _
    | 1, _, _ => exact .int _ _
    | 2, _, _ => exact rep_ints h
    | 3, _, _ => exact .int _ _
    | 4, _, _ => exact .int _ _
    | 5, _, _ => exact .int _ _
    | i + 6, h1, _ => exact absurd h1 (by simp [rvV])
theorem flat_routes : ∀ l : List Rv, flat (l.map fun x => .agg (rvV x).toArray) = rvsV l
  | [] => rfl
  | x :: l => by
    show (Value.cells (.agg (rvV x).toArray)).toList ++ flat (l.map _) = _
    rw [flat_routes l]
    rfl
theorem rep_routes {w : World} {A : Option Addr} {n c : Nat} {l : List Rv} (h : RdT w A n c l) : Rep (M0 w.cell?) (.slice A n c) (.slice .imm 6 ((l.map Rv.r).map rtA)) := by
  refine .slice .imm A n c 6 (l.map fun x => .agg (rvV x).toArray) _ (by simp) (by simp [h.len]) h.le h.max ?_ ?_ ?_ trivial
  · intro v hv
    obtain ⟨x, _, rfl⟩ := List.mem_map.1 hv
    exact ⟨rfl, fun u hu => by
      simp [Value.cells, rvV] at hu
      rcases hu with rfl | rfl | rfl | rfl | rfl | rfl <;> rfl⟩
  · rw [flat_routes]
    exact h.lies
  · intro i h1 h2
    simp only [List.getElem_map]
    exact rep_route _ (h.each _ (List.getElem_mem (by simpa using h1)))
theorem routeIs_any (w : World) (A : Option Addr) (n c : Nat) (l : List Rv) (hl : RdT w A n c l) (x : Rv) (hx : RdI w x.A x.n x.c x.r.as) (hop : Int) :
    Calls Try.prog 3 #[.slice A n c, .agg #[.int .i64 x.r.pref, .int .i64 x.r.origin, .slice x.A x.n x.c, .int .i64 x.r.hop, .int .i64 x.r.otc, .int .i64 x.r.frm], .int .i64 hop] w fun e w' => e = .returned (.bool true) ∧ Below w.heap.size w w' :=
  act_bool (routeIs_ac (l.map Rv.r) x.r hop (by
    have := hl.len; have := hl.le; have h := hl.max; unfold maxLen at h; simp; omega)) (reps_cons (rep_routes hl) (reps_cons (rep_route x hx) (reps_cons (.int _ _) reps_nil)))
end Go.Proofs.Ytmlhbmlppgoklac
