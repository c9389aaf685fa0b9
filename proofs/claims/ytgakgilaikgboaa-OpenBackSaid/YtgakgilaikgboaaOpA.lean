/- Opening: the arguments. -/
import Derived.Test.YtgakgilaikgboaaAwkO
import Derived.Test.YtgakgilaikgboaaOpenA
import Derived.Test.YtgakgilaikgboaaOp3
namespace Go.Proofs.Ytgakgilaikgboaa
open Go.RowKit
set_option maxHeartbeats 8000000
set_option maxRecDepth 100000
set_option linter.unusedSimpArgs false
set_option linter.unusedVariables false

theorem act_bool {P : Program} {f : FuncId} {q : List AV} {b : Bool} (h : ACt P f q (.bool b) []) {w : World} {args : Array Value} (ha : Reps (M0 w.cell?) args.toList q) : Calls P f args w fun e w' => e = .returned (.bool b) ∧ Below w.heap.size w w' :=
  (h.2 w w.cell? args (fun _ _ h => h) ha).mono fun e w' ⟨v, M', he, hm, _, hr⟩ => ⟨by
    have hr : Rep (M0 M'.κ) v (.bool b) := by
      unfold RepR at hr
      simp only at hr
      unfold RepR1 at hr
      exact hr
    cases hr
    exact he, hm.bel⟩
def tyI : Ty := .int .i64
def tyB : Ty := .sl 1 false (.int .u8)
def tyHl : Ty := .st (.cons 1 tyI (.cons 1 tyI (.cons 1 tyI (.cons 1 tyI .nil))))
def tyMsg : Ty := .st (.cons 1 tyI (.cons 1 tyB .nil))
theorem int_of {qs : List AV} (h : Shp tyI qs) : ∃ n : Int, qs = [.int .i64 n] ∧ -9223372036854775808 ≤ n ∧ n ≤ 9223372036854775807 := by
  obtain ⟨n, rfl, hw⟩ := h
  have := bounds_i64 hw
  exact ⟨n, rfl, by omega, by omega⟩
theorem map_of {α : Type} (f : α → AV) : ∀ {xs : List AV}, (∀ x ∈ xs, ∃ y, x = f y) → ∃ l : List α, xs = l.map f
  | [], _ => ⟨[], rfl⟩
  | x :: xs, h => by
    obtain ⟨y, rfl⟩ := h x (by simp)
    obtain ⟨l, rfl⟩ := map_of f (xs := xs) fun z hz => h z (List.mem_cons_of_mem _ hz)
    exact ⟨y :: l, rfl⟩
theorem bytes_of {qs : List AV} (h : Shp tyB qs) : ∃ l : List UInt8, qs = [.slice .imm 1 (l.map bA)] ∧ l.length ≤ maxLen := by
  obtain ⟨xs, rfl, hl, hx⟩ := h
  obtain ⟨l, rfl⟩ := map_of bA (xs := xs) fun x hxm => by
    obtain ⟨n, e, hw⟩ := hx x hxm
    injection e with e
    subst e
    have := bounds_u8 hw
    refine ⟨UInt8.ofNat n.toNat, ?_⟩
    unfold bA
    congr 1
    rw [UInt8.toNat_ofNat']
    omega
  exact ⟨l, rfl, by simpa using hl⟩
theorem hl_of {a : AV} (h : ShA tyHl a) : ∃ x : Hl, a = hlA x := by
  obtain ⟨cs, rfl, h⟩ := h
  obtain ⟨_, _, rfl, _, h0, h⟩ := h
  obtain ⟨a0, rfl, _⟩ := int_of h0
  obtain ⟨_, _, rfl, _, h1, h⟩ := h
  obtain ⟨a1, rfl, _⟩ := int_of h1
  obtain ⟨_, _, rfl, _, h2, h⟩ := h
  obtain ⟨a2, rfl, _⟩ := int_of h2
  obtain ⟨_, _, rfl, _, h3, h⟩ := h
  obtain ⟨a3, rfl, _⟩ := int_of h3
  obtain rfl : _ = [] := h
  exact ⟨⟨a0, a1, a2, a3⟩, rfl⟩
theorem msg_of {a : AV} (h : ShA tyMsg a) : ∃ t l, a = mA t l ∧ l.length ≤ maxLen := by
  obtain ⟨cs, rfl, h⟩ := h
  obtain ⟨_, _, rfl, _, h0, h⟩ := h
  obtain ⟨t, rfl, _⟩ := int_of h0
  obtain ⟨_, _, rfl, _, h1, h⟩ := h
  obtain ⟨l, rfl, hl⟩ := bytes_of h1
  obtain rfl : _ = [] := h
  exact ⟨t, l, rfl, hl⟩
end Go.Proofs.Ytgakgilaikgboaa
