/- Functions of the library, as calls on plain values. -/
import Derived.Test.YtppekacobjdhnaaDoorAv17
namespace Go.Proofs.YtppekacobjdhnaaDoor
open Go.RowKit
set_option linter.unusedVariables false
set_option linter.unusedSimpArgs false
set_option maxHeartbeats 1000000

theorem mr0 {P : Program} {w : World} {κ : Addr → Option Value} (hκ : ∀ a v, κ a = some v → w.cell? a = some v) (hg : KG κ) : MR ⟨P, w.heap.size, κ, w, M0 κ, hg⟩ (M0 κ) (fun _ => none) w :=
  ⟨hκ, fun _ _ => rfl, Below.refl _ _, Nat.le_refl _, (fun l g hg => by cases hg), (fun l l' g hg => by cases hg), (fun s g c hs => by cases hs), (fun s s' g c c' hs => by cases hs), .refl _⟩
/-- A call that makes a plain value, and no memory that is kept. -/
theorem act_plain {P : Program} {f : FuncId} {as : List AV} {r : AV} (hb : hasBody P f = true)
    (h : ∀ (w : World) (κ : Addr → Option Value) (args : Array Value), (∀ a v, κ a = some v → w.cell? a = some v) → Reps (M0 κ) args.toList as → KG κ → Calls P f args w fun e w' => ∃ v, e = .returned v ∧ Below w.heap.size w w' ∧ RepR (M0 κ) v r) : ACt P f as r [] :=
  ⟨hb, fun w κ args hκ ha hg => (h w κ args hκ ha hg).mono fun e w' ⟨v, he, hbl, hr⟩ => ⟨v, M0 κ, he, ⟨fun a v hv => by rw [hbl.cell (World.block_lt_of_cell? _ _ (hκ a v hv))]; exact hκ a v hv, fun _ _ => rfl, hbl, hbl.size, (fun l g hg => by cases hg), (fun l l' g hg => by cases hg), (fun s g c hs => by cases hs), (fun s s' g c c' hs => by cases hs), .refl _⟩, rfl, hr⟩⟩
theorem flat_texts : ∀ xs : List ByteArray, flat (xs.map Value.string) = xs.map Value.string
  | [] => rfl
  | x :: xs => by
    rw [List.map_cons, flat_cons, flat_texts xs]
    rfl
/-- A call that makes a list of texts. -/
theorem act_texts {P : Program} {f : FuncId} {as : List AV} {xs : List ByteArray} (hl : xs.length ≤ maxLen) (hb : hasBody P f = true) {T : TypeId}
    (h : ∀ (w : World) (κ : Addr → Option Value) (args : Array Value), (∀ a v, κ a = some v → w.cell? a = some v) → Reps (M0 κ) args.toList as → KG κ → Calls P f args w fun e w' => e = .returned (.slice (some ⟨w.heap.size, 0, none⟩) xs.length xs.length) ∧ w' = w.alloc (.cells (xs.map Value.string).toArray T)) :
    ACt P f as (.slice .full 1 (xs.map .str)) [] :=
  ⟨hb, fun w κ args hκ ha hg => (h w κ args hκ ha hg).mono fun e w' ⟨he, hw⟩ => by
    obtain ⟨M', g1, g2, g3, g4, g5, g6⟩ := (mr0 (P := P) hκ hg).addRow (xs.map Value.string).toArray T (0, 0)
    subst hw
    refine ⟨_, M', he, g2, g3, ?_⟩
    have hf := flat_texts xs
    show Rep (M0 M'.κ) _ _
    refine .slice .full _ _ _ 1 (xs.map Value.string) (xs.map AV.str) (by simp) (by simp) (Nat.le_refl _) hl (fun v hv => ?_) (.inr ⟨w.heap.size, 0, rfl, fun j hj => ?_⟩) (fun i h1 h2 => ?_) rfl
    · obtain ⟨x, _, rfl⟩ := List.mem_map.1 hv
      exact ⟨rfl, fun u hu => by
        rw [show u = Value.string x by simpa [Value.cells] using hu]
        rfl⟩
    · have hj' : j < (xs.map Value.string).length := by rw [hf] at hj; exact hj
      have := g6 j (xs.map Value.string)[j] (by
        rw [List.getElem?_toArray]
        exact List.getElem?_eq_getElem hj')
      rw [Nat.zero_add]
      show M'.κ _ = _
      rw [this]
      simp [hf]
    · simp only [List.getElem_map]
      exact .str _⟩
theorem args1 {κ : Addr → Option Value} {args : Array Value} {a : AV} (h : Reps (M0 κ) args.toList [a]) : ∃ u, args = #[u] ∧ Rep (M0 κ) u a := by
  match hl : args.toList, h with
  | [u], h => exact ⟨u, by rw [← Array.toArray_toList (xs := args), hl], (reps_uncons h).1⟩
theorem args2 {κ : Addr → Option Value} {args : Array Value} {a b : AV} (h : Reps (M0 κ) args.toList [a, b]) : ∃ u v, args = #[u, v] ∧ Rep (M0 κ) u a ∧ Rep (M0 κ) v b := by
  match hl : args.toList, h with
  | [u, v], h =>
    obtain ⟨h1, h2⟩ := reps_uncons h
    exact ⟨u, v, by rw [← Array.toArray_toList (xs := args), hl], h1, (reps_uncons h2).1⟩
/-- Texts that came in, one behind the other. -/
theorem texts_in {κ : Addr → Option Value} {u : Value} {t : Tag} {xs : List ByteArray} (h : Rep (M0 κ) u (.slice t 1 (xs.map AV.str))) (hx : xs ≠ []) : ∃ b o c, u = .slice (some ⟨b, o, none⟩) xs.length c ∧ xs.length ≤ c ∧ ∀ (j : Nat) x, xs[j]? = some x → κ ⟨b, o + j, none⟩ = some (.string x) := by
  cases h with
  | slice t A n c sz vs _ hl hn hc hm hs hA hr ht =>
    have hv : vs = xs.map Value.string := by
      apply List.ext_getElem
      · rw [hl, List.length_map, List.length_map]
      · intro i h1 h2
        have := hr i h1 (by rw [← hl]; exact h1)
        simp only [List.getElem_map] at this ⊢
        exact rep_str this
    subst hv
    have hf := flat_texts xs
    rw [hf] at hA
    rw [List.length_map] at hn
    subst hn
    rcases hA with hA | ⟨b, o, rfl, hc2⟩
    · exact absurd (List.map_eq_nil_iff.1 hA) hx
    · refine ⟨b, o, c, rfl, hc, fun j x hj => ?_⟩
      obtain ⟨h1, h2⟩ := List.getElem?_eq_some_iff.1 hj
      have := hc2 j (by rw [List.length_map]; exact h1)
      show (M0 κ).κ _ = _
      rw [this, List.getElem_map, h2]
end Go.Proofs.YtppekacobjdhnaaDoor
