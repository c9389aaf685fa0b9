/- Routes and their order, as plain data. -/
import Derived.Test.YtmlhbmlppgoklacWords
namespace Go.Proofs.Ytmlhbmlppgoklac
open Go.RowKit
set_option linter.unusedVariables false
set_option linter.unusedSimpArgs false

/-- Two numbers, the lesser one first. -/
def cmpI (a b : Int) : Int := if a < b then -1 else if b < a then 1 else 0
/-- Two lists, number by number. -/
def cmpL : List Int → List Int → Int
  | [], [] => 0
  | [], _ :: _ => -1
  | _ :: _, [] => 1
  | x :: l, y :: m => if cmpI x y ≠ 0 then cmpI x y else cmpL l m
/-- By one thing, then by another one. -/
def thenC {α : Type} (c d : α → α → Int) (a b : α) : Int := if c a b ≠ 0 then c a b else d a b

structure OrdC {α : Type} (c : α → α → Int) : Prop where
  rng : ∀ a b, -1 ≤ c a b ∧ c a b ≤ 1
  anti : ∀ a b, c b a = - c a b
  tr : ∀ a b d, c a b ≤ 0 → c b d ≤ 0 → c a d ≤ 0
  trs : ∀ a b d, c a b < 0 → c b d ≤ 0 → c a d < 0
theorem OrdC.tr0 {α : Type} {c : α → α → Int} (h : OrdC c) {a b d : α} (h1 : c a b ≤ 0) (h2 : c b d < 0) : c a d < 0 := by
  have r1 := h.anti a d
  have r2 := h.anti a b
  by_cases e : c a d < 0
  · exact e
  · have := h.trs b d a h2 (by omega)
    omega
theorem cmpI_ord : OrdC cmpI := by
  refine ⟨fun a b => ?_, fun a b => ?_, fun a b d => ?_, fun a b d => ?_⟩
  all_goals
    unfold cmpI
    repeat' split
    all_goals omega
theorem ordC_key {α β : Type} {c : β → β → Int} (h : OrdC c) (f : α → β) : OrdC (fun a b => c (f a) (f b)) :=
  ⟨fun a b => h.rng _ _, fun a b => h.anti _ _, fun a b d => h.tr _ _ _, fun a b d => h.trs _ _ _⟩
theorem ordC_then {α : Type} {c d : α → α → Int} (hc : OrdC c) (hd : OrdC d) : OrdC (thenC c d) := by
  refine ⟨fun a b => ?_, fun a b => ?_, fun a b e h1 h2 => ?_, fun a b e h1 h2 => ?_⟩
  · unfold thenC
    split
    · exact hc.rng a b
    · exact hd.rng a b
  · have h1 := hc.anti a b
    have h2 := hd.anti a b
    unfold thenC
    split <;> split <;> omega
  · unfold thenC at h1 h2 ⊢
    have k1 := hc.tr a b e
    have k2 := hc.trs a b e
    have k3 := @OrdC.tr0 _ _ hc a b e
    have k4 := hd.tr a b e
    have k5 := hc.anti a b
    have k6 := hc.anti b e
    have k7 := hc.anti a e
    have k8 := hc.tr e b a
    split at h1 <;> split at h2 <;> split <;> omega
  · unfold thenC at h1 h2 ⊢
    have k1 := hc.tr a b e
    have k2 := hc.trs a b e
    have k3 := @OrdC.tr0 _ _ hc a b e
    have k4 := hd.trs a b e
    have k5 := hc.anti a b
    have k6 := hc.anti b e
    have k7 := hc.anti a e
    have k8 := hc.tr e b a
    split at h1 <;> split at h2 <;> split <;> omega
theorem cmpL_rng : ∀ l m : List Int, -1 ≤ cmpL l m ∧ cmpL l m ≤ 1
  | [], [] => by simp [cmpL]
  | [], _ :: _ => by simp [cmpL]
  | _ :: _, [] => by simp [cmpL]
  | x :: l, y :: m => by
    have h1 := cmpI_ord.rng x y
    have h2 := cmpL_rng l m
    unfold cmpL
    split
    · exact h1
    · exact h2
theorem cmpL_anti : ∀ l m : List Int, cmpL m l = - cmpL l m
  | [], [] => by simp [cmpL]
  | [], _ :: _ => by simp [cmpL]
  | _ :: _, [] => by simp [cmpL]
  | x :: l, y :: m => by
    have h1 := cmpI_ord.anti x y
    have h2 := cmpL_anti l m
    unfold cmpL
    split <;> split <;> omega
theorem cmpL_tr : ∀ l m n : List Int, (cmpL l m ≤ 0 → cmpL m n ≤ 0 → cmpL l n ≤ 0) ∧ (cmpL l m < 0 → cmpL m n ≤ 0 → cmpL l n < 0)
  | [], [], n => by simp [cmpL]
  | [], y :: m, [] => by simp [cmpL]
  | [], y :: m, z :: n => by simp [cmpL]
  | x :: l, [], n => by simp [cmpL]
  | x :: l, y :: m, [] => by simp [cmpL]
  | x :: l, y :: m, z :: n => by
    have ih := cmpL_tr l m n
    have k1 := cmpI_ord.tr x y z
    have k2 := cmpI_ord.trs x y z
    have k3 := @OrdC.tr0 _ _ cmpI_ord x y z
    have k5 := cmpI_ord.anti x y
    have k6 := cmpI_ord.anti y z
    have k7 := cmpI_ord.anti x z
    have k8 := cmpI_ord.tr z y x
    have i1 := ih.1
    have i2 := ih.2
    unfold cmpL
    constructor
    · intro h1 h2
      split at h1 <;> split at h2 <;> split <;> omega
    · intro h1 h2
      split at h1 <;> split at h2 <;> split <;> omega
theorem cmpL_ord : OrdC cmpL := ⟨cmpL_rng, cmpL_anti, fun a b d => (cmpL_tr a b d).1, fun a b d => (cmpL_tr a b d).2⟩

/-- A route. -/
structure Rt where
  pref : Int
  origin : Int
  as : List Int
  hop : Int
  otc : Int
  frm : Int
def compareR : Rt → Rt → Int :=
  thenC (fun a b => cmpI b.pref a.pref) (thenC (fun a b => cmpI a.as.length b.as.length) (thenC (fun a b => cmpI a.origin b.origin) (thenC (fun a b => cmpL a.as b.as) (thenC (fun a b => cmpI a.hop b.hop) (thenC (fun a b => cmpI a.otc b.otc) (fun a b => cmpI a.frm b.frm))))))
theorem ordC_flip {α : Type} {c : α → α → Int} (h : OrdC c) : OrdC (fun a b => c b a) := by
  refine ⟨fun a b => h.rng _ _, fun a b => h.anti _ _, fun a b d h1 h2 => h.tr _ _ _ h2 h1, fun a b d h1 h2 => h.tr0 h2 h1⟩
theorem compareR_ord : OrdC compareR :=
  ordC_then (ordC_flip (ordC_key cmpI_ord Rt.pref)) (ordC_then (ordC_key cmpI_ord fun a : Rt => (a.as.length : Int)) (ordC_then (ordC_key cmpI_ord Rt.origin) (ordC_then (ordC_key cmpL_ord Rt.as) (ordC_then (ordC_key cmpI_ord Rt.hop) (ordC_then (ordC_key cmpI_ord Rt.otc) (ordC_key cmpI_ord Rt.frm))))))
/-- The first of the best ones. -/
def bestF (x : Rt) (l : List Rt) : Rt := l.foldl (fun m y => if compareR y m < 0 then y else m) x
theorem bestF_snoc (x : Rt) (l : List Rt) (y : Rt) : bestF x (l ++ [y]) = if compareR y (bestF x l) < 0 then y else bestF x l := by
  unfold bestF
  rw [List.foldl_append]
  rfl
theorem snoc_ind {α : Type} {p : List α → Prop} (h0 : p []) (h1 : ∀ l x, p l → p (l ++ [x])) (l : List α) : p l := by
  rw [← List.reverse_reverse l]
  induction l.reverse with
  | nil => exact h0
  | cons x t ih =>
    rw [List.reverse_cons]
    exact h1 _ _ ih
theorem bestF_mem (x : Rt) (l : List Rt) : bestF x l ∈ x :: l := by
  induction l using snoc_ind with
  | h0 => simp [bestF]
  | h1 l y ih =>
    rw [bestF_snoc]
    split
    · simp
    · rcases List.mem_cons.1 ih with h | h
      · rw [h]; simp
      · simp [h]
theorem bestF_le (x : Rt) (l : List Rt) : ∀ y ∈ x :: l, compareR (bestF x l) y ≤ 0 := by
  induction l using snoc_ind with
  | h0 =>
    intro y hy
    have : y = x := by simpa using hy
    subst this
    have := compareR_ord.anti y y
    show compareR y y ≤ 0
    omega
  | h1 l z ih =>
    intro y hy
    rw [bestF_snoc]
    have hy' : y ∈ x :: l ∨ y = z := by
      rcases List.mem_cons.1 hy with h | h
      · exact .inl (by simp [h])
      · rcases List.mem_append.1 h with h | h
        · exact .inl (by simp [h])
        · exact .inr (by simpa using h)
    split
    · rename_i hc
      rcases hy' with h | rfl
      · exact compareR_ord.tr _ _ _ (by omega) (ih y h)
      · have := compareR_ord.anti y y
        omega
    · rename_i hc
      rcases hy' with h | rfl
      · exact ih y h
      · have := compareR_ord.anti y (bestF x l)
        omega
theorem same_of_min {L : List Rt} {a b : Rt} (ha : a ∈ L) (hb : b ∈ L) (la : ∀ y ∈ L, compareR a y ≤ 0) (lb : ∀ y ∈ L, compareR b y ≤ 0) : compareR a b = 0 := by
  have h1 := la b hb
  have h2 := lb a ha
  have := compareR_ord.anti a b
  omega
end Go.Proofs.Ytmlhbmlppgoklac
