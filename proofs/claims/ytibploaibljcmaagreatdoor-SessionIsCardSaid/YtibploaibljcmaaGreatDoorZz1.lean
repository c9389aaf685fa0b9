import Derived.Test.YtibploaibljcmaaGreatDoorWords
import Derived.Test.YtibploaibljcmaaGreatDoorNum
import Derived.Test.YtibploaibljcmaaGreatDoorMo
import Derived.Test.YtibploaibljcmaaGreatDoorMz1
import Derived.KernelRfl
namespace Go.Proofs.YtibploaibljcmaaGreatDoor
set_option linter.unusedVariables false
set_option linter.unusedSimpArgs false
def num : List UInt8 → Nat := fun l => l.foldl (fun v x => v * 256 + x.toNat) 0
theorem num_snoc (l : List UInt8) (x : UInt8) : num (l ++ [x]) = num l * 256 + x.toNat := by simp [num]
theorem num_step (l : List UInt8) (j : Nat) (h : j < l.length) : num (l.take (j + 1)) = num (l.take j) * 256 + l[j].toNat := by
 rw [List.take_succ_eq_append_getElem h, num_snoc]
theorem num_lt (l : List UInt8) : num l < 256 ^ l.length := by
 suffices h : ∀ (m : Nat) (l : List UInt8), l.length = m → num l < 256 ^ m from h _ l rfl
 intro m
 induction m with
 | zero => intro l h; rw [List.eq_nil_of_length_eq_zero h]; simp [num]
 | succ m ih =>
   intro l h
   obtain ⟨l', x, rfl⟩ : ∃ l' x, l = l' ++ [x] := ⟨l.dropLast, l.getLast (by intro e; simp [e] at h), (List.dropLast_concat_getLast _).symm⟩
   have := ih l' (by simpa using h)
   have hx := x.toNat_lt
   rw [num_snoc, Nat.pow_succ]
   omega
def octAt (v : Int) (j : Nat) : UInt8 := UInt8.ofNat ((v / (2 : Int) ^ (8 * j)) % 256).toNat
def putL (v : Int) (k : Nat) : List UInt8 := (List.range k).map fun i => octAt v (k - 1 - i)
theorem putL_length (v : Int) (k : Nat) : (putL v k).length = k := by simp [putL]
theorem putL_step (v : Int) (k j : Nat) (h : j < k) : (putL v k).take (j + 1) = (putL v k).take j ++ [octAt v (k - 1 - j)] := by
 rw [List.take_succ_eq_append_getElem (by rw [putL_length]; exact h)]
 simp [putL]
end Go.Proofs.YtibploaibljcmaaGreatDoor
namespace Go.Proofs.YtibploaibljcmaaGreatDoor
open Go.RowKit
set_option linter.unusedVariables false
set_option linter.unusedSimpArgs false
theorem loopC_ind {σ ε R : Type} {step : σ → (σ → Option R) → (ε → Option R) → Option R} {bk : ε → Option R} {out : Option R} (I : σ → Prop) (μ : σ → Nat)
   (hstep : ∀ s, I s → ∀ nx : σ → Option R, (∀ s', I s' → μ s' < μ s → nx s' = out) → step s nx bk = out) : ∀ (n : Nat) (s : σ), I s → μ s < n → loopC step bk n s = out
 | 0, s, _, h => absurd h (Nat.not_lt_zero _)
 | n + 1, s, hI, h => by
   rw [loopC_succ]
   exact hstep s hI _ fun s' h1 h2 => loopC_ind I μ hstep n s' h1 (by omega)
theorem big_lt {n : Nat} (h : n ≤ 1180591620717411303000) : n < BIG := by
 unfold BIG
 omega
theorem ix_some {α : Type} {xs : List α} {i : Int} {y : α} (h0 : 0 ≤ i) (h : xs[i.toNat]? = some y) : ix xs i = some y := by
 rw [ix_eq, if_pos h0, h]
theorem ix_nat {α : Type} {xs : List α} {i : Nat} (h : i < xs.length) : ix xs (i : Int) = some xs[i] :=
 ix_some (by omega) (by rw [Int.toNat_natCast, List.getElem?_eq_getElem h])
theorem ap_some {α : Type} {b : Nat} {xs ys : List α} (h : (xs.length + ys.length) * b ≤ 140737488355328) (h2 : xs.length + ys.length ≤ 140737488355328) : ap b xs ys = some (xs ++ ys) := by
 rw [ap_eq, if_pos ⟨h, by unfold maxLen; omega⟩]
theorem sl_some {α : Type} {xs : List α} {lo hi : Int} (h : 0 ≤ lo ∧ lo ≤ hi ∧ hi ≤ xs.length) : sl xs lo hi = some ((xs.take hi.toNat).drop lo.toNat) := by
 rw [sl_eq, if_pos h]
theorem sl_all {α : Type} {xs : List α} {lo : Int} (h : 0 ≤ lo ∧ lo ≤ xs.length) : sl xs lo xs.length = some (xs.drop lo.toNat) := by
 rw [sl_some (by omega), Int.toNat_natCast, List.take_length]
theorem sl_pre {α : Type} {xs : List α} {hi : Int} (h : 0 ≤ hi ∧ hi ≤ xs.length) : sl xs 0 hi = some (xs.take hi.toNat) := by
 rw [sl_some (by omega)]
 rfl
theorem nn_some {R : Type} {b : Int} {m : Option R} (h : 0 ≤ b) : nn b m = m := by rw [nn_eq, if_neg (by omega)]
theorem nz_some {R : Type} {b : Int} {m : Option R} (h : b ≠ 0) : nz b m = m := by rw [nz_eq, if_neg h]
theorem w64 {x : Int} (h1 : -9223372036854775808 ≤ x) (h2 : x ≤ 9223372036854775807) : IntKind.i64.wrap x = x := wrap64 h1 h2
theorem u8wrap_eq (x : Int) : IntKind.u8.wrap x = x % 256 := by
 simp only [IntKind.wrap, IntKind.signed, IntKind.bits, Bool.false_and, Bool.false_eq_true, if_false]
 rfl
end Go.Proofs.YtibploaibljcmaaGreatDoor
namespace Go.Proofs.YtibploaibljcmaaGreatDoor
open Go.RowKit
set_option linter.unusedVariables false
set_option linter.unusedSimpArgs false
def walk {α R : Type} (F : Nat → α → R → R) (e : R) : Nat → List α → R
 | _, [] => e
 | i, x :: xs => F i x (walk F e (i + 1) xs)
def walkA {α β R : Type} (F : Nat → α → (β → R) → β → R) (e : β → R) : Nat → List α → β → R
 | _, [], b => e b
 | i, x :: xs, b => F i x (walkA F e (i + 1) xs) b
end Go.Proofs.YtibploaibljcmaaGreatDoor
namespace Go.Proofs.YtibploaibljcmaaGreatDoor
open Go.RowKit
set_option linter.unusedVariables false
set_option linter.unusedSimpArgs false
def Ok {α : Type} (m : Option α) (Q : α → Prop) : Prop := ∃ x, m = some x ∧ Q x
section
variable {α β R τ : Type} {Q : R → Prop}
theorem ok_some {x : R} (h : Q x) : Ok (some x) Q := ⟨x, rfl, h⟩
theorem ok_bd {m : Option α} {k : α → Option R} {P : α → Prop} (h : Ok m P) (h2 : ∀ x, m = some x → P x → Ok (k x) Q) : Ok (bd m k) Q := by
 obtain ⟨x, e, p⟩ := h
 rw [e, bd_some]
 exact h2 x e p
theorem ok_bde {m : Option α} {k : α → Option R} {x : α} (h : m = some x) (h2 : Ok (k x) Q) : Ok (bd m k) Q := by
 rw [h, bd_some]
 exact h2
theorem ok_if {p : Prop} {_ : Decidable p} {A B : Option R} (h1 : p → Ok A Q) (h2 : ¬ p → Ok B Q) : Ok (bif decide p then A else B) Q := by
 by_cases hp : p
 · rw [decide_eq_true hp]; exact h1 hp
 · rw [decide_eq_false hp]; exact h2 hp
theorem ok_ifn {p : Prop} {_ : Decidable p} {A B : Option R} (h1 : ¬ p → Ok A Q) (h2 : p → Ok B Q) : Ok (bif !decide p then A else B) Q := by
 by_cases hp : p
 · rw [decide_eq_true hp]; exact h2 hp
 · rw [decide_eq_false hp]; exact h1 hp
theorem ok_ifb {b : Bool} {A B : Option R} (h1 : b = true → Ok A Q) (h2 : b = false → Ok B Q) : Ok (bif b then A else B) Q := by
 cases b
 · exact h2 rfl
 · exact h1 rfl
theorem ok_ifnb {b : Bool} {A B : Option R} (h1 : b = false → Ok A Q) (h2 : b = true → Ok B Q) : Ok (bif !b then A else B) Q := by
 cases b
 · exact h1 rfl
 · exact h2 rfl
theorem ok_ix {xs : List α} {i : Int} {k : α → Option R} (h0 : 0 ≤ i) (h1 : i < xs.length) (h : ∀ (hlt : i.toNat < xs.length), Ok (k xs[i.toNat]) Q) : Ok (bd (ix xs i) k) Q :=
 ok_bde (ix_some h0 (List.getElem?_eq_getElem (by omega))) (h (by omega))
theorem ok_ap {b : Nat} {xs ys : List α} {k : List α → Option R} (h : (xs.length + ys.length) * b ≤ 140737488355328) (h2 : xs.length + ys.length ≤ 140737488355328) (hk : Ok (k (xs ++ ys)) Q) : Ok (bd (ap b xs ys) k) Q :=
 ok_bde (ap_some h h2) hk
theorem ok_jn {i : Nat} {f : (τ → Option R) → Option R} {k : τ → Option R} (J : τ → Prop) (h2 : ∀ k', (∀ j, J j → Ok (k' j) Q) → Ok (f k') Q) (h1 : ∀ j, J j → Ok (k j) Q) : Ok (jn i f k) Q := by
 rw [jn_eq]
 exact h2 k h1
theorem ok_loop {σ ε : Type} {step : σ → (σ → Option R) → (ε → Option R) → Option R} {bk : ε → Option R} {s0 : σ} (I : σ → Prop) (μ : σ → Nat) (h0 : I s0) (hm : μ s0 ≤ 1180591620717411303000)
   (hs : ∀ s, I s → ∀ nx : σ → Option R, (∀ s', I s' → μ s' < μ s → Ok (nx s') Q) → Ok (step s nx bk) Q) : Ok (loopC step bk BIG s0) Q := by
 suffices h : ∀ (n : Nat) (s : σ), I s → μ s < n → Ok (loopC step bk n s) Q from h BIG s0 h0 (big_lt hm)
 intro n
 induction n with
 | zero => intro s _ h; omega
 | succ n ih =>
   intro s hI h
   rw [loopC_succ]
   exact hs s hI _ fun s' h1 h2 => ih s' h1 (by omega)
theorem ok_idx {ε : Type} {step : Int → (Int → Option R) → (ε → Option R) → Option R} {bk : ε → Option R} (n : Nat) (I : Nat → Prop) (hn : n ≤ 9223372036854775807) (h0 : I 0)
   (hs : ∀ i, i < n → I i → ∀ nx : Int → Option R, (I (i + 1) → Ok (nx (IntKind.i64.wrap ((i : Int) + 1))) Q) → Ok (step (i : Int) nx bk) Q) (he : I n → ∀ nx, Ok (step (n : Int) nx bk) Q) : Ok (loopC step bk BIG 0) Q := by
 refine ok_loop (fun st => ∃ j : Nat, st = (j : Int) ∧ j ≤ n ∧ I j) (fun st => ((n : Int) - st).toNat) ⟨0, rfl, Nat.zero_le _, h0⟩ (by omega) ?_
 rintro _ ⟨j, rfl, hj, hI⟩ nx hnx
 by_cases hlt : j < n
 · have hw : IntKind.i64.wrap ((j : Int) + 1) = ((j + 1 : Nat) : Int) := by rw [w64 (by omega) (by omega)]; rfl
   refine hs j hlt hI nx fun h => hnx _ ⟨j + 1, hw, hlt, h⟩ (by rw [hw]; omega)
 · obtain rfl : j = n := by omega
   exact he hI nx
theorem ok_acc {γ ε : Type} {step : γ × Int → (γ × Int → Option R) → (ε → Option R) → Option R} {bk : ε → Option R} {b0 : γ} (n : Nat) (I : Nat → γ → Prop) (hn : n ≤ 9223372036854775807) (h0 : I 0 b0)
   (hs : ∀ i b, i < n → I i b → ∀ nx : γ × Int → Option R, (∀ b', I (i + 1) b' → Ok (nx (b', IntKind.i64.wrap ((i : Int) + 1))) Q) → Ok (step (b, (i : Int)) nx bk) Q) (he : ∀ b, I n b → ∀ nx, Ok (step (b, (n : Int)) nx bk) Q) : Ok (loopC step bk BIG (b0, 0)) Q := by
 refine ok_loop (fun st => ∃ j : Nat, st.2 = (j : Int) ∧ j ≤ n ∧ I j st.1) (fun st => ((n : Int) - st.2).toNat) ⟨0, rfl, Nat.zero_le _, h0⟩ (by simp only; omega) ?_
 rintro ⟨b, _⟩ ⟨j, rfl, hj, hI⟩ nx hnx
 dsimp only at hj hI hnx
 by_cases hlt : j < n
 · have hw : IntKind.i64.wrap ((j : Int) + 1) = ((j + 1 : Nat) : Int) := by rw [w64 (by omega) (by omega)]; rfl
   refine hs j b hlt hI nx fun b' h => hnx _ ⟨j + 1, hw, hlt, h⟩ (by simp only [hw]; omega)
 · obtain rfl : j = n := by omega
   exact he b hI nx
theorem ok_true {m : Option Bool} (h : Ok m (· = true)) : m = some true := by
 obtain ⟨x, e, rfl⟩ := h
 exact e
end
end Go.Proofs.YtibploaibljcmaaGreatDoor
namespace Go.Proofs.YtibploaibljcmaaGreatDoor
open Go.RowKit
set_option linter.unusedVariables false
set_option linter.unusedSimpArgs false
theorem octTake_eq (l : List UInt8) (n : Int) : m_octet_Take l n = some (if 0 ≤ n ∧ n ≤ l.length then (l.take n.toNat, l.drop n.toNat, true) else ([], [], false)) := by
 unfold m_octet_Take
 by_cases h1 : n < 0
 · rw [decide_eq_true h1, cond_true, if_neg (by omega)]
 rw [decide_eq_false h1, cond_false]
 by_cases h2 : n > (l.length : Int)
 · rw [decide_eq_true h2, cond_true, if_neg (by omega)]
 rw [decide_eq_false h2, cond_false, sl_pre (by omega), bd_some, sl_all (by omega), bd_some, if_pos (by omega)]
theorem octGet_eq (l : List UInt8) (a : Int) (h1 : 1 ≤ a) (h4 : a ≤ 4) : m_octet_Get l a = some (if a ≤ l.length then (((num (l.take a.toNat) : Nat) : Int), l.drop a.toNat, true) else (0, [], false)) := by
 unfold m_octet_Get
 rw [decide_eq_false (by omega), cond_false, decide_eq_false (by omega), cond_false, octTake_eq, bd_some]
 by_cases hk : a ≤ l.length
 · rw [if_pos (by omega), if_pos hk]
   refine loopC_ind (fun st => ∃ j : Nat, j ≤ a.toNat ∧ st = (((num (l.take j) : Nat) : Int), (j : Int))) (fun st => (a - st.2).toNat) ?_ _ _ ⟨0, Nat.zero_le _, by simp [num]⟩ (big_lt (by simp; omega))
   rintro st ⟨j, hj, rfl⟩ nx hnx
   unfold s_octet_Get1
   have hlen : (l.take a.toNat).length = a.toNat := by rw [List.length_take]; omega
   simp only [hlen]
   by_cases hlt : j < a.toNat
   · rw [decide_eq_true (by omega), cond_true, ix_nat (by rw [hlen]; exact hlt), bd_some, List.getElem_take]
     have hb : l[j].toNat < 256 := l[j].toNat_lt
     have hnl : num (l.take j) < 16777216 := by
       have := num_lt (l.take j)
       have : 256 ^ (l.take j).length ≤ 256 ^ 3 := Nat.pow_le_pow_right (by omega) (by rw [List.length_take]; omega)
       omega
     have e1 : IntKind.i64.wrap ((num (l.take j) : Nat) * 2 ^ (min (8 : Int).toNat IntKind.i64.bits) : Int) = (num (l.take j) : Nat) * 256 := by
       rw [show (2 : Int) ^ (min (8 : Int).toNat IntKind.i64.bits) = 256 from rfl, w64 (by omega) (by omega)]
     have e2 : IntKind.i64.wrap (l[j].toNat : Int) = l[j].toNat := w64 (by omega) (by omega)
     have e3 := or_byte (num (l.take j)) l[j].toNat hb hnl
     simp only [bits] at e3
     have e4 := num_step l j (by omega)
     rw [e1, e2, e3, ← e4, w64 (by omega) (by omega)]
     exact hnx _ ⟨j + 1, by omega, by simp⟩ (by simp; omega)
   · obtain rfl : j = a.toNat := by omega
     rw [decide_eq_false (by omega), cond_false]
 · rw [if_neg (by omega), if_neg hk]
   rw [show BIG = (BIG - 1) + 1 from rfl, loopC_succ]
   rfl
theorem u8_fdiv' (v : Int) (j : Nat) (h : j ≤ 3) : toB (IntKind.u8.wrap (v.fdiv (2 ^ (min (8 * j) 64)))) = octAt v j := by
 have : v.fdiv (2 ^ (8 * j)) = v / 2 ^ (8 * j) := by
   rw [Int.fdiv_eq_ediv_of_nonneg]
   exact Int.le_of_lt (Int.pow_pos (by decide))
 rw [Nat.min_eq_left (by omega), this, u8wrap_eq]
 rfl
theorem octPut_eq (l : List UInt8) (v a : Int) (h1 : 1 ≤ a) (h4 : a ≤ 4) (hl : l.length ≤ 140737488355000) : m_octet_Put l v a = some (l ++ putL v a.toNat) := by
 unfold m_octet_Put
 rw [decide_eq_false (by omega), cond_false, decide_eq_false (by omega), cond_false, sl_pre (by omega), bd_some, Int.toNat_natCast, List.take_length]
 refine loopC_ind (fun st => ∃ j : Nat, j ≤ a.toNat ∧ st = (l ++ (putL v a.toNat).take j, (j : Int))) (fun st => (a - st.2).toNat) ?_ _ _ ⟨0, Nat.zero_le _, by simp⟩ (big_lt (by simp; omega))
 rintro st ⟨j, hj, rfl⟩ nx hnx
 unfold s_octet_Put1
 by_cases hlt : j < a.toNat
 · rw [decide_eq_true (by simp only; omega), cond_true]
   have e1 : IntKind.i64.wrap (8 * IntKind.i64.wrap (IntKind.i64.wrap (a - 1) - (j : Int))) = ((8 * (a.toNat - 1 - j) : Nat) : Int) := by
     rw [w64 (x := a - 1) (by omega) (by omega), w64 (x := a - 1 - (j : Int)) (by omega) (by omega), w64 (by omega) (by omega)]
     omega
   simp only [e1]
   rw [nn_some (by omega), Int.toNat_natCast, show IntKind.i64.bits = 64 from rfl, u8_fdiv' v _ (by omega), ap_some (by simp; omega) (by simp; omega), bd_some, w64 (by omega) (by omega), List.append_assoc, ← putL_step v a.toNat j hlt]
   exact hnx _ ⟨j + 1, by omega, by simp⟩ (by simp; omega)
 · obtain rfl : j = a.toNat := by omega
   rw [decide_eq_false (by simp only; omega), cond_false, List.take_of_length_le (by rw [putL_length]; exact Nat.le_refl _)]
end Go.Proofs.YtibploaibljcmaaGreatDoor
namespace Go.Proofs.YtibploaibljcmaaGreatDoor
open Go.RowKit
set_option linter.unusedVariables false
set_option linter.unusedSimpArgs false
set_option maxRecDepth 100000
set_option maxHeartbeats 1000000
theorem octGet1c (x : UInt8) (t : List UInt8) : m_octet_Get (x :: t) 1 = some ((x.toNat : Int), t, true) := by
 rw [octGet_eq _ _ (by decide) (by decide), if_pos (by simp; omega)]
 simp [num]
theorem octGet2c (x y : UInt8) (t : List UInt8) : m_octet_Get (x :: y :: t) 2 = some (((x.toNat * 256 + y.toNat : Nat) : Int), t, true) := by
 rw [octGet_eq _ _ (by decide) (by decide), if_pos (by simp; omega)]
 simp [num]
theorem octGet4c (x y z u : UInt8) (t : List UInt8) : m_octet_Get (x :: y :: z :: u :: t) 4 = some (((num [x, y, z, u] : Nat) : Int), t, true) := by
 rw [octGet_eq _ _ (by decide) (by decide), if_pos (by simp; omega)]
 simp
def capA (v : Int) : List UInt8 := [2, 6, 65, 4] ++ putL v 4
def capR (v : Int) : List UInt8 := [2, 3, 9, 1] ++ putL v 1
end Go.Proofs.YtibploaibljcmaaGreatDoor
namespace Go.Proofs.YtibploaibljcmaaGreatDoor
open Go.RowKit
set_option linter.unusedVariables false
set_option linter.unusedSimpArgs false
set_option maxRecDepth 100000
set_option maxHeartbeats 1000000
theorem bif_dec {α : Type} {p : Prop} [Decidable p] {A B x : α} (h1 : p → A = x) (h2 : ¬p → B = x) : (bif decide p then A else B) = x := by
 by_cases h : p
 · rw [decide_eq_true h]; exact h1 h
 · rw [decide_eq_false h]; exact h2 h
theorem some_dec {p q : Prop} [Decidable p] [Decidable q] (h : p ↔ q) : some (decide p) = some (decide q) := by
 congr 1
 exact decide_eq_decide.2 h
theorem some_fal {q : Prop} [Decidable q] (h : ¬q) : some false = some (decide q) := by rw [decide_eq_false h]
theorem some_tru {q : Prop} [Decidable q] (h : q) : some true = some (decide q) := by rw [decide_eq_true h]
def openOk (h : Hello) : Prop := (1 ≤ h.As ∧ h.As ≤ 4294967295) ∧ (1 ≤ h.Id ∧ h.Id ≤ 4294967295) ∧ (h.Hold = 0 ∨ 3 ≤ h.Hold ∧ h.Hold ≤ 65535) ∧ -1 ≤ h.Role ∧ h.Role ≤ 4
instance (h : Hello) : Decidable (openOk h) := by unfold openOk; infer_instance
theorem openNumber_eq (n : Int) : m_open_number n = some (decide (1 ≤ n ∧ n ≤ 4294967295)) := by
 unfold m_open_number
 refine bif_dec (fun h => some_dec ?_) (fun h => some_fal ?_) <;> omega
theorem openHolds_eq (n : Int) : m_open_holds n = some (decide (n = 0 ∨ 3 ≤ n ∧ n ≤ 65535)) := by
 unfold m_open_holds
 refine bif_dec (fun h => some_tru ?_) (fun h => bif_dec (fun h => some_dec ?_) (fun h => some_fal ?_)) <;> omega
theorem openSane_eq (h : Hello) : m_open_Sane h = some (decide (openOk h)) := by
 unfold m_open_Sane openOk
 rw [openNumber_eq, bd_some]
 refine bif_dec (fun h1 => ?_) (fun h1 => some_fal fun g => h1 g.1)
 rw [openNumber_eq, bd_some]
 refine bif_dec (fun h2 => ?_) (fun h2 => some_fal fun g => h2 g.2.1)
 rw [openHolds_eq, bd_some]
 refine bif_dec (fun h3 => ?_) (fun h3 => some_fal fun g => h3 g.2.2.1)
 refine bif_dec (fun h4 => some_dec ?_) (fun h4 => some_fal fun g => h4 g.2.2.2.1)
 exact ⟨fun g => ⟨h1, h2, h3, h4, g⟩, fun g => g.2.2.2.2⟩
def capsOf (h : Hello) : List UInt8 := capA h.As ++ if h.Role = -1 then [] else capR h.Role
def shortOf (a : Int) : Int := if a > 65535 then 23456 else a
theorem openShort_eq (a : Int) : m_open_short a = some (shortOf a) := by
 unfold m_open_short shortOf
 refine bif_dec (fun h => ?_) (fun h => ?_)
 · rw [if_pos h]
 · rw [if_neg h]
theorem capsOf_length (h : Hello) : (capsOf h).length = if h.Role = -1 then 8 else 13 := by
 unfold capsOf capA capR
 rw [List.length_append, List.length_append, putL_length]
 by_cases g : h.Role = -1
 · rw [if_pos g, if_pos g]; rfl
 · rw [if_neg g, if_neg g]
   rw [List.length_append, putL_length]; rfl
def openBody (h : Hello) : List UInt8 :=
 octAt 4 0 :: octAt (shortOf h.As) 1 :: octAt (shortOf h.As) 0 :: octAt h.Hold 1 :: octAt h.Hold 0 :: octAt h.Id 3 :: octAt h.Id 2 :: octAt h.Id 1 :: octAt h.Id 0 :: octAt ((capsOf h).length : Int) 0 :: capsOf h
theorem labelled_eq (k : Int) (b : List UInt8) (h : b.length ≤ 1000) : m_open_labelled k b = some (toB (IntKind.u8.wrap k) :: toB (IntKind.u8.wrap (b.length : Int)) :: b) := by
 unfold m_open_labelled
 rw [ap_some (by simp; omega) (by simp; omega), bd_some]
 rfl
theorem put_caps (h : Hello) (k : List UInt8 → Option Msg) :
   (bd (m_octet_Put ([] : List UInt8) h.As (4 : Int)) fun r2 =>
   bd (m_open_labelled (65 : Int) r2) fun r3 =>
   bd (m_open_labelled (2 : Int) r3) fun r4 =>
   jn 1 (fun (k1 : ((List UInt8)) → Option Msg) =>
     bif decide (¬ h.Role = (-1 : Int)) then
       bd (m_octet_Put ([] : List UInt8) h.Role (1 : Int)) fun r5 =>
       bd (m_open_labelled (9 : Int) r5) fun r6 =>
       bd (m_open_labelled (2 : Int) r6) fun r7 =>
       bd (ap 1 r4 r7) fun y8 =>
       k1 y8
     else
       k1 r4) k) = k (capsOf h) := by
 rw [octPut_eq _ _ _ (by decide) (by decide) (by simp), bd_some, List.nil_append, labelled_eq _ _ (by rw [putL_length]; decide), bd_some, labelled_eq _ _ (by simp [putL_length]), bd_some, jn_eq]
 unfold capsOf capA capR
 refine bif_dec (fun g => ?_) (fun g => ?_)
 · rw [octPut_eq _ _ _ (by decide) (by decide) (by simp), bd_some, List.nil_append, labelled_eq _ _ (by rw [putL_length]; decide), bd_some, labelled_eq _ _ (by simp [putL_length]), bd_some]
   rw [ap_some (by simp [putL_length]) (by simp [putL_length]), bd_some, if_neg g]
   rfl
 · rw [if_pos (by omega), List.append_nil]
   rfl
theorem openPut_eq (h : Hello) (g : openOk h) : m_open_Put h = some ⟨1, openBody h⟩ := by
 have hl := capsOf_length h
 have hl' : (capsOf h).length ≤ 13 := by
   rw [hl]
   split <;> decide
 unfold m_open_Put
 rw [openSane_eq, bd_some, decide_eq_true g]
 rw [Bool.not_true, cond_false, put_caps h]
 rw [octPut_eq _ _ _ (by decide) (by decide) (by simp), bd_some, openShort_eq, bd_some]
 rw [octPut_eq _ _ _ (by decide) (by decide) (by simp [putL_length]), bd_some]
 rw [octPut_eq _ _ _ (by decide) (by decide) (by simp [putL_length]), bd_some]
 rw [octPut_eq _ _ _ (by decide) (by decide) (by simp [putL_length]), bd_some]
 rw [octPut_eq _ _ _ (by decide) (by decide) (by simp [putL_length]), bd_some]
 rw [ap_some (by simp [putL_length]; omega) (by simp [putL_length]; omega), bd_some]
 rfl
theorem msgLeast1 : m_msg_Least 1 = some 29 := rfl
theorem msgWrong1 (n : Int) (h : 29 ≤ n) : m_msg_wrong 1 n = some false := by
 unfold m_msg_wrong
 rw [msgLeast1, bd_some, decide_eq_false (by omega), cond_false]
 rfl
theorem msgSane1 (b : List UInt8) (h : 10 ≤ b.length ∧ b.length ≤ 4077) : m_msg_Sane ⟨1, b⟩ = some true := by
 unfold m_msg_Sane
 dsimp only
 rw [w64 (x := (19 : Int) + b.length) (by omega) (by omega)]
 rw [msgLeast1, bd_some, decide_eq_true (by decide), cond_true, msgWrong1 _ (by omega), bd_some, Bool.not_false, cond_true, decide_eq_true (by omega)]
def ten (v s1 s0 h1 h0 i3 i2 i1 i0 n : UInt8) (p : List UInt8) : List UInt8 := v :: s1 :: s0 :: h1 :: h0 :: i3 :: i2 :: i1 :: i0 :: n :: p
end Go.Proofs.YtibploaibljcmaaGreatDoor
namespace Go.Proofs.YtibploaibljcmaaGreatDoor
open Go.RowKit
set_option linter.unusedVariables false
set_option linter.unusedSimpArgs false
set_option maxRecDepth 100000
set_option maxHeartbeats 1000000
theorem t_mask (a n : Int) : Ok (m_prefix_Mask a n) fun _ => True := by
 unfold m_prefix_Mask
 have h : 0 ≤ IntKind.i64.wrap ((32 : Int) - (if (32 : Int) < (if (0 : Int) > n then (0 : Int) else n) then (32 : Int) else (if (0 : Int) > n then (0 : Int) else n))) := by
   rw [w64] <;> (split <;> split <;> omega)
 rw [nn_some h, nn_some h]
 exact ok_some trivial
theorem t_prefix (x : Prefix) : Ok (m_prefix_Sane x) fun _ => True := by
 unfold m_prefix_Sane
 refine ok_if (fun _ => ok_if (fun _ => ok_bd (t_mask _ _) fun _ _ _ => ok_some trivial) fun _ => ok_some trivial) fun _ => ok_some trivial
theorem t_number (n : Int) : Ok (m_conf_saneNumber n) fun b => b = true → 1 ≤ n ∧ n ≤ 4294967295 := by
 unfold m_conf_saneNumber
 exact ok_if (fun h => ok_some fun k => ⟨h, of_decide_eq_true k⟩) fun _ => ok_some fun k => Bool.noConfusion k
def HoldOk (n : Int) : Prop := n = 0 ∨ 3 ≤ n ∧ n ≤ 65535
theorem t_hold (n : Int) : Ok (m_conf_saneHold n) fun b => b = true → HoldOk n := by
 unfold m_conf_saneHold
 exact ok_if (fun h => ok_some fun _ => .inl h) fun _ => ok_if (fun h => ok_some fun k => .inr ⟨h, of_decide_eq_true k⟩) fun _ => ok_some fun k => Bool.noConfusion k
theorem t_cap (n : Int) : Ok (m_conf_saneCap n) fun _ => True := by
 unfold m_conf_saneCap
 exact ok_if (fun h => ok_some trivial) fun _ => ok_some trivial
def RuleOk (b : Bool) (x : Rule) : Prop :=
 (b = true → (x.Act = 0 ∧ x.N = 0) ∨ (x.Act = 2 ∧ 1 ≤ x.N ∧ x.N < 400)) ∧ (b = false → x.Act = 0 ∨ x.Act = 1 ∨ (x.Act = 3 ∧ 1 ≤ x.N ∧ x.N ≤ 8))
theorem t_match (x : Rule) (b : Bool) : Ok (m_policy_saneMatch x b) fun _ => True := by
 unfold m_policy_saneMatch
 repeat' first | exact ok_some trivial | refine ok_if (fun _ => ?_) (fun _ => ?_) | refine ok_ifb (fun _ => ?_) (fun _ => ?_) | refine ok_bd (t_prefix _) fun _ _ _ => ?_
theorem t_act (x : Rule) (b : Bool) : Ok (m_policy_saneAct x b) fun r => r = true → RuleOk b x := by
 unfold m_policy_saneAct RuleOk
 cases b
 all_goals
   simp only [Bool.not_true, Bool.not_false, cond_true, cond_false]
   repeat' first | (refine ok_if (fun _ => ?_) (fun _ => ?_)) | refine ok_some fun k => ?_
   all_goals first | (cases k; done) | (simp only [decide_eq_true_eq] at k; refine ⟨fun h => ?_, fun h => ?_⟩ <;> first | (cases h; done) | omega)
theorem t_rule (x : Rule) (b : Bool) : Ok (m_policy_Sane x b) fun r => r = true → RuleOk b x := by
 unfold m_policy_Sane
 exact ok_bd (t_match _ _) fun _ _ _ => ok_ifb (fun _ => ok_bd (t_act _ _) fun _ _ h => ok_some h) fun _ => ok_some fun k => Bool.noConfusion k
theorem t_rules (l : List Rule) (b : Bool) (hl : l.length ≤ 9223372036854775807) : Ok (m_conf_saneRules l b) fun r => r = true → ∀ x ∈ l, RuleOk b x := by
 unfold m_conf_saneRules
 refine ok_if (fun _ => ok_some fun k => Bool.noConfusion k) fun _ => ok_idx l.length (fun j => ∀ i (h : i < l.length), i < j → RuleOk b l[i]) hl (fun _ _ h => absurd h (Nat.not_lt_zero _)) (fun i hi hI nx hnx => ?_) (fun hI nx => ?_)
 · rw [s_conf_saneRules1]
   refine ok_if (fun _ => ok_ix (by omega) (by omega) fun hlt => ok_bd (t_rule _ _) fun r _ hr => ok_ifnb (fun _ => ok_some fun k => Bool.noConfusion k) fun h => hnx fun j hj hji => ?_) fun h => absurd (Int.ofNat_lt.2 hi) h
   simp only [Int.toNat_natCast] at hr
   rcases Nat.lt_succ_iff_lt_or_eq.1 hji with g | rfl
   · exact hI j hj g
   · exact hr h
 · rw [s_conf_saneRules1]
   refine ok_if (fun h => by omega) fun _ => ok_some fun _ x hx => ?_
   obtain ⟨i, hi, rfl⟩ := List.getElem_of_mem hx
   exact hI i hi hi
theorem t_containsP (l : List Prefix) (x : Prefix) (hl : l.length ≤ 9223372036854775807) : Ok (m_slices_Contains___api_Prefix_api_Prefix l x) fun _ => True := by
 unfold m_slices_Contains___api_Prefix_api_Prefix m_slices_Index___api_Prefix_api_Prefix
 refine ok_bd (P := fun _ => True) (ok_idx l.length (fun _ => True) hl trivial (fun i hi _ nx hnx => ?_) (fun _ nx => ?_)) fun _ _ _ => ok_some trivial
 · rw [s_slices_Index___api_Prefix_api_Prefix1]
   exact ok_if (fun _ => ok_ix (by omega) (by omega) fun hlt => ok_ifb (fun _ => ok_some trivial) fun _ => hnx trivial) fun h => absurd (Int.ofNat_lt.2 hi) h
 · rw [s_slices_Index___api_Prefix_api_Prefix1]
   exact ok_if (fun h => by omega) fun _ => ok_some trivial
theorem t_own (l : List Prefix) (hl : l.length ≤ 9223372036854775807) : Ok (m_conf_saneOwn l) fun _ => True := by
 unfold m_conf_saneOwn
 refine ok_if (fun _ => ok_some trivial) fun _ => ok_idx l.length (fun _ => True) hl trivial (fun i hi _ nx hnx => ?_) (fun _ nx => ?_)
 · rw [s_conf_saneOwn1]
   refine ok_if (fun _ => ok_ix (by omega) (by omega) fun hlt => ok_bd (t_prefix _) fun _ _ _ => ok_ifnb (fun _ => ok_some trivial) fun _ => ok_bde (sl_pre (by omega)) (ok_bd (t_containsP _ _ (by rw [List.length_take]; omega)) fun _ _ _ => ok_ifb (fun _ => ok_some trivial) fun _ => hnx trivial)) fun h => absurd (Int.ofNat_lt.2 hi) h
 · rw [s_conf_saneOwn1]
   exact ok_if (fun h => by omega) fun _ => ok_some trivial
theorem t_taken (a : Int) (l : List Side) (n : Int) (hl : l.length ≤ 9223372036854775807) : Ok (m_conf_taken a l n) fun _ => True := by
 unfold m_conf_taken
 refine ok_if (fun _ => ok_some trivial) fun _ => ok_jn (fun _ => True) (fun k' hk => ok_idx l.length (fun _ => True) hl trivial (fun i hi _ nx hnx => ?_) (fun _ nx => ?_)) fun _ _ => ok_some trivial
 · rw [s_conf_taken1]
   exact ok_if (fun _ => ok_ix (by omega) (by omega) fun hlt => ok_if (fun _ => hk _ trivial) fun _ => hnx trivial) fun h => absurd (Int.ofNat_lt.2 hi) h
 · rw [s_conf_taken1]
   exact ok_if (fun h => by omega) fun _ => hk _ trivial
structure FewC (c : Conf) : Prop where
 own : c.Own.length ≤ 1000
 sides : c.Sides.length ≤ 1000
 ins : ∀ s ∈ c.Sides, s.In.length ≤ 1000
 outs : ∀ s ∈ c.Sides, s.Out.length ≤ 1000
def SideOk (s : Side) : Prop := (1 ≤ s.As ∧ s.As ≤ 4294967295) ∧ (1 ≤ s.Rel ∧ s.Rel ≤ 3) ∧ (∀ x ∈ s.In, RuleOk true x) ∧ ∀ x ∈ s.Out, RuleOk false x
def ConfOk (c : Conf) : Prop := (1 ≤ c.As ∧ c.As ≤ 4294967295) ∧ (1 ≤ c.Id ∧ c.Id ≤ 4294967295) ∧ HoldOk c.Hold ∧ c.Sides.length ≤ 8 ∧ ∀ i (h : i < c.Sides.length), SideOk c.Sides[i]
theorem t_sides (c : Conf) (f : FewC c) : Ok (m_conf_saneSides c) fun b => b = true → c.Sides.length ≤ 8 ∧ ∀ i (h : i < c.Sides.length), SideOk c.Sides[i] := by
 have hs := f.sides
 unfold m_conf_saneSides
 refine ok_if (fun _ => ok_some fun k => Bool.noConfusion k) fun h8 => ok_idx c.Sides.length (fun j => ∀ i (h : i < c.Sides.length), i < j → SideOk c.Sides[i]) (by omega) (fun _ _ h => absurd h (Nat.not_lt_zero _)) (fun i hi hI nx hnx => ?_) (fun hI nx => ?_)
 · have hi1 := f.ins _ (List.getElem_mem hi)
   have ho1 := f.outs _ (List.getElem_mem hi)
   rw [s_conf_saneSides1]
   refine ok_if (fun _ => ok_ix (by omega) (by omega) fun hlt => ?_) fun h => absurd (Int.ofNat_lt.2 hi) h
   simp only [Int.toNat_natCast]
   refine ok_bd (t_number _) fun r1 _ h1 => ok_ifnb (fun _ => ok_some fun k => Bool.noConfusion k) fun q1 => ok_bde (sl_pre (by omega)) (ok_bd (t_taken _ _ _ (by rw [List.length_take]; omega)) fun _ _ _ => ok_ifb (fun _ => ok_some fun k => Bool.noConfusion k) fun _ =>
     ok_if (fun _ => ok_some fun k => Bool.noConfusion k) fun q2 => ok_if (fun _ => ok_some fun k => Bool.noConfusion k) fun q3 => ok_bd (t_rules _ _ (by omega)) fun r4 _ h4 => ok_ifnb (fun _ => ok_some fun k => Bool.noConfusion k) fun q4 =>
     ok_bd (t_rules _ _ (by omega)) fun r5 _ h5 => ok_ifnb (fun _ => ok_some fun k => Bool.noConfusion k) fun q5 => hnx fun j hj hji => ?_)
   rcases Nat.lt_succ_iff_lt_or_eq.1 hji with g | rfl
   · exact hI j hj g
   · exact ⟨h1 q1, ⟨by omega, by omega⟩, h4 q4, h5 q5⟩
 · rw [s_conf_saneSides1]
   exact ok_if (fun h => by omega) fun _ => ok_some fun _ => ⟨by omega, fun i h => hI i h h⟩
theorem t_sane (c : Conf) (f : FewC c) : Ok (m_conf_Sane c) fun b => b = true → ConfOk c := by
 unfold m_conf_Sane
 have := f.own
 exact ok_bd (t_number _) fun r1 _ h1 => ok_ifb (fun q1 => ok_bd (t_number _) fun r2 _ h2 => ok_ifb (fun q2 => ok_bd (t_hold _) fun r3 _ h3 => ok_ifb (fun q3 => ok_bd (t_cap _) fun _ _ _ => ok_ifb (fun _ => ok_bd (t_own _ (by omega)) fun _ _ _ => ok_ifb (fun _ =>
   ok_bd (t_sides c f) fun r6 _ h6 => ok_some fun q6 => ⟨h1 q1, h2 q2, h3 q3, h6 q6⟩) fun _ => ok_some fun k => Bool.noConfusion k) fun _ => ok_some fun k => Bool.noConfusion k) fun _ => ok_some fun k => Bool.noConfusion k) fun _ => ok_some fun k => Bool.noConfusion k) fun _ => ok_some fun k => Bool.noConfusion k
end Go.Proofs.YtibploaibljcmaaGreatDoor
namespace Go.Proofs.YtibploaibljcmaaGreatDoor
open Go.RowKit
set_option linter.unusedVariables false
set_option linter.unusedSimpArgs false
set_option maxRecDepth 100000
set_option maxHeartbeats 1000000
theorem ok_out' {R : Type} {m : Option R} {r : R} (h : Ok m (· = r)) : m = some r := by
 obtain ⟨x, h1, h2⟩ := h
 rw [h1, h2]
theorem law17_awake : m_ridgewaylaw17_awake = some true := by kernel_rfl
def zS : Sess := ⟨0, 0, 0, 0⟩
def SessOk (s : Sess) : Prop :=
 (s.State = 0 ∧ s.Hold = 0 ∧ s.Left = 0 ∧ s.Keep = 0) ∨ (s.State = 1 ∧ s.Hold = 0 ∧ s.Keep = 0 ∧ 1 ≤ s.Left ∧ s.Left ≤ 240) ∨
 ((s.State = 2 ∨ s.State = 3) ∧ s.Hold = 0 ∧ s.Left = 0 ∧ s.Keep = 0) ∨
 ((s.State = 2 ∨ s.State = 3) ∧ (3 ≤ s.Hold ∧ s.Hold ≤ 65535) ∧ (1 ≤ s.Left ∧ s.Left ≤ s.Hold) ∧ 1 ≤ s.Keep ∧ s.Keep ≤ s.Hold / 3)
instance (s : Sess) : Decidable (SessOk s) := by unfold SessOk; infer_instance
theorem third_eq (n : Int) (h : 0 ≤ n ∧ n ≤ 65535) : m_session_third n = some (n / 3) := by
 unfold m_session_third
 rw [Int.tdiv_eq_ediv_of_nonneg h.1, w64 (by omega) (by omega)]
theorem sessSane_eq (s : Sess) : m_session_Sane s = some (decide (SessOk s)) := by
 refine ok_out' ?_
 unfold m_session_Sane
 have no : ¬ SessOk s → Ok (some false) (· = decide (SessOk s)) := fun h => ok_some (decide_eq_false h).symm
 refine ok_if (fun h0 => ok_some ?_) fun h0 => ok_if (fun h1 => ?_) fun h1 => ?_
 · rw [Bool.eq_iff_iff]
   simp only [Bool.and_eq_true, decide_eq_true_eq]
   unfold SessOk
   omega
 · refine ok_if (fun h2 => ok_if (fun h3 => ok_if (fun h4 => ok_some (decide_eq_decide.2 ?_)) fun h4 => no ?_) fun h3 => no ?_) fun h2 => no ?_ <;> unfold SessOk <;> omega
 · refine ok_jn (fun j => j = decide (s.State = 2 ∨ s.State = 3)) (fun k hk => ok_if (fun h2 => hk _ (decide_eq_true (.inl h2)).symm) fun h2 => hk _ (decide_eq_decide.2 (by omega))) fun j hj => ?_
   subst hj
   refine ok_if (fun h2 => ok_if (fun h3 => ok_if (fun h4 => ok_some (decide_eq_decide.2 ?_)) fun h4 => no ?_) fun h3 => ok_if (fun h4 => ok_if (fun h5 => ok_if (fun h6 => ok_if (fun h7 => ok_if (fun h8 => ok_bde (third_eq _ ⟨by omega, by omega⟩) (ok_some (decide_eq_decide.2 ?_))) fun h8 => no ?_) fun h7 => no ?_) fun h6 => no ?_) fun h5 => no ?_) fun h4 => no ?_) fun h2 => no ?_ <;> unfold SessOk <;> omega
def saneR (s : Sess) : Sess := if SessOk s then s else zS
theorem sane_eq (s : Sess) : m_session_sane s = some (saneR s) := by
 refine ok_out' ?_
 unfold m_session_sane
 refine ok_bde (sessSane_eq s) (ok_ifn (fun h => ok_some ?_) fun h => ok_some ?_)
 · unfold saneR; rw [if_neg h]; rfl
 · unfold saneR; rw [if_pos h]
theorem zOk : SessOk zS := .inl ⟨rfl, rfl, rfl, rfl⟩
theorem saneR_ok (s : Sess) : SessOk (saneR s) := by
 unfold saneR
 split
 · assumption
 · exact zOk
theorem saneR_id {s : Sess} (h : SessOk s) : saneR s = s := if_pos h
theorem state0 {s : Sess} (h : SessOk s) (h0 : s.State = 0) : s = zS := by
 obtain ⟨a, b, c, d⟩ := s
 unfold SessOk at h
 dsimp only at h h0
 have : b = 0 ∧ c = 0 ∧ d = 0 := by omega
 obtain ⟨rfl, rfl, rfl⟩ := this
 subst h0
 rfl
def MsgOk (m : Msg) : Prop := ((m.Typ = 1 ∧ 10 ≤ m.Body.length) ∨ (m.Typ = 2 ∧ 4 ≤ m.Body.length) ∨ (m.Typ = 3 ∧ 2 ≤ m.Body.length) ∨ (m.Typ = 4 ∧ m.Body.length = 0)) ∧ m.Body.length ≤ 4077
instance (m : Msg) : Decidable (MsgOk m) := by unfold MsgOk; infer_instance
theorem msgSane_eq (m : Msg) (hl : m.Body.length ≤ 100000) : m_msg_Sane m = some (decide (MsgOk m)) := by
 refine ok_out' ?_
 unfold m_msg_Sane
 rw [w64 (x := (19 : Int) + (m.Body.length : Int)) (by omega) (by omega)]
 have hL : m_msg_Least m.Typ = some (if m.Typ = 1 then 29 else if m.Typ = 2 then 23 else if m.Typ = 3 then 21 else if m.Typ = 4 then 19 else 0) := by
   refine ok_out' ?_
   unfold m_msg_Least
   refine ok_if (fun h => ok_some ?_) fun h => ok_if (fun h => ok_some ?_) fun h => ok_if (fun h => ok_some ?_) fun h => ok_if (fun h => ok_some ?_) fun h => ok_some ?_ <;> simp only [*, if_true, if_false] <;> first | rfl | decide
 have no : ¬ MsgOk m → Ok (some false) (· = decide (MsgOk m)) := fun h => ok_some (decide_eq_false h).symm
 refine ok_bde hL (ok_if (fun h0 => ?_) fun h0 => no ?_)
 · have hW : m_msg_wrong m.Typ (19 + (m.Body.length : Int)) = some (decide (19 + (m.Body.length : Int) < (if m.Typ = 1 then 29 else if m.Typ = 2 then 23 else if m.Typ = 3 then 21 else if m.Typ = 4 then 19 else 0) ∨ (m.Typ = 4 ∧ ¬ m.Body.length = 0))) := by
     refine ok_out' ?_
     unfold m_msg_wrong
     refine ok_bde hL (ok_if (fun h => ok_some ?_) fun h => ok_if (fun h4 => ok_some (decide_eq_decide.2 ?_)) fun h4 => ok_some ?_)
     · exact (decide_eq_true (.inl h)).symm
     · omega
     · exact (decide_eq_false (by omega)).symm
   refine ok_bde hW (ok_ifn (fun h1 => ok_some (decide_eq_decide.2 ?_)) fun h1 => no ?_)
   · unfold MsgOk
     repeat' split at h1
     all_goals omega
   · unfold MsgOk
     repeat' split at h1
     all_goals omega
 · unfold MsgOk
   repeat' split at h0
   all_goals omega
def NoteOk (n : Note) : Prop := (1 ≤ n.Code ∧ n.Code ≤ 255) ∧ (0 ≤ n.Sub ∧ n.Sub ≤ 255) ∧ n.Data.length ≤ 4075
instance (n : Note) : Decidable (NoteOk n) := by unfold NoteOk; infer_instance
theorem noteSane_eq (n : Note) : m_note_Sane n = some (decide (NoteOk n)) := by
 refine ok_out' ?_
 unfold m_note_Sane
 have no : ¬ NoteOk n → Ok (some false) (· = decide (NoteOk n)) := fun h => ok_some (decide_eq_false h).symm
 refine ok_if (fun h1 => ok_if (fun h2 => ok_if (fun h3 => ok_if (fun h4 => ok_some (decide_eq_decide.2 ?_)) fun h => no ?_) fun h => no ?_) fun h => no ?_) fun h => no ?_ <;> unfold NoteOk <;> omega
def noteM (n : Note) : Msg := ⟨3, [toB (IntKind.u8.wrap n.Code), toB (IntKind.u8.wrap n.Sub)] ++ n.Data⟩
theorem notePut_eq {n : Note} (h : NoteOk n) : m_note_Put n = some (noteM n) := by
 refine ok_out' ?_
 have hl := h.2.2
 unfold m_note_Put
 exact ok_bde (noteSane_eq n) (ok_ifn (fun k => absurd h k) fun _ => ok_ap (by simp only [List.length_cons, List.length_nil]; omega) (by simp only [List.length_cons, List.length_nil]; omega) (ok_some rfl))
def endL (s : Sess) (n : Note) : List Msg := if SessOk s ∧ ¬ s.State = 0 ∧ NoteOk n then [noteM n] else []
theorem stop_eq (s : Sess) (n : Note) : m_session_Stop s n = some (zS, endL s n) := by
 refine ok_out' ?_
 unfold m_session_Stop endL
 refine ok_bde (sane_eq s) (ok_if (fun h => ok_some ?_) fun h => ok_bde (noteSane_eq n) (ok_ifn (fun k => ok_some ?_) fun k => ok_bde (notePut_eq k) (ok_some ?_)))
 · rw [if_neg]; · rfl
   rintro ⟨h1, h2, _⟩
   rw [saneR_id h1] at h
   exact h2 h
 · rw [if_neg]; · rfl
   exact fun q => k q.2.2
 · rw [if_pos]; · rfl
   by_cases g : SessOk s
   · rw [saneR_id g] at h; exact ⟨g, h, k⟩
   · exact absurd (by unfold saneR; rw [if_neg g]; rfl) h
def alive1 : Msg := ⟨4, []⟩
end Go.Proofs.YtibploaibljcmaaGreatDoor
namespace Go.Proofs.YtibploaibljcmaaGreatDoor
open Go.RowKit
set_option linter.unusedVariables false
set_option linter.unusedSimpArgs false
set_option maxRecDepth 100000
set_option maxHeartbeats 1000000
def sec (s : Sess) : Sess × List Msg :=
 if s.Left = 0 then (s, []) else if s.Left = 1 then (zS, [noteM ⟨4, 0, []⟩]) else if s.Keep = 0 then (⟨s.State, s.Hold, s.Left - 1, s.Keep⟩, [])
 else if s.Keep > 1 then (⟨s.State, s.Hold, s.Left - 1, s.Keep - 1⟩, []) else (⟨s.State, s.Hold, s.Left - 1, s.Hold / 3⟩, [alive1])
theorem sess_rng {s : Sess} (h : SessOk s) : (0 ≤ s.Left ∧ s.Left ≤ 65535) ∧ (0 ≤ s.Keep ∧ s.Keep ≤ 65535) ∧ 0 ≤ s.Hold ∧ s.Hold ≤ 65535 := by
 unfold SessOk at h
 omega
theorem second_eq {s : Sess} (h : SessOk s) : m_session_second s = some (sec s) := by
 refine ok_out' ?_
 obtain ⟨r1, r2, r3⟩ := sess_rng h
 unfold m_session_second sec
 refine ok_if (fun h0 => ok_some (by rw [if_pos h0])) fun h0 => ok_if (fun h1 => ok_bde (stop_eq s _) (ok_some ?_)) fun h1 => ok_if (fun h2 => ok_some ?_) fun h2 => ok_if (fun h3 => ok_some ?_) fun h3 => ok_bde (third_eq _ r3) (ok_bde (x := [alive1]) rfl (ok_some ?_))
 · rw [if_neg h0, if_pos h1]
   have hs0 : ¬ s.State = 0 := by unfold SessOk at h; omega
   unfold endL
   rw [if_pos ⟨h, hs0, by decide⟩]
 · rw [if_neg h0, if_neg h1, if_pos h2, w64 (by omega) (by omega)]
 · rw [w64 (by omega) (by omega)] at h3
   rw [if_neg h0, if_neg h1, if_neg h2, if_pos (by omega), w64 (by omega) (by omega), w64 (by omega) (by omega)]
 · rw [w64 (by omega) (by omega)] at h3
   rw [if_neg h0, if_neg h1, if_neg h2, if_neg (by omega), w64 (by omega) (by omega)]
theorem sec_ok {s : Sess} (h : SessOk s) : SessOk (sec s).1 := by
 unfold sec
 repeat' split
 · exact h
 · exact zOk
 all_goals unfold SessOk at h ⊢; dsimp only; omega
theorem sec_len (s : Sess) : (sec s).2.length ≤ 1 := by
 unfold sec
 repeat' split
 all_goals simp
def ticks : Nat → Sess → Sess × List Msg
 | 0, s => (s, [])
 | k + 1, s => ((sec (ticks k s).1).1, (ticks k s).2 ++ (sec (ticks k s).1).2)
theorem ticks_ok {s : Sess} (h : SessOk s) : ∀ k, SessOk (ticks k s).1
 | 0 => h
 | k + 1 => sec_ok (ticks_ok h k)
theorem ticks_len (s : Sess) : ∀ k, (ticks k s).2.length ≤ k
 | 0 => Nat.le_refl _
 | k + 1 => by
   have := ticks_len s k
   have := sec_len (ticks k s).1
   simp only [ticks, List.length_append]
   omega
theorem ticks_add (s : Sess) (a : Nat) : ∀ b, ticks (a + b) s = ((ticks b (ticks a s).1).1, (ticks a s).2 ++ (ticks b (ticks a s).1).2)
 | 0 => by simp [ticks]
 | b + 1 => by
   rw [← Nat.add_assoc]
   simp only [ticks, ticks_add s a b, List.append_assoc]
theorem tick_eq (s : Sess) (n : Int) : m_session_Tick s n = some (ticks (if 1000 < n then 1000 else n).toNat (saneR s)) := by
 refine ok_out' ?_
 unfold m_session_Tick
 refine ok_bde (sane_eq s) ?_
 generalize hK : (if (1000 : Int) < n then (1000 : Int) else n) = K
 have hK2 : K ≤ 1000 := by rw [← hK]; split <;> omega
 have hs := saneR_ok s
 generalize saneR s = z at hs
 refine ok_loop (fun st => ∃ i : Nat, i ≤ K.toNat ∧ st = ((ticks i z).2, (i : Int), (ticks i z).1.State, (ticks i z).1.Hold, (ticks i z).1.Left, (ticks i z).1.Keep)) (fun st => (K - st.2.1).toNat) ⟨0, Nat.zero_le _, rfl⟩ (by dsimp only; omega) ?_
 rintro _ ⟨i, hi, rfl⟩ nx hnx
 rw [s_session_Tick1, hK]
 dsimp only at hnx ⊢
 have hl := ticks_len z i
 have hl2 := sec_len (ticks i z).1
 have hw : IntKind.i64.wrap ((i : Int) + 1) = ((i + 1 : Nat) : Int) := by rw [w64 (by omega) (by omega)]; rfl
 refine ok_if (fun h => ok_bde (second_eq (s := (ticks i z).1) (ticks_ok hs i)) (ok_ap (by omega) (by omega) (hnx _ ⟨i + 1, by omega, ?_⟩ (by dsimp only; rw [hw]; omega)))) fun h => ok_some ?_
 · rw [hw]
   rfl
 · have : i = K.toNat := by omega
   subst this
   rfl
end Go.Proofs.YtibploaibljcmaaGreatDoor
namespace Go.Proofs.YtibploaibljcmaaGreatDoor
open Go.RowKit
set_option linter.unusedVariables false
set_option linter.unusedSimpArgs false
set_option maxRecDepth 100000
set_option maxHeartbeats 1000000
theorem t_g (l : List UInt8) (a : Int) (h1 : 1 ≤ a) (h4 : a ≤ 4) : Ok (m_octet_Get l a) fun r => r.2.1.length ≤ l.length ∧ (0 < l.length → r.2.1.length < l.length) := by
 rw [octGet_eq l a h1 h4]
 refine ok_some ?_
 split
 · simp only [List.length_drop]; omega
 · simp
theorem t_t (l : List UInt8) (n : Int) : Ok (m_octet_Take l n) fun r => r.2.1.length ≤ l.length ∧ r.1.length ≤ l.length := by
 rw [octTake_eq]
 refine ok_some ?_
 split
 · simp only [List.length_drop, List.length_take]; omega
 · simp
def RN (c s : Int) : Prop := (c = 0 ∨ c = 2) ∧ 0 ≤ s ∧ s ≤ 255
theorem rn00 : RN 0 0 := ⟨.inl rfl, by decide, by decide⟩
theorem rn20 : RN 2 0 := ⟨.inr rfl, by decide, by decide⟩
theorem ok_ine {R : Type} {Q : R → Prop} {p : Prop} {_ : Decidable p} {A B : Option R} (h1 : ¬ p → Ok A Q) (h2 : p → Ok B Q) : Ok (bif decide (¬ p) then A else B) Q := ok_if h1 fun h => h2 (Decidable.not_not.1 h)
theorem t_readIn {Q : OpenSaid × Note → Prop} (k : (Int × Int × Int × Int) → Option (OpenSaid × Note)) (hk : ∀ j, RN j.1 j.2.1 → Ok (k j) Q) (bk : Int × Int → Option (OpenSaid × Note)) (hbk : ∀ e, Ok (bk e) Q) (l : List UInt8) (a b : Int) (hl : l.length ≤ 10000) :
   Ok (loopC (s_open_read2 k) bk BIG (l, a, b)) Q := by
 refine ok_loop (fun st => st.1.length ≤ 10000) (fun st => st.1.length) hl (by dsimp only; omega) ?_
 rintro ⟨l, a, b⟩ hl nx hnx
 dsimp only at hl hnx
 rw [s_open_read2]
 dsimp only
 refine ok_if (fun h0 => ok_bd (t_g _ 1 (by decide) (by decide)) fun r4 _ h4 => ok_bd (t_g _ 1 (by decide) (by decide)) fun r5 _ h5 => ok_bd (t_t _ _) fun r6 _ h6 => ok_ifnb (fun _ => hk _ rn20) fun _ => ok_ifnb (fun _ => hk _ rn20) fun _ => ok_jn (fun i => RN i.1 i.2.1) (fun k109 hk9 => ?_) fun i hi => ok_ine (fun q => hk _ hi) fun q => hnx _ (by dsimp only; omega) (by dsimp only; omega)) fun _ => hbk _
 have z : ∀ x y : Int, Ok (k109 (0, 0, x, y)) Q := fun x y => hk9 _ rn00
 have two : ∀ s x y : Int, 0 ≤ s ∧ s ≤ 255 → Ok (k109 (2, s, x, y)) Q := fun s x y h => hk9 _ ⟨.inr rfl, h.1, h.2⟩
 refine ok_jn (fun j => j = false → r4.1 = 9 → r6.1.length = 1) (fun k1 hk1 => ?_) fun j hj => ok_ifb (fun _ => two _ _ _ (by decide)) fun hjf => ?_
 · refine ok_if (fun q => ok_if (fun q2 => hk1 _ fun h => Bool.noConfusion h) fun q2 => ok_if (fun q3 => hk1 _ fun h _ => ?_) fun q3 => hk1 _ fun _ h => absurd h q3) fun q => ok_if (fun q3 => hk1 _ fun h _ => ?_) fun q3 => hk1 _ fun _ h => absurd h q3 <;> (have := of_decide_eq_false h; omega)
 · have one : r4.1 = 9 → ∀ {K : UInt8 → Option (OpenSaid × Note)}, (∀ y, Ok (K y) Q) → Ok (bd (ix r6.1 0) K) Q := fun h9 K hK => by
     have := hj hjf h9
     exact ok_ix (by decide) (by omega) fun _ => hK _
   refine ok_if (fun _ => ok_if (fun _ => ok_bd (t_g _ 4 (by decide) (by decide)) fun r7 _ _ => z _ _) fun _ => ok_if (fun h9 => ok_if (fun _ => one h9 fun _ => z _ _) fun _ => ok_if (fun h9 => one h9 fun y => ok_ine (fun _ => two _ _ _ (by decide)) fun _ => z _ _) fun _ => z _ _) fun _ => ok_if (fun h9 => one h9 fun y => ok_ine (fun _ => two _ _ _ (by decide)) fun _ => z _ _) fun _ => z _ _)
     fun _ => ok_if (fun h9 => ok_if (fun _ => one h9 fun _ => z _ _) fun _ => ok_if (fun h9 => one h9 fun y => ok_ine (fun _ => two _ _ _ (by decide)) fun _ => z _ _) fun _ => z _ _) fun _ => ok_if (fun h9 => one h9 fun y => ok_ine (fun _ => two _ _ _ (by decide)) fun _ => z _ _) fun _ => z _ _
theorem t_openRead (l : List UInt8) (hl : l.length ≤ 10000) : Ok (m_open_read l) fun r => RN r.2.Code r.2.Sub ∧ r.2.Data = [] := by
 unfold m_open_read
 refine ok_jn (fun i => RN i.1 i.2.1) (fun k hk => ?_) fun i hi => ok_some ⟨hi, rfl⟩
 refine ok_loop (fun st => st.1.length ≤ 10000) (fun st => st.1.length) hl (by dsimp only; omega) ?_
 rintro ⟨l, a, b⟩ hl nx hnx
 dsimp only at hl hnx
 rw [s_open_read1]
 dsimp only
 refine ok_if (fun h0 => ok_bd (t_g _ 1 (by decide) (by decide)) fun r1 _ h1 => ok_bd (t_g _ 1 (by decide) (by decide)) fun r2 _ h2 => ok_bd (t_t _ _) fun r3 _ h3 => ok_ifnb (fun _ => hk _ rn20) fun _ => ok_ifnb (fun _ => hk _ rn20) fun _ => ok_jn (fun i => RN i.1 i.2.1) (fun k6 hk6 => ?_) fun i hi => ok_ine (fun q => hk _ hi) fun q => hnx _ (by dsimp only; omega) (by dsimp only; omega)) fun _ => hk _ rn00
 refine ok_ine (fun _ => hk6 _ ⟨.inr rfl, (by show (0 : Int) ≤ 4; decide), (by show (4 : Int) ≤ 255; decide)⟩) fun _ => ok_jn (fun i => RN i.1 i.2.1) (fun k7 hk7 => ?_) fun i hi => hk6 _ hi
 exact t_readIn k7 hk7 _ (fun e => hk7 _ rn00) _ _ _ (by omega)
theorem t_fault (x : OpenSaid) (a b hold id : Int) : Ok (m_open_fault x a b hold id) fun n => (n.Code = 0 → HoldOk hold) ∧ RN n.Code n.Sub ∧ n.Data.length ≤ 4 := by
 unfold m_open_fault
 have bad : ∀ s : Int, 0 ≤ s ∧ s ≤ 255 → ∀ d : List UInt8, d.length ≤ 4 → Ok (some (Note.mk 2 s d)) fun n => (n.Code = 0 → HoldOk hold) ∧ RN n.Code n.Sub ∧ n.Data.length ≤ 4 := fun s hs d hd => ok_some ⟨fun h => absurd h (by simp), ⟨.inr rfl, hs.1, hs.2⟩, hd⟩
 refine ok_if (fun _ => bad _ (by decide) _ (by decide)) fun _ => ok_if (fun _ => bad _ (by decide) _ (by decide)) fun _ => ok_ine (fun _ => bad _ (by decide) _ (by decide)) fun _ => ok_bde (openShort_eq _) (ok_ine (fun _ => bad _ (by decide) _ (by decide)) fun _ => ok_bde (openHolds_eq _) (ok_ifn (fun _ => bad _ (by decide) _ (by decide)) fun hh => ok_if (fun _ => bad _ (by decide) _ (by decide)) fun _ => ok_some ⟨fun _ => hh, ⟨.inl rfl, by decide, by decide⟩, by decide⟩))
theorem rn_ok {c s : Int} {d : List UInt8} (h : RN c s) (h0 : ¬ c = 0) (hd : d.length ≤ 4) : NoteOk ⟨c, s, d⟩ := by
 unfold RN at h
 unfold NoteOk
 dsimp only
 omega
theorem t_openGet (m : Msg) (a : Int) (hl : m.Body.length ≤ 5000) : Ok (m_open_Get m a) fun r => (r.2.Code = 0 → HoldOk r.1.Hold) ∧ (¬ r.2.Code = 0 → NoteOk r.2) := by
 unfold m_open_Get
 have bad : ∀ (x : Hello) (s : Int), 0 ≤ s ∧ s ≤ 255 → ∀ d : List UInt8, d.length ≤ 4 → Ok (some (x, Note.mk 2 s d)) fun r : Hello × Note => (r.2.Code = 0 → HoldOk r.1.Hold) ∧ (¬ r.2.Code = 0 → NoteOk r.2) := fun x s hs d hd => ok_some ⟨fun h => absurd h (by simp), fun h => rn_ok ⟨.inr rfl, hs.1, hs.2⟩ h hd⟩
 refine ok_ine (fun _ => bad _ _ (by decide) _ (by decide)) fun _ => ok_bde (msgSane_eq m (by omega)) (ok_ifn (fun _ => bad _ _ (by decide) _ (by decide)) fun hm => ?_)
 refine ok_bd (t_g _ 1 (by decide) (by decide)) fun r2 _ h2 => ok_bd (t_g _ 2 (by decide) (by decide)) fun r3 _ h3 => ok_bd (t_g _ 2 (by decide) (by decide)) fun r4 _ h4 => ok_bd (t_g _ 4 (by decide) (by decide)) fun r5 _ h5 => ok_bd (t_g _ 1 (by decide) (by decide)) fun r6 _ h6 => ?_
 refine ok_ine (fun _ => ok_bde (octPut_eq _ _ _ (by decide) (by decide) (by simp)) (bad _ _ (by decide) _ (by rw [List.nil_append, putL_length]; decide))) fun _ => ok_ine (fun _ => bad _ _ (by decide) _ (by decide)) fun _ => ok_bd (t_openRead _ (by omega)) fun r8 _ h8 => ?_
 refine ok_jn (fun j => (j.1 = 0 → HoldOk r4.1) ∧ (¬ j.1 = 0 → NoteOk ⟨j.1, j.2.1, j.2.2⟩)) (fun k hk => ok_if (fun q => ok_bd (t_fault _ _ _ _ _) fun r9 _ h9 => hk _ ⟨h9.1, fun h => rn_ok h9.2.1 h h9.2.2⟩) fun q => hk _ ⟨fun h => absurd h q, fun h => rn_ok h8.1 h (by rw [h8.2]; exact Nat.zero_le _)⟩) fun j hj => ok_ine (fun q => ok_some ⟨fun h => absurd h q, fun h => hj.2 h⟩) fun q => ok_some ⟨fun _ => hj.1 q, fun h => absurd rfl h⟩
def pairsB (a b : Int) : Bool := (a == 0 && b == 3) || (a == 1 && b == 2) || (a == 3 && b == 0) || (a == 2 && b == 1) || (a == 4 && b == 4)
theorem pairs_eq (a b : Int) : m_role_Pairs a b = some (pairsB a b) := by
 refine ok_out' ?_
 unfold m_role_Pairs
 have hit : ∀ x y : Int, (decide (x = a) = true ∧ decide (y = b) = true ∧ ((x = 0 ∧ y = 3) ∨ (x = 1 ∧ y = 2) ∨ (x = 3 ∧ y = 0) ∨ (x = 2 ∧ y = 1) ∨ (x = 4 ∧ y = 4))) → true = pairsB a b := fun x y h => by
   obtain ⟨h1, h2, h3⟩ := h
   have h1 := of_decide_eq_true h1
   have h2 := of_decide_eq_true h2
   subst h1 h2
   rcases h3 with ⟨rfl, rfl⟩ | ⟨rfl, rfl⟩ | ⟨rfl, rfl⟩ | ⟨rfl, rfl⟩ | ⟨rfl, rfl⟩ <;> rfl
 refine ok_idx 5 (fun i => (0 < i → ¬ (a = 0 ∧ b = 3)) ∧ (1 < i → ¬ (a = 1 ∧ b = 2)) ∧ (2 < i → ¬ (a = 3 ∧ b = 0)) ∧ (3 < i → ¬ (a = 2 ∧ b = 1)) ∧ (4 < i → ¬ (a = 4 ∧ b = 4))) (by omega) (by omega) (fun i hi hI nx hnx => ?_) (fun hI nx => ?_)
 · rw [s_role_Pairs1]
   refine ok_if (fun _ => ?_) fun h => by omega
   refine ok_if (fun h => ok_if (fun g => ok_if (fun g2 => ok_some ?_) fun g2 => hnx (by omega)) fun g => hnx (by omega)) fun h => ok_if (fun h => ok_if (fun g => ok_if (fun g2 => ok_some ?_) fun g2 => hnx (by omega)) fun g => hnx (by omega)) fun h => ok_if (fun h => ok_if (fun g => ok_if (fun g2 => ok_some ?_) fun g2 => hnx (by omega)) fun g => hnx (by omega)) fun h => ok_if (fun h => ok_if (fun g => ok_if (fun g2 => ok_some ?_) fun g2 => hnx (by omega)) fun g => hnx (by omega)) fun h => ok_if (fun h => ok_if (fun g => ok_if (fun g2 => ok_some ?_) fun g2 => hnx (by omega)) fun g => hnx (by omega)) fun h => by omega
   all_goals subst g g2; rfl
 · rw [s_role_Pairs1]
   refine ok_if (fun h => by omega) fun _ => ok_some ?_
   obtain ⟨h1, h2, h3, h4, h5⟩ := hI
   symm
   unfold pairsB
   rw [← Bool.not_eq_true]
   simp only [Bool.or_eq_true, Bool.and_eq_true, beq_iff_eq]
   omega
theorem mine_eq (r : Int) : m_role_Mine r = some (if r = 1 then 0 else if r = 2 then 4 else if r = 3 then 3 else -1) := by
 refine ok_out' ?_
 unfold m_role_Mine
 exact ok_if (fun h => ok_some (by rw [if_pos h])) fun h1 => ok_if (fun h => ok_some (by rw [if_neg h1, if_pos h])) fun h2 => ok_if (fun h => ok_some (by rw [if_neg h1, if_neg h2, if_pos h])) fun h3 => ok_some (by rw [if_neg h1, if_neg h2, if_neg h3])
def minI (a b : Int) : Int := if b < a then b else a
theorem minI_ok {a b : Int} (ha : HoldOk a) (hb : HoldOk b) : HoldOk (minI a b) := by
 unfold minI
 split <;> assumption
def Waits (s : Sess) (m : Msg) : Prop := (s.State = 1 ∧ m.Typ = 1) ∨ (s.State = 2 ∧ m.Typ = 4) ∨ (s.State = 3 ∧ (m.Typ = 4 ∨ m.Typ = 2))
inductive TakeR (s : Sess) (m : Msg) (th : Prop) : Sess × List Msg × Bool → Prop where
 | none (h : ¬ (th ∧ MsgOk m)) : TakeR s m th (saneR s, [], false)
 | notice (h : m.Typ = 3) : TakeR s m th (zS, [], false)
 | idle (h : (saneR s).State = 0) : TakeR s m th (saneR s, [], false)
 | ended (n : Note) (ok : SessOk s) (h0 : ¬ s.State = 0) (hm : ¬ m.Typ = 3) (hn : NoteOk n) (h : (n.Code = 5 ∧ n.Sub = s.State ∧ ¬ Waits s m) ∨ (s.State = 1 ∧ m.Typ = 1)) : TakeR s m th (zS, [noteM n], false)
 | conf (hd : Int) (ok : SessOk s) (h : s.State = 1 ∧ m.Typ = 1) (hh : HoldOk hd) : TakeR s m th (⟨2, hd, hd, hd / 3⟩, [alive1], false)
 | up (ok : SessOk s) (hm : ¬ m.Typ = 3) (h : (s.State = 2 ∧ m.Typ = 4) ∨ (s.State = 3 ∧ ¬ m.Typ = 1)) : TakeR s m th (⟨3, s.Hold, s.Hold, s.Keep⟩, [], decide (s.State = 3 ∧ m.Typ = 2))
theorem there_eq {c : Conf} {b : Bool} (hc : m_conf_Sane c = some b) (k : Int) : m_session_there c k = some (decide (b = true ∧ 0 ≤ k ∧ k < c.Sides.length)) := by
 refine ok_out' ?_
 unfold m_session_there
 refine ok_if (fun h => ok_if (fun h2 => ok_bde hc (ok_some ?_)) fun h2 => ok_some ?_) fun h => ok_some ?_
 · cases b with
   | true => exact (decide_eq_true ⟨rfl, h, h2⟩).symm
   | false => exact (decide_eq_false fun q => by cases q.1).symm
 · exact (decide_eq_false fun q => h2 q.2.2).symm
 · exact (decide_eq_false fun q => h q.2.1).symm
theorem end_eq {t : SessionTurn} {n : Note} (ok : SessOk t.s) (h0 : ¬ t.s.State = 0) (hn : NoteOk n) : m_session_turn__end t n = some (zS, [noteM n], false) := by
 refine ok_out' ?_
 unfold m_session_turn__end
 refine ok_bde (stop_eq _ _) (ok_some ?_)
 unfold endL
 rw [if_pos ⟨ok, h0, hn⟩]
def mineR (r : Int) : Int := if r = 1 then 0 else if r = 2 then 4 else if r = 3 then 3 else -1
theorem start_ok (s : Sess) (c : Conf) (k : Int) {b : Bool} (hc : m_conf_Sane c = some b) (hb : b = true → ConfOk c) :
   Ok (m_session_Start s c k) fun r => (r = (saneR s, []) ∧ ¬ ((saneR s).State = 0 ∧ b = true ∧ 0 ≤ k ∧ k < c.Sides.length)) ∨ ((saneR s).State = 0 ∧ ∃ y, c.Sides[k.toNat]? = some y ∧ openOk ⟨c.As, c.Hold, c.Id, mineR y.Rel⟩ ∧ r = (⟨1, 0, 240, 0⟩, [⟨1, openBody ⟨c.As, c.Hold, c.Id, mineR y.Rel⟩⟩])) := by
 unfold m_session_Start
 refine ok_bde (sane_eq s) (ok_ine (fun h => ok_some (.inl ⟨rfl, fun q => h q.1⟩)) fun h0 => ok_bde (there_eq hc k) (ok_ifn (fun h => ok_some (.inl ⟨rfl, fun q => h q.2⟩)) fun hth => ?_))
 have co := hb hth.1
 have hlt : k.toNat < c.Sides.length := by omega
 have so := co.2.2.2.2 _ hlt
 have oo : openOk ⟨c.As, c.Hold, c.Id, mineR c.Sides[k.toNat].Rel⟩ := by
   refine ⟨co.1, co.2.1, co.2.2.1, ?_⟩
   have := so.2.1
   show -1 ≤ mineR _ ∧ mineR _ ≤ 4
   unfold mineR
   repeat' split
   all_goals omega
 have hh : m_session_Hello c k = some ⟨c.As, c.Hold, c.Id, mineR c.Sides[k.toNat].Rel⟩ := by
   refine ok_out' ?_
   unfold m_session_Hello
   exact ok_bde (there_eq hc k) (ok_ifn (fun h => absurd hth h) fun _ => ok_ix hth.2.1 hth.2.2 fun _ => ok_bde (mine_eq _) (ok_some rfl))
 exact ok_bde hh (ok_bde (openPut_eq _ oo) (ok_some (.inr ⟨h0, _, List.getElem?_eq_getElem hlt, oo, rfl⟩)))
end Go.Proofs.YtibploaibljcmaaGreatDoor
namespace Go.Proofs.YtibploaibljcmaaGreatDoor
open Go.RowKit
set_option linter.unusedVariables false
set_option linter.unusedSimpArgs false
set_option maxRecDepth 100000
set_option maxHeartbeats 1000000
def deadM : Msg := noteM ⟨4, 0, []⟩
end Go.Proofs.YtibploaibljcmaaGreatDoor
namespace Go.Proofs.YtibploaibljcmaaGreatDoor
open Go.RowKit
set_option linter.unusedVariables false
set_option linter.unusedSimpArgs false
set_option maxRecDepth 100000
set_option maxHeartbeats 1000000
theorem t_few (c : Conf) (hl : c.Sides.length ≤ 9223372036854775807) : Ok (m_ridgewayref12_Few c) fun b => b = true → FewC c := by
 unfold m_ridgewayref12_Few
 refine ok_idx c.Sides.length (fun j => ∀ i (h : i < c.Sides.length), i < j → c.Sides[i].In.length ≤ 20 ∧ c.Sides[i].Out.length ≤ 20) hl (fun _ _ h => absurd h (Nat.not_lt_zero _)) (fun i hi hI nx hnx => ?_) (fun hI nx => ?_)
 · rw [s_ridgewayref12_Few1]
   refine ok_if (fun _ => ok_ix (by omega) (by omega) fun hlt => ok_if (fun _ => ok_some fun k => Bool.noConfusion k) fun h1 => ok_ix (by omega) (by omega) fun hlt => ok_if (fun _ => ok_some fun k => Bool.noConfusion k) fun h2 => hnx fun j hj hji => ?_) fun h => absurd (Int.ofNat_lt.2 hi) h
   simp only [Int.toNat_natCast] at h1 h2
   rcases Nat.lt_succ_iff_lt_or_eq.1 hji with g | rfl
   · exact hI j hj g
   · exact ⟨by omega, by omega⟩
 · rw [s_ridgewayref12_Few1]
   refine ok_if (fun h => by omega) fun _ => ok_if (fun h1 => ok_some fun k => ?_) fun _ => ok_some fun k => Bool.noConfusion k
   have k := of_decide_eq_true k
   refine ⟨by omega, by omega, fun s hs => ?_, fun s hs => ?_⟩
   · obtain ⟨i, h, rfl⟩ := List.getElem_of_mem hs
     have := hI i h h
     omega
   · obtain ⟨i, h, rfl⟩ := List.getElem_of_mem hs
     have := hI i h h
     omega
end Go.Proofs.YtibploaibljcmaaGreatDoor
namespace Go.Proofs.YtibploaibljcmaaGreatDoor
open Go.RowKit
set_option linter.unusedVariables false
set_option linter.unusedSimpArgs false
set_option maxRecDepth 100000
set_option maxHeartbeats 1000000
theorem t_short (c : Conf) (m : Msg) (hl : c.Sides.length ≤ 9223372036854775807) : Ok (m_ridgewaylaw17_short c m) fun b => b = true → FewC c ∧ m.Body.length ≤ 5000 := by
 unfold m_ridgewaylaw17_short
 exact ok_bd (t_few c hl) fun r _ hr => ok_ifb (fun h => ok_some fun k => ⟨hr h, by have := of_decide_eq_true k; omega⟩) fun _ => ok_some fun k => Bool.noConfusion k
end Go.Proofs.YtibploaibljcmaaGreatDoor
namespace Go.Proofs.YtibploaibljcmaaGreatDoor
open Go.RowKit
set_option linter.unusedVariables false
set_option linter.unusedSimpArgs false
set_option maxRecDepth 100000
set_option maxHeartbeats 2000000
theorem ok_out {R : Type} {m : Option R} {r : R} (h : Ok m (· = r)) : m = some r := by
 obtain ⟨x, e, rfl⟩ := h
 exact e
theorem ok_same {m m' : Option Bool} {P : Prop} (h : Ok m fun b => b = true ↔ P) (h' : Ok m' fun b => b = true ↔ P) : m = m' := by
 obtain ⟨b, e, hb⟩ := h
 obtain ⟨b', e', hb'⟩ := h'
 rw [e, e']
 congr 1
 cases b <;> cases b' <;> simp_all
theorem lo_eq (v : Int) : IntKind.i64.wrap ((BitVec.ofInt IntKind.i64.bits v &&& BitVec.ofInt IntKind.i64.bits (4294967295 : Int)).toNat : Int) = v % 4294967296 := by
 have h := and_mask v 32 (by omega)
 rw [show ((2 : Int) ^ 32 - 1) = 4294967295 by decide, show ((2 : Int) ^ 32) = 4294967296 by decide] at h
 exact h
def lowCut (a n : Int) : Int := a % 4294967296 - a % 4294967296 % (2 : Int) ^ (32 - n).toNat
theorem cut_rng (a n : Int) : 0 ≤ lowCut a n ∧ lowCut a n < 4294967296 := by
 have h0 := Int.emod_nonneg a (show (4294967296 : Int) ≠ 0 by decide)
 have h1 := Int.emod_lt_of_pos a (show (0 : Int) < 4294967296 by decide)
 have hp : (0 : Int) < 2 ^ (32 - n).toNat := Int.pow_pos (by decide)
 have h2 := Int.emod_nonneg (a % 4294967296) (show (2 : Int) ^ (32 - n).toNat ≠ 0 by omega)
 have h3 : a % 4294967296 % (2 : Int) ^ (32 - n).toNat ≤ a % 4294967296 := by
   have := Int.emod_def (a % 4294967296) ((2 : Int) ^ (32 - n).toNat)
   have hq : 0 ≤ (a % 4294967296) / (2 : Int) ^ (32 - n).toNat := Int.ediv_nonneg h0 (by omega)
   have := Int.mul_nonneg (Int.le_of_lt hp) hq
   omega
 unfold lowCut
 omega
theorem mask_val (a n : Int) (h : 0 ≤ n ∧ n ≤ 32) : m_prefix_Mask a n = some (lowCut a n) := by
 unfold m_prefix_Mask
 have e1 : (if (0 : Int) > n then (0 : Int) else n) = n := if_neg (by omega)
 have e2 : (if (32 : Int) < n then (32 : Int) else n) = n := if_neg (by omega)
 have e3 : IntKind.i64.wrap (32 - n) = 32 - n := w64 (by omega) (by omega)
 have e4 : min (32 - n).toNat IntKind.i64.bits = (32 - n).toNat := Nat.min_eq_left (show (32 - n).toNat ≤ 64 by omega)
 rw [e1, e2, e3, nn_some (by omega), nn_some (by omega), e4, lo_eq]
 have hp : (0 : Int) < 2 ^ (32 - n).toNat := Int.pow_pos (by decide)
 have hr := cut_rng a n
 rw [Int.fdiv_eq_ediv_of_nonneg _ (Int.le_of_lt hp)]
 have hd := Int.emod_def (a % 4294967296) ((2 : Int) ^ (32 - n).toNat)
 have he : a % 4294967296 / (2 : Int) ^ (32 - n).toNat * (2 : Int) ^ (32 - n).toNat = lowCut a n := by
   unfold lowCut
   rw [hd, Int.mul_comm]
   omega
 rw [he, w64 (by omega) (by omega)]
theorem size_val (n : Int) (h : 0 ≤ n ∧ n ≤ 32) : m_ridgewayref02_size n = some ((2 : Int) ^ (32 - n).toNat) := by
 refine ok_out ?_
 unfold m_ridgewayref02_size
 rw [show (if (0 : Int) > n then (0 : Int) else n) = n from if_neg (by omega)]
 refine ok_loop (fun st => ∃ j : Nat, st.2 = n + (j : Int) ∧ n + (j : Int) ≤ 32 ∧ st.1 = (2 : Int) ^ j) (fun st => (32 - st.2).toNat) ⟨0, by simp, by omega, rfl⟩ (by dsimp only; omega) ?_
 rintro ⟨_, _⟩ ⟨j, rfl, hj, rfl⟩ nx hnx
 rw [s_ridgewayref02_size1]
 dsimp only at hnx ⊢
 refine ok_if (fun hlt => ?_) fun hge => ok_some ?_
 · have hw : IntKind.i64.wrap (n + (j : Int) + 1) = n + ((j + 1 : Nat) : Int) := by rw [w64 (by omega) (by omega)]; omega
   have hb : (2 : Int) ^ j ≤ 2 ^ 32 := by
     have := Nat.pow_le_pow_right (n := 2) (by omega) (show j ≤ 32 by omega)
     exact_mod_cast this
   have hb0 : (0 : Int) < 2 ^ j := Int.pow_pos (by decide)
   have h32 : (2 : Int) ^ 32 = 4294967296 := by decide
   refine hnx _ ⟨j + 1, hw, by omega, ?_⟩ (by dsimp only; rw [hw]; omega)
   dsimp only
   rw [w64 (by omega) (by omega), Int.pow_succ]
 · have : j = (32 - n).toNat := by omega
   rw [this]
theorem rmask_val (a n : Int) (h : 0 ≤ n ∧ n ≤ 32) : m_ridgewayref02_Mask a n = some (lowCut a n) := by
 unfold m_ridgewayref02_Mask
 have hp : (0 : Int) < 2 ^ (32 - n).toNat := Int.pow_pos (by decide)
 have hr := cut_rng a n
 rw [size_val n h, bd_some, nz_some (by omega), lo_eq, Int.tmod_eq_emod_of_nonneg (Int.emod_nonneg a (by decide))]
 show some (IntKind.i64.wrap (lowCut a n)) = _
 rw [w64 (by omega) (by omega)]
def PrefixOk (x : Prefix) : Prop := (0 ≤ x.N ∧ x.N ≤ 32) ∧ lowCut x.A x.N = x.A
theorem t_psane (x : Prefix) : Ok (m_prefix_Sane x) fun b => b = true ↔ PrefixOk x := by
 unfold m_prefix_Sane PrefixOk
 refine ok_if (fun h1 => ok_if (fun h2 => ok_bde (mask_val _ _ ⟨h1, h2⟩) (ok_some ?_)) fun h => ok_some ?_) fun h => ok_some ?_
 · rw [decide_eq_true_eq]
   exact ⟨fun k => ⟨⟨h1, h2⟩, k⟩, fun k => k.2⟩
 · exact ⟨fun k => Bool.noConfusion k, fun k => by omega⟩
 · exact ⟨fun k => Bool.noConfusion k, fun k => by omega⟩
theorem t_rsane (x : Prefix) : Ok (m_ridgewayref02_Sane x) fun b => b = true ↔ PrefixOk x := by
 unfold m_ridgewayref02_Sane PrefixOk
 have hr := cut_rng x.A x.N
 refine ok_if (fun h1 => ok_if (fun h2 => ok_if (fun h3 => ok_if (fun h4 => ok_bde (rmask_val _ _ ⟨h1, h2⟩) (ok_some ?_)) fun h => ok_some ?_) fun h => ok_some ?_) fun h => ok_some ?_) fun h => ok_some ?_
 · rw [decide_eq_true_eq]
   exact ⟨fun k => ⟨⟨h1, h2⟩, k⟩, fun k => k.2⟩
 all_goals exact ⟨fun k => Bool.noConfusion k, fun k => by omega⟩
theorem psane_eq (x : Prefix) : m_ridgewayref02_Sane x = m_prefix_Sane x := ok_same (t_rsane x) (t_psane x)
theorem bd_id {α : Type} (m : Option α) : bd m (fun x => some x) = m := by
 cases m with
 | none => exact bd_none _
 | some x => exact bd_some
theorem rsane_eq (x : Rule) (b : Bool) : m_ridgewayref10_Sane x b = m_policy_Sane x b := by
 unfold m_ridgewayref10_Sane m_ridgewayref10_match m_policy_Sane m_policy_saneMatch m_policy_saneAct
 rw [psane_eq]
 obtain ⟨o, e, _⟩ := t_psane x.X
 rw [e]
 have l1 : decide (x.N < 400) = decide (x.N ≤ 399) := decide_eq_decide.2 (by omega)
 rw [l1]
 have hM : x.Match = 0 ∨ x.Match = 1 ∨ x.Match = 2 ∨ x.Match = 3 ∨ x.Match = 4 ∨ (¬ x.Match = 0 ∧ ¬ x.Match = 1 ∧ ¬ x.Match = 2 ∧ ¬ x.Match = 3 ∧ ¬ x.Match = 4) := by omega
 have hA : x.Act = 0 ∨ x.Act = 1 ∨ x.Act = 2 ∨ x.Act = 3 ∨ (¬ x.Act = 0 ∧ ¬ x.Act = 1 ∧ ¬ x.Act = 2 ∧ ¬ x.Act = 3) := by omega
 generalize (decide (x.X.A = 0) && decide (x.X.N = 0)) = z
 generalize decide (x.V = 0) = v0
 generalize decide (x.V ≥ 1) = v1
 generalize decide (x.V ≤ 4294967295) = v2
 generalize decide (x.V ≥ 0) = v3
 generalize decide (x.V ≤ 32) = v4
 generalize decide (x.V ≤ 3) = v5
 generalize decide (x.N = 0) = n0
 generalize decide (x.N ≥ 1) = n1
 generalize decide (x.N ≤ 399) = n2
 generalize decide (x.N ≤ 8) = n3
 rcases hM with h | h | h | h | h | ⟨g0, g1, g2, g3, g4⟩ <;> rcases hA with k | k | k | k | ⟨k0, k1, k2, k3⟩ <;> cases b <;> cases z <;> cases o <;> simp [*, bd_some, bd_id] <;> (try (cases v0 <;> cases v1 <;> cases v2 <;> cases v3 <;> cases v4 <;> cases v5 <;> simp [bd_some, bd_id]))
theorem ok_outk {R : Type} {m : Option R} {r : R} (h : Ok m (· = r)) : m = some r := by
 obtain ⟨x, h1, h2⟩ := h
 rw [h1, h2]
theorem byteK (v : Int) : toB (IntKind.u8.wrap v) = octAt v 0 := by
 unfold toB octAt
 rw [u8wrap_eq]
 simp
theorem u64wK {x : Int} (h : 0 ≤ x ∧ x < 18446744073709551616) : IntKind.u64.wrap x = x := by
 simp only [IntKind.wrap, IntKind.signed, IntKind.bits, Bool.false_and, Bool.false_eq_true, if_false]
 exact Int.emod_eq_of_lt h.1 h.2
theorem ref1Put_eq (l : List UInt8) (v : Int) (k : Nat) (hk : 1 ≤ k ∧ k ≤ 4) (hb : l.length ≤ 1000000) : m_ridgewayref01_Put l v (k : Int) = some (l ++ putL v k) := by
 refine ok_outk ?_
 unfold m_ridgewayref01_Put
 refine ok_ap (by simp; omega) (by simp; omega) (ok_if (fun h => by omega) fun _ => ok_if (fun h => by omega) fun _ => ?_)
 rw [List.nil_append, w64 (x := (k : Int) - 1) (by omega) (by omega)]
 refine ok_loop (fun st => ∃ i : Nat, i ≤ k ∧ st = (l ++ (putL v k).take i, (k : Int) - 1 - (i : Int))) (fun st => (st.2 + 1).toNat) ⟨0, by omega, by simp⟩ (by dsimp only; omega) ?_
 rintro _ ⟨i, hi, rfl⟩ nx hnx
 rw [s_ridgewayref01_Put1]
 dsimp only at hnx ⊢
 refine ok_if (fun h => ?_) fun h => ok_some ?_
 · have hw : IntKind.i64.wrap ((8 : Int) * ((k : Int) - 1 - (i : Int))) = ((8 * (k - 1 - i) : Nat) : Int) := by rw [w64 (by omega) (by omega)]; omega
   have hu : IntKind.u64.wrap ((8 * (k - 1 - i) : Nat) : Int) = ((8 * (k - 1 - i) : Nat) : Int) := u64wK ⟨by omega, by omega⟩
   rw [hw, hu, nn_some (by omega), Int.toNat_natCast, show IntKind.i64.bits = 64 from rfl, u8_fdiv' _ _ (by omega)]
   have hw2 : IntKind.i64.wrap ((k : Int) - 1 - (i : Int) - 1) = (k : Int) - 1 - ((i + 1 : Nat) : Int) := by rw [w64 (by omega) (by omega)]; omega
   have hlen : ((putL v k).take i).length ≤ 4 := by rw [List.length_take, putL_length]; omega
   refine ok_ap (by simp only [List.length_append, List.length_singleton]; omega) (by simp only [List.length_append, List.length_singleton]; omega) (hnx _ ⟨i + 1, by omega, ?_⟩ (by dsimp only; rw [hw2]; omega))
   rw [putL_step _ _ i (by omega), hw2, List.append_assoc]
 · rw [show i = k by omega, List.take_of_length_le (by rw [putL_length]; omega)]
end Go.Proofs.YtibploaibljcmaaGreatDoor
namespace Go.Proofs.YtibploaibljcmaaGreatDoor
open Go.RowKit
set_option linter.unusedVariables false
set_option linter.unusedSimpArgs false
set_option maxRecDepth 100000
set_option maxHeartbeats 2000000
theorem hold_eq (n : Int) : m_ridgewayref12_Hold n = m_conf_saneHold n := rfl
theorem t_polT (x : Rule) (b : Bool) : Ok (m_policy_Sane x b) fun r => r = true ↔ m_policy_Sane x b = some true := by
 obtain ⟨r, e, _⟩ := t_rule x b
 refine ⟨r, e, ?_⟩
 rw [e]
 exact ⟨fun h => by rw [h], fun h => by cases h; rfl⟩
def RulesB (l : List Rule) (b : Bool) : Prop := l.length ≤ 8 ∧ ∀ i (h : i < l.length), m_policy_Sane l[i] b = some true
theorem t_rulesB (l : List Rule) (b : Bool) (hl : l.length ≤ 9223372036854775807) : Ok (m_conf_saneRules l b) fun r => r = true ↔ RulesB l b := by
 unfold m_conf_saneRules RulesB
 refine ok_if (fun h => ok_some ⟨fun k => Bool.noConfusion k, fun k => by omega⟩) fun h8 => ok_idx l.length (fun j => ∀ i (h : i < l.length), i < j → m_policy_Sane l[i] b = some true) hl (fun _ _ h => absurd h (Nat.not_lt_zero _)) (fun i hi hI nx hnx => ?_) (fun hI nx => ?_)
 · rw [s_conf_saneRules1]
   refine ok_if (fun _ => ok_ix (by omega) (by omega) fun hlt => ok_bd (t_polT _ _) fun r _ hr => ok_ifnb (fun h => ok_some ⟨fun k => Bool.noConfusion k, fun k => ?_⟩) fun h => hnx fun j hj hji => ?_) fun h => absurd (Int.ofNat_lt.2 hi) h
   · have := hr.2 (by simpa using k.2 i hi); rw [this] at h; cases h
   · rcases Nat.lt_succ_iff_lt_or_eq.1 hji with g | rfl
     · exact hI j hj g
     · simpa using hr.1 h
 · rw [s_conf_saneRules1]
   exact ok_if (fun h => by omega) fun _ => ok_some ⟨fun _ => ⟨by omega, fun i h => hI i h h⟩, fun _ => rfl⟩
theorem t_rrulesB (l : List Rule) (b : Bool) (hl : l.length ≤ 9223372036854775807) : Ok (m_ridgewayref12_rules l b) fun r => r = true ↔ RulesB l b := by
 unfold m_ridgewayref12_rules RulesB
 refine ok_idx l.length (fun j => ∀ i (h : i < l.length), i < j → m_policy_Sane l[i] b = some true) hl (fun _ _ h => absurd h (Nat.not_lt_zero _)) (fun i hi hI nx hnx => ?_) (fun hI nx => ?_)
 · rw [s_ridgewayref12_rules1]
   refine ok_if (fun _ => ok_ix (by omega) (by omega) fun hlt => ?_) fun h => absurd (Int.ofNat_lt.2 hi) h
   rw [rsane_eq]
   refine ok_bd (t_polT _ _) fun r _ hr => ok_ifnb (fun h => ok_some ⟨fun k => Bool.noConfusion k, fun k => ?_⟩) fun h => hnx fun j hj hji => ?_
   · have := hr.2 (by simpa using k.2 i hi); rw [this] at h; cases h
   · rcases Nat.lt_succ_iff_lt_or_eq.1 hji with g | rfl
     · exact hI j hj g
     · simpa using hr.1 h
 · rw [s_ridgewayref12_rules1]
   exact ok_if (fun h => by omega) fun _ => ok_some ⟨fun k => ⟨by have := of_decide_eq_true k; omega, fun i h => hI i h h⟩, fun k => decide_eq_true (by omega)⟩
def OwnB (l : List Prefix) : Prop := l.length ≤ 8 ∧ ∀ i (h : i < l.length), PrefixOk l[i] ∧ ∀ j (hj : j < i), ¬ l[j]'(by omega) = l[i]
theorem pfx_eq (x y : Prefix) : (decide (x.A = y.A) && decide (x.N = y.N)) = decide (x = y) := by
 cases x; cases y
 simp
theorem t_contP (l : List Prefix) (x : Prefix) (hl : l.length ≤ 9223372036854775807) : Ok (m_slices_Contains___api_Prefix_api_Prefix l x) fun b => b = true ↔ x ∈ l := by
 unfold m_slices_Contains___api_Prefix_api_Prefix m_slices_Index___api_Prefix_api_Prefix
 refine ok_bd (P := fun r => r ≥ 0 ↔ x ∈ l) (ok_idx l.length (fun j => ∀ i (h : i < l.length), i < j → ¬ x = l[i]) hl (fun _ _ h => absurd h (Nat.not_lt_zero _)) (fun i hi hI nx hnx => ?_) (fun hI nx => ?_)) fun r _ hr => ok_some (by rw [decide_eq_true_eq]; exact hr)
 · rw [s_slices_Index___api_Prefix_api_Prefix1]
   refine ok_if (fun _ => ok_ix (by omega) (by omega) fun hlt => ?_) fun h => absurd (Int.ofNat_lt.2 hi) h
   rw [pfx_eq]
   refine ok_if (fun h1 => ok_some ⟨fun _ => h1 ▸ List.getElem_mem _, fun _ => by omega⟩) fun h1 => hnx fun j hj hji => ?_
   simp only [Int.toNat_natCast] at h1
   rcases Nat.lt_succ_iff_lt_or_eq.1 hji with g | rfl
   · exact hI j hj g
   · exact h1
 · rw [s_slices_Index___api_Prefix_api_Prefix1]
   refine ok_if (fun h => by omega) fun _ => ok_some ⟨fun h => by omega, fun h => ?_⟩
   obtain ⟨i, hi, rfl⟩ := List.getElem_of_mem h
   exact absurd rfl (hI i hi hi)
theorem mem_take_ix {α : Type} {l : List α} {i : Nat} (hi : i < l.length) {x : α} : x ∈ l.take i ↔ ∃ j, ∃ hj : j < i, l[j]'(by omega) = x := by
 rw [List.mem_take_iff_getElem]
 constructor
 · rintro ⟨j, hj, e⟩
   exact ⟨j, by omega, e⟩
 · rintro ⟨j, hj, e⟩
   exact ⟨j, by omega, e⟩
theorem t_ownB (l : List Prefix) (hl : l.length ≤ 9223372036854775807) : Ok (m_conf_saneOwn l) fun r => r = true ↔ OwnB l := by
 unfold m_conf_saneOwn OwnB
 refine ok_if (fun h => ok_some ⟨fun k => Bool.noConfusion k, fun k => by omega⟩) fun h8 => ok_idx l.length (fun m => ∀ i (h : i < l.length), i < m → PrefixOk l[i] ∧ ∀ j (hj : j < i), ¬ l[j]'(by omega) = l[i]) hl (fun _ _ h => absurd h (Nat.not_lt_zero _)) (fun i hi hI nx hnx => ?_) (fun hI nx => ?_)
 · rw [s_conf_saneOwn1]
   refine ok_if (fun _ => ok_ix (by omega) (by omega) fun hlt => ?_) fun h => absurd (Int.ofNat_lt.2 hi) h
   simp only [Int.toNat_natCast]
   refine ok_bd (t_psane _) fun r _ hr => ok_ifnb (fun h => ok_some ⟨fun k => Bool.noConfusion k, fun k => ?_⟩) fun h => ok_bde (sl_pre (by omega)) ?_
   · have := hr.2 (k.2 i hi).1; rw [this] at h; cases h
   simp only [Int.toNat_natCast]
   refine ok_bd (t_contP _ _ (by rw [List.length_take]; omega)) fun r2 _ hr2 => ok_ifb (fun h2 => ok_some ⟨fun k => Bool.noConfusion k, fun k => ?_⟩) fun h2 => hnx fun m hm hmi => ?_
   · obtain ⟨j, hj, e⟩ := (mem_take_ix hi).1 (hr2.1 h2)
     exact absurd e ((k.2 i hi).2 j hj)
   · rcases Nat.lt_succ_iff_lt_or_eq.1 hmi with g | rfl
     · exact hI m hm g
     · refine ⟨hr.1 h, fun j hj e => ?_⟩
       have := hr2.2 ((mem_take_ix hi).2 ⟨j, hj, e⟩)
       rw [this] at h2; cases h2
 · rw [s_conf_saneOwn1]
   exact ok_if (fun h => by omega) fun _ => ok_some ⟨fun _ => ⟨by omega, fun i h => hI i h h⟩, fun _ => rfl⟩
theorem t_rownB (l : List Prefix) (hl : l.length ≤ 9223372036854775807) : Ok (m_ridgewayref12_owns l) fun r => r = true ↔ OwnB l := by
 unfold m_ridgewayref12_owns OwnB
 refine ok_idx l.length (fun m => ∀ i (h : i < l.length), i < m → PrefixOk l[i] ∧ ∀ j (hj : j < i), ¬ l[j]'(by omega) = l[i]) hl (fun _ _ h => absurd h (Nat.not_lt_zero _)) (fun i hi hI nx hnx => ?_) (fun hI nx => ?_)
 · rw [s_ridgewayref12_owns1]
   refine ok_if (fun _ => ok_ix (by omega) (by omega) fun hlt => ?_) fun h => absurd (Int.ofNat_lt.2 hi) h
   simp only [Int.toNat_natCast]
   refine ok_bd (t_rsane _) fun r _ hr => ok_ifnb (fun h => ok_some ⟨fun k => Bool.noConfusion k, fun k => ?_⟩) fun h => ok_idx i (fun m => ∀ j (hj : j < m) (hji : j < i), ¬ l[j]'(by omega) = l[i]) (by omega) (fun _ h => absurd h (Nat.not_lt_zero _)) (fun j hj hJ nx2 hnx2 => ?_) (fun hJ nx2 => ?_)
   · have := hr.2 (k.2 i hi).1; rw [this] at h; cases h
   · rw [s_ridgewayref12_owns2]
     refine ok_if (fun _ => ok_ix (by omega) (by omega) fun _ => ok_ix (by omega) (by omega) fun _ => ?_) fun h => absurd (Int.ofNat_lt.2 hj) h
     rw [pfx_eq]
     simp only [Int.toNat_natCast]
     refine ok_if (fun e => ok_some ⟨fun k => Bool.noConfusion k, fun k => absurd e ((k.2 i hi).2 j hj)⟩) fun ne => hnx2 fun m hm hmi => ?_
     rcases Nat.lt_succ_iff_lt_or_eq.1 hm with g | rfl
     · exact hJ m g hmi
     · exact ne
   · rw [s_ridgewayref12_owns2]
     refine ok_if (fun h => by omega) fun _ => hnx fun m hm hmi => ?_
     rcases Nat.lt_succ_iff_lt_or_eq.1 hmi with g | rfl
     · exact hI m hm g
     · exact ⟨hr.1 h, fun j hj => hJ j hj hj⟩
 · rw [s_ridgewayref12_owns1]
   exact ok_if (fun h => by omega) fun _ => ok_some ⟨fun k => ⟨by have := of_decide_eq_true k; omega, fun i h => hI i h h⟩, fun k => decide_eq_true (by omega)⟩
theorem own_eq (l : List Prefix) (hl : l.length ≤ 9223372036854775807) : m_ridgewayref12_owns l = m_conf_saneOwn l := ok_same (t_rownB l hl) (t_ownB l hl)
theorem t_numB (n : Int) : Ok (m_conf_saneNumber n) fun b => b = true ↔ 1 ≤ n ∧ n ≤ 4294967295 := by
 unfold m_conf_saneNumber
 exact ok_if (fun h => ok_some (by rw [decide_eq_true_eq]; exact ⟨fun k => ⟨h, k⟩, fun k => k.2⟩)) fun h => ok_some ⟨fun k => Bool.noConfusion k, fun k => absurd k.1 h⟩
def SideB (a : Int) (l : List Side) (i : Nat) (h : i < l.length) : Prop := (1 ≤ l[i].As ∧ l[i].As ≤ 4294967295) ∧ ¬ l[i].As = a ∧ (1 ≤ l[i].Rel ∧ l[i].Rel ≤ 3) ∧ RulesB l[i].In true ∧ RulesB l[i].Out false ∧ ∀ j (hj : j < i), ¬ (l[j]'(by omega)).As = l[i].As
theorem t_takenB (a : Int) (l : List Side) (n : Int) (hl : l.length ≤ 9223372036854775807) : Ok (m_conf_taken a l n) fun b => b = true ↔ (n = a ∨ ∃ s ∈ l, s.As = n) := by
 unfold m_conf_taken
 refine ok_if (fun h => ok_some ⟨fun _ => .inl h, fun _ => rfl⟩) fun h0 => ok_jn (fun j => j ≥ 0 ↔ ∃ s ∈ l, s.As = n) (fun k' hk => ok_idx l.length (fun m => ∀ i (h : i < l.length), i < m → ¬ l[i].As = n) hl (fun _ _ h => absurd h (Nat.not_lt_zero _)) (fun i hi hI nx hnx => ?_) (fun hI nx => ?_)) fun j hj => ok_some (by rw [decide_eq_true_eq, hj]; exact ⟨.inr, fun h => h.resolve_left h0⟩)
 · rw [s_conf_taken1]
   refine ok_if (fun _ => ok_ix (by omega) (by omega) fun hlt => ok_if (fun h1 => hk _ ⟨fun _ => ⟨_, List.getElem_mem _, h1⟩, fun _ => by omega⟩) fun h1 => hnx fun j hj hji => ?_) fun h => absurd (Int.ofNat_lt.2 hi) h
   simp only [Int.toNat_natCast] at h1
   rcases Nat.lt_succ_iff_lt_or_eq.1 hji with g | rfl
   · exact hI j hj g
   · exact h1
 · rw [s_conf_taken1]
   refine ok_if (fun h => by omega) fun _ => hk _ ⟨fun h => by omega, fun ⟨s, hs, e⟩ => ?_⟩
   obtain ⟨i, hi, rfl⟩ := List.getElem_of_mem hs
   exact absurd e (hI i hi hi)
theorem t_sidesB (c : Conf) (f : FewC c) : Ok (m_conf_saneSides c) fun r => r = true ↔ (c.Sides.length ≤ 8 ∧ ∀ i (h : i < c.Sides.length), SideB c.As c.Sides i h) := by
 have hs := f.sides
 unfold m_conf_saneSides
 have no : ∀ {A : Prop}, ¬ A → Ok (some false : Option Bool) (fun b => b = true ↔ A) := fun h => ok_some ⟨fun k => Bool.noConfusion k, fun k => absurd k h⟩
 refine ok_if (fun h => no fun k => by omega) fun h8 => ok_idx c.Sides.length (fun m => ∀ i (h : i < c.Sides.length), i < m → SideB c.As c.Sides i h) (by omega) (fun _ _ h => absurd h (Nat.not_lt_zero _)) (fun i hi hI nx hnx => ?_) (fun hI nx => ?_)
 · have hin := f.ins _ (List.getElem_mem hi)
   have hout := f.outs _ (List.getElem_mem hi)
   rw [s_conf_saneSides1]
   refine ok_if (fun _ => ok_ix (by omega) (by omega) fun hlt => ?_) fun h => absurd (Int.ofNat_lt.2 hi) h
   simp only [Int.toNat_natCast]
   refine ok_bd (t_numB _) fun r1 _ h1 => ok_ifnb (fun q => no fun k => by rw [h1.2 (k.2 i hi).1] at q; cases q) fun q1 => ok_bde (sl_pre (by omega)) ?_
   simp only [Int.toNat_natCast]
   refine ok_bd (t_takenB _ _ _ (by rw [List.length_take]; omega)) fun r2 _ h2 => ok_ifb (fun q => no fun k => ?_) fun q2 => ok_if (fun q => no fun k => by have := (k.2 i hi).2.2.1; omega) fun q3 => ok_if (fun q => no fun k => by have := (k.2 i hi).2.2.1; omega) fun q4 =>
     ok_bd (t_rulesB _ _ (by omega)) fun r5 _ h5 => ok_ifnb (fun q => no fun k => by rw [h5.2 (k.2 i hi).2.2.2.1] at q; cases q) fun q5 => ok_bd (t_rulesB _ _ (by omega)) fun r6 _ h6 => ok_ifnb (fun q => no fun k => by rw [h6.2 (k.2 i hi).2.2.2.2.1] at q; cases q) fun q6 => hnx fun m hm hmi => ?_
   · rcases h2.1 q with e | ⟨s, hs, e⟩
     · exact (k.2 i hi).2.1 e
     · obtain ⟨j, hj, rfl⟩ := (mem_take_ix hi).1 hs
       exact (k.2 i hi).2.2.2.2.2 j hj e
   · rcases Nat.lt_succ_iff_lt_or_eq.1 hmi with g | rfl
     · exact hI m hm g
     · refine ⟨h1.1 q1, fun e => ?_, ⟨by omega, by omega⟩, h5.1 q5, h6.1 q6, fun j hj e => ?_⟩
       · rw [h2.2 (.inl e)] at q2; cases q2
       · rw [h2.2 (.inr ⟨_, (mem_take_ix hi).2 ⟨j, hj, rfl⟩, e⟩)] at q2; cases q2
 · rw [s_conf_saneSides1]
   exact ok_if (fun h => by omega) fun _ => ok_some ⟨fun _ => ⟨by omega, fun i h => hI i h h⟩, fun _ => rfl⟩
theorem t_rsidesB (c : Conf) (f : FewC c) : Ok (m_ridgewayref12_sides c.Sides c.As) fun r => r = true ↔ (c.Sides.length ≤ 8 ∧ ∀ i (h : i < c.Sides.length), SideB c.As c.Sides i h) := by
 have hs := f.sides
 unfold m_ridgewayref12_sides
 have no : ∀ {A : Prop}, ¬ A → Ok (some false : Option Bool) (fun b => b = true ↔ A) := fun h => ok_some ⟨fun k => Bool.noConfusion k, fun k => absurd k h⟩
 refine ok_idx c.Sides.length (fun m => ∀ i (h : i < c.Sides.length), i < m → SideB c.As c.Sides i h) (by omega) (fun _ _ h => absurd h (Nat.not_lt_zero _)) (fun i hi hI nx hnx => ?_) (fun hI nx => ?_)
 · have hin := f.ins _ (List.getElem_mem hi)
   have hout := f.outs _ (List.getElem_mem hi)
   rw [s_ridgewayref12_sides1]
   refine ok_if (fun _ => ok_ix (by omega) (by omega) fun hlt => ?_) fun h => absurd (Int.ofNat_lt.2 hi) h
   simp only [Int.toNat_natCast]
   refine ok_if (fun q => no fun k => by have := (k.2 i hi).1; omega) fun q1 => ok_if (fun q => no fun k => by have := (k.2 i hi).1; omega) fun q1' => ok_if (fun q => no fun k => (k.2 i hi).2.1 q) fun q2 => ok_if (fun q => no fun k => by have := (k.2 i hi).2.2.1; omega) fun q3 => ok_if (fun q => no fun k => by have := (k.2 i hi).2.2.1; omega) fun q4 =>
     ok_bd (t_rrulesB _ _ (by omega)) fun r5 _ h5 => ok_ifnb (fun q => no fun k => by rw [h5.2 (k.2 i hi).2.2.2.1] at q; cases q) fun q5 => ok_bd (t_rrulesB _ _ (by omega)) fun r6 _ h6 => ok_ifnb (fun q => no fun k => by rw [h6.2 (k.2 i hi).2.2.2.2.1] at q; cases q) fun q6 =>
     ok_idx i (fun m => ∀ j (hj : j < m) (hji : j < i), ¬ (c.Sides[j]'(by omega)).As = c.Sides[i].As) (by omega) (fun _ h => absurd h (Nat.not_lt_zero _)) (fun j hj hJ nx2 hnx2 => ?_) (fun hJ nx2 => ?_)
   · rw [s_ridgewayref12_sides2]
     refine ok_if (fun _ => ok_ix (by omega) (by omega) fun _ => ?_) fun h => absurd (Int.ofNat_lt.2 hj) h
     simp only [Int.toNat_natCast]
     refine ok_if (fun e => no fun k => (k.2 i hi).2.2.2.2.2 j hj e) fun ne => hnx2 fun m hm hmi => ?_
     rcases Nat.lt_succ_iff_lt_or_eq.1 hm with g | rfl
     · exact hJ m g hmi
     · exact ne
   · rw [s_ridgewayref12_sides2]
     refine ok_if (fun h => by omega) fun _ => hnx fun m hm hmi => ?_
     rcases Nat.lt_succ_iff_lt_or_eq.1 hmi with g | rfl
     · exact hI m hm g
     · exact ⟨⟨by omega, by omega⟩, q2, ⟨by omega, by omega⟩, h5.1 q5, h6.1 q6, fun j hj => hJ j hj hj⟩
 · rw [s_ridgewayref12_sides1]
   exact ok_if (fun h => by omega) fun _ => ok_some ⟨fun k => ⟨by have := of_decide_eq_true k; omega, fun i h => hI i h h⟩, fun k => decide_eq_true (by omega)⟩
theorem csane_eq (c : Conf) (f : FewC c) : m_ridgewayref12_Sane c = m_conf_Sane c := by
 have hown := f.own
 unfold m_ridgewayref12_Sane m_conf_Sane m_conf_saneNumber m_conf_saneCap
 rw [hold_eq, own_eq _ (by omega), ok_same (t_rsidesB c f) (t_sidesB c f)]
 by_cases h1 : c.As ≥ 1 <;> by_cases h2 : c.As ≤ 4294967295 <;> by_cases h3 : c.Id ≥ 1 <;> by_cases h4 : c.Id ≤ 4294967295 <;> by_cases h5 : c.Cap ≥ 1 <;> by_cases h6 : c.Cap ≤ 1000 <;>
   simp only [h1, h2, h3, h4, h5, h6, decide_true, decide_false, cond_true, cond_false, bd_some] <;> (obtain ⟨b, e, _⟩ := t_hold c.Hold; rw [e]; cases b <;> rfl)
end Go.Proofs.YtibploaibljcmaaGreatDoor
namespace Go.Proofs.YtibploaibljcmaaGreatDoor
open Go.RowKit
set_option linter.unusedVariables false
set_option linter.unusedSimpArgs false
set_option maxRecDepth 100000
set_option maxHeartbeats 2000000
abbrev Cap := Int × Int × Int × Int
def oneS (x : UInt8) (b : List UInt8) (a r : Int) : Cap :=
 if x.toNat = 65 then (if b.length = 4 then (0, 0, if a < 0 then ((num b : Nat) : Int) else a, r) else (2, 0, a, r))
 else if x.toNat = 9 then (match b with | [y] => if r < 0 then (0, 0, a, (y.toNat : Int)) else if r = (y.toNat : Int) then (0, 0, a, r) else (2, 11, a, r) | _ => (2, 0, a, r))
 else (0, 0, a, r)
def eachS (f : UInt8 → List UInt8 → Int → Int → Cap) : Nat → List UInt8 → Int → Int → Cap
 | 0, [], a, r => (0, 0, a, r)
 | 0, _ :: _, a, r => (2, 0, a, r)
 | k + 1, [], a, r => (0, 0, a, r)
 | k + 1, [_], a, r => (2, 0, a, r)
 | k + 1, x :: n :: t, a, r => if n.toNat ≤ t.length then (if (f x (t.take n.toNat) a r).1 = 0 then eachS f k (t.drop n.toNat) (f x (t.take n.toNat) a r).2.2.1 (f x (t.take n.toNat) a r).2.2.2 else f x (t.take n.toNat) a r) else (2, 0, a, r)
def capsS (b : List UInt8) (a r : Int) : Cap := eachS oneS b.length b a r
def parS (x : UInt8) (b : List UInt8) (a r : Int) : Cap := if x.toNat = 2 then capsS b a r else (2, 4, a, r)
def readS (b : List UInt8) : Cap := eachS parS b.length b (-1) (-1)
theorem each_more (f : UInt8 → List UInt8 → Int → Int → Cap) : ∀ (k : Nat) (l : List UInt8) (a r : Int), l.length ≤ k → eachS f (k + 1) l a r = eachS f k l a r
 | 0, [], a, r, _ => rfl
 | k + 1, [], a, r, _ => rfl
 | k + 1, [_], a, r, _ => rfl
 | k + 1, x :: n :: t, a, r, h => by
   simp only [List.length_cons] at h
   show (if n.toNat ≤ t.length then (if (f x (t.take n.toNat) a r).1 = 0 then eachS f (k + 1) (t.drop n.toNat) (f x (t.take n.toNat) a r).2.2.1 (f x (t.take n.toNat) a r).2.2.2 else f x (t.take n.toNat) a r) else (2, 0, a, r)) = (if n.toNat ≤ t.length then (if (f x (t.take n.toNat) a r).1 = 0 then eachS f k (t.drop n.toNat) (f x (t.take n.toNat) a r).2.2.1 (f x (t.take n.toNat) a r).2.2.2 else f x (t.take n.toNat) a r) else (2, 0, a, r))
   rw [each_more f k _ _ _ (by rw [List.length_drop]; omega)]
theorem each_cons (f : UInt8 → List UInt8 → Int → Int → Cap) (m : Nat) (x n : UInt8) (t : List UInt8) (a r : Int) (h : t.length + 2 ≤ m) : eachS f m (x :: n :: t) a r = if n.toNat ≤ t.length then (if (f x (t.take n.toNat) a r).1 = 0 then eachS f m (t.drop n.toNat) (f x (t.take n.toNat) a r).2.2.1 (f x (t.take n.toNat) a r).2.2.2 else f x (t.take n.toNat) a r) else (2, 0, a, r) := by
 obtain ⟨k, rfl⟩ : ∃ k, m = k + 1 := ⟨m - 1, by omega⟩
 rw [each_more f k (t.drop n.toNat) _ _ (by rw [List.length_drop]; omega)]
 rfl
theorem each_nil (f : UInt8 → List UInt8 → Int → Int → Cap) (m : Nat) (a r : Int) : eachS f m [] a r = (0, 0, a, r) := by cases m <;> rfl
theorem each_one (f : UInt8 → List UInt8 → Int → Int → Cap) (m : Nat) (x : UInt8) (a r : Int) : eachS f m [x] a r = (2, 0, a, r) := by cases m <;> rfl
theorem get0 : m_octet_Get [] 1 = some (0, [], false) := by rw [octGet_eq [] 1 (by omega) (by omega), if_neg (by simp)]
theorem one_as {x : UInt8} {b : List UInt8} {a r : Int} (h : -1 ≤ a) : -1 ≤ (oneS x b a r).2.2.1 := by
 unfold oneS
 repeat' split
 all_goals first | exact h | (have := Int.natCast_nonneg (num b); dsimp only; omega)
theorem t_capsP {Q : OpenSaid × Note → Prop} (k : Cap → Option (OpenSaid × Note)) (l : List UInt8) (a r : Int) (hl : l.length ≤ 10000) (ha : -1 ≤ a) (hk : -1 ≤ (capsS l a r).2.2.1 → Ok (k (capsS l a r)) Q) :
   Ok (loopC (s_open_read2 k) (fun e2 => k ((0 : Int), (0 : Int), e2.1, e2.2)) BIG (l, a, r)) Q := by
 refine ok_loop (fun st => eachS oneS l.length st.1 st.2.1 st.2.2 = capsS l a r ∧ st.1.length ≤ l.length ∧ -1 ≤ st.2.1) (fun st => st.1.length) ⟨rfl, Nat.le_refl _, ha⟩ (by dsimp only; omega) ?_
 rintro ⟨b, a', r'⟩ ⟨he, hb, ha'⟩ nx hnx
 dsimp only at he hb ha' hnx
 rw [s_open_read2]
 dsimp only
 match b, he, hb, hnx with
 | [], he, hb, hnx =>
   rw [each_nil] at he
   refine ok_if (fun h => by simp at h) fun _ => ?_
   rw [he]
   exact hk (by rw [← he]; exact ha')
 | [x], he, hb, hnx =>
   rw [each_one] at he
   refine ok_if (fun _ => ok_bde (octGet1c x []) (ok_bde get0 (ok_bde (octTake_eq _ _) (ok_ifnb (fun _ => ?_) fun h => Bool.noConfusion h)))) fun h => absurd (by simp) h
   rw [he]
   exact hk (by rw [← he]; exact ha')
 | x :: n :: t, he, hb, hnx =>
   simp only [List.length_cons] at hb hnx
   rw [each_cons oneS _ x n t _ _ hb] at he
   refine ok_if (fun _ => ok_bde (octGet1c x (n :: t)) (ok_bde (octGet1c n t) (ok_bde (octTake_eq _ _) (ok_ifnb (fun h => Bool.noConfusion h) fun _ => ?_)))) fun h => absurd (by simp; omega) h
   dsimp only
   by_cases hn : n.toNat ≤ t.length
   · rw [if_pos hn] at he
     rw [if_pos ⟨by omega, by omega⟩, Int.toNat_natCast]
     refine ok_ifnb (fun h => Bool.noConfusion h) fun _ => ?_
     dsimp only
     refine ok_jn (fun j => j = oneS x (t.take n.toNat) a' r') (fun k1 hk1 => ?_) fun j hj => ?_
     · generalize t.take n.toNat = d at hk1
       unfold oneS at hk1
       refine ok_jn (fun j => j = true ↔ (x.toNat = 65 ∧ ¬ d.length = 4) ∨ (x.toNat = 9 ∧ ¬ d.length = 1)) (fun k2 hk2 => ok_if (fun h1 => ok_if (fun h2 => hk2 _ ?_) fun h2 => ok_if (fun h3 => by omega) fun h3 => hk2 _ ?_) fun h1 => ok_if (fun h3 => hk2 _ ?_) fun h3 => hk2 _ ?_) fun j hj => ok_ifb (fun hjt => ?_) fun hjf => ?_
       · exact ⟨fun _ => .inl ⟨by omega, by omega⟩, fun _ => rfl⟩
       · exact ⟨fun k => Bool.noConfusion k, fun k => by omega⟩
       · rw [decide_eq_true_eq]
         exact ⟨fun k => .inr ⟨by omega, by omega⟩, fun k => by omega⟩
       · exact ⟨fun k => Bool.noConfusion k, fun k => by omega⟩
       · refine hk1 _ ?_
         rcases hj.1 hjt with ⟨h1, h2⟩ | ⟨h1, h2⟩
         · rw [if_pos h1, if_neg h2]
         · rw [if_neg (by omega), if_pos h1]
           match d, h2 with
           | [], _ => rfl
           | [_], h2 => exact absurd rfl h2
           | _ :: _ :: _, _ => rfl
       · have hno : ¬ ((x.toNat = 65 ∧ ¬ d.length = 4) ∨ (x.toNat = 9 ∧ ¬ d.length = 1)) := fun k => by rw [hj.2 k] at hjf; cases hjf
         by_cases h65 : x.toNat = 65
         · have hd4 : d.length = 4 := by omega
           rw [if_pos h65, if_pos hd4] at hk1
           refine ok_if (fun _ => ok_if (fun hneg => ok_bde (octGet_eq d 4 (by omega) (by omega)) (hk1 _ ?_)) fun hneg => ok_if (fun h9 => by omega) fun _ => ok_if (fun h9 => by omega) fun _ => hk1 _ ?_) fun h => by omega
           · rw [if_pos hneg, if_pos (by omega)]
             dsimp only
             rw [show (4 : Int).toNat = d.length by omega, List.take_length]
           · rw [if_neg hneg]
         · rw [if_neg h65] at hk1
           refine ok_if (fun h => by omega) fun _ => ?_
           by_cases h9 : x.toNat = 9
           · rw [if_pos h9] at hk1
             match d, hno, hk1 with
             | [], hno, hk1 => exact absurd (.inr ⟨h9, by simp⟩) hno
             | _ :: _ :: _, hno, hk1 => exact absurd (.inr ⟨h9, by simp⟩) hno
             | [y], hno, hk1 =>
               have hy := y.toNat_lt
               have wy : IntKind.i64.wrap (y.toNat : Int) = (y.toNat : Int) := w64 (by omega) (by omega)
               have iy : ix [y] 0 = some y := ix_some (by omega) rfl
               refine ok_if (fun _ => ok_if (fun hr => ok_bde iy (hk1 _ ?_)) fun hr => ok_if (fun _ => ok_bde iy (ok_ine (fun hne => hk1 _ ?_) fun hne => hk1 _ ?_)) fun h => by omega) fun h => by omega
               · dsimp only; rw [if_pos hr, wy]
               · dsimp only; rw [wy] at hne; rw [if_neg hr, if_neg hne]
               · dsimp only; rw [wy] at hne; rw [if_neg hr, if_pos hne]
           · rw [if_neg h9] at hk1
             exact ok_if (fun h => by omega) fun _ => ok_if (fun h => by omega) fun _ => hk1 _ rfl
     · subst hj
       have h1a := one_as (x := x) (b := t.take n.toNat) (r := r') ha'
       refine ok_ine (fun h => ?_) fun h => ?_
       · rw [if_neg h] at he
         rw [he]
         exact hk (by rw [← he]; exact h1a)
       · rw [if_pos h] at he
         exact hnx _ ⟨he, by dsimp only; rw [List.length_drop]; omega, h1a⟩ (by dsimp only; rw [List.length_drop]; omega)
   · rw [if_neg hn] at he
     rw [if_neg (by omega)]
     refine ok_ifnb (fun _ => ?_) fun h => Bool.noConfusion h
     rw [he]
     exact hk (by rw [← he]; exact ha')
theorem read_spec (l : List UInt8) (hl : l.length ≤ 10000) : m_open_read l = some (⟨(readS l).2.2.1, (readS l).2.2.2⟩, ⟨(readS l).1, (readS l).2.1, []⟩) := by
 refine ok_out' ?_
 unfold m_open_read
 refine ok_jn (fun j => j = readS l) (fun k hk => ?_) fun j hj => ok_some (by rw [hj])
 refine ok_loop (fun st => eachS parS l.length st.1 st.2.1 st.2.2 = readS l ∧ st.1.length ≤ l.length ∧ -1 ≤ st.2.1) (fun st => st.1.length) ⟨rfl, Nat.le_refl _, Int.le_refl _⟩ (by dsimp only; omega) ?_
 rintro ⟨b, a', r'⟩ ⟨he, hb, ha'⟩ nx hnx
 dsimp only at he hb ha' hnx
 rw [s_open_read1]
 dsimp only
 match b, he, hb, hnx with
 | [], he, hb, hnx =>
   rw [each_nil] at he
   exact ok_if (fun h => by simp at h) fun _ => hk _ he
 | [x], he, hb, hnx =>
   rw [each_one] at he
   exact ok_if (fun _ => ok_bde (octGet1c x []) (ok_bde get0 (ok_bde (octTake_eq _ _) (ok_ifnb (fun _ => hk _ he) fun h => Bool.noConfusion h)))) fun h => absurd (by simp) h
 | x :: n :: t, he, hb, hnx =>
   simp only [List.length_cons] at hb hnx
   rw [each_cons parS _ x n t _ _ hb] at he
   refine ok_if (fun _ => ok_bde (octGet1c x (n :: t)) (ok_bde (octGet1c n t) (ok_bde (octTake_eq _ _) (ok_ifnb (fun h => Bool.noConfusion h) fun _ => ?_)))) fun h => absurd (by simp; omega) h
   dsimp only
   by_cases hn : n.toNat ≤ t.length
   · rw [if_pos hn] at he
     rw [if_pos ⟨by omega, by omega⟩, Int.toNat_natCast]
     refine ok_ifnb (fun h => Bool.noConfusion h) fun _ => ?_
     dsimp only
     refine ok_jn (fun j => j = parS x (t.take n.toNat) a' r' ∧ -1 ≤ j.2.2.1) (fun k1 hk1 => ok_ine (fun h2 => hk1 _ ⟨?_, ha'⟩) fun h2 => ?_) fun j hj => ?_
     · unfold parS
       rw [if_neg (by omega)]
     · refine ok_jn (fun j => j = capsS (t.take n.toNat) a' r' ∧ -1 ≤ j.2.2.1) (fun k2 hk2 => t_capsP k2 _ _ _ (by rw [List.length_take]; omega) ha' fun hc => hk2 _ ⟨rfl, hc⟩) fun j hj => hk1 _ ⟨?_, hj.2⟩
       unfold parS
       rw [if_pos (by omega), ← hj.1]
     · obtain ⟨hj, hja⟩ := hj
       rw [← hj] at he
       refine ok_ine (fun h => hk _ ?_) fun h => ?_
       · rw [if_neg h] at he
         exact he
       · rw [if_pos h] at he
         exact hnx _ ⟨he, by dsimp only; rw [List.length_drop]; omega, hja⟩ (by dsimp only; rw [List.length_drop]; omega)
   · rw [if_neg hn] at he
     rw [if_neg (by omega)]
     exact ok_ifnb (fun _ => hk _ he) fun h => Bool.noConfusion h
end Go.Proofs.YtibploaibljcmaaGreatDoor
namespace Go.Proofs.YtibploaibljcmaaGreatDoor
open Go.RowKit
set_option linter.unusedVariables false
set_option linter.unusedSimpArgs false
set_option maxRecDepth 100000
set_option maxHeartbeats 4000000
theorem ref1Get_eq (l : List UInt8) (k : Nat) (hk : 1 ≤ k ∧ k ≤ 4) : m_ridgewayref01_Get l (k : Int) = m_octet_Get l (k : Int) := by
 rw [octGet_eq l k (by omega) (by omega)]
 refine ok_out' ?_
 unfold m_ridgewayref01_Get
 refine ok_if (fun h => by omega) fun _ => ok_if (fun h => by omega) fun _ => ok_if (fun h => ok_some (by rw [if_neg (by omega)])) fun h => ?_
 rw [if_pos (by omega)]
 refine ok_acc k (fun i (v : Int) => v = (num (l.take i) : Int)) (by omega) rfl (fun i v hi hv nx hnx => ?_) (fun v hv nx => ?_)
 · rw [s_ridgewayref01_Get1]
   dsimp only
   refine ok_if (fun _ => ok_ix (by omega) (by omega) fun hlt => hnx _ ?_) fun h => by omega
   have hlt' : i < l.length := by omega
   have hn := num_lt (l.take i)
   have hl : (l.take i).length = i := by rw [List.length_take]; omega
   rw [hl] at hn
   have hb := (l[i]).toNat_lt
   have hs := num_step l i hlt'
   have : num (l.take i) < 16777216 := by
     have h01 : i = 0 ∨ i = 1 ∨ i = 2 ∨ i = 3 := by omega
     rcases h01 with rfl | rfl | rfl | rfl <;> simp at hn ⊢ <;> omega
   subst hv
   simp only [Int.toNat_natCast]
   rw [w64 (x := _ * 256) (by omega) (by omega), w64 (x := ((_ : Nat) : Int)) (by omega) (by omega), w64 (by omega) (by omega)]
   omega
 · rw [s_ridgewayref01_Get1]
   dsimp only
   refine ok_if (fun h => by omega) fun _ => ok_bde (sl_all (by omega)) (ok_some ?_)
   subst hv
   rfl
theorem each_code {f : UInt8 → List UInt8 → Int → Int → Cap} (hf : ∀ x b a r, (f x b a r).1 = 0 ∨ (f x b a r).1 = 2) : ∀ (k : Nat) (l : List UInt8) (a r : Int), (eachS f k l a r).1 = 0 ∨ (eachS f k l a r).1 = 2
 | 0, [], a, r => .inl rfl
 | 0, _ :: _, a, r => .inr rfl
 | k + 1, [], a, r => .inl rfl
 | k + 1, [_], a, r => .inr rfl
 | k + 1, x :: n :: t, a, r => by
   unfold eachS
   split
   · split
     · exact each_code hf k _ _ _
     · exact hf _ _ _ _
   · exact .inr rfl
theorem one_code (x : UInt8) (b : List UInt8) (a r : Int) : (oneS x b a r).1 = 0 ∨ (oneS x b a r).1 = 2 := by
 unfold oneS
 repeat' split
 all_goals first | exact .inl rfl | exact .inr rfl
theorem par_code (x : UInt8) (b : List UInt8) (a r : Int) : (parS x b a r).1 = 0 ∨ (parS x b a r).1 = 2 := by
 unfold parS
 split
 · exact each_code one_code _ _ _ _
 · exact .inr rfl
theorem read_code (b : List UInt8) : (readS b).1 = 0 ∨ (readS b).1 = 2 := each_code par_code _ _ _ _
def asOf (v : Int) (h : Bool) : Int := if h = true then v else -1
def RelR (i : Int × Bool × Int × Int) (c : Cap) : Prop :=
 (c.1 = 0 ∧ i.2.2.2 = -1 ∧ i.2.2.1 = c.2.2.2 ∧ asOf i.1 i.2.1 = c.2.2.1 ∧ (i.2.1 = true → 0 ≤ i.1)) ∨ (c.1 = 2 ∧ 0 ≤ c.2.1 ∧ i.2.2.2 = c.2.1)
theorem rel_bad {v r s : Int} {h : Bool} {c : Cap} (hc : c = (2, s, c.2.2)) (hs : 0 ≤ s) : RelR (v, h, r, s) c := .inr ⟨by rw [hc], by rw [hc]; exact hs, by rw [hc]⟩
theorem t_capsR {Q : Hello × Note → Prop} (k : (Int × Bool × Int × Int) → Option (Hello × Note)) (l : List UInt8) (v : Int) (h : Bool) (r : Int) (hl : l.length ≤ 10000) (hv : h = true → 0 ≤ v) (hk : ∀ i, RelR i (capsS l (asOf v h) r) → Ok (k i) Q) :
   Ok (loopC (s_ridgewayref06_Get2 k) (fun e2 => k (e2.1, e2.2.1, e2.2.2.1, e2.2.2.2)) BIG (l, v, h, r, (-1 : Int))) Q := by
 refine ok_loop (fun st => (st.2.2.2.2 = -1 ∧ eachS oneS l.length st.1 (asOf st.2.1 st.2.2.1) st.2.2.2.1 = capsS l (asOf v h) r ∧ st.1.length ≤ l.length ∧ (st.2.2.1 = true → 0 ≤ st.2.1)) ∨ (0 ≤ st.2.2.2.2 ∧ RelR st.2 (capsS l (asOf v h) r))) (fun st => st.1.length) (.inl ⟨rfl, rfl, Nat.le_refl _, hv⟩) (by dsimp only; omega) ?_
 rintro ⟨b, v', h', r', s'⟩ hst nx hnx
 dsimp only at hst hnx
 rw [s_ridgewayref06_Get2]
 dsimp only
 rcases hst with ⟨rfl, he, hb, hv'⟩ | ⟨hs, hrel⟩
 · match b, he, hb, hnx with
   | [], he, hb, hnx =>
     rw [each_nil] at he
     exact ok_if (fun h => by simp at h) fun _ => hk _ (.inl ⟨by rw [← he], rfl, by rw [← he], by rw [← he], hv'⟩)
   | [x], he, hb, hnx =>
     rw [each_one] at he
     exact ok_if (fun _ => ok_if (fun _ => ok_if (fun _ => ok_jn (fun j => j = 0) (fun k1 hk1 => ok_if (fun _ => hk1 _ rfl) fun h => absurd (by decide) h) fun j hj => hk _ (by rw [hj]; exact rel_bad (by rw [← he]) (Int.le_refl _))) fun h => absurd (by simp) h) fun h => absurd (by decide) h) fun h => absurd (by simp) h
   | x :: n :: t, he, hb, hnx =>
     simp only [List.length_cons] at hb hnx
     rw [each_cons oneS _ x n t _ _ hb] at he
     have hx := x.toNat_lt
     have hn8 := n.toNat_lt
     have i1 : ix (x :: n :: t) 1 = some n := ix_some (by omega) rfl
     have i0 : ix (x :: n :: t) 0 = some x := ix_some (by omega) rfl
     have wn : IntKind.i64.wrap ((2 : Int) + IntKind.i64.wrap (n.toNat : Int)) = ((n.toNat + 2 : Nat) : Int) := by rw [w64 (x := (n.toNat : Int)) (by omega) (by omega), w64 (by omega) (by omega)]; omega
     refine ok_if (fun _ => ok_if (fun _ => ok_if (fun h => absurd h (by simp; omega)) fun _ => ok_bde i1 ?_) fun h => absurd (by decide) h) fun h => absurd (by simp; omega) h
     rw [wn]
     refine ok_if (fun hn => ?_) fun hn => ?_
     · have hn' : ¬ n.toNat ≤ t.length := by simp only [List.length_cons] at hn; omega
       rw [if_neg hn'] at he
       exact ok_jn (fun j => j = 0) (fun k1 hk1 => ok_if (fun _ => hk1 _ rfl) fun h => absurd (by decide) h) fun j hj => hk _ (by rw [hj]; exact rel_bad (by rw [← he]) (Int.le_refl _))
     · have hn' : n.toNat ≤ t.length := by simp only [List.length_cons] at hn; omega
       rw [if_pos hn'] at he
       have hsl : sl (x :: n :: t) 2 ((n.toNat + 2 : Nat) : Int) = some (t.take n.toNat) := by
         rw [sl_some (by simp only [List.length_cons]; omega), Int.toNat_natCast]
         simp
       have hdr : sl (x :: n :: t) ((n.toNat + 2 : Nat) : Int) ((x :: n :: t).length : Int) = some (t.drop n.toNat) := by
         rw [sl_all (by simp only [List.length_cons]; omega), Int.toNat_natCast]
         simp
       refine ok_bde i1 ?_
       rw [wn]
       refine ok_bde i0 (ok_bde hsl (ok_jn (fun i => RelR i (oneS x (t.take n.toNat) (asOf v' h') r')) (fun k1 hk1 => ?_) fun i hi => ok_bde hdr ?_))
       · generalize t.take n.toNat = d at hk1
         by_cases h65 : x.toNat = 65
         · refine ok_if (fun _ => ok_if (fun h4 => ?_) fun h4 => ?_) fun h => by omega
           · have hc : oneS x d (asOf v' h') r' = (2, 0, asOf v' h', r') := by unfold oneS; rw [if_pos h65, if_neg (by omega)]
             exact ok_jn (fun j => j = 0) (fun k2 hk2 => ok_if (fun _ => hk2 _ rfl) fun h => absurd (by decide) h) fun j hj => hk1 _ (by rw [hj]; exact rel_bad (by rw [hc]) (Int.le_refl _))
           · have hd4 : d.length = 4 := by omega
             have hc : oneS x d (asOf v' h') r' = (0, 0, if asOf v' h' < 0 then ((num d : Nat) : Int) else asOf v' h', r') := by unfold oneS; rw [if_pos h65, if_pos hd4]
             refine ok_ifnb (fun hh => ?_) fun hh => ?_
             · have hg : m_ridgewayref01_Get d 4 = some (((num d : Nat) : Int), [], true) := by
                 have := ref1Get_eq d 4 (by omega)
                 rw [show (((4 : Nat) : Int)) = 4 from rfl] at this
                 rw [this, octGet_eq d 4 (by omega) (by omega), if_pos (by omega), show (4 : Int).toNat = d.length by omega, List.take_length, List.drop_length]
               refine ok_bde hg (hk1 _ (.inl ⟨by rw [hc], rfl, by rw [hc], ?_, fun _ => Int.natCast_nonneg _⟩))
               rw [hc, hh]
               rfl
             · refine hk1 _ (.inl ⟨by rw [hc], rfl, by rw [hc], ?_, hv'⟩)
               have := hv' hh
               rw [hc, hh]
               show v' = if v' < 0 then _ else v'
               rw [if_neg (by omega)]
         · refine ok_if (fun h => by omega) fun _ => ?_
           by_cases h9 : x.toNat = 9
           · refine ok_if (fun _ => ok_ine (fun h1 => ?_) fun h1 => ?_) fun h => by omega
             · have hc : oneS x d (asOf v' h') r' = (2, 0, asOf v' h', r') := by
                 unfold oneS
                 rw [if_neg h65, if_pos h9]
                 match d, h1 with
                 | [], _ => rfl
                 | [_], h1 => exact absurd rfl h1
                 | _ :: _ :: _, _ => rfl
               exact ok_jn (fun j => j = 0) (fun k2 hk2 => ok_if (fun _ => hk2 _ rfl) fun h => absurd (by decide) h) fun j hj => hk1 _ (by rw [hj]; exact rel_bad (by rw [hc]) (Int.le_refl _))
             · match d, h1, hk1 with
               | [y], _, hk1 =>
                 have hy := y.toNat_lt
                 have wy : IntKind.i64.wrap (y.toNat : Int) = (y.toNat : Int) := w64 (by omega) (by omega)
                 have iy : ix [y] 0 = some y := ix_some (by omega) rfl
                 have hc : oneS x [y] (asOf v' h') r' = if r' < 0 then (0, 0, asOf v' h', (y.toNat : Int)) else if r' = (y.toNat : Int) then (0, 0, asOf v' h', r') else (2, 11, asOf v' h', r') := by
                   unfold oneS
                   rw [if_neg h65, if_pos h9]
                 refine ok_if (fun hr => ok_bde iy (ok_ine (fun hne => ?_) fun hne => ok_bde iy (hk1 _ ?_))) fun hr => ok_bde iy (hk1 _ ?_)
                 · rw [wy] at hne
                   rw [if_neg (by omega), if_neg hne] at hc
                   exact ok_jn (fun j => j = 11) (fun k2 hk2 => ok_if (fun _ => hk2 _ rfl) fun h => absurd (by decide) h) fun j hj => hk1 _ (by rw [hj]; exact rel_bad (by rw [hc]) (by decide))
                 · rw [wy] at hne ⊢
                   rw [if_neg (by omega), if_pos hne] at hc
                   exact .inl ⟨by rw [hc], rfl, by rw [hc]; exact hne.symm, by rw [hc], hv'⟩
                 · rw [wy]
                   rw [if_pos (by omega)] at hc
                   exact .inl ⟨by rw [hc], rfl, by rw [hc], by rw [hc], hv'⟩
               | [], h1, _ => exact absurd h1 (by simp)
               | _ :: _ :: _, h1, _ => exact absurd h1 (by simp; omega)
           · have hc : oneS x d (asOf v' h') r' = (0, 0, asOf v' h', r') := by unfold oneS; rw [if_neg h65, if_neg h9]
             exact ok_if (fun h => by omega) fun _ => hk1 _ (.inl ⟨by rw [hc], rfl, by rw [hc], by rw [hc], hv'⟩)
       · have hlen : (t.drop n.toNat).length < t.length + 1 + 1 := by rw [List.length_drop]; omega
         rcases hi with ⟨c0, hs1, hr1, ha1, hp1⟩ | ⟨c2, hs0, hs2⟩
         · rw [if_pos c0, ← ha1, ← hr1] at he
           exact hnx _ (.inl ⟨hs1, he, by dsimp only; omega, hp1⟩) hlen
         · rw [if_neg (by omega)] at he
           exact hnx _ (.inr ⟨by dsimp only; omega, by rw [← he]; exact .inr ⟨c2, hs0, hs2⟩⟩) hlen
 · exact ok_if (fun _ => ok_if (fun h => by omega) fun _ => hk _ hrel) fun _ => hk _ hrel
end Go.Proofs.YtibploaibljcmaaGreatDoor
namespace Go.Proofs.YtibploaibljcmaaGreatDoor
open Go.RowKit
set_option linter.unusedVariables false
set_option linter.unusedSimpArgs false
set_option maxRecDepth 100000
set_option maxHeartbeats 4000000
theorem t_parR {Q : Hello × Note → Prop} (k : (Int × Bool × Int × Int) → Option (Hello × Note)) (l : List UInt8) (hl : l.length ≤ 10000) (hk : ∀ i, RelR i (readS l) → Ok (k i) Q) :
   Ok (loopC (s_ridgewayref06_Get1 k) (fun e1 => k (e1.1, e1.2.1, e1.2.2.1, e1.2.2.2)) BIG (l, (0 : Int), false, (-1 : Int), (-1 : Int))) Q := by
 refine ok_loop (fun st => (st.2.2.2.2 = -1 ∧ eachS parS l.length st.1 (asOf st.2.1 st.2.2.1) st.2.2.2.1 = readS l ∧ st.1.length ≤ l.length ∧ (st.2.2.1 = true → 0 ≤ st.2.1)) ∨ (0 ≤ st.2.2.2.2 ∧ RelR st.2 (readS l))) (fun st => st.1.length) (.inl ⟨rfl, rfl, Nat.le_refl _, fun h => Bool.noConfusion h⟩) (by dsimp only; omega) ?_
 rintro ⟨b, v', h', r', s'⟩ hst nx hnx
 dsimp only at hst hnx
 rw [s_ridgewayref06_Get1]
 dsimp only
 rcases hst with ⟨rfl, he, hb, hv'⟩ | ⟨hs, hrel⟩
 · match b, he, hb, hnx with
   | [], he, hb, hnx =>
     rw [each_nil] at he
     exact ok_if (fun h => by simp at h) fun _ => hk _ (.inl ⟨by rw [← he], rfl, by rw [← he], by rw [← he], hv'⟩)
   | [x], he, hb, hnx =>
     rw [each_one] at he
     exact ok_if (fun _ => ok_if (fun _ => ok_if (fun _ => ok_jn (fun j => j = 0) (fun k1 hk1 => ok_if (fun _ => hk1 _ rfl) fun h => absurd (by decide) h) fun j hj => hk _ (by rw [hj]; exact rel_bad (by rw [← he]) (Int.le_refl _))) fun h => absurd (by simp) h) fun h => absurd (by decide) h) fun h => absurd (by simp) h
   | x :: n :: t, he, hb, hnx =>
     simp only [List.length_cons] at hb hnx
     rw [each_cons parS _ x n t _ _ hb] at he
     have hx := x.toNat_lt
     have hn8 := n.toNat_lt
     have i1 : ix (x :: n :: t) 1 = some n := ix_some (by omega) rfl
     have i0 : ix (x :: n :: t) 0 = some x := ix_some (by omega) rfl
     have wn : IntKind.i64.wrap ((2 : Int) + IntKind.i64.wrap (n.toNat : Int)) = ((n.toNat + 2 : Nat) : Int) := by rw [w64 (x := (n.toNat : Int)) (by omega) (by omega), w64 (by omega) (by omega)]; omega
     refine ok_if (fun _ => ok_if (fun _ => ok_if (fun h => absurd h (by simp; omega)) fun _ => ok_bde i1 ?_) fun h => absurd (by decide) h) fun h => absurd (by simp; omega) h
     rw [wn]
     refine ok_if (fun hn => ?_) fun hn => ?_
     · have hn' : ¬ n.toNat ≤ t.length := by simp only [List.length_cons] at hn; omega
       rw [if_neg hn'] at he
       exact ok_jn (fun j => j = 0) (fun k1 hk1 => ok_if (fun _ => hk1 _ rfl) fun h => absurd (by decide) h) fun j hj => hk _ (by rw [hj]; exact rel_bad (by rw [← he]) (Int.le_refl _))
     · have hn' : n.toNat ≤ t.length := by simp only [List.length_cons] at hn; omega
       rw [if_pos hn'] at he
       have hsl : sl (x :: n :: t) 2 ((n.toNat + 2 : Nat) : Int) = some (t.take n.toNat) := by
         rw [sl_some (by simp only [List.length_cons]; omega), Int.toNat_natCast]
         simp
       have hdr : sl (x :: n :: t) ((n.toNat + 2 : Nat) : Int) ((x :: n :: t).length : Int) = some (t.drop n.toNat) := by
         rw [sl_all (by simp only [List.length_cons]; omega), Int.toNat_natCast]
         simp
       refine ok_bde i1 ?_
       rw [wn]
       refine ok_bde i0 (ok_ine (fun h2 => ?_) fun h2 => ok_bde hsl (ok_jn (fun i => RelR i (capsS (t.take n.toNat) (asOf v' h') r')) (fun k1 hk1 => t_capsR k1 _ _ _ _ (by rw [List.length_take]; omega) hv' hk1) fun i hi => ok_bde hdr ?_))
       · have hp : parS x (t.take n.toNat) (asOf v' h') r' = (2, 4, asOf v' h', r') := by unfold parS; rw [if_neg (by omega)]
         rw [hp, if_neg (show ¬ (2 : Int) = 0 by decide)] at he
         exact ok_jn (fun j => j = 4) (fun k2 hk2 => ok_if (fun _ => hk2 _ rfl) fun h => absurd (by decide) h) fun j hj => hk _ (by rw [hj]; exact rel_bad (by rw [← he]) (by decide))
       · have hp : parS x (t.take n.toNat) (asOf v' h') r' = capsS (t.take n.toNat) (asOf v' h') r' := by unfold parS; rw [if_pos (by omega)]
         rw [hp] at he
         have hlen : (t.drop n.toNat).length < t.length + 1 + 1 := by rw [List.length_drop]; omega
         rcases hi with ⟨c0, hs1, hr1, ha1, hp1⟩ | ⟨c2, hs0, hs2⟩
         · rw [if_pos c0, ← ha1, ← hr1] at he
           exact hnx _ (.inl ⟨hs1, he, by dsimp only; omega, hp1⟩) hlen
         · rw [if_neg (by omega)] at he
           exact hnx _ (.inr ⟨by dsimp only; omega, by rw [← he]; exact .inr ⟨c2, hs0, hs2⟩⟩) hlen
 · exact ok_if (fun _ => ok_if (fun h => by omega) fun _ => hk _ hrel) fun _ => hk _ hrel
def zH : Hello := ⟨0, 0, 0, 0⟩
def faultS (a as two hold id : Int) : Note :=
 if a < 0 then ⟨2, 7, [65, 0]⟩ else if a = 0 ∨ ¬ a = as ∨ ¬ two = shortOf a then ⟨2, 2, []⟩ else if ¬ (hold = 0 ∨ 3 ≤ hold ∧ hold ≤ 65535) then ⟨2, 6, []⟩ else if id = 0 then ⟨2, 3, []⟩ else ⟨0, 0, []⟩
def restS (c : Cap) (as two hold id : Int) : Hello × Note :=
 if ¬ c.1 = 0 then (zH, ⟨2, c.2.1, []⟩) else if ¬ (faultS c.2.2.1 as two hold id).Code = 0 then (zH, faultS c.2.2.1 as two hold id) else (⟨c.2.2.1, hold, id, c.2.2.2⟩, ⟨0, 0, []⟩)
theorem fault_eq (x : OpenSaid) (as two hold id : Int) : m_open_fault x as two hold id = some (faultS x.as_ as two hold id) := by
 refine ok_out' ?_
 unfold m_open_fault faultS
 refine ok_if (fun h => ok_some (by rw [if_pos h])) fun h => ?_
 rw [if_neg h]
 refine ok_if (fun h0 => ok_some (by rw [if_pos (.inl h0)])) fun h0 => ok_ine (fun h1 => ok_some (by rw [if_pos (.inr (.inl h1))])) fun h1 => ok_bde (openShort_eq _) (ok_ine (fun h2 => ok_some (by rw [if_pos (.inr (.inr h2))])) fun h2 => ?_)
 rw [if_neg (by rintro (k | k | k); exact h0 k; exact k h1; exact k h2)]
 refine ok_bde (openHolds_eq _) (ok_ifn (fun h3 => ok_some (by rw [if_pos h3])) fun h3 => ?_)
 rw [if_neg (fun k => k h3)]
 exact ok_if (fun h4 => ok_some (by rw [if_pos h4])) fun h4 => ok_some (by rw [if_neg h4])
theorem rest_bad {c : Cap} {as two hold id : Int} {F : Note} (h0 : c.1 = 0) (h : faultS c.2.2.1 as two hold id = F) (hF : ¬ F.Code = 0) : restS c as two hold id = (zH, F) := by
 unfold restS
 rw [if_neg (fun k => k h0), h, if_pos hF]
theorem rest_ok {c : Cap} {as two hold id : Int} (h0 : c.1 = 0) (h : faultS c.2.2.1 as two hold id = ⟨0, 0, []⟩) : restS c as two hold id = (⟨c.2.2.1, hold, id, c.2.2.2⟩, ⟨0, 0, []⟩) := by
 unfold restS
 rw [if_neg (fun k => k h0), h, if_neg (fun k => k rfl)]
def getS (v n : UInt8) (p : List UInt8) (as two hold id : Int) : Hello × Note :=
 if ¬ (v.toNat : Int) = 4 then (zH, ⟨2, 1, [0, 4]⟩) else if ¬ (n.toNat : Int) = (p.length : Int) then (zH, ⟨2, 0, []⟩) else restS (readS p) as two hold id
theorem refSaneM_eq (m : Msg) (hl : m.Body.length ≤ 100000) : m_ridgewayref03_Sane m = some (decide (MsgOk m)) := by
 refine ok_out' ?_
 unfold m_ridgewayref03_Sane m_ridgewayref03_fits MsgOk
 have hw : IntKind.i64.wrap ((m.Body.length : Int) + (19 : Int)) = (m.Body.length : Int) + 19 := w64 (by omega) (by omega)
 have hL : m_ridgewayref03_Least m.Typ = some (if m.Typ = 1 then 29 else if m.Typ = 2 then 23 else if m.Typ = 3 then 21 else if m.Typ = 4 then 19 else 0) := by
   refine ok_out' ?_
   unfold m_ridgewayref03_Least
   exact ok_if (fun h => ok_some (by rw [if_pos h])) fun h => ok_if (fun h2 => ok_some (by rw [if_neg h, if_pos h2])) fun h2 => ok_if (fun h3 => ok_some (by rw [if_neg h, if_neg h2, if_pos h3])) fun h3 => ok_if (fun h4 => ok_some (by rw [if_neg h, if_neg h2, if_neg h3, if_pos h4])) fun h4 => ok_some (by rw [if_neg h, if_neg h2, if_neg h3, if_neg h4])
 rw [hw]
 have hkey : ∀ {A : Prop} [Decidable A] (b : Bool), (b = true ↔ A) → b = decide A := fun b h => by cases b <;> simp_all
 refine ok_bd (P := fun b => b = decide (((m.Typ = 1 ∧ 10 ≤ m.Body.length) ∨ (m.Typ = 2 ∧ 4 ≤ m.Body.length) ∨ (m.Typ = 3 ∧ 2 ≤ m.Body.length) ∨ (m.Typ = 4 ∧ m.Body.length = 0)) ∧ m.Body.length ≤ 4077)) (ok_bde hL (ok_if (fun hp => ok_bde hL (ok_if (fun h1 => ok_if (fun h2 => ok_ine (fun h3 => ok_some ?_) fun h3 => ok_some ?_) fun h2 => ok_some ?_) fun h1 => ok_some ?_)) fun hp => ok_some ?_)) fun b _ hb => ok_some hb
 · rw [decide_eq_true]
   repeat' split at h1
   all_goals omega
 · refine hkey _ ?_
   rw [decide_eq_true_eq]
   repeat' split at h1
   all_goals omega
 · rw [decide_eq_false]
   omega
 · rw [decide_eq_false]
   repeat' split at h1
   all_goals omega
 · rw [decide_eq_false]
   repeat' split at hp
   all_goals omega
end Go.Proofs.YtibploaibljcmaaGreatDoor
namespace Go.Proofs.YtibploaibljcmaaGreatDoor
open Go.RowKit
set_option linter.unusedVariables false
set_option linter.unusedSimpArgs false
set_option maxRecDepth 100000
set_option maxHeartbeats 4000000
theorem body10 : ∀ (b : List UInt8), 10 ≤ b.length → ∃ v s1 s0 h1 h0 i3 i2 i1 i0 n p, b = ten v s1 s0 h1 h0 i3 i2 i1 i0 n p ∧ p.length + 10 = b.length
 | v :: s1 :: s0 :: h1 :: h0 :: i3 :: i2 :: i1 :: i0 :: n :: p, _ => ⟨v, s1, s0, h1, h0, i3, i2, i1, i0, n, p, rfl, by simp⟩
 | [], h => by simp at h
 | [_], h => by simp at h
 | [_, _], h => by simp at h
 | [_, _, _], h => by simp at h
 | [_, _, _, _], h => by simp at h
 | [_, _, _, _, _], h => by simp at h
 | [_, _, _, _, _, _], h => by simp at h
 | [_, _, _, _, _, _, _], h => by simp at h
 | [_, _, _, _, _, _, _, _], h => by simp at h
 | [_, _, _, _, _, _, _, _, _], h => by simp at h
theorem prog_get (v s1 s0 h1 h0 i3 i2 i1 i0 n : UInt8) (p : List UInt8) (as : Int) (hp : p.length ≤ 4067) :
   m_open_Get ⟨1, ten v s1 s0 h1 h0 i3 i2 i1 i0 n p⟩ as = some (getS v n p as ((s1.toNat * 256 + s0.toNat : Nat) : Int) ((h1.toNat * 256 + h0.toNat : Nat) : Int) ((num [i3, i2, i1, i0] : Nat) : Int)) := by
 refine ok_out' ?_
 have hs : m_msg_Sane ⟨1, ten v s1 s0 h1 h0 i3 i2 i1 i0 n p⟩ = some true := msgSane1 _ (by simp [ten]; omega)
 unfold m_open_Get
 refine ok_ine (fun h => absurd rfl h) fun _ => ok_bde hs (ok_ifnb (fun h => Bool.noConfusion h) fun _ => ok_bde (octGet1c v _) (ok_bde (octGet2c s1 s0 _) (ok_bde (octGet2c h1 h0 _) (ok_bde (octGet4c i3 i2 i1 i0 _) (ok_bde (octGet1c n p) ?_)))))
 unfold getS
 refine ok_ine (fun hv => ok_bde (octPut_eq [] 4 2 (by decide) (by decide) (by simp)) (ok_some ?_)) fun hv => ?_
 · rw [if_pos hv]
   rfl
 dsimp only at hv
 rw [if_neg (fun k => k hv)]
 refine ok_ine (fun hn => ok_some (by rw [if_pos hn]; rfl)) fun hn => ?_
 rw [if_neg (fun k => k hn)]
 refine ok_bde (read_spec p (by omega)) (ok_jn (fun j => j = if (readS p).1 = 0 then ((faultS (readS p).2.2.1 as ((s1.toNat * 256 + s0.toNat : Nat) : Int) ((h1.toNat * 256 + h0.toNat : Nat) : Int) ((num [i3, i2, i1, i0] : Nat) : Int)).Code, (faultS (readS p).2.2.1 as ((s1.toNat * 256 + s0.toNat : Nat) : Int) ((h1.toNat * 256 + h0.toNat : Nat) : Int) ((num [i3, i2, i1, i0] : Nat) : Int)).Sub, (faultS (readS p).2.2.1 as ((s1.toNat * 256 + s0.toNat : Nat) : Int) ((h1.toNat * 256 + h0.toNat : Nat) : Int) ((num [i3, i2, i1, i0] : Nat) : Int)).Data) else ((readS p).1, (readS p).2.1, [])) (fun k hk => ok_if (fun h => ok_bde (fault_eq _ _ _ _ _) (hk _ (by rw [if_pos h]))) fun h => hk _ (by rw [if_neg h])) fun j hj => ?_)
 have hc := read_code p
 subst hj
 unfold restS
 generalize readS p = c at hc
 generalize hF : faultS c.2.2.1 as ((s1.toNat * 256 + s0.toNat : Nat) : Int) ((h1.toNat * 256 + h0.toNat : Nat) : Int) ((num [i3, i2, i1, i0] : Nat) : Int) = F
 by_cases h0 : c.1 = 0
 · rw [if_pos h0, if_neg (fun k => k h0)]
   refine ok_ine (fun h => ok_some ?_) fun h => ok_some ?_
   · rw [if_pos h]
     rfl
   · rw [if_neg (fun k => k h)]
 · rw [if_neg h0, if_pos h0]
   refine ok_ine (fun h => ok_some ?_) fun h => absurd h h0
   have h2 : c.1 = 2 := by omega
   rw [h2]
   rfl
theorem f2 {a as two hold id : Int} (ha : 0 ≤ a) (h : a = 0 ∨ ¬ a = as ∨ ¬ two = shortOf a) : faultS a as two hold id = ⟨2, 2, []⟩ := by
 unfold faultS
 rw [if_neg (by omega), if_pos h]
theorem f6 {a as two hold id : Int} (ha : 0 ≤ a) (h : ¬ (a = 0 ∨ ¬ a = as ∨ ¬ two = shortOf a)) (hh : ¬ (hold = 0 ∨ 3 ≤ hold ∧ hold ≤ 65535)) : faultS a as two hold id = ⟨2, 6, []⟩ := by
 unfold faultS
 rw [if_neg (by omega), if_neg h, if_pos hh]
theorem f3 {a as two hold id : Int} (ha : 0 ≤ a) (h : ¬ (a = 0 ∨ ¬ a = as ∨ ¬ two = shortOf a)) (hh : hold = 0 ∨ 3 ≤ hold ∧ hold ≤ 65535) (hi : id = 0) : faultS a as two hold id = ⟨2, 3, []⟩ := by
 unfold faultS
 rw [if_neg (by omega), if_neg h, if_neg (fun k => k hh), if_pos hi]
theorem f0 {a as two hold id : Int} (ha : 0 ≤ a) (h : ¬ (a = 0 ∨ ¬ a = as ∨ ¬ two = shortOf a)) (hh : hold = 0 ∨ 3 ≤ hold ∧ hold ≤ 65535) (hi : ¬ id = 0) : faultS a as two hold id = ⟨0, 0, []⟩ := by
 unfold faultS
 rw [if_neg (by omega), if_neg h, if_neg (fun k => k hh), if_neg hi]
theorem refTwo_eq (a : Int) : m_ridgewayref06_two a = some (shortOf a) := by
 refine ok_out' ?_
 unfold m_ridgewayref06_two shortOf
 exact ok_if (fun h => ok_some (by rw [if_pos h])) fun h => ok_some (by rw [if_neg h])
theorem ref_get (v s1 s0 h1 h0 i3 i2 i1 i0 n : UInt8) (p : List UInt8) (as : Int) (hp : p.length ≤ 4067) :
   m_ridgewayref06_Get ⟨1, ten v s1 s0 h1 h0 i3 i2 i1 i0 n p⟩ as = some (getS v n p as ((s1.toNat * 256 + s0.toNat : Nat) : Int) ((h1.toNat * 256 + h0.toNat : Nat) : Int) ((num [i3, i2, i1, i0] : Nat) : Int)) := by
 refine ok_out' ?_
 have hL : (ten v s1 s0 h1 h0 i3 i2 i1 i0 n p).length = p.length + 10 := by simp [ten]
 have hs : m_ridgewayref03_Sane ⟨1, ten v s1 s0 h1 h0 i3 i2 i1 i0 n p⟩ = some true := by
   rw [refSaneM_eq _ (by dsimp only; omega), decide_eq_true]
   exact ⟨.inl ⟨rfl, by dsimp only; omega⟩, by dsimp only; omega⟩
 have i0' : ix (ten v s1 s0 h1 h0 i3 i2 i1 i0 n p) 0 = some v := ix_some (by omega) rfl
 have i9 : ix (ten v s1 s0 h1 h0 i3 i2 i1 i0 n p) 9 = some n := ix_some (by omega) rfl
 have hn8 := n.toNat_lt
 have d10 : sl (ten v s1 s0 h1 h0 i3 i2 i1 i0 n p) 10 ((ten v s1 s0 h1 h0 i3 i2 i1 i0 n p).length : Int) = some p := sl_all (by omega)
 have d1 : sl (ten v s1 s0 h1 h0 i3 i2 i1 i0 n p) 1 ((ten v s1 s0 h1 h0 i3 i2 i1 i0 n p).length : Int) = some (s1 :: s0 :: h1 :: h0 :: i3 :: i2 :: i1 :: i0 :: n :: p) := sl_all (by omega)
 have d3 : sl (ten v s1 s0 h1 h0 i3 i2 i1 i0 n p) 3 ((ten v s1 s0 h1 h0 i3 i2 i1 i0 n p).length : Int) = some (h1 :: h0 :: i3 :: i2 :: i1 :: i0 :: n :: p) := sl_all (by omega)
 have d5 : sl (ten v s1 s0 h1 h0 i3 i2 i1 i0 n p) 5 ((ten v s1 s0 h1 h0 i3 i2 i1 i0 n p).length : Int) = some (i3 :: i2 :: i1 :: i0 :: n :: p) := sl_all (by omega)
 have g2 : ∀ (a b : UInt8) t, m_ridgewayref01_Get (a :: b :: t) 2 = some (((a.toNat * 256 + b.toNat : Nat) : Int), t, true) := fun a b t => (ref1Get_eq _ 2 (by omega)).trans (octGet2c a b t)
 have g4 : m_ridgewayref01_Get (i3 :: i2 :: i1 :: i0 :: n :: p) 4 = some (((num [i3, i2, i1, i0] : Nat) : Int), n :: p, true) := (ref1Get_eq _ 4 (by omega)).trans (octGet4c i3 i2 i1 i0 _)
 have bads : ∀ s, m_ridgewayref06_bad s = some (zH, ⟨2, s, []⟩) := fun s => rfl
 unfold m_ridgewayref06_Get
 refine ok_ine (fun h => absurd rfl h) fun _ => ok_bde hs (ok_ifnb (fun h => Bool.noConfusion h) fun _ => ok_bde i0' ?_)
 unfold getS
 refine ok_ine (fun hv => ok_some ?_) fun hv => ?_
 · rw [if_pos hv]
   rfl
 rw [if_neg (fun k => k hv)]
 refine ok_bde i9 ?_
 have w1 : IntKind.i64.wrap (n.toNat : Int) = (n.toNat : Int) := w64 (by omega) (by omega)
 have w2 : IntKind.i64.wrap (((ten v s1 s0 h1 h0 i3 i2 i1 i0 n p).length : Int) - 10) = (p.length : Int) := by rw [w64 (by omega) (by omega)]; omega
 dsimp only
 rw [w1, w2]
 refine ok_ine (fun hn => ok_bde (bads 0) (ok_some (by rw [if_pos hn]))) fun hn => ?_
 rw [if_neg (fun k => k hn)]
 refine ok_bde d10 (ok_jn (fun i => RelR i (readS p)) (fun k hk => t_parR k p (by omega) hk) fun i hi => ?_)
 have h16 := h1.toNat_lt
 have h06 := h0.toNat_lt
 generalize readS p = c at hi
 rcases hi with ⟨c0, hs1, hr1, ha1, hp1⟩ | ⟨c2, hs0, hs2⟩
 · refine ok_if (fun h => by omega) fun _ => ok_ifnb (fun hh => ok_some ?_) fun hh => ok_bde d1 (ok_bde (g2 _ _ _) (ok_bde d3 (ok_bde (g2 _ _ _) (ok_bde d5 (ok_bde g4 ?_)))))
   · have ha : c.2.2.1 = -1 := by rw [← ha1, hh]; rfl
     exact (rest_bad c0 (by unfold faultS; rw [if_pos (by omega)]) (by decide)).symm
   · have ha : i.1 = c.2.2.1 := by rw [← ha1, hh]; rfl
     have hpos := hp1 hh
     rw [ha] at hpos
     rw [ha]
     refine ok_if (fun h0 => ok_bde (bads 2) (ok_some (rest_bad c0 (f2 hpos (.inl h0)) (by decide)).symm)) fun h0 => ok_ine (fun h1 => ok_bde (bads 2) (ok_some (rest_bad c0 (f2 hpos (.inr (.inl h1))) (by decide)).symm)) fun h1 => ok_bde (refTwo_eq _) (ok_ine (fun h2 => ok_bde (bads 2) (ok_some (rest_bad c0 (f2 hpos (.inr (.inr h2))) (by decide)).symm)) fun h2 => ?_)
     have hne : ¬ (c.2.2.1 = 0 ∨ ¬ c.2.2.1 = as ∨ ¬ ((s1.toNat * 256 + s0.toNat : Nat) : Int) = shortOf c.2.2.1) := by
       rintro (k | k | k)
       · exact h0 k
       · exact k h1
       · exact k h2
     refine ok_if (fun h3 => ok_bde (bads 6) (ok_some (rest_bad c0 (f6 hpos hne (by omega)) (by decide)).symm)) fun h3 => ok_if (fun h4 => ok_bde (bads 6) (ok_some (rest_bad c0 (f6 hpos hne (by omega)) (by decide)).symm)) fun h4 => ok_if (fun h5 => ok_bde (bads 3) (ok_some (rest_bad c0 (f3 hpos hne (by omega) h5) (by decide)).symm)) fun h5 => ok_some ?_
     rw [rest_ok c0 (f0 hpos hne (by omega) h5), hr1]
 · refine ok_if (fun _ => ok_bde (bads _) (ok_some ?_)) fun h => by omega
   unfold restS
   rw [if_pos (by omega), hs2]
theorem get_same (m : Msg) (as : Int) (hl : m.Body.length ≤ 5000) : ∃ r, m_open_Get m as = some r ∧ m_ridgewayref06_Get m as = some r ∧ (r.2.Code = 0 → HoldOk r.1.Hold) ∧ (¬ r.2.Code = 0 → NoteOk r.2) := by
 obtain ⟨r, hr, h1, h2⟩ := t_openGet m as hl
 refine ⟨r, hr, ?_, h1, h2⟩
 rw [← hr]
 by_cases hT : m.Typ = 1
 · by_cases hok : MsgOk m
   · have h10 : 10 ≤ m.Body.length ∧ m.Body.length ≤ 4077 := by
       obtain ⟨hk, h4⟩ := hok
       omega
     obtain ⟨v, s1, s0, h1, h0, i3, i2, i1, i0, n, p, hb, hp⟩ := body10 m.Body h10.1
     obtain ⟨T, B⟩ := m
     dsimp only at hT hb h10 hp
     subst hT hb
     rw [ref_get _ _ _ _ _ _ _ _ _ _ _ _ (by omega), prog_get _ _ _ _ _ _ _ _ _ _ _ _ (by omega)]
   · unfold m_ridgewayref06_Get m_open_Get
     rw [decide_eq_false (fun k => k hT), cond_false, cond_false, refSaneM_eq m (by omega), msgSane_eq m (by omega), decide_eq_false hok]
     simp only [bd_some, Bool.not_false, cond_true]
     rw [show m_ridgewayref06_bad 0 = some (zH, ⟨2, 0, []⟩) from rfl, bd_some]
     rfl
 · unfold m_ridgewayref06_Get m_open_Get
   rw [decide_eq_true hT, cond_true, cond_true, show m_ridgewayref06_bad 0 = some (zH, ⟨2, 0, []⟩) from rfl, bd_some]
   rfl
end Go.Proofs.YtibploaibljcmaaGreatDoor
namespace Go.Proofs.YtibploaibljcmaaGreatDoor
open Go.RowKit
set_option linter.unusedVariables false
set_option linter.unusedSimpArgs false
set_option maxRecDepth 100000
set_option maxHeartbeats 4000000
theorem refSess_eq (s : Sess) : m_ridgewayref17_Sane s = some (decide (SessOk s)) := by
 refine ok_out' ?_
 unfold m_ridgewayref17_Sane
 have no : ¬ SessOk s → Ok (some false) (· = decide (SessOk s)) := fun h => ok_some (decide_eq_false h).symm
 refine ok_if (fun h0 => ok_some ?_) fun h0 => ok_if (fun h1 => ?_) fun h1 => ?_
 · rw [Bool.eq_iff_iff]
   simp only [Bool.and_eq_true, decide_eq_true_eq]
   unfold SessOk
   omega
 · refine ok_if (fun h2 => ok_if (fun h3 => ok_if (fun h4 => ok_some (decide_eq_decide.2 ?_)) fun h4 => no ?_) fun h3 => no ?_) fun h2 => no ?_ <;> unfold SessOk <;> omega
 · refine ok_jn (fun j => j = decide (s.State = 2 ∨ s.State = 3)) (fun k hk => ok_if (fun h2 => hk _ (decide_eq_true (.inl h2)).symm) fun h2 => hk _ (decide_eq_decide.2 (by omega))) fun j hj => ?_
   subst hj
   refine ok_if (fun h2 => ok_if (fun h3 => ok_if (fun h4 => ok_some (decide_eq_decide.2 ?_)) fun h4 => no ?_) fun h3 => ok_if (fun h4 => ok_if (fun h5 => ok_if (fun h6 => ok_if (fun h7 => ok_if (fun h8 => ok_some (by rw [Int.tdiv_eq_ediv_of_nonneg (by omega), w64 (by omega) (by omega)]; exact decide_eq_decide.2 (by unfold SessOk; omega))) fun h8 => no ?_) fun h7 => no ?_) fun h6 => no ?_) fun h5 => no ?_) fun h4 => no ?_) fun h2 => no ?_
   all_goals (unfold SessOk; omega)
theorem refAs_eq (s : Sess) : m_ridgewayref17_As s = some (saneR s) := by
 refine ok_out' ?_
 unfold m_ridgewayref17_As
 refine ok_bde (refSess_eq s) (ok_ifn (fun h => ok_some ?_) fun h => ok_some ?_)
 · unfold saneR; rw [if_neg h]; rfl
 · unfold saneR; rw [if_pos h]
theorem refMine_eq (r : Int) : m_ridgewayref13_Mine r = some (mineR r) := by
 refine ok_out' ?_
 unfold m_ridgewayref13_Mine mineR
 exact ok_if (fun h => ok_some (by rw [if_pos h])) fun h1 => ok_if (fun h => ok_some (by rw [if_neg h1, if_pos h])) fun h2 => ok_if (fun h => ok_some (by rw [if_neg h1, if_neg h2, if_pos h])) fun h3 => ok_some (by rw [if_neg h1, if_neg h2, if_neg h3])
def PairP (a b : Int) : Prop := (a = 0 ∧ b = 3) ∨ (a = 1 ∧ b = 2) ∨ (a = 3 ∧ b = 0) ∨ (a = 2 ∧ b = 1) ∨ (a = 4 ∧ b = 4)
theorem pairsP (a b : Int) : pairsB a b = true ↔ PairP a b := by
 unfold pairsB PairP
 simp only [Bool.or_eq_true, Bool.and_eq_true, beq_iff_eq]
 omega
theorem refPairs_eq (a b : Int) : m_ridgewayref13_Pairs a b = some (pairsB a b) := by
 refine ok_out' ?_
 have hT : PairP a b → Ok (some true) (· = pairsB a b) := fun h => ok_some ((pairsP a b).2 h).symm
 have hF : ¬ PairP a b → Ok (some false) (· = pairsB a b) := fun h => ok_some (by cases hb : pairsB a b with | false => rfl | true => exact absurd ((pairsP a b).1 hb) h)
 have hD : ∀ {q : Prop} {_ : Decidable q}, (q ↔ PairP a b) → Ok (some (decide q)) (· = pairsB a b) := fun {q} {d} h => by
   by_cases hq : q
   · rw [decide_eq_true hq]; exact hT (h.1 hq)
   · rw [decide_eq_false hq]; exact hF fun k => hq (h.2 k)
 unfold m_ridgewayref13_Pairs
 repeat' first
   | (refine ok_if ?_ ?_ <;> intro _)
   | (refine hT ?_; unfold PairP; omega)
   | (refine hD ?_; unfold PairP; omega)
   | (refine hF ?_; unfold PairP; omega)
theorem refNote_eq (n : Note) : m_ridgewayref05_Sane n = some (decide (NoteOk n)) := by
 refine ok_out' ?_
 unfold m_ridgewayref05_Sane
 have no : ¬ NoteOk n → Ok (some false) (· = decide (NoteOk n)) := fun h => ok_some (decide_eq_false h).symm
 refine ok_if (fun h1 => ok_if (fun h2 => ok_if (fun h3 => ok_if (fun h4 => ok_some (decide_eq_decide.2 ?_)) fun h => no ?_) fun h => no ?_) fun h => no ?_) fun h => no ?_ <;> unfold NoteOk <;> omega
theorem refNoteP_eq (n : Note) : m_ridgewayref05_Put n = some (if NoteOk n then noteM n else ⟨0, []⟩) := by
 refine ok_out' ?_
 unfold m_ridgewayref05_Put
 refine ok_bde (refNote_eq n) (ok_ifn (fun h => ok_some (by rw [if_neg h])) fun h => ?_)
 have := h.2.2
 refine ok_ap (by simp only [List.length_cons, List.length_nil]; omega) (by simp only [List.length_cons, List.length_nil]; omega) (ok_some ?_)
 rw [if_pos h]
 rfl
theorem refStop_eq (s : Sess) (n : Note) : m_ridgewayref17_Stop s n = some (zS, endL s n) := by
 refine ok_out' ?_
 unfold m_ridgewayref17_Stop
 refine ok_bde (refAs_eq s) (ok_if (fun h => ok_some ?_) fun h => ok_bde (refNoteP_eq n) ?_)
 · rw [state0 (saneR_ok s) h]
   unfold endL
   rw [if_neg]
   rintro ⟨h1, h2, _⟩
   rw [saneR_id h1] at h
   exact h2 h
 · have hs : SessOk s ∧ ¬ s.State = 0 := by
     by_cases g : SessOk s
     · rw [saneR_id g] at h; exact ⟨g, h⟩
     · exact absurd (by unfold saneR; rw [if_neg g]; rfl) h
   unfold endL
   by_cases hn : NoteOk n
   · rw [if_pos hn, if_pos ⟨hs.1, hs.2, hn⟩]
     exact ok_if (fun k => absurd (show (3 : Int) = 0 from k) (by decide)) fun _ => ok_some rfl
   · rw [if_neg hn, if_neg fun k => hn k.2.2]
     exact ok_if (fun _ => ok_some rfl) fun k => absurd rfl k
theorem refEnds_eq {s : Sess} (a b : Int) (ok : SessOk s) (h0 : ¬ s.State = 0) (hn : NoteOk ⟨a, b, []⟩) : m_ridgewayref17_ends s a b = some (zS, [noteM ⟨a, b, []⟩], false) := by
 refine ok_out' ?_
 unfold m_ridgewayref17_ends
 refine ok_bde (refStop_eq _ _) (ok_some ?_)
 unfold endL
 rw [if_pos ⟨ok, h0, hn⟩]
theorem refHello_th {c : Conf} {k : Int} (hc : m_ridgewayref12_Sane c = some true) (h : 0 ≤ k ∧ k < c.Sides.length) (hlt : k.toNat < c.Sides.length) : m_ridgewayref17_Hello c k = some ⟨c.As, c.Hold, c.Id, mineR c.Sides[k.toNat].Rel⟩ := by
 refine ok_out' ?_
 unfold m_ridgewayref17_Hello
 exact ok_bde hc (ok_ifnb (fun h => Bool.noConfusion h) fun _ => ok_if (fun h => by omega) fun _ => ok_if (fun h => by omega) fun _ => ok_ix h.1 h.2 fun _ => ok_bde (refMine_eq _) (ok_some rfl))
theorem refHello_no {c : Conf} {k : Int} {b : Bool} (hc : m_ridgewayref12_Sane c = some b) (h : ¬ (b = true ∧ 0 ≤ k ∧ k < c.Sides.length)) : m_ridgewayref17_Hello c k = some zH := by
 refine ok_out' ?_
 unfold m_ridgewayref17_Hello
 exact ok_bde hc (ok_ifnb (fun _ => ok_some rfl) fun hb => ok_if (fun _ => ok_some rfl) fun h1 => ok_if (fun _ => ok_some rfl) fun h2 => absurd ⟨hb, by omega, by omega⟩ h)
theorem hello_th {c : Conf} {k : Int} (hc : m_conf_Sane c = some true) (h : 0 ≤ k ∧ k < c.Sides.length) (hlt : k.toNat < c.Sides.length) : m_session_Hello c k = some ⟨c.As, c.Hold, c.Id, mineR c.Sides[k.toNat].Rel⟩ := by
 refine ok_out' ?_
 unfold m_session_Hello
 exact ok_bde (there_eq hc k) (ok_ifn (fun g => absurd ⟨rfl, h⟩ g) fun _ => ok_ix h.1 h.2 fun _ => ok_bde (mine_eq _) (ok_some rfl))
theorem hello_no {c : Conf} {k : Int} {b : Bool} (hc : m_conf_Sane c = some b) (h : ¬ (b = true ∧ 0 ≤ k ∧ k < c.Sides.length)) : m_session_Hello c k = some zH := by
 refine ok_out' ?_
 unfold m_session_Hello
 exact ok_bde (there_eq hc k) (ok_ifn (fun _ => ok_some rfl) fun g => absurd g h)
theorem refOpenS_eq (h : Hello) : m_ridgewayref06_Sane h = some (decide (openOk h)) := by
 refine ok_out' ?_
 unfold m_ridgewayref06_Sane
 have no : ¬ openOk h → Ok (some false) (· = decide (openOk h)) := fun k => ok_some (decide_eq_false k).symm
 repeat' first
   | (refine ok_if ?_ ?_ <;> intro _)
   | (refine ok_some (decide_eq_decide.2 ?_); unfold openOk; omega)
   | (refine no ?_; unfold openOk; omega)
theorem refPutO_eq {h : Hello} (g : openOk h) : m_ridgewayref06_Put h = some ⟨1, openBody h⟩ := by
 have p2 : ∀ l v, l.length ≤ 1000 → m_ridgewayref01_Put l v 2 = some (l ++ putL v 2) := fun l v hl => ref1Put_eq l v 2 (by omega) (by omega)
 have p4 : ∀ l v, l.length ≤ 1000 → m_ridgewayref01_Put l v 4 = some (l ++ putL v 4) := fun l v hl => ref1Put_eq l v 4 (by omega) (by omega)
 refine ok_out' ?_
 unfold m_ridgewayref06_Put
 refine ok_bde (refOpenS_eq h) (ok_ifn (fun k => absurd g k) fun _ => ok_bde (refTwo_eq _) (ok_bde (p2 _ _ (by simp)) (ok_bde (p2 _ _ (by simp [putL_length])) (ok_bde (p4 _ _ (by simp [putL_length])) (ok_bde (p4 _ _ (by simp)) (ok_jn (fun j => j = capsOf h) (fun k hk => ok_if (fun hr => ok_ap (by simp [putL_length]) (by simp [putL_length]) (hk _ ?_)) fun hr => hk _ ?_) fun j hj => ?_))))))
 · unfold capsOf capA capR
   rw [if_neg (by omega), byteK]
   rfl
 · unfold openOk at g
   unfold capsOf capA
   rw [if_pos (by omega), List.append_nil]
 · subst hj
   have hcl := capsOf_length h
   have hcl2 : (capsOf h).length ≤ 13 := by rw [hcl]; split <;> omega
   refine ok_ap (by simp [putL_length]) (by simp [putL_length]) (ok_ap (by simp [putL_length]; omega) (by simp [putL_length]; omega) (ok_some ?_))
   rw [byteK]
   rfl
theorem start_both (s : Sess) (c : Conf) (k : Int) {b : Bool} (hc : m_conf_Sane c = some b) (hr : m_ridgewayref12_Sane c = some b) (hb : b = true → ConfOk c) :
   Ok (m_session_Start s c k) fun r => m_ridgewayref17_Start s c k = some r ∧ r.2.length ≤ 1 := by
 obtain ⟨r, er, hr2⟩ := start_ok s c k hc hb
 refine ⟨r, er, ?_⟩
 rcases hr2 with ⟨rfl, hno⟩ | ⟨h0, y, hy, oo, rfl⟩
 · refine ⟨ok_out' ?_, Nat.zero_le _⟩
   unfold m_ridgewayref17_Start
   refine ok_bde (refAs_eq s) ?_
   by_cases hth : b = true ∧ 0 ≤ k ∧ k < c.Sides.length
   · obtain ⟨hbt, hk⟩ := hth
     subst hbt
     exact ok_bde (refHello_th hr hk (by omega)) (ok_ine (fun _ => ok_some rfl) fun h => absurd ⟨h, rfl, hk⟩ hno)
   · exact ok_bde (refHello_no hr hth) (ok_ine (fun _ => ok_some rfl) fun _ => ok_if (fun _ => ok_some rfl) fun h => absurd rfl h)
 · refine ⟨ok_out' ?_, by simp⟩
   by_cases hth : b = true ∧ 0 ≤ k ∧ k < c.Sides.length
   · obtain ⟨hbt, hk⟩ := hth
     subst hbt
     have hlt : k.toNat < c.Sides.length := by omega
     rw [List.getElem?_eq_getElem hlt] at hy
     cases hy
     have hA := (hb rfl).1
     unfold m_ridgewayref17_Start
     exact ok_bde (refAs_eq s) (ok_bde (refHello_th hr hk hlt) (ok_ine (fun h => absurd h0 h) fun _ => ok_if (fun h => by dsimp only at h; omega) fun _ => ok_bde (refPutO_eq oo) (ok_some rfl)))
   · exfalso
     have := er
     unfold m_session_Start at this
     rw [sane_eq, bd_some, decide_eq_false (fun h => h h0), cond_false, there_eq hc k, decide_eq_false hth, bd_some, Bool.not_false, cond_true] at this
     cases (Prod.mk.inj (Option.some.inj this)).2
end Go.Proofs.YtibploaibljcmaaGreatDoor
namespace Go.Proofs.YtibploaibljcmaaGreatDoor
open Go.RowKit
set_option linter.unusedVariables false
set_option linter.unusedSimpArgs false
set_option maxRecDepth 100000
set_option maxHeartbeats 4000000
theorem thirdR {n : Int} (h : HoldOk n) : IntKind.i64.wrap (n.tdiv 3) = n / 3 := by
 have : 0 ≤ n ∧ n ≤ 65535 := by unfold HoldOk at h; omega
 rw [Int.tdiv_eq_ediv_of_nonneg this.1, w64 (by omega) (by omega)]
def openR (c : Conf) (y : Side) (g : Hello × Note) : Sess × List Msg × Bool :=
 if ¬ g.2.Code = 0 then (zS, [noteM g.2], false)
 else if g.1.Role ≥ 0 ∧ pairsB (mineR y.Rel) g.1.Role = false then (zS, [noteM ⟨2, 11, []⟩], false)
 else (⟨2, minI c.Hold g.1.Hold, minI c.Hold g.1.Hold, minI c.Hold g.1.Hold / 3⟩, [alive1], false)
def takeF (s : Sess) (c : Conf) (m : Msg) (y : Side) (g : Hello × Note) : Sess × List Msg × Bool :=
 if s.State = 1 then (if m.Typ = 1 then openR c y g else (zS, [noteM ⟨5, 1, []⟩], false))
 else if s.State = 2 then (if m.Typ = 4 then (⟨3, s.Hold, s.Hold, s.Keep⟩, [], false) else (zS, [noteM ⟨5, 2, []⟩], false))
 else (if m.Typ = 1 then (zS, [noteM ⟨5, 3, []⟩], false) else (⟨3, s.Hold, s.Hold, s.Keep⟩, [], decide (m.Typ = 2)))
theorem takeF_len (s : Sess) (c : Conf) (m : Msg) (y : Side) (g : Hello × Note) : (takeF s c m y g).2.1.length ≤ 1 := by
 unfold takeF openR
 repeat' split
 all_goals simp
theorem refOpens_eq {s : Sess} {c : Conf} {k : Int} {m : Msg} {g : Hello × Note} (ok : SessOk s) (h0 : ¬ s.State = 0) (hk : 0 ≤ k ∧ k < c.Sides.length) (hlt : k.toNat < c.Sides.length) (hg : m_ridgewayref06_Get m c.Sides[k.toNat].As = some g) (h1 : g.2.Code = 0 → HoldOk g.1.Hold) (h2 : ¬ g.2.Code = 0 → NoteOk g.2) (hc : HoldOk c.Hold) :
   m_ridgewayref17_opens s c k m = some (openR c c.Sides[k.toNat] g) := by
 refine ok_out' ?_
 unfold m_ridgewayref17_opens openR
 refine ok_ix hk.1 hk.2 fun _ => ok_bde hg (ok_ine (fun hn => ok_bde (refStop_eq _ _) (ok_some ?_)) fun hn => ?_)
 · unfold endL
   rw [if_pos ⟨ok, h0, h2 hn⟩, if_pos hn]
 · have hm := minI_ok hc (h1 hn)
   have ht := thirdR hm
   unfold minI at ht
   rw [if_neg (show ¬ ¬ g.2.Code = 0 from fun q => q hn), ht]
   refine ok_if (fun hr => ok_ix hk.1 hk.2 fun _ => ok_bde (refMine_eq _) (ok_bde (refPairs_eq _ _) (ok_ifnb (fun hp => ok_bde (refEnds_eq 2 11 ok h0 (by decide)) (ok_some ?_)) fun hp => ok_some ?_))) fun hr => ok_some ?_
   · rw [if_pos ⟨hr, hp⟩]
   · rw [if_neg (show ¬ (g.1.Role ≥ 0 ∧ pairsB (mineR c.Sides[k.toNat].Rel) g.1.Role = false) from fun q => by rw [show pairsB (mineR c.Sides[k.toNat].Rel) g.1.Role = true from hp] at q; exact Bool.noConfusion q.2)]
     rfl
   · rw [if_neg (show ¬ (g.1.Role ≥ 0 ∧ pairsB (mineR c.Sides[k.toNat].Rel) g.1.Role = false) from fun q => hr q.1)]
     rfl
theorem take_both (s : Sess) (c : Conf) (k : Int) (m : Msg) {b : Bool} (hc : m_conf_Sane c = some b) (hr : m_ridgewayref12_Sane c = some b) (hb : b = true → ConfOk c) (hl : m.Body.length ≤ 5000) :
   Ok (m_session_Take s c k m) fun r => m_ridgewayref17_Take s c k m = some r ∧ r.2.1.length ≤ 1 := by
 by_cases hth : b = true ∧ 0 ≤ k ∧ k < c.Sides.length
 · obtain ⟨hbt, hk⟩ := hth
   subst hbt
   have co := hb rfl
   have hA := co.1
   have hlt : k.toNat < c.Sides.length := by omega
   have hth : m_session_there c k = some true := by rw [there_eq hc k, decide_eq_true ⟨rfl, hk⟩]
   obtain ⟨g, g1, g2, g3, g4⟩ := get_same m c.Sides[k.toNat].As hl
   have hz : (saneR s).State = 0 → saneR s = zS := state0 (saneR_ok s)
   have ref : m_ridgewayref17_Take s c k m = some (if (saneR s).State = 0 ∨ ¬ MsgOk m then (saneR s, [], false) else if m.Typ = 3 then (zS, [], false) else takeF (saneR s) c m c.Sides[k.toNat] g) := by
     refine ok_out' ?_
     unfold m_ridgewayref17_Take
     refine ok_bde (refAs_eq s) (ok_bde (refHello_th hr hk hlt) (ok_if (fun h0 => ok_some (by rw [if_pos (.inl h0)])) fun h0 => ok_if (fun h => by dsimp only at h; omega) fun _ => ok_bde (refSaneM_eq m (by omega)) (ok_ifn (fun hm => ok_some (by rw [if_pos (.inr hm)])) fun hm => ?_)))
     rw [if_neg (by rintro (q | q); exact h0 q; exact q hm)]
     refine ok_if (fun h3 => ok_some (by rw [if_pos h3]; rfl)) fun h3 => ?_
     rw [if_neg h3]
     have ok := saneR_ok s
     generalize saneR s = x at h0 ok
     have st : x.State = 1 ∨ x.State = 2 ∨ x.State = 3 := by unfold SessOk at ok; omega
     have e1 := refEnds_eq (s := x) 5 1 ok h0 (by decide)
     have e2 := refEnds_eq (s := x) 5 2 ok h0 (by decide)
     have e3 := refEnds_eq (s := x) 5 3 ok h0 (by decide)
     unfold takeF
     refine ok_if (fun s1 => ok_if (fun t1 => ok_bde (refOpens_eq ok h0 hk hlt g2 g3 g4 co.2.2.1) (ok_some (by rw [if_pos s1, if_pos t1]))) fun t1 => ok_if (fun _ => ok_bde e1 (ok_some (by rw [if_pos s1, if_neg t1]))) fun q => absurd s1 q) fun s1 => ok_if (fun q => absurd q s1) fun _ => ok_if (fun s2 => ok_ine (fun t4 => ok_bde e2 (ok_some (by rw [if_neg s1, if_pos s2, if_neg t4]))) fun t4 => ok_if (fun q => by omega) fun _ => ok_some (by rw [if_neg s1, if_pos s2, if_pos t4, decide_eq_false (by omega)])) fun s2 => ok_if (fun s3 => ok_if (fun t1 => ok_bde e3 (ok_some (by rw [if_neg s1, if_neg s2, if_pos t1]))) fun t1 => ok_some (by rw [if_neg s1, if_neg s2, if_neg t1])) fun q => by omega
   rw [ref]
   refine (?_ : Ok (m_session_Take s c k m) fun r => r = _).elim fun r hr => ⟨r, hr.1, by rw [hr.2], ?_⟩
   rotate_left
   · rw [hr.2]
     repeat' split
     · exact Nat.zero_le _
     · exact Nat.zero_le _
     · exact takeF_len _ _ _ _ _
   unfold m_session_Take
   refine ok_bde (sane_eq s) (ok_bde hth (ok_ifnb (fun h => Bool.noConfusion h) fun _ => ok_bde (msgSane_eq m (by omega)) (ok_ifn (fun hm => ok_some (by rw [if_pos (.inr hm)])) fun hm => ?_)))
   by_cases h0 : (saneR s).State = 0
   · rw [if_pos (.inl h0), hz h0]
     exact ok_if (fun _ => ok_some rfl) fun _ => ok_if (fun _ => ok_ix hk.1 hk.2 fun _ => ok_bde (x := (zS, [], false)) rfl (ok_some rfl)) fun q => absurd rfl q
   rw [if_neg (by rintro (q | q); exact h0 q; exact q hm)]
   refine ok_if (fun h3 => ok_some (by rw [if_pos h3]; rfl)) fun h3 => ?_
   rw [if_neg h3]
   have ok := saneR_ok s
   generalize saneR s = x at h0 ok
   have st : x.State = 1 ∨ x.State = 2 ∨ x.State = 3 := by unfold SessOk at ok; omega
   unfold takeF
   refine ok_if (fun q => absurd q h0) fun _ => ok_if (fun s1 => ok_ix hk.1 hk.2 fun _ => ok_bd (P := (· = if m.Typ = 1 then openR c c.Sides[k.toNat] g else (zS, [noteM ⟨5, 1, []⟩], false))) ?_ fun r _ hr => ok_some (by rw [hr, if_pos s1])) fun s1 => ok_if (fun s2 => ok_ix hk.1 hk.2 fun _ => ok_bd (P := (· = if m.Typ = 4 then (⟨3, x.Hold, x.Hold, x.Keep⟩, [], false) else (zS, [noteM ⟨5, 2, []⟩], false))) ?_ fun r _ hr => ok_some (by rw [hr, if_neg s1, if_pos s2])) fun s2 => ok_if (fun s3 => ok_ix hk.1 hk.2 fun _ => ok_bd (P := (· = if m.Typ = 1 then (zS, [noteM ⟨5, 3, []⟩], false) else (⟨3, x.Hold, x.Hold, x.Keep⟩, [], decide (m.Typ = 2)))) ?_ fun r _ hr => ok_some (by rw [hr, if_neg s1, if_neg s2])) fun q => by omega
   · unfold m_session_turn__sent
     dsimp only
     refine ok_ine (fun q => ok_bde (end_eq (t := ⟨x, c, c.Sides[k.toNat], m⟩) (n := ⟨5, 1, []⟩) ok h0 (by decide)) (ok_some (by rw [if_neg q]))) fun q => ok_bde g1 ?_
     rw [if_pos q]
     unfold openR
     refine ok_ine (fun hn => ok_bde (end_eq (t := ⟨x, c, c.Sides[k.toNat], m⟩) (n := g.2) ok h0 (g4 hn)) (ok_some (by rw [if_pos hn]))) fun hn => ?_
     have hm := minI_ok co.2.2.1 (g3 hn)
     have h65 : 0 ≤ minI c.Hold g.1.Hold ∧ minI c.Hold g.1.Hold ≤ 65535 := by unfold HoldOk at hm; omega
     rw [if_neg (show ¬ ¬ g.2.Code = 0 from fun q => q hn)]
     refine ok_if (fun hr => ok_bde (mine_eq _) (ok_bde (pairs_eq _ _) (ok_ifnb (fun hp => ok_bde (end_eq (t := ⟨x, c, c.Sides[k.toNat], m⟩) (n := ⟨2, 11, []⟩) ok h0 (by decide)) (ok_some ?_)) fun hp => ok_bde (third_eq (minI c.Hold g.1.Hold) h65) (ok_bde (x := [alive1]) rfl (ok_some ?_))))) fun hr => ok_bde (third_eq (minI c.Hold g.1.Hold) h65) (ok_bde (x := [alive1]) rfl (ok_some ?_))
     · rw [if_pos ⟨hr, hp⟩]
     · rw [if_neg (show ¬ (g.1.Role ≥ 0 ∧ pairsB (mineR c.Sides[k.toNat].Rel) g.1.Role = false) from fun w => by rw [show pairsB (mineR c.Sides[k.toNat].Rel) g.1.Role = true from hp] at w; exact Bool.noConfusion w.2)]
       rfl
     · rw [if_neg (show ¬ (g.1.Role ≥ 0 ∧ pairsB (mineR c.Sides[k.toNat].Rel) g.1.Role = false) from fun w => hr w.1)]
       rfl
   · unfold m_session_turn__confirm
     dsimp only
     exact ok_ine (fun q => ok_bde (end_eq (t := ⟨x, c, c.Sides[k.toNat], m⟩) (n := ⟨5, 2, []⟩) ok h0 (by decide)) (ok_some (by rw [if_neg q]))) fun q => ok_some (by rw [if_pos q])
   · unfold m_session_turn__up
     dsimp only
     exact ok_if (fun q => ok_bde (end_eq (t := ⟨x, c, c.Sides[k.toNat], m⟩) (n := ⟨5, 3, []⟩) ok h0 (by decide)) (ok_some (by rw [if_pos q]))) fun q => ok_some (by rw [if_neg q, s3])
 · refine (?_ : Ok (m_session_Take s c k m) fun r => r = (saneR s, [], false)).elim fun r hr => ⟨r, hr.1, ?_, by rw [hr.2]; exact Nat.zero_le _⟩
   · unfold m_session_Take
     exact ok_bde (sane_eq s) (ok_bde (there_eq hc k) (ok_ifn (fun _ => ok_some rfl) fun h => absurd h hth))
   · rw [hr.2]
     refine ok_out' ?_
     unfold m_ridgewayref17_Take
     exact ok_bde (refAs_eq s) (ok_bde (refHello_no ‹_› hth) (ok_if (fun _ => ok_some rfl) fun _ => ok_if (fun _ => ok_some rfl) fun h => absurd rfl h))
theorem still {s : Sess} (h : s.Left = 0) : ∀ k, ticks k s = (s, [])
 | 0 => rfl
 | k + 1 => by
   simp only [ticks, still h k]
   unfold sec
   rw [if_pos h]
   rfl
theorem refTick_eq (s : Sess) (n : Int) : m_ridgewayref17_Tick s n = some (ticks (if 1000 < n then 1000 else n).toNat (saneR s)) := by
 refine ok_out' ?_
 unfold m_ridgewayref17_Tick
 refine ok_bde (refAs_eq s) ?_
 generalize hK : (if (1000 : Int) < n then (1000 : Int) else n) = K
 have hK2 : K ≤ 1000 := by rw [← hK]; split <;> omega
 have hs := saneR_ok s
 generalize saneR s = z at hs
 refine ok_loop (fun st => ∃ i : Nat, i ≤ K.toNat ∧ st = ((ticks i z).2, (i : Int), (ticks i z).1.Left, (ticks i z).1.Keep) ∧ (ticks i z).1.State = z.State ∧ (ticks i z).1.Hold = z.Hold) (fun st => (K - st.2.1).toNat) ⟨0, Nat.zero_le _, rfl, rfl, rfl⟩ (by dsimp only; omega) ?_
 rintro _ ⟨i, hi, rfl, hS, hH⟩ nx hnx
 rw [s_ridgewayref17_Tick1, hK]
 dsimp only at hnx ⊢
 have hl := ticks_len z i
 have hok := ticks_ok hs i
 have hrng := sess_rng hok
 have hw : IntKind.i64.wrap ((i : Int) + 1) = ((i + 1 : Nat) : Int) := by rw [w64 (by omega) (by omega)]; rfl
 have hadd : ∀ j, i ≤ j → ticks j z = ((ticks (j - i) (ticks i z).1).1, (ticks i z).2 ++ (ticks (j - i) (ticks i z).1).2) := fun j hj => by
   have := ticks_add z i (j - i)
   rwa [show i + (j - i) = j by omega] at this
 have hend : ∀ (w : Sess) (o : List Msg), ticks i z = (w, o) → w.State = z.State → w.Hold = z.Hold → (⟨z.State, z.Hold, w.Left, w.Keep⟩ : Sess) = w := fun w o _ h1 h2 => by rw [← h1, ← h2]
 have hself : (⟨z.State, z.Hold, (ticks i z).1.Left, (ticks i z).1.Keep⟩ : Sess) = (ticks i z).1 := by rw [← hS, ← hH]
 have htk : ticks (i + 1) z = ((sec (ticks i z).1).1, (ticks i z).2 ++ (sec (ticks i z).1).2) := rfl
 refine ok_if (fun h => ok_if (fun hL => ?_) fun hL => ok_some ?_) fun h => ok_some ?_
 · rw [w64 (x := (ticks i z).1.Left - 1) (by omega) (by omega), w64 (x := (ticks i z).1.Keep - 1) (by omega) (by omega), hw]
   refine ok_if (fun h1 => ?_) fun h1 => ?_
   · have hsec : sec (ticks i z).1 = (zS, [noteM ⟨4, 0, []⟩]) := by unfold sec; rw [if_neg (by omega), if_pos (by omega)]
     have hst : endL ⟨1, 0, 1, 0⟩ ⟨4, 0, []⟩ = [noteM ⟨4, 0, []⟩] := by decide
     refine ok_bde (refStop_eq _ _) ?_
     rw [hst]
     refine ok_ap (by simp; omega) (by simp; omega) (ok_some ?_)
     rw [hadd K.toNat hi]
     obtain ⟨d, hd⟩ : ∃ d, K.toNat - i = 1 + d := ⟨K.toNat - i - 1, by omega⟩
     have h1t : ticks 1 (ticks i z).1 = (zS, [noteM ⟨4, 0, []⟩]) := by
       show ((sec (ticks i z).1).1, [] ++ (sec (ticks i z).1).2) = _
       rw [hsec]
       rfl
     rw [hd, ticks_add, h1t, still (s := zS) rfl]
     simp
   · refine ok_if (fun h2 => ok_if (fun h3 => ok_ap (by simp; omega) (by simp; omega) (hnx _ ⟨i + 1, by omega, ?_⟩ (by dsimp only; omega))) fun h3 => hnx _ ⟨i + 1, by omega, ?_⟩ (by dsimp only; omega)) fun h2 => hnx _ ⟨i + 1, by omega, ?_⟩ (by dsimp only; omega)
     · have hsec : sec (ticks i z).1 = (⟨(ticks i z).1.State, (ticks i z).1.Hold, (ticks i z).1.Left - 1, (ticks i z).1.Hold / 3⟩, [alive1]) := by unfold sec; rw [if_neg (by omega), if_neg (by omega), if_neg (by omega), if_neg (by omega)]
       rw [htk, hsec]
       refine ⟨?_, hS, hH⟩
       rw [hH, Int.tdiv_eq_ediv_of_nonneg (by omega), w64 (by omega) (by omega)]
       rfl
     · have hsec : sec (ticks i z).1 = (⟨(ticks i z).1.State, (ticks i z).1.Hold, (ticks i z).1.Left - 1, (ticks i z).1.Keep - 1⟩, []) := by unfold sec; rw [if_neg (by omega), if_neg (by omega), if_neg (by omega), if_pos (by omega)]
       rw [htk, hsec]
       exact ⟨by rw [List.append_nil], hS, hH⟩
     · have hsec : sec (ticks i z).1 = (⟨(ticks i z).1.State, (ticks i z).1.Hold, (ticks i z).1.Left - 1, (ticks i z).1.Keep⟩, []) := by unfold sec; rw [if_neg (by omega), if_neg (by omega), if_pos (by omega)]
       rw [htk, hsec]
       exact ⟨by rw [List.append_nil], hS, hH⟩
 · rw [hself, hadd K.toNat hi, still (s := (ticks i z).1) (by omega)]
   simp
 · have : i = K.toNat := by omega
   subst this
   rw [hself]
theorem sameM_refl (l : List Msg) (hl : l.length ≤ 100000) : m_ridgewayref03_SameAll l l = some true := by
 refine ok_out' ?_
 unfold m_ridgewayref03_SameAll
 refine ok_ine (fun h => absurd rfl h) fun _ => ok_idx l.length (fun _ => True) (by omega) trivial (fun i hi _ nx hnx => ?_) (fun _ nx => ?_)
 · rw [s_ridgewayref03_SameAll1]
   have hs : ∀ x : Msg, m_ridgewayref03_Same x x = some true := fun x => by
     unfold m_ridgewayref03_Same
     rw [decide_eq_true rfl, cond_true, beq_self_eq_true]
   exact ok_if (fun _ => ok_ix (by omega) (by omega) fun _ => ok_ix (by omega) (by omega) fun _ => ok_bde (hs _) (ok_ifnb (fun h => Bool.noConfusion h) fun _ => hnx trivial)) fun h => by omega
 · rw [s_ridgewayref03_SameAll1]
   exact ok_if (fun h => by omega) fun _ => ok_some rfl
theorem sessionIs_true (s : Sess) (c : Conf) (k : Int) (m : Msg) (n : Int) (hl : c.Sides.length ≤ 9223372036854775807) (_hb : m.Body.length ≤ 9223372036854775807) : m_ridgewaylaw17_SessionIs s c k m n = some true := by
 refine ok_true ?_
 unfold m_ridgewaylaw17_SessionIs
 refine ok_bde law17_awake (ok_bd (t_short c m hl) fun r _ hr => ok_ifnb (fun _ => ok_some rfl) fun h => ?_)
 obtain ⟨hf, hbody⟩ := hr h
 obtain ⟨b, hc, hb⟩ := t_sane c hf
 have hrc : m_ridgewayref12_Sane c = some b := (csane_eq c hf).trans hc
 obtain ⟨r3, e3, f3, l3⟩ := start_both s c k hc hrc hb
 obtain ⟨r5, e5, f5, l5⟩ := take_both s c k m hc hrc hb hbody
 have l7 := ticks_len (saneR s) (if (1000 : Int) < n then 1000 else n).toNat
 have l7b : (if (1000 : Int) < n then (1000 : Int) else n).toNat ≤ 1000 := by split <;> omega
 have l9 : (endL s ⟨n, k, []⟩).length ≤ 1 := by unfold endL; split <;> simp
 refine ok_bde e3 (ok_bde f3 (ok_bde e5 (ok_bde f5 (ok_bde (tick_eq s n) (ok_bde (refTick_eq s n) (ok_bde (stop_eq s _) (ok_bde (refStop_eq s _) ?_)))))))
 refine ok_ifnb (fun h => by simp at h) fun _ => ok_ifnb (fun h => by simp at h) fun _ => ok_ifnb (fun h => by simp at h) fun _ => ok_ifnb (fun h => by simp at h) fun _ => ok_ifnb (fun h => by simp at h) fun _ => ?_
 refine ok_bde (sameM_refl _ (by omega)) (ok_ifnb (fun h => Bool.noConfusion h) fun _ => ok_bde (sameM_refl _ (by omega)) (ok_ifnb (fun h => Bool.noConfusion h) fun _ => ok_ifb (fun _ => ok_bde (sameM_refl _ (by omega)) (ok_ifb (fun _ => ok_bde (sameM_refl _ (by dsimp only; omega)) (ok_ifb (fun _ => ok_bde (sessSane_eq s) (ok_bde (refSess_eq s) (ok_ifb (fun _ => ?_) fun h => by simp at h))) fun h => Bool.noConfusion h)) fun h => Bool.noConfusion h)) fun h => Bool.noConfusion h))
 by_cases hth : b = true ∧ 0 ≤ k ∧ k < c.Sides.length
 · obtain ⟨hbt, hk⟩ := hth
   subst hbt
   exact ok_bde (hello_th hc hk (by omega)) (ok_bde (refHello_th hrc hk (by omega)) (ok_some (by simp)))
 · exact ok_bde (hello_no hc hth) (ok_bde (refHello_no hrc hth) (ok_some (by simp)))
end Go.Proofs.YtibploaibljcmaaGreatDoor
