/- The document's examples: the functions of the library that they run, and that they come out. -/
import Derived.Test.YtppekacobjdhnaaDoorShB
import Derived.Test.YtppekacobjdhnaaDoorShP
import Derived.Test.YtppekacobjdhnaaDoorAcA
import Derived.Lib.UnsafeStr
namespace Go.Proofs.YtppekacobjdhnaaDoor
open Go.RowKit
set_option linter.unusedVariables false
set_option linter.unusedSimpArgs false
set_option maxRecDepth 100000
set_option maxHeartbeats 1000000

theorem ba_of {s : ByteArray} {l : List UInt8} (h : s.data.toList = l) : s = ⟨⟨l⟩⟩ := by
  subst h
  rfl
theorem and_eqs {a b : Bool} (h : (a && b) = true) : a = true ∧ b = true := by
  cases a <;> cases b <;> simp_all
def pfxT : List UInt8 := [49, 48, 46, 51, 50, 46, 48, 46, 48, 47, 49, 49]
def adrT : List UInt8 := [49, 48, 46, 51, 50, 46, 48, 46, 48]
def oCut : List AV → Option (AV × List (TypeId × Nat))
  | [.str s, .str t] => if (s.data.toList == pfxT && t.data.toList == [47]) = true then some (.tup [.str ⟨⟨adrT⟩⟩, .str ⟨⟨[49, 49]⟩⟩, .bool true], []) else none
  | _ => none
def oSplit : List AV → Option (AV × List (TypeId × Nat))
  | [.str s, .str t] => if (s.data.toList == adrT && t.data.toList == [46]) = true then some (.slice .full 1 [.str ⟨⟨[49, 48]⟩⟩, .str ⟨⟨[51, 50]⟩⟩, .str ⟨⟨[48]⟩⟩, .str ⟨⟨[48]⟩⟩], []) else none
  | _ => none
def numT : List UInt8 → Option Int
  | [49, 48] => some 10
  | [51, 50] => some 32
  | [48] => some 0
  | [49, 49] => some 11
  | _ => none
def oAtoi : List AV → Option (AV × List (TypeId × Nat))
  | [.str s] => (numT s.data.toList).map fun n => (.tup [.int .i64 n, .nilIface], [])
  | _ => none
def txtT : Int → Option (List UInt8)
  | 10 => some [49, 48]
  | 32 => some [51, 50]
  | 0 => some [48]
  | 11 => some [49, 49]
  | _ => none
def oItoa : List AV → Option (AV × List (TypeId × Nat))
  | [.int .i64 n] => (txtT n).map fun l => (.str ⟨⟨l⟩⟩, [])
  | _ => none
def oJoin : List AV → Option (AV × List (TypeId × Nat))
  | [.slice t sz [.str a, .str b, .str c, .str d], .str e] => if (Nat.beq sz 1 && (a.data.toList == [49, 48] && (b.data.toList == [51, 50] && (c.data.toList == [48] && (d.data.toList == [48] && e.data.toList == [46]))))) = true then some (.str ⟨⟨adrT⟩⟩, []) else none
  | _ => none
theorem rep_t {M : Mem} {a b c : Value} {x y z : AV} (h1 : Rep (M0 M.κ) a x) (h2 : Rep (M0 M.κ) b y) (h3 : Rep (M0 M.κ) c z) (k1 : ∀ i s xs, x ≠ .slice (.app i) s xs) (k2 : ∀ i s xs, y ≠ .slice (.app i) s xs) (k3 : ∀ i s xs, z ≠ .slice (.app i) s xs) : RepR M (.tuple #[a, b, c]) (.tup [x, y, z]) := by
  have one : ∀ {v : Value} {r : AV}, Rep (M0 M.κ) v r → (∀ i s xs, r ≠ .slice (.app i) s xs) → RepR1 M v r := fun {v r} h k => by
    unfold RepR1
    split
    · rename_i i s xs
      exact absurd rfl (k i s xs)
    · exact h
  refine ⟨[a, b, c], rfl, rfl, fun i i1 i2 => ?_⟩
  match i, i1 with
  | 0, _ => exact one h1 k1
  | 1, _ => exact one h2 k2
  | 2, _ => exact one h3 k3
theorem rep_p {M : Mem} {a b : Value} {x y : AV} (h1 : Rep (M0 M.κ) a x) (h2 : Rep (M0 M.κ) b y) (k1 : ∀ i s xs, x ≠ .slice (.app i) s xs) (k2 : ∀ i s xs, y ≠ .slice (.app i) s xs) : RepR M (.tuple #[a, b]) (.tup [x, y]) := by
  have one : ∀ {v : Value} {r : AV}, Rep (M0 M.κ) v r → (∀ i s xs, r ≠ .slice (.app i) s xs) → RepR1 M v r := fun {v r} h k => by
    unfold RepR1
    split
    · rename_i i s xs
      exact absurd rfl (k i s xs)
    · exact h
  refine ⟨[a, b], rfl, rfl, fun i i1 i2 => ?_⟩
  match i, i1 with
  | 0, _ => exact one h1 k1
  | 1, _ => exact one h2 k2
theorem lib_cut : Lib.cut pfxT [47] = (adrT, [49, 49], true) := by decide
theorem oCut_ok (qs : List AV) (r : AV) (rfr : List (TypeId × Nat)) (h : oCut qs = some (r, rfr)) : ACt Tryd.prog 33 qs r rfr := by
  unfold oCut at h
  split at h
  · rename_i s t
    split at h
    · rename_i hc
      cases h
      obtain ⟨h1, h2⟩ := and_eqs hc
      obtain rfl := ba_of (eq_of_beq h1)
      obtain rfl := ba_of (eq_of_beq h2)
      refine act_plain (by kernel_rfl) fun w κ args hκ ha hg => ?_
      obtain ⟨u, v, rfl, hu, hv⟩ := args2 ha
      cases hu
      cases hv
      obtain ⟨m, hm⟩ := hg.2 0 (by simp [gamI])
      refine (strings_Cut ⟨⟨pfxT⟩⟩ ⟨⟨[47]⟩⟩ m w (by decide) (hκ _ _ hm)).mono fun e w' ⟨he, n, hw⟩ => ?_
      have e1 : Lib.cut (⟨⟨pfxT⟩⟩ : ByteArray).data.toList (⟨⟨[47]⟩⟩ : ByteArray).data.toList = (adrT, [49, 49], true) := lib_cut
      rw [e1] at he
      exact ⟨_, he, hw ▸ ⟨rfl, rfl, rfl, Nat.le_refl _, fun _ _ => rfl⟩, rep_t (.str _) (.str _) (.bool _) (fun _ _ _ => by simp) (fun _ _ _ => by simp) (fun _ _ _ => by simp)⟩
    · cases h
  · cases h
theorem lib_split : ((Lib.splitB ⟨⟨[46]⟩⟩ 0 (Lib.countB ⟨⟨adrT⟩⟩ ⟨⟨[46]⟩⟩) ⟨⟨adrT⟩⟩)) = [⟨⟨[49, 48]⟩⟩, ⟨⟨[51, 50]⟩⟩, ⟨⟨[48]⟩⟩, ⟨⟨[48]⟩⟩] := by decide +kernel
theorem lib_count : Lib.countB ⟨⟨adrT⟩⟩ ⟨⟨[46]⟩⟩ = 3 := by decide +kernel
theorem oSplit_ok (qs : List AV) (r : AV) (rfr : List (TypeId × Nat)) (h : oSplit qs = some (r, rfr)) : ACt Tryd.prog 35 qs r rfr := by
  unfold oSplit at h
  split at h
  · rename_i s t
    split at h
    · rename_i hc
      cases h
      obtain ⟨h1, h2⟩ := and_eqs hc
      obtain rfl := ba_of (eq_of_beq h1)
      obtain rfl := ba_of (eq_of_beq h2)
      refine act_texts (xs := [⟨⟨[49, 48]⟩⟩, ⟨⟨[51, 50]⟩⟩, ⟨⟨[48]⟩⟩, ⟨⟨[48]⟩⟩]) (by simp [maxLen]) (by kernel_rfl) (T := 9) fun w κ args hκ ha hg => ?_
      obtain ⟨u, v, rfl, hu, hv⟩ := args2 ha
      cases hu
      cases hv
      obtain ⟨m, hm⟩ := hg.2 0 (by simp [gamI])
      refine (strings_Split ⟨⟨adrT⟩⟩ ⟨⟨[46]⟩⟩ m w (by decide) (hκ _ _ hm) (by decide)).mono fun e w' ⟨he, hw⟩ => ?_
      rw [lib_count] at he
      rw [lib_split] at hw
      exact ⟨he, hw⟩
    · cases h
  · cases h
theorem below_bytes (w : World) (t : TypeId) (s : ByteArray) : Below w.heap.size w (Lib.bytesWorld w t s) := by
  unfold Lib.bytesWorld
  exact Lib.below_freeze (((Below.refl _ w).drew).alloc (Nat.le_refl _) _) (Nat.le_refl _) _
theorem oAtoi_ok (qs : List AV) (r : AV) (rfr : List (TypeId × Nat)) (h : oAtoi qs = some (r, rfr)) : ACt Tryd.prog 48 qs r rfr := by
  unfold oAtoi at h
  split at h
  · rename_i s
    obtain ⟨n, hn, he⟩ := Option.map_eq_some_iff.1 h
    cases he
    have key : Lib.atoi s.data.toList = some n ∧ s.size ≤ 18 := by
      unfold numT at hn
      split at hn
      all_goals first | (cases hn; done) | skip
      all_goals
        rename_i hs
        cases hn
        obtain rfl := ba_of hs
        exact ⟨by decide, by decide⟩
    refine act_plain (by kernel_rfl) fun w κ args hκ ha hg => ?_
    obtain ⟨u, rfl, hu⟩ := args1 ha
    cases hu
    refine (strconv_Atoi s n key.2 key.1 w).mono fun e w' ⟨he, t, hw⟩ => ?_
    exact ⟨_, he, hw ▸ below_bytes w _ t, rep_p (.int _ _) .nilIface (fun _ _ _ => by simp) (fun _ _ _ => by simp)⟩
  · cases h
theorem oItoa_ok (qs : List AV) (r : AV) (rfr : List (TypeId × Nat)) (h : oItoa qs = some (r, rfr)) : ACt Tryd.prog 43 qs r rfr := by
  unfold oItoa at h
  split at h
  · rename_i n
    obtain ⟨l, hl, he⟩ := Option.map_eq_some_iff.1 h
    cases he
    have key : ∃ i : Nat, n = i ∧ i < 100 ∧ Lib.decDigits i = l := by
      unfold txtT at hl
      split at hl
      all_goals first | (cases hl; done) | skip
      · cases hl; exact ⟨10, rfl, by decide, by simp [Lib.decDigits]⟩
      · cases hl; exact ⟨32, rfl, by decide, by simp [Lib.decDigits]⟩
      · cases hl; exact ⟨0, rfl, by decide, by simp [Lib.decDigits]⟩
      · cases hl; exact ⟨11, rfl, by decide, by simp [Lib.decDigits]⟩
    obtain ⟨i, rfl, hi, rfl⟩ := key
    refine act_plain (by kernel_rfl) fun w κ args hκ ha hg => ?_
    obtain ⟨u, rfl, hu⟩ := args1 ha
    cases hu
    refine (strconv_Itoa_small i hi w).mono fun e w' ⟨he, hw⟩ => ?_
    exact ⟨_, he, hw ▸ Below.refl _ _, .str _⟩
  · cases h
theorem lib_join : Lib.join (([⟨⟨[49, 48]⟩⟩, ⟨⟨[51, 50]⟩⟩, ⟨⟨[48]⟩⟩, ⟨⟨[48]⟩⟩] : List ByteArray).map (·.data.toList)) (⟨⟨[46]⟩⟩ : ByteArray).data.toList = adrT := by decide
theorem oJoin_ok (qs : List AV) (r : AV) (rfr : List (TypeId × Nat)) (h : oJoin qs = some (r, rfr)) : ACt Tryd.prog 44 qs r rfr := by
  unfold oJoin at h
  split at h
  · rename_i t sz a b c d e
    split at h
    · rename_i hc
      cases h
      obtain ⟨h0, hc⟩ := and_eqs hc
      obtain ⟨h1, hc⟩ := and_eqs hc
      obtain ⟨h2, hc⟩ := and_eqs hc
      obtain ⟨h3, hc⟩ := and_eqs hc
      obtain ⟨h4, h5⟩ := and_eqs hc
      obtain rfl := Nat.eq_of_beq_eq_true h0
      obtain rfl := ba_of (eq_of_beq h1)
      obtain rfl := ba_of (eq_of_beq h2)
      obtain rfl := ba_of (eq_of_beq h3)
      obtain rfl := ba_of (eq_of_beq h4)
      obtain rfl := ba_of (eq_of_beq h5)
      refine act_plain (by kernel_rfl) fun w κ args hκ ha hg => ?_
      obtain ⟨u, v, rfl, hu, hv⟩ := args2 ha
      cases hv
      obtain ⟨bk, o, c, rfl, hcap, hx⟩ := texts_in (xs := [⟨⟨[49, 48]⟩⟩, ⟨⟨[51, 50]⟩⟩, ⟨⟨[48]⟩⟩, ⟨⟨[48]⟩⟩]) hu (by simp)
      have hcell : ∀ (j : Nat) x, ([⟨⟨[49, 48]⟩⟩, ⟨⟨[51, 50]⟩⟩, ⟨⟨[48]⟩⟩, ⟨⟨[48]⟩⟩] : List ByteArray)[j]? = some x → w.cell? ⟨bk, o + j, none⟩ = some (.string x) := fun j x hj => hκ _ _ (hx j x hj)
      have hbk : bk < w.heap.size := World.block_lt_of_cell? _ _ (hcell 0 _ rfl)
      refine (strings_Join bk o c [⟨⟨[49, 48]⟩⟩, ⟨⟨[51, 50]⟩⟩, ⟨⟨[48]⟩⟩, ⟨⟨[48]⟩⟩] ⟨⟨[46]⟩⟩ w hcell hbk (by decide) hcap (by rw [lib_join]; decide)).mono fun e w' ⟨he, hw⟩ => ?_
      rw [lib_join] at he
      exact ⟨_, he, hw, .str _⟩
    · cases h
  · cases h
def orcP : Orc := [(33, oCut), (35, oSplit), (48, oAtoi), (43, oItoa), (44, oJoin)]
theorem orcP_ok : orcP.Ok Tryd.prog := ⟨oCut_ok, oSplit_ok, oAtoi_ok, oItoa_ok, oJoin_ok, trivial⟩
theorem k_awake : ACt Tryd.prog 10 [] (.bool true) [] := execF_ok tabA_ok (O := orcP) orcP_ok (n := 60) (d := 12) (by kernel_rfl)
end Go.Proofs.YtppekacobjdhnaaDoor
