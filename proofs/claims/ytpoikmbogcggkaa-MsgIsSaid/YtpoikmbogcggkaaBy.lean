/- The walks of bytes.Equal, bytes.HasPrefix and bytes.Repeat at one octet, sixteen times. -/
import Derived.Test.YtpoikmbogcggkaaPut
import Derived.Laws.CopyOwn
import Derived.Laws.StructEq
import Derived.Lib.MakeNoZero
import Derived.Deep.RegionLaw
import Derived.Laws.Externs
import Derived.StillTailTactics
namespace Go.Proofs.Ytpoikmbogcggkaa
open Go.RowKit
set_option maxHeartbeats 400000
set_option linter.unusedVariables false
set_option linter.unusedSimpArgs false

theorem str_ne {l m : List UInt8} (h : l ≠ m) : ((str l).toList == (str m).toList) = false := by
  rw [← beq_toListBytes]
  cases hb : (str l == str m) with
  | false => rfl
  | true =>
    exfalso
    apply h
    have e : str l = str m := by
      apply ByteArray.ext
      have h1 : ((str l).data == (str m).data) = true := hb
      exact eq_of_beq h1
    have := congrArg (fun b : ByteArray => b.data.toList) e
    simpa [str] using this

theorem equal_any (A : Option Addr) (n c : Nat) (l : List UInt8) (A2 : Option Addr) (n2 c2 : Nat) (m : List UInt8) (w : World) (h : RdB w A n c l) (h2 : RdB w A2 n2 c2 m) :
    Calls Try.prog 32 #[.slice A n c, .slice A2 n2 c2] w fun e w' => e = .returned (.bool (decide (l = m))) ∧ w = w' := by
  have s1 := h.str
  have s2 := h2.str
  by_cases e : l = m
  · subst e
    go_enter Try.func32, Try.ntmps32
    go_wp2
    go_ret
    exact ⟨by simp, rfl⟩
  · have HD := Lib.hid (decide_eq_false e)
    have s3 := str_ne e
    clear e
    go_enter Try.func32, Try.ntmps32
    go_wp2
    go_ret
    exact ⟨by rw [HD.out]; rfl, rfl⟩

theorem hasPrefix_any (A : Option Addr) (n c : Nat) (l : List UInt8) (A2 : Option Addr) (n2 c2 : Nat) (m : List UInt8) (w : World) (h : RdB w A n c l) (h2 : RdB w A2 n2 c2 m) (hle : n2 ≤ n) :
    Calls Try.prog 30 #[.slice A n c, .slice A2 n2 c2] w fun e w' => e = .returned (.bool (decide (l.take n2 = m))) ∧ w = w' := by
  have hc := h.le
  have hm := h.max
  unfold maxLen at hm
  have g1 : (n2 : Int) ≤ n := by omega
  have g2 : (n2 : Int) ≤ c := by omega
  have g3 : (n : Int) ≤ c := by omega
  have ht := h.take hle (Nat.le_trans hle hc) (Nat.le_refl _)
  cases hd : decide (l.take n2 = m)
  all_goals
    have HD := Lib.hid hd
    clear hd
    go_enter Try.func30, Try.ntmps30
    go_wp2_with fail
    with_reducible refine (equal_any _ _ _ _ _ _ _ _ _ ht h2).mono ?_
    rw [HD.out]
    rintro e w1 ⟨rfl, rfl⟩
    go_wp2
    go_ret
    exact ⟨rfl, rfl⟩

/-- Block g holds a row of at least sixteen octets, the first p of them 255. -/
def Filled (w : World) (g p : Nat) : Prop := ∃ cur : List Value, w.heap[g]? = some (.cells cur.toArray 5 (0, 0)) ∧ 16 ≤ cur.length ∧ cur.length ≤ maxLen ∧ cur.take p = List.replicate p (.int .u8 255)

theorem filled_lt {w : World} {g p : Nat} (h : Filled w g p) : g < w.heap.size := by
  obtain ⟨cur, hg, _⟩ := h
  exact (Array.getElem?_eq_some_iff.1 hg).1

theorem mul_1_16 (w : World) : Calls Try.prog 33 #[.int .u64 1, .int .u64 16] w fun e w' => e = .returned (.tuple #[.int .u64 0, .int .u64 16]) ∧ w = w' := by
  have b1 : bits BinOp.and IntKind.u64 1 4294967295 = 1 := by decide +kernel
  have b2 : bits BinOp.and IntKind.u64 16 4294967295 = 16 := by decide +kernel
  have b3 : bits BinOp.and IntKind.u64 0 4294967295 = 0 := by decide +kernel
  have w0 : IntKind.u64.wrap 0 = 0 := by decide
  have w1 : IntKind.u64.wrap 16 = 16 := by decide
  go_enter Try.func33, Try.ntmps33
  go_wp2
  go_ret2
  exact ⟨rfl, rfl⟩

theorem repeat_any (w : World) (A : Option Addr) (h : RdB w A 1 1 [255]) :
    Calls Try.prog 31 #[.slice A 1 1, .int .i64 16] w (Ret (IsB (List.replicate 16 255)) w) := by
  go_enter Try.func31, Try.ntmps31
  go_wp2_with fail
  with_reducible refine (mul_1_16 _).mono ?_
  rintro e w1 ⟨rfl, rfl⟩
  obtain ⟨cs, hrunM, hle, hmx⟩ := Lib.run_makeNoZero (P := Try.prog) w #[3] 22 5 Try.underlying22 16 (by omega)
  have hcall : (callFunc 34 #[.int .i64 16]).run Try.prog w = .ok (.value (.slice (some ⟨w.heap.size, 0, none⟩) 16 cs.size)) ((w.alloc (.cells cs 5)).drewN 2) := by
    rw [run_callFunc_extern Try.func34 (by kernel_rfl) (by kernel_rfl) (by kernel_rfl) (e := Extern.BytealgMakeNoZero.makeNoZero #[3] #[22]) (by kernel_rfl)]
    rw [show ((16 : Int)) = ((16 : Nat) : Int) from rfl, hrunM]
    rfl
  clear hrunM
  have hmx2 : cs.size ≤ maxLen := hmx (by unfold maxLen; omega)
  have i1 : (16 : Int) ≤ (cs.size : Int) := by omega
  have hg0 : ((w.alloc (.cells cs 5)).drewN 2).heap[w.heap.size]? = some (.cells cs.toList.toArray 5 (0, 0)) := by
    have := heap_alloc_new w (.cells cs 5)
    simpa using this
  have hb0 : Below w.heap.size w ((w.alloc (.cells cs 5)).drewN 2) := (bnew w _).trans (below_drewN 2)
  have hlies := (h.lies.below hb0)
  have hsz1 : (Try.prog.info? 5).map (·.size) = some 1 := by kernel_rfl
  obtain ⟨ad, rfl, hsrc⟩ := hlies.at_add (by simp)
  have HSRC := Lib.hid hsrc
  have hone : ∀ v ∈ [Value.int .u8 255], v.oneCell' = true := by intro u hu; rw [List.mem_singleton.1 hu]; rfl
  have hfit : 0 + [Value.int .u8 255].length ≤ cs.toList.length := by simp; omega
  have HG0 := Lib.hid hg0
  have HB0 := Lib.hid hb0
  have HS0 := Lib.hid hsz1
  have HO := Lib.hid hone
  clear hg0 hb0 hsz1 hone hlies hsrc
  go_wp2_with ((refine wpList_copy_splice rfl (.tmp 58) (.tmp 59) 22 22 rfl 5 Try.underlying22 HS0.out (some ⟨w.heap.size, 0, none⟩) (some ad) 16 16 1 1 rfl rfl w.heap.size 0 cs.toList 5 HG0.out [.int .u8 255] rfl (fun _ => ⟨rfl, ad, rfl, HSRC.out⟩) hfit HO.out w.heap.size w HB0.out (Nat.le_refl _) ?_; intro w2 hg2 hb2))
  have HF : Hid (Filled w2 w.heap.size 1) := by
    refine ⟨_, hg2.out, ?_, ?_, ?_⟩
    · rw [length_splice _ _ _ hfit]; simp; omega
    · rw [length_splice _ _ _ hfit]; simpa using hmx2
    · simp [splice]
  have HB2 := Lib.hid hb2
  clear hg2 hb2 hcall hfit HG0 HB0 HSRC h hle hmx hmx2 i1
  go_loopw [10] (fun i wr => ∃ p : Nat, (p = 1 ∨ p = 2 ∨ p = 4 ∨ p = 8 ∨ p = 16) ∧ i = .int .i64 p ∧ Filled wr w.heap.size p ∧ Below w.heap.size w wr ∧ w.heap.size < wr.heap.size) (fun i _ => 16 - (intOf i).toNat)
  case atStart => exact ⟨1, .inl rfl, rfl, HF.out, HB2.out, filled_lt HF.out⟩
  case round =>
    obtain ⟨p, hp, rfl, ⟨cur, hg, h16, hmx, htk⟩, hb, hlt⟩ := hrel
    have HG := Lib.hid hg
    have HT := Lib.hid htk
    have HB := Lib.hid hb
    have HMX := Lib.hid hmx
    clear hg htk hb hmx HF HB2
    rcases hp with rfl | rfl | rfl | rfl | rfl
    · have hfit : 1 + (List.replicate 1 (Value.int .u8 255)).length ≤ cur.length := by simp; omega
      have hone : ∀ v ∈ List.replicate 1 (Value.int .u8 255), v.oneCell' = true := by intro u hu; rw [(List.mem_replicate.1 hu).2]; rfl
      have hsrc : ∀ j v, (List.replicate 1 (Value.int .u8 255))[j]? = some v → wr.drew.cell? ((⟨w.heap.size, 0, none⟩ : Addr).add j) = some v := by
        intro j v hv
        rw [Addr.add_lit, Nat.zero_add]
        show wr.cell? ⟨w.heap.size, j, none⟩ = some v
        rw [cell_of_row _ _ _ _ _ _ HG.out, List.getElem?_toArray]
        rw [← HT.out, List.getElem?_take] at hv
        split at hv
        · exact hv
        · cases hv
      have HSRC := Lib.hid hsrc
      have HO := Lib.hid hone
      have HBD := Lib.hid (HB.out.drew)
      have HGD : Hid (wr.drew.heap[w.heap.size]? = some (.cells cur.toArray 5 (0, 0))) := HG.out
      clear hsrc hone
      go_wp2_with fail
      go_region_law (refine step_copy_splice rfl (.tmp 70) (.tmp 73) 22 22 rfl 5 Try.underlying22 HS0.out (some ⟨w.heap.size, 1, none⟩) (some ⟨w.heap.size, 0, none⟩) (16 - 1) (16 - 1) 1 16 (by simp [Act.eval, Act.put]) (by simp [Act.eval, Act.put]) w.heap.size 1 cur 5 HGD.out (List.replicate 1 (.int .u8 255)) rfl (fun _ => ⟨rfl, _, rfl, HSRC.out⟩) hfit HO.out w.heap.size w HBD.out (Nat.le_refl _) ?_; intro w3 hg3 hb3)
      have hwQ : IntKind.i64.wrap 2 = 2 := by decide
      all_goals simp [Act.put, hwQ]
      all_goals go_wp2
      all_goals
       go_roundw
       case rel =>
        refine ⟨2, by omega, rfl, ⟨_, hg3.out, ?_, ?_, ?_⟩, hb3, (Array.getElem?_eq_some_iff.1 hg3.out).1⟩
        · rw [length_splice _ _ _ hfit]; exact h16
        · rw [length_splice _ _ _ hfit]; exact HMX.out
        · unfold splice
          rw [HT.out, ← List.append_assoc, List.replicate_append_replicate]
          exact List.take_left' (by simp)
       case measure => simp [intOf]
    · have hfit : 2 + (List.replicate 2 (Value.int .u8 255)).length ≤ cur.length := by simp; omega
      have hone : ∀ v ∈ List.replicate 2 (Value.int .u8 255), v.oneCell' = true := by intro u hu; rw [(List.mem_replicate.1 hu).2]; rfl
      have hsrc : ∀ j v, (List.replicate 2 (Value.int .u8 255))[j]? = some v → wr.drew.cell? ((⟨w.heap.size, 0, none⟩ : Addr).add j) = some v := by
        intro j v hv
        rw [Addr.add_lit, Nat.zero_add]
        show wr.cell? ⟨w.heap.size, j, none⟩ = some v
        rw [cell_of_row _ _ _ _ _ _ HG.out, List.getElem?_toArray]
        rw [← HT.out, List.getElem?_take] at hv
        split at hv
        · exact hv
        · cases hv
      have HSRC := Lib.hid hsrc
      have HO := Lib.hid hone
      have HBD := Lib.hid (HB.out.drew)
      have HGD : Hid (wr.drew.heap[w.heap.size]? = some (.cells cur.toArray 5 (0, 0))) := HG.out
      clear hsrc hone
      go_wp2_with fail
      go_region_law (refine step_copy_splice rfl (.tmp 70) (.tmp 73) 22 22 rfl 5 Try.underlying22 HS0.out (some ⟨w.heap.size, 2, none⟩) (some ⟨w.heap.size, 0, none⟩) (16 - 2) (16 - 2) 2 16 (by simp [Act.eval, Act.put]) (by simp [Act.eval, Act.put]) w.heap.size 2 cur 5 HGD.out (List.replicate 2 (.int .u8 255)) rfl (fun _ => ⟨rfl, _, rfl, HSRC.out⟩) hfit HO.out w.heap.size w HBD.out (Nat.le_refl _) ?_; intro w3 hg3 hb3)
      have hwQ : IntKind.i64.wrap 4 = 4 := by decide
      all_goals simp [Act.put, hwQ]
      all_goals go_wp2
      all_goals
       go_roundw
       case rel =>
        refine ⟨4, by omega, rfl, ⟨_, hg3.out, ?_, ?_, ?_⟩, hb3, (Array.getElem?_eq_some_iff.1 hg3.out).1⟩
        · rw [length_splice _ _ _ hfit]; exact h16
        · rw [length_splice _ _ _ hfit]; exact HMX.out
        · unfold splice
          rw [HT.out, ← List.append_assoc, List.replicate_append_replicate]
          exact List.take_left' (by simp)
       case measure => simp [intOf]
    · have hfit : 4 + (List.replicate 4 (Value.int .u8 255)).length ≤ cur.length := by simp; omega
      have hone : ∀ v ∈ List.replicate 4 (Value.int .u8 255), v.oneCell' = true := by intro u hu; rw [(List.mem_replicate.1 hu).2]; rfl
      have hsrc : ∀ j v, (List.replicate 4 (Value.int .u8 255))[j]? = some v → wr.drew.cell? ((⟨w.heap.size, 0, none⟩ : Addr).add j) = some v := by
        intro j v hv
        rw [Addr.add_lit, Nat.zero_add]
        show wr.cell? ⟨w.heap.size, j, none⟩ = some v
        rw [cell_of_row _ _ _ _ _ _ HG.out, List.getElem?_toArray]
        rw [← HT.out, List.getElem?_take] at hv
        split at hv
        · exact hv
        · cases hv
      have HSRC := Lib.hid hsrc
      have HO := Lib.hid hone
      have HBD := Lib.hid (HB.out.drew)
      have HGD : Hid (wr.drew.heap[w.heap.size]? = some (.cells cur.toArray 5 (0, 0))) := HG.out
      clear hsrc hone
      go_wp2_with fail
      go_region_law (refine step_copy_splice rfl (.tmp 70) (.tmp 73) 22 22 rfl 5 Try.underlying22 HS0.out (some ⟨w.heap.size, 4, none⟩) (some ⟨w.heap.size, 0, none⟩) (16 - 4) (16 - 4) 4 16 (by simp [Act.eval, Act.put]) (by simp [Act.eval, Act.put]) w.heap.size 4 cur 5 HGD.out (List.replicate 4 (.int .u8 255)) rfl (fun _ => ⟨rfl, _, rfl, HSRC.out⟩) hfit HO.out w.heap.size w HBD.out (Nat.le_refl _) ?_; intro w3 hg3 hb3)
      have hwQ : IntKind.i64.wrap 8 = 8 := by decide
      all_goals simp [Act.put, hwQ]
      all_goals go_wp2
      all_goals
       go_roundw
       case rel =>
        refine ⟨8, by omega, rfl, ⟨_, hg3.out, ?_, ?_, ?_⟩, hb3, (Array.getElem?_eq_some_iff.1 hg3.out).1⟩
        · rw [length_splice _ _ _ hfit]; exact h16
        · rw [length_splice _ _ _ hfit]; exact HMX.out
        · unfold splice
          rw [HT.out, ← List.append_assoc, List.replicate_append_replicate]
          exact List.take_left' (by simp)
       case measure => simp [intOf]
    · have hfit : 8 + (List.replicate 8 (Value.int .u8 255)).length ≤ cur.length := by simp; omega
      have hone : ∀ v ∈ List.replicate 8 (Value.int .u8 255), v.oneCell' = true := by intro u hu; rw [(List.mem_replicate.1 hu).2]; rfl
      have hsrc : ∀ j v, (List.replicate 8 (Value.int .u8 255))[j]? = some v → wr.drew.cell? ((⟨w.heap.size, 0, none⟩ : Addr).add j) = some v := by
        intro j v hv
        rw [Addr.add_lit, Nat.zero_add]
        show wr.cell? ⟨w.heap.size, j, none⟩ = some v
        rw [cell_of_row _ _ _ _ _ _ HG.out, List.getElem?_toArray]
        rw [← HT.out, List.getElem?_take] at hv
        split at hv
        · exact hv
        · cases hv
      have HSRC := Lib.hid hsrc
      have HO := Lib.hid hone
      have HBD := Lib.hid (HB.out.drew)
      have HGD : Hid (wr.drew.heap[w.heap.size]? = some (.cells cur.toArray 5 (0, 0))) := HG.out
      clear hsrc hone
      go_wp2_with fail
      go_region_law (refine step_copy_splice rfl (.tmp 70) (.tmp 73) 22 22 rfl 5 Try.underlying22 HS0.out (some ⟨w.heap.size, 8, none⟩) (some ⟨w.heap.size, 0, none⟩) (16 - 8) (16 - 8) 8 16 (by simp [Act.eval, Act.put]) (by simp [Act.eval, Act.put]) w.heap.size 8 cur 5 HGD.out (List.replicate 8 (.int .u8 255)) rfl (fun _ => ⟨rfl, _, rfl, HSRC.out⟩) hfit HO.out w.heap.size w HBD.out (Nat.le_refl _) ?_; intro w3 hg3 hb3)
      have hwQ : IntKind.i64.wrap 16 = 16 := by decide
      all_goals simp [Act.put, hwQ]
      all_goals go_wp2
      all_goals
       go_roundw
       case rel =>
        refine ⟨16, by omega, rfl, ⟨_, hg3.out, ?_, ?_, ?_⟩, hb3, (Array.getElem?_eq_some_iff.1 hg3.out).1⟩
        · rw [length_splice _ _ _ hfit]; exact h16
        · rw [length_splice _ _ _ hfit]; exact HMX.out
        · unfold splice
          rw [HT.out, ← List.append_assoc, List.replicate_append_replicate]
          exact List.take_left' (by simp)
       case measure => simp [intOf]
    · go_wp2
      go_ret
      refine ⟨_, rfl, ⟨_, _, _, rfl, by simp, Nat.le_refl _, by unfold maxLen; omega, ?_⟩, HB.out⟩
      refine .inr ⟨_, _, rfl, fun j hj => ?_⟩
      rw [cell_of_row _ _ _ _ _ _ HG.out, Nat.zero_add, List.getElem?_toArray]
      have hj' : j < 16 := by simpa using hj
      have h1 : cur[j]? = (cur.take 16)[j]? := by rw [List.getElem?_take, if_pos hj']
      rw [h1, HT.out]
      have h2 : ((List.replicate 16 (255 : UInt8)).map bv)[j]? = some (bv 255) := by
        rw [List.map_replicate, List.getElem?_replicate, if_pos hj']
      rw [List.getElem?_replicate, if_pos hj', ← List.getElem?_eq_getElem]
      exact h2.symm
end Go.Proofs.Ytpoikmbogcggkaa
