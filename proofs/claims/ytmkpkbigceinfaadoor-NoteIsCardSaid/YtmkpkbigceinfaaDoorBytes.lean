/- Bytes as strings, and slices of bytes in a region. -/
import Derived.Test.YtmkpkbigceinfaaDoorRows
import Derived.Test.YtmkpkbigceinfaaDoorRel
import Derived.Test.YtmkpkbigceinfaaDoorGrow
import Derived.Laws.BytesArg
namespace Go.Proofs.YtmkpkbigceinfaaDoor
open Go.RowKit
set_option maxHeartbeats 400000
set_option linter.unusedVariables false
set_option linter.unusedSimpArgs false

/-- The string of some octets. -/
def str (l : List UInt8) : ByteArray := ⟨l.toArray⟩

theorem strOfNums_bytes (l : List UInt8) : strOfNums (l.map fun x => (x.toNat : Int)) = str l := by
  simp [strOfNums, str, Function.comp_def]

theorem RdB.str {w : World} {A : Option Addr} {n c : Nat} {l : List UInt8} (h : RdB w A n c l) : (convert 22 9 (.slice A n c)).run Tryd.prog w = .ok (.string (str l)) w := by
  have hlen := h.len
  cases A with
  | none =>
    rcases h.lies with hl | ⟨b, o, hA, _⟩
    · obtain rfl : l = [] := by simpa using hl
      exact run_convert_bytes_nil w 22 5 Tryd.underlying22 Tryd.underlying5 n c 9 Tryd.underlying9
    · cases hA
  | some a =>
    rw [← strOfNums_bytes]
    rcases h.lies with hl | ⟨b, o, hA, hc⟩
    · obtain rfl : l = [] := by simpa using hl
      simp at hlen
      subst hlen
      rw [run_convert_bytes_string w 22 9 5 _ 0 c Tryd.underlying22 Tryd.underlying5 Tryd.underlying9]
      rw [run_bytesToString w a 0 c [] (by simp [loadCells, loadCellsFrom])]
      rfl
    · injection hA with hA
      subst hA
      refine run_convert_bytes_arg w 22 5 Tryd.underlying22 Tryd.underlying5 b o n c _ (by simpa using hlen) (fun i hi => ?_) 9 Tryd.underlying9
      rw [hc i (by simp; omega)]
      simp [bv, List.getD, List.getElem?_eq_getElem (show i < l.length by omega)]

theorem rdB_of_own {w : World} {base n c : Nat} {A : Option Addr} {l : List UInt8} (h : w.ownsRow base 5 1 (.slice A n c) n (l.map bv)) : RdB w A n c l := by
  obtain ⟨A', c', hv, h1, h2⟩ := ownsRow_shape h
  injection hv with e1 e2 e3
  subst e1 e3
  exact ⟨by have := h.1; simpa using this, h1, h2, Lies.of_own h⟩

/-- A slice of the bytes l. -/
def IsB (l : List UInt8) : Value → World → Prop := fun v w => ∃ A n c, v = .slice A n c ∧ RdB w A n c l
theorem lasts_isB (l : List UInt8) : Lasts (IsB l) := fun _ _ _ hb ⟨A, n, c, hv, hr⟩ => ⟨A, n, c, hv, hr.below hb⟩

theorem rel_str {ops : Array Oper} {a0 : Act} {C : World → Prop} {Q : Env → Prop} {env : Env} {o : Oper} {rest : List Oper} (t : Nat) (l : List UInt8) (hop : o.op = .convert 22 9 (.tmp t)) (hg : GuardYes ops a0 env o)
    (hV : slotFact a0 env t = IsB l) (h : Rel Tryd.prog ops C a0 Q ((o.dst.getD 0, Just (.string (str l))) :: env) rest) : Rel Tryd.prog ops C a0 Q env (o :: rest) := by
  refine rel_exact _ hg (fun ρ w hρ hC hk => ?_) h
  obtain ⟨dst, op, type, pos, after, guard⟩ := o
  simp only at hop
  subst hop
  simp only [looks, Op.operands, List.filterMap_cons, List.filterMap_nil, known] at hk
  have h1 := hk.1
  rw [hV] at h1
  obtain ⟨A, n, c, hv, hr⟩ := h1
  simp [execOp, hv, hr.str, Result.andThen]

theorem rel_lenB {ops : Array Oper} {a0 : Act} {C : World → Prop} {Q : Env → Prop} {env : Env} {o : Oper} {rest : List Oper} (t : Nat) (l : List UInt8) (hop : o.op = .call { callee := .builtin .len, args := #[.tmp t], argTypes := #[22] }) (hg : GuardYes ops a0 env o)
    (hV : slotFact a0 env t = IsB l) (h : Rel Tryd.prog ops C a0 Q ((o.dst.getD 0, Just (.int .i64 l.length)) :: env) rest) : Rel Tryd.prog ops C a0 Q env (o :: rest) := by
  refine rel_exact _ hg (fun ρ w hρ hC hk => ?_) h
  obtain ⟨dst, op, type, pos, after, guard⟩ := o
  simp only at hop
  subst hop
  simp only [looks, Op.operands, Call.operands] at hk
  simp [known] at hk
  rw [hV] at hk
  obtain ⟨A, n, c, hv, hr⟩ := hk
  have hl := hr.len
  subst hl
  obtain ⟨hρ1, hρ2, hρ3⟩ := hρ
  go_simp

theorem str_append (a b : List UInt8) : str a ++ str b = str (a ++ b) := by
  apply ByteArray.ext
  simp [str, ByteArray.data_append]

theorem str_size (l : List UInt8) : (str l).size = l.length := by simp [str, ByteArray.size]
theorem str_split (l : List UInt8) (k : Nat) : str (l.take k) ++ str (l.drop k) = str l := by rw [str_append, List.take_append_drop]
theorem no_over (l : List UInt8) (k : Nat) (h : l.length ≤ 4000000) : ¬ 9223372036854775807 < (str (l.take k)).size + (str (l.drop k)).size := by
  rw [str_size, str_size, List.length_take, List.length_drop]; omega

end Go.Proofs.YtmkpkbigceinfaaDoor
