/- What functions compute. -/
import Derived.Test.YtppekacobjdhnaaDoorMo
namespace Go.Proofs.YtppekacobjdhnaaDoor
set_option linter.unusedVariables false
def m_ridgewaylaw02_awake : Option Bool := some true
structure Prefix where
  A : Int
  N : Int
deriving DecidableEq
instance encPrefix : Enc Prefix := ⟨2, fun x => .agg [(.int .i64 x.A), (.int .i64 x.N)], fun x => by simp only [pur.eq_3, purL.eq_1, purL.eq_2, pur.eq_2, purL_enc, pur, Bool.and_self], fun _ => ⟨_, rfl, rfl⟩⟩
theorem enc_Prefix (x : Prefix) : Enc.enc x = .agg [(.int .i64 x.A), (.int .i64 x.N)] := rfl
theorem sz_Prefix : Enc.sz Prefix = 2 := rfl
def m_prefix_Mask (a0 : Int) (a1 : Int) : Option Int :=
 nn (IntKind.i64.wrap ((32 : Int) - (if (32 : Int) < (if (0 : Int) > a1 then (0 : Int) else a1) then (32 : Int) else (if (0 : Int) > a1 then (0 : Int) else a1)))) <|
 nn (IntKind.i64.wrap ((32 : Int) - (if (32 : Int) < (if (0 : Int) > a1 then (0 : Int) else a1) then (32 : Int) else (if (0 : Int) > a1 then (0 : Int) else a1)))) <|
 some (IntKind.i64.wrap (((IntKind.i64.wrap ((BitVec.ofInt IntKind.i64.bits a0 &&& BitVec.ofInt IntKind.i64.bits (4294967295 : Int)).toNat : Int)).fdiv (2 ^ (min (IntKind.i64.wrap ((32 : Int) - (if (32 : Int) < (if (0 : Int) > a1 then (0 : Int) else a1) then (32 : Int) else (if (0 : Int) > a1 then (0 : Int) else a1)))).toNat IntKind.i64.bits))) * 2 ^ (min (IntKind.i64.wrap ((32 : Int) - (if (32 : Int) < (if (0 : Int) > a1 then (0 : Int) else a1) then (32 : Int) else (if (0 : Int) > a1 then (0 : Int) else a1)))).toNat IntKind.i64.bits)))
def m_prefix_Sane (a0 : Prefix) : Option Bool :=
 bif decide (a0.N ≥ (0 : Int)) then
 bif decide (a0.N ≤ (32 : Int)) then
 bd (m_prefix_Mask a0.A a0.N) fun r1 =>
 some (decide (r1 = a0.A))
 else
 some false
 else
 some false
def m_prefix_Has (a0 : Prefix) (a1 : Prefix) : Option Bool :=
 bd (m_prefix_Sane a0) fun r1 =>
 bif r1 then
 bd (m_prefix_Sane a1) fun r2 =>
 bif r2 then
 bif decide (a1.N ≥ a0.N) then
 bd (m_prefix_Mask a1.A a0.N) fun r3 =>
 some (decide (r3 = a0.A))
 else
 some false
 else
 some false
 else
 some false
def s_cmp_Or_int1 (a0 : (List Int)) (st1 : (Int)) (nx1 : (Int) → Option Int) (bk1 : Unit → Option Int) : Option Int :=
 bif decide (st1 < (a0.length : Int)) then
 bd (ix a0 st1) fun y1 =>
 bif decide (¬ y1 = (0 : Int)) then
 some y1
 else
 nx1 (IntKind.i64.wrap (st1 + (1 : Int)))
 else
 bk1 ()
def m_cmp_Or_int (a0 : (List Int)) : Option Int :=
 loopC (s_cmp_Or_int1 a0) (fun e1 =>
 some (0 : Int)) BIG (0 : Int)
def m_cmp_isNaN_int (a0 : Int) : Option Bool :=
 some (decide (¬ a0 = a0))
def m_cmp_Compare_int (a0 : Int) (a1 : Int) : Option Int :=
 bd (m_cmp_isNaN_int a0) fun r1 =>
 bd (m_cmp_isNaN_int a1) fun r2 =>
 bif r1 then
 bif r2 then
 some (0 : Int)
 else
 some (-1 : Int)
 else
 bif r2 then
 some (1 : Int)
 else
 bif decide (a0 < a1) then
 some (-1 : Int)
 else
 bif decide (a0 > a1) then
 some (1 : Int)
 else
 some (0 : Int)
def m_prefix_Compare (a0 : Prefix) (a1 : Prefix) : Option Int :=
 bd (m_cmp_Compare_int a0.A a1.A) fun r1 =>
 bd (m_cmp_Compare_int a0.N a1.N) fun r2 =>
 bd (m_cmp_Or_int ([r1, r2])) fun r3 =>
 some r3
def m_ridgewaylaw02_PrefixOrder (a0 : Prefix) (a1 : Prefix) (a2 : Prefix) : Option Bool :=
 bd (m_ridgewaylaw02_awake) fun r1 =>
 bd (m_prefix_Compare a0 a1) fun r2 =>
 bd (m_prefix_Compare a1 a2) fun r3 =>
 bif decide (r2 < (-1 : Int)) then
 some false
 else
 bif decide (r2 > (1 : Int)) then
 some false
 else
 bd (m_prefix_Compare a1 a0) fun r4 =>
 bif decide (¬ r4 = (IntKind.i64.wrap (0 - r2))) then
 some false
 else
 bif (!(decide (r2 = (0 : Int)) == ((decide (a0.A = a1.A) && decide (a0.N = a1.N))))) then
 some false
 else
 bd (m_prefix_Has a0 a1) fun r5 =>
 bif r5 then
 bif decide (r2 > (0 : Int)) then
 some false
 else
 bif r1 then
 bif decide (r2 > (0 : Int)) then
 bif decide (r2 ≥ (0 : Int)) then
 some true
 else
 bif decide (r3 > (0 : Int)) then
 some true
 else
 bd (m_prefix_Compare a0 a2) fun r6 =>
 some (decide (r6 < (0 : Int)))
 else
 bif decide (r3 > (0 : Int)) then
 bif decide (r2 ≥ (0 : Int)) then
 some true
 else
 bif decide (r3 > (0 : Int)) then
 some true
 else
 bd (m_prefix_Compare a0 a2) fun r7 =>
 some (decide (r7 < (0 : Int)))
 else
 bd (m_prefix_Compare a0 a2) fun r8 =>
 bif decide (r8 ≤ (0 : Int)) then
 bif decide (r2 ≥ (0 : Int)) then
 some true
 else
 bif decide (r3 > (0 : Int)) then
 some true
 else
 bd (m_prefix_Compare a0 a2) fun r9 =>
 some (decide (r9 < (0 : Int)))
 else
 some false
 else
 some false
 else
 bif r1 then
 bif decide (r2 > (0 : Int)) then
 bif decide (r2 ≥ (0 : Int)) then
 some true
 else
 bif decide (r3 > (0 : Int)) then
 some true
 else
 bd (m_prefix_Compare a0 a2) fun r10 =>
 some (decide (r10 < (0 : Int)))
 else
 bif decide (r3 > (0 : Int)) then
 bif decide (r2 ≥ (0 : Int)) then
 some true
 else
 bif decide (r3 > (0 : Int)) then
 some true
 else
 bd (m_prefix_Compare a0 a2) fun r11 =>
 some (decide (r11 < (0 : Int)))
 else
 bd (m_prefix_Compare a0 a2) fun r12 =>
 bif decide (r12 ≤ (0 : Int)) then
 bif decide (r2 ≥ (0 : Int)) then
 some true
 else
 bif decide (r3 > (0 : Int)) then
 some true
 else
 bd (m_prefix_Compare a0 a2) fun r13 =>
 some (decide (r13 < (0 : Int)))
 else
 some false
 else
 some false
theorem encs : type_of% (And.intro @enc_Prefix @sz_Prefix) := (And.intro @enc_Prefix @sz_Prefix)
end Go.Proofs.YtppekacobjdhnaaDoor
