/- What functions compute. -/
import Derived.Test.YtppekacobjdhnaaDoorMo
namespace Go.Proofs.YtppekacobjdhnaaDoor
set_option linter.unusedVariables false
def m_ridgewaylaw02_awake : Option Bool := some true
structure Prefix where
  A : Int
  N : Int
deriving DecidableEq
instance encPrefix : Enc Prefix := ⟨2, fun x => .agg [(.int .i64 x.A), (.int .i64 x.N)], fun x => by simp only [pur.eq_3, purL.eq_1, purL.eq_2, pur.eq_2, purL_enc, pur, Bool.and_self], fun _ => ⟨_, rfl, rfl⟩⟩
theorem enc_Prefix (x : Prefix) : Enc.enc x = .agg [(.int .i64 x.A), (.int .i64 x.N)] := rfl
theorem sz_Prefix : Enc.sz Prefix = 2 := rfl
def m_prefix_Mask (a0 : Int) (a1 : Int) : Option Int :=
 nn (IntKind.i64.wrap ((32 : Int) - (if (32 : Int) < (if (0 : Int) > a1 then (0 : Int) else a1) then (32 : Int) else (if (0 : Int) > a1 then (0 : Int) else a1)))) <|
 nn (IntKind.i64.wrap ((32 : Int) - (if (32 : Int) < (if (0 : Int) > a1 then (0 : Int) else a1) then (32 : Int) else (if (0 : Int) > a1 then (0 : Int) else a1)))) <|
 some (IntKind.i64.wrap (((IntKind.i64.wrap ((BitVec.ofInt IntKind.i64.bits a0 &&& BitVec.ofInt IntKind.i64.bits (4294967295 : Int)).toNat : Int)).fdiv (2 ^ (min (IntKind.i64.wrap ((32 : Int) - (if (32 : Int) < (if (0 : Int) > a1 then (0 : Int) else a1) then (32 : Int) else (if (0 : Int) > a1 then (0 : Int) else a1)))).toNat IntKind.i64.bits))) * 2 ^ (min (IntKind.i64.wrap ((32 : Int) - (if (32 : Int) < (if (0 : Int) > a1 then (0 : Int) else a1) then (32 : Int) else (if (0 : Int) > a1 then (0 : Int) else a1)))).toNat IntKind.i64.bits)))
def m_prefix_Sane (a0 : Prefix) : Option Bool :=
 bif decide (a0.N ≥ (0 : Int)) then
 bif decide (a0.N ≤ (32 : Int)) then
 bd (m_prefix_Mask a0.A a0.N) fun r1 =>
 some (decide (r1 = a0.A))
 else
 some false
 else
 some false
def m_ridgewaylaw02_PrefixMask (a0 : Int) (a1 : Int) (a2 : Int) : Option Bool :=
 bd (m_ridgewaylaw02_awake) fun r1 =>
 bd (m_prefix_Mask a0 a1) fun r2 =>
 bd (m_prefix_Mask r2 a2) fun r3 =>
 bif r1 then
 bd (m_prefix_Mask a0 (if a2 < a1 then a2 else a1)) fun r4 =>
 bif decide (r3 = r4) then
 bd (m_prefix_Sane (Prefix.mk r2 (if (if (32 : Int) < a1 then (32 : Int) else a1) > (0 : Int) then (if (32 : Int) < a1 then (32 : Int) else a1) else (0 : Int)))) fun r5 =>
 bif r5 then
 bif decide (a1 > a2) then
 bd (m_prefix_Mask a0 (32 : Int)) fun r6 =>
 some (decide (r6 = (IntKind.i64.wrap ((BitVec.ofInt IntKind.i64.bits a0 &&& BitVec.ofInt IntKind.i64.bits (4294967295 : Int)).toNat : Int))))
 else
 bd (m_prefix_Mask a0 a2) fun r7 =>
 bif decide (r2 ≤ r7) then
 bd (m_prefix_Mask a0 (32 : Int)) fun r8 =>
 some (decide (r8 = (IntKind.i64.wrap ((BitVec.ofInt IntKind.i64.bits a0 &&& BitVec.ofInt IntKind.i64.bits (4294967295 : Int)).toNat : Int))))
 else
 some false
 else
 some false
 else
 some false
 else
 some false
theorem encs : type_of% (And.intro @enc_Prefix @sz_Prefix) := (And.intro @enc_Prefix @sz_Prefix)
end Go.Proofs.YtppekacobjdhnaaDoor
