/- What functions compute. -/
import Derived.Test.YtppekacobjdhnaaDoorMo
namespace Go.Proofs.YtppekacobjdhnaaDoor
set_option linter.unusedVariables false
def m_ridgewaylaw02_awake : Option Bool := some true
structure Prefix where
  A : Int
  N : Int
deriving DecidableEq
instance encPrefix : Enc Prefix := ⟨2, fun x => .agg [(.int .i64 x.A), (.int .i64 x.N)], fun x => by simp only [pur.eq_3, purL.eq_1, purL.eq_2, pur.eq_2, purL_enc, pur, Bool.and_self], fun _ => ⟨_, rfl, rfl⟩⟩
theorem enc_Prefix (x : Prefix) : Enc.enc x = .agg [(.int .i64 x.A), (.int .i64 x.N)] := rfl
theorem sz_Prefix : Enc.sz Prefix = 2 := rfl
def m_prefix_Mask (a0 : Int) (a1 : Int) : Option Int :=
 nn (IntKind.i64.wrap ((32 : Int) - (if (32 : Int) < (if (0 : Int) > a1 then (0 : Int) else a1) then (32 : Int) else (if (0 : Int) > a1 then (0 : Int) else a1)))) <|
 nn (IntKind.i64.wrap ((32 : Int) - (if (32 : Int) < (if (0 : Int) > a1 then (0 : Int) else a1) then (32 : Int) else (if (0 : Int) > a1 then (0 : Int) else a1)))) <|
 some (IntKind.i64.wrap (((IntKind.i64.wrap ((BitVec.ofInt IntKind.i64.bits a0 &&& BitVec.ofInt IntKind.i64.bits (4294967295 : Int)).toNat : Int)).fdiv (2 ^ (min (IntKind.i64.wrap ((32 : Int) - (if (32 : Int) < (if (0 : Int) > a1 then (0 : Int) else a1) then (32 : Int) else (if (0 : Int) > a1 then (0 : Int) else a1)))).toNat IntKind.i64.bits))) * 2 ^ (min (IntKind.i64.wrap ((32 : Int) - (if (32 : Int) < (if (0 : Int) > a1 then (0 : Int) else a1) then (32 : Int) else (if (0 : Int) > a1 then (0 : Int) else a1)))).toNat IntKind.i64.bits)))
def m_prefix_Sane (a0 : Prefix) : Option Bool :=
 bif decide (a0.N ≥ (0 : Int)) then
 bif decide (a0.N ≤ (32 : Int)) then
 bd (m_prefix_Mask a0.A a0.N) fun r1 =>
 some (decide (r1 = a0.A))
 else
 some false
 else
 some false
def m_prefix_Has (a0 : Prefix) (a1 : Prefix) : Option Bool :=
 bd (m_prefix_Sane a0) fun r1 =>
 bif r1 then
 bd (m_prefix_Sane a1) fun r2 =>
 bif r2 then
 bif decide (a1.N ≥ a0.N) then
 bd (m_prefix_Mask a1.A a0.N) fun r3 =>
 some (decide (r3 = a0.A))
 else
 some false
 else
 some false
 else
 some false
def m_ridgewaylaw02_PrefixHas (a0 : Prefix) (a1 : Prefix) (a2 : Prefix) (a3 : Int) (a4 : Int) (a5 : Int) : Option Bool :=
 bd (m_ridgewaylaw02_awake) fun r1 =>
 bd (m_prefix_Has a0 a0) fun r2 =>
 bd (m_prefix_Sane a0) fun r3 =>
 bif (!(r2 == r3)) then
 some false
 else
 bd (m_prefix_Has a0 a1) fun r4 =>
 bif r4 then
 bd (m_prefix_Has a1 a0) fun r5 =>
 bif r5 then
 bif (!((decide (a0.A = a1.A) && decide (a0.N = a1.N)))) then
 some false
 else
 bd (m_prefix_Has a0 a1) fun r6 =>
 bif r6 then
 bd (m_prefix_Has a1 a2) fun r7 =>
 bif r7 then
 bd (m_prefix_Has a0 a2) fun r8 =>
 bif (!r8) then
 some false
 else
 bd (m_prefix_Mask a3 (IntKind.i64.wrap ((BitVec.ofInt IntKind.i64.bits a4 &&& BitVec.ofInt IntKind.i64.bits (31 : Int)).toNat : Int))) fun r9 =>
 bd (m_prefix_Mask a3 (IntKind.i64.wrap ((BitVec.ofInt IntKind.i64.bits a5 &&& BitVec.ofInt IntKind.i64.bits (31 : Int)).toNat : Int))) fun r10 =>
 bif r1 then
 bd (m_prefix_Sane (Prefix.mk r9 (IntKind.i64.wrap ((BitVec.ofInt IntKind.i64.bits a4 &&& BitVec.ofInt IntKind.i64.bits (31 : Int)).toNat : Int)))) fun r11 =>
 bif r11 then
 bd (m_prefix_Sane (Prefix.mk r10 (IntKind.i64.wrap ((BitVec.ofInt IntKind.i64.bits a5 &&& BitVec.ofInt IntKind.i64.bits (31 : Int)).toNat : Int)))) fun r12 =>
 bif r12 then
 bd (m_prefix_Has (Prefix.mk r9 (IntKind.i64.wrap ((BitVec.ofInt IntKind.i64.bits a4 &&& BitVec.ofInt IntKind.i64.bits (31 : Int)).toNat : Int))) (Prefix.mk r10 (IntKind.i64.wrap ((BitVec.ofInt IntKind.i64.bits a5 &&& BitVec.ofInt IntKind.i64.bits (31 : Int)).toNat : Int)))) fun r13 =>
 bif (r13 == decide ((IntKind.i64.wrap ((BitVec.ofInt IntKind.i64.bits a4 &&& BitVec.ofInt IntKind.i64.bits (31 : Int)).toNat : Int)) ≤ (IntKind.i64.wrap ((BitVec.ofInt IntKind.i64.bits a5 &&& BitVec.ofInt IntKind.i64.bits (31 : Int)).toNat : Int)))) then
 bd (m_prefix_Has (Prefix.mk r9 (IntKind.i64.wrap ((BitVec.ofInt IntKind.i64.bits a4 &&& BitVec.ofInt IntKind.i64.bits (31 : Int)).toNat : Int))) (Prefix.mk (IntKind.i64.wrap ((BitVec.ofInt IntKind.i64.bits a3 &&& BitVec.ofInt IntKind.i64.bits (4294967295 : Int)).toNat : Int)) (32 : Int))) fun r14 =>
 some r14
 else
 some false
 else
 some false
 else
 some false
 else
 some false
 else
 bd (m_prefix_Mask a3 (IntKind.i64.wrap ((BitVec.ofInt IntKind.i64.bits a4 &&& BitVec.ofInt IntKind.i64.bits (31 : Int)).toNat : Int))) fun r15 =>
 bd (m_prefix_Mask a3 (IntKind.i64.wrap ((BitVec.ofInt IntKind.i64.bits a5 &&& BitVec.ofInt IntKind.i64.bits (31 : Int)).toNat : Int))) fun r16 =>
 bif r1 then
 bd (m_prefix_Sane (Prefix.mk r15 (IntKind.i64.wrap ((BitVec.ofInt IntKind.i64.bits a4 &&& BitVec.ofInt IntKind.i64.bits (31 : Int)).toNat : Int)))) fun r17 =>
 bif r17 then
 bd (m_prefix_Sane (Prefix.mk r16 (IntKind.i64.wrap ((BitVec.ofInt IntKind.i64.bits a5 &&& BitVec.ofInt IntKind.i64.bits (31 : Int)).toNat : Int)))) fun r18 =>
 bif r18 then
 bd (m_prefix_Has (Prefix.mk r15 (IntKind.i64.wrap ((BitVec.ofInt IntKind.i64.bits a4 &&& BitVec.ofInt IntKind.i64.bits (31 : Int)).toNat : Int))) (Prefix.mk r16 (IntKind.i64.wrap ((BitVec.ofInt IntKind.i64.bits a5 &&& BitVec.ofInt IntKind.i64.bits (31 : Int)).toNat : Int)))) fun r19 =>
 bif (r19 == decide ((IntKind.i64.wrap ((BitVec.ofInt IntKind.i64.bits a4 &&& BitVec.ofInt IntKind.i64.bits (31 : Int)).toNat : Int)) ≤ (IntKind.i64.wrap ((BitVec.ofInt IntKind.i64.bits a5 &&& BitVec.ofInt IntKind.i64.bits (31 : Int)).toNat : Int)))) then
 bd (m_prefix_Has (Prefix.mk r15 (IntKind.i64.wrap ((BitVec.ofInt IntKind.i64.bits a4 &&& BitVec.ofInt IntKind.i64.bits (31 : Int)).toNat : Int))) (Prefix.mk (IntKind.i64.wrap ((BitVec.ofInt IntKind.i64.bits a3 &&& BitVec.ofInt IntKind.i64.bits (4294967295 : Int)).toNat : Int)) (32 : Int))) fun r20 =>
 some r20
 else
 some false
 else
 some false
 else
 some false
 else
 some false
 else
 bd (m_prefix_Mask a3 (IntKind.i64.wrap ((BitVec.ofInt IntKind.i64.bits a4 &&& BitVec.ofInt IntKind.i64.bits (31 : Int)).toNat : Int))) fun r21 =>
 bd (m_prefix_Mask a3 (IntKind.i64.wrap ((BitVec.ofInt IntKind.i64.bits a5 &&& BitVec.ofInt IntKind.i64.bits (31 : Int)).toNat : Int))) fun r22 =>
 bif r1 then
 bd (m_prefix_Sane (Prefix.mk r21 (IntKind.i64.wrap ((BitVec.ofInt IntKind.i64.bits a4 &&& BitVec.ofInt IntKind.i64.bits (31 : Int)).toNat : Int)))) fun r23 =>
 bif r23 then
 bd (m_prefix_Sane (Prefix.mk r22 (IntKind.i64.wrap ((BitVec.ofInt IntKind.i64.bits a5 &&& BitVec.ofInt IntKind.i64.bits (31 : Int)).toNat : Int)))) fun r24 =>
 bif r24 then
 bd (m_prefix_Has (Prefix.mk r21 (IntKind.i64.wrap ((BitVec.ofInt IntKind.i64.bits a4 &&& BitVec.ofInt IntKind.i64.bits (31 : Int)).toNat : Int))) (Prefix.mk r22 (IntKind.i64.wrap ((BitVec.ofInt IntKind.i64.bits a5 &&& BitVec.ofInt IntKind.i64.bits (31 : Int)).toNat : Int)))) fun r25 =>
 bif (r25 == decide ((IntKind.i64.wrap ((BitVec.ofInt IntKind.i64.bits a4 &&& BitVec.ofInt IntKind.i64.bits (31 : Int)).toNat : Int)) ≤ (IntKind.i64.wrap ((BitVec.ofInt IntKind.i64.bits a5 &&& BitVec.ofInt IntKind.i64.bits (31 : Int)).toNat : Int)))) then
 bd (m_prefix_Has (Prefix.mk r21 (IntKind.i64.wrap ((BitVec.ofInt IntKind.i64.bits a4 &&& BitVec.ofInt IntKind.i64.bits (31 : Int)).toNat : Int))) (Prefix.mk (IntKind.i64.wrap ((BitVec.ofInt IntKind.i64.bits a3 &&& BitVec.ofInt IntKind.i64.bits (4294967295 : Int)).toNat : Int)) (32 : Int))) fun r26 =>
 some r26
 else
 some false
 else
 some false
 else
 some false
 else
 some false
 else
 bd (m_prefix_Has a0 a1) fun r27 =>
 bif r27 then
 bd (m_prefix_Has a1 a2) fun r28 =>
 bif r28 then
 bd (m_prefix_Has a0 a2) fun r29 =>
 bif (!r29) then
 some false
 else
 bd (m_prefix_Mask a3 (IntKind.i64.wrap ((BitVec.ofInt IntKind.i64.bits a4 &&& BitVec.ofInt IntKind.i64.bits (31 : Int)).toNat : Int))) fun r30 =>
 bd (m_prefix_Mask a3 (IntKind.i64.wrap ((BitVec.ofInt IntKind.i64.bits a5 &&& BitVec.ofInt IntKind.i64.bits (31 : Int)).toNat : Int))) fun r31 =>
 bif r1 then
 bd (m_prefix_Sane (Prefix.mk r30 (IntKind.i64.wrap ((BitVec.ofInt IntKind.i64.bits a4 &&& BitVec.ofInt IntKind.i64.bits (31 : Int)).toNat : Int)))) fun r32 =>
 bif r32 then
 bd (m_prefix_Sane (Prefix.mk r31 (IntKind.i64.wrap ((BitVec.ofInt IntKind.i64.bits a5 &&& BitVec.ofInt IntKind.i64.bits (31 : Int)).toNat : Int)))) fun r33 =>
 bif r33 then
 bd (m_prefix_Has (Prefix.mk r30 (IntKind.i64.wrap ((BitVec.ofInt IntKind.i64.bits a4 &&& BitVec.ofInt IntKind.i64.bits (31 : Int)).toNat : Int))) (Prefix.mk r31 (IntKind.i64.wrap ((BitVec.ofInt IntKind.i64.bits a5 &&& BitVec.ofInt IntKind.i64.bits (31 : Int)).toNat : Int)))) fun r34 =>
 bif (r34 == decide ((IntKind.i64.wrap ((BitVec.ofInt IntKind.i64.bits a4 &&& BitVec.ofInt IntKind.i64.bits (31 : Int)).toNat : Int)) ≤ (IntKind.i64.wrap ((BitVec.ofInt IntKind.i64.bits a5 &&& BitVec.ofInt IntKind.i64.bits (31 : Int)).toNat : Int)))) then
 bd (m_prefix_Has (Prefix.mk r30 (IntKind.i64.wrap ((BitVec.ofInt IntKind.i64.bits a4 &&& BitVec.ofInt IntKind.i64.bits (31 : Int)).toNat : Int))) (Prefix.mk (IntKind.i64.wrap ((BitVec.ofInt IntKind.i64.bits a3 &&& BitVec.ofInt IntKind.i64.bits (4294967295 : Int)).toNat : Int)) (32 : Int))) fun r35 =>
 some r35
 else
 some false
 else
 some false
 else
 some false
 else
 some false
 else
 bd (m_prefix_Mask a3 (IntKind.i64.wrap ((BitVec.ofInt IntKind.i64.bits a4 &&& BitVec.ofInt IntKind.i64.bits (31 : Int)).toNat : Int))) fun r36 =>
 bd (m_prefix_Mask a3 (IntKind.i64.wrap ((BitVec.ofInt IntKind.i64.bits a5 &&& BitVec.ofInt IntKind.i64.bits (31 : Int)).toNat : Int))) fun r37 =>
 bif r1 then
 bd (m_prefix_Sane (Prefix.mk r36 (IntKind.i64.wrap ((BitVec.ofInt IntKind.i64.bits a4 &&& BitVec.ofInt IntKind.i64.bits (31 : Int)).toNat : Int)))) fun r38 =>
 bif r38 then
 bd (m_prefix_Sane (Prefix.mk r37 (IntKind.i64.wrap ((BitVec.ofInt IntKind.i64.bits a5 &&& BitVec.ofInt IntKind.i64.bits (31 : Int)).toNat : Int)))) fun r39 =>
 bif r39 then
 bd (m_prefix_Has (Prefix.mk r36 (IntKind.i64.wrap ((BitVec.ofInt IntKind.i64.bits a4 &&& BitVec.ofInt IntKind.i64.bits (31 : Int)).toNat : Int))) (Prefix.mk r37 (IntKind.i64.wrap ((BitVec.ofInt IntKind.i64.bits a5 &&& BitVec.ofInt IntKind.i64.bits (31 : Int)).toNat : Int)))) fun r40 =>
 bif (r40 == decide ((IntKind.i64.wrap ((BitVec.ofInt IntKind.i64.bits a4 &&& BitVec.ofInt IntKind.i64.bits (31 : Int)).toNat : Int)) ≤ (IntKind.i64.wrap ((BitVec.ofInt IntKind.i64.bits a5 &&& BitVec.ofInt IntKind.i64.bits (31 : Int)).toNat : Int)))) then
 bd (m_prefix_Has (Prefix.mk r36 (IntKind.i64.wrap ((BitVec.ofInt IntKind.i64.bits a4 &&& BitVec.ofInt IntKind.i64.bits (31 : Int)).toNat : Int))) (Prefix.mk (IntKind.i64.wrap ((BitVec.ofInt IntKind.i64.bits a3 &&& BitVec.ofInt IntKind.i64.bits (4294967295 : Int)).toNat : Int)) (32 : Int))) fun r41 =>
 some r41
 else
 some false
 else
 some false
 else
 some false
 else
 some false
 else
 bd (m_prefix_Mask a3 (IntKind.i64.wrap ((BitVec.ofInt IntKind.i64.bits a4 &&& BitVec.ofInt IntKind.i64.bits (31 : Int)).toNat : Int))) fun r42 =>
 bd (m_prefix_Mask a3 (IntKind.i64.wrap ((BitVec.ofInt IntKind.i64.bits a5 &&& BitVec.ofInt IntKind.i64.bits (31 : Int)).toNat : Int))) fun r43 =>
 bif r1 then
 bd (m_prefix_Sane (Prefix.mk r42 (IntKind.i64.wrap ((BitVec.ofInt IntKind.i64.bits a4 &&& BitVec.ofInt IntKind.i64.bits (31 : Int)).toNat : Int)))) fun r44 =>
 bif r44 then
 bd (m_prefix_Sane (Prefix.mk r43 (IntKind.i64.wrap ((BitVec.ofInt IntKind.i64.bits a5 &&& BitVec.ofInt IntKind.i64.bits (31 : Int)).toNat : Int)))) fun r45 =>
 bif r45 then
 bd (m_prefix_Has (Prefix.mk r42 (IntKind.i64.wrap ((BitVec.ofInt IntKind.i64.bits a4 &&& BitVec.ofInt IntKind.i64.bits (31 : Int)).toNat : Int))) (Prefix.mk r43 (IntKind.i64.wrap ((BitVec.ofInt IntKind.i64.bits a5 &&& BitVec.ofInt IntKind.i64.bits (31 : Int)).toNat : Int)))) fun r46 =>
 bif (r46 == decide ((IntKind.i64.wrap ((BitVec.ofInt IntKind.i64.bits a4 &&& BitVec.ofInt IntKind.i64.bits (31 : Int)).toNat : Int)) ≤ (IntKind.i64.wrap ((BitVec.ofInt IntKind.i64.bits a5 &&& BitVec.ofInt IntKind.i64.bits (31 : Int)).toNat : Int)))) then
 bd (m_prefix_Has (Prefix.mk r42 (IntKind.i64.wrap ((BitVec.ofInt IntKind.i64.bits a4 &&& BitVec.ofInt IntKind.i64.bits (31 : Int)).toNat : Int))) (Prefix.mk (IntKind.i64.wrap ((BitVec.ofInt IntKind.i64.bits a3 &&& BitVec.ofInt IntKind.i64.bits (4294967295 : Int)).toNat : Int)) (32 : Int))) fun r47 =>
 some r47
 else
 some false
 else
 some false
 else
 some false
 else
 some false
 else
 bd (m_prefix_Has a0 a1) fun r48 =>
 bif r48 then
 bd (m_prefix_Has a1 a2) fun r49 =>
 bif r49 then
 bd (m_prefix_Has a0 a2) fun r50 =>
 bif (!r50) then
 some false
 else
 bd (m_prefix_Mask a3 (IntKind.i64.wrap ((BitVec.ofInt IntKind.i64.bits a4 &&& BitVec.ofInt IntKind.i64.bits (31 : Int)).toNat : Int))) fun r51 =>
 bd (m_prefix_Mask a3 (IntKind.i64.wrap ((BitVec.ofInt IntKind.i64.bits a5 &&& BitVec.ofInt IntKind.i64.bits (31 : Int)).toNat : Int))) fun r52 =>
 bif r1 then
 bd (m_prefix_Sane (Prefix.mk r51 (IntKind.i64.wrap ((BitVec.ofInt IntKind.i64.bits a4 &&& BitVec.ofInt IntKind.i64.bits (31 : Int)).toNat : Int)))) fun r53 =>
 bif r53 then
 bd (m_prefix_Sane (Prefix.mk r52 (IntKind.i64.wrap ((BitVec.ofInt IntKind.i64.bits a5 &&& BitVec.ofInt IntKind.i64.bits (31 : Int)).toNat : Int)))) fun r54 =>
 bif r54 then
 bd (m_prefix_Has (Prefix.mk r51 (IntKind.i64.wrap ((BitVec.ofInt IntKind.i64.bits a4 &&& BitVec.ofInt IntKind.i64.bits (31 : Int)).toNat : Int))) (Prefix.mk r52 (IntKind.i64.wrap ((BitVec.ofInt IntKind.i64.bits a5 &&& BitVec.ofInt IntKind.i64.bits (31 : Int)).toNat : Int)))) fun r55 =>
 bif (r55 == decide ((IntKind.i64.wrap ((BitVec.ofInt IntKind.i64.bits a4 &&& BitVec.ofInt IntKind.i64.bits (31 : Int)).toNat : Int)) ≤ (IntKind.i64.wrap ((BitVec.ofInt IntKind.i64.bits a5 &&& BitVec.ofInt IntKind.i64.bits (31 : Int)).toNat : Int)))) then
 bd (m_prefix_Has (Prefix.mk r51 (IntKind.i64.wrap ((BitVec.ofInt IntKind.i64.bits a4 &&& BitVec.ofInt IntKind.i64.bits (31 : Int)).toNat : Int))) (Prefix.mk (IntKind.i64.wrap ((BitVec.ofInt IntKind.i64.bits a3 &&& BitVec.ofInt IntKind.i64.bits (4294967295 : Int)).toNat : Int)) (32 : Int))) fun r56 =>
 some r56
 else
 some false
 else
 some false
 else
 some false
 else
 some false
 else
 bd (m_prefix_Mask a3 (IntKind.i64.wrap ((BitVec.ofInt IntKind.i64.bits a4 &&& BitVec.ofInt IntKind.i64.bits (31 : Int)).toNat : Int))) fun r57 =>
 bd (m_prefix_Mask a3 (IntKind.i64.wrap ((BitVec.ofInt IntKind.i64.bits a5 &&& BitVec.ofInt IntKind.i64.bits (31 : Int)).toNat : Int))) fun r58 =>
 bif r1 then
 bd (m_prefix_Sane (Prefix.mk r57 (IntKind.i64.wrap ((BitVec.ofInt IntKind.i64.bits a4 &&& BitVec.ofInt IntKind.i64.bits (31 : Int)).toNat : Int)))) fun r59 =>
 bif r59 then
 bd (m_prefix_Sane (Prefix.mk r58 (IntKind.i64.wrap ((BitVec.ofInt IntKind.i64.bits a5 &&& BitVec.ofInt IntKind.i64.bits (31 : Int)).toNat : Int)))) fun r60 =>
 bif r60 then
 bd (m_prefix_Has (Prefix.mk r57 (IntKind.i64.wrap ((BitVec.ofInt IntKind.i64.bits a4 &&& BitVec.ofInt IntKind.i64.bits (31 : Int)).toNat : Int))) (Prefix.mk r58 (IntKind.i64.wrap ((BitVec.ofInt IntKind.i64.bits a5 &&& BitVec.ofInt IntKind.i64.bits (31 : Int)).toNat : Int)))) fun r61 =>
 bif (r61 == decide ((IntKind.i64.wrap ((BitVec.ofInt IntKind.i64.bits a4 &&& BitVec.ofInt IntKind.i64.bits (31 : Int)).toNat : Int)) ≤ (IntKind.i64.wrap ((BitVec.ofInt IntKind.i64.bits a5 &&& BitVec.ofInt IntKind.i64.bits (31 : Int)).toNat : Int)))) then
 bd (m_prefix_Has (Prefix.mk r57 (IntKind.i64.wrap ((BitVec.ofInt IntKind.i64.bits a4 &&& BitVec.ofInt IntKind.i64.bits (31 : Int)).toNat : Int))) (Prefix.mk (IntKind.i64.wrap ((BitVec.ofInt IntKind.i64.bits a3 &&& BitVec.ofInt IntKind.i64.bits (4294967295 : Int)).toNat : Int)) (32 : Int))) fun r62 =>
 some r62
 else
 some false
 else
 some false
 else
 some false
 else
 some false
 else
 bd (m_prefix_Mask a3 (IntKind.i64.wrap ((BitVec.ofInt IntKind.i64.bits a4 &&& BitVec.ofInt IntKind.i64.bits (31 : Int)).toNat : Int))) fun r63 =>
 bd (m_prefix_Mask a3 (IntKind.i64.wrap ((BitVec.ofInt IntKind.i64.bits a5 &&& BitVec.ofInt IntKind.i64.bits (31 : Int)).toNat : Int))) fun r64 =>
 bif r1 then
 bd (m_prefix_Sane (Prefix.mk r63 (IntKind.i64.wrap ((BitVec.ofInt IntKind.i64.bits a4 &&& BitVec.ofInt IntKind.i64.bits (31 : Int)).toNat : Int)))) fun r65 =>
 bif r65 then
 bd (m_prefix_Sane (Prefix.mk r64 (IntKind.i64.wrap ((BitVec.ofInt IntKind.i64.bits a5 &&& BitVec.ofInt IntKind.i64.bits (31 : Int)).toNat : Int)))) fun r66 =>
 bif r66 then
 bd (m_prefix_Has (Prefix.mk r63 (IntKind.i64.wrap ((BitVec.ofInt IntKind.i64.bits a4 &&& BitVec.ofInt IntKind.i64.bits (31 : Int)).toNat : Int))) (Prefix.mk r64 (IntKind.i64.wrap ((BitVec.ofInt IntKind.i64.bits a5 &&& BitVec.ofInt IntKind.i64.bits (31 : Int)).toNat : Int)))) fun r67 =>
 bif (r67 == decide ((IntKind.i64.wrap ((BitVec.ofInt IntKind.i64.bits a4 &&& BitVec.ofInt IntKind.i64.bits (31 : Int)).toNat : Int)) ≤ (IntKind.i64.wrap ((BitVec.ofInt IntKind.i64.bits a5 &&& BitVec.ofInt IntKind.i64.bits (31 : Int)).toNat : Int)))) then
 bd (m_prefix_Has (Prefix.mk r63 (IntKind.i64.wrap ((BitVec.ofInt IntKind.i64.bits a4 &&& BitVec.ofInt IntKind.i64.bits (31 : Int)).toNat : Int))) (Prefix.mk (IntKind.i64.wrap ((BitVec.ofInt IntKind.i64.bits a3 &&& BitVec.ofInt IntKind.i64.bits (4294967295 : Int)).toNat : Int)) (32 : Int))) fun r68 =>
 some r68
 else
 some false
 else
 some false
 else
 some false
 else
 some false
theorem encs : type_of% (And.intro @enc_Prefix @sz_Prefix) := (And.intro @enc_Prefix @sz_Prefix)
end Go.Proofs.YtppekacobjdhnaaDoor
