/- What functions compute. -/
import Derived.Test.YtppekacobjdhnaaDoorMo
namespace Go.Proofs.YtppekacobjdhnaaDoor
set_option linter.unusedVariables false
def m_ridgewaylaw02_awake : Option Bool := some true
structure Prefix where
  A : Int
  N : Int
deriving DecidableEq
instance encPrefix : Enc Prefix := ⟨2, fun x => .agg [(.int .i64 x.A), (.int .i64 x.N)], fun x => by simp only [pur.eq_3, purL.eq_1, purL.eq_2, pur.eq_2, purL_enc, pur, Bool.and_self], fun _ => ⟨_, rfl, rfl⟩⟩
theorem enc_Prefix (x : Prefix) : Enc.enc x = .agg [(.int .i64 x.A), (.int .i64 x.N)] := rfl
theorem sz_Prefix : Enc.sz Prefix = 2 := rfl
def m_prefix_Mask (a0 : Int) (a1 : Int) : Option Int :=
 nn (IntKind.i64.wrap ((32 : Int) - (if (32 : Int) < (if (0 : Int) > a1 then (0 : Int) else a1) then (32 : Int) else (if (0 : Int) > a1 then (0 : Int) else a1)))) <|
 nn (IntKind.i64.wrap ((32 : Int) - (if (32 : Int) < (if (0 : Int) > a1 then (0 : Int) else a1) then (32 : Int) else (if (0 : Int) > a1 then (0 : Int) else a1)))) <|
 some (IntKind.i64.wrap (((IntKind.i64.wrap ((BitVec.ofInt IntKind.i64.bits a0 &&& BitVec.ofInt IntKind.i64.bits (4294967295 : Int)).toNat : Int)).fdiv (2 ^ (min (IntKind.i64.wrap ((32 : Int) - (if (32 : Int) < (if (0 : Int) > a1 then (0 : Int) else a1) then (32 : Int) else (if (0 : Int) > a1 then (0 : Int) else a1)))).toNat IntKind.i64.bits))) * 2 ^ (min (IntKind.i64.wrap ((32 : Int) - (if (32 : Int) < (if (0 : Int) > a1 then (0 : Int) else a1) then (32 : Int) else (if (0 : Int) > a1 then (0 : Int) else a1)))).toNat IntKind.i64.bits)))
def m_octet_Take (a0 : (List UInt8)) (a1 : Int) : Option ((List UInt8) × (List UInt8) × Bool) :=
 bif decide (a1 < (0 : Int)) then
 some ([], [], false)
 else
 bif decide (a1 > (a0.length : Int)) then
 some ([], [], false)
 else
 bd (sl a0 0 a1) fun y1 =>
 bd (sl a0 a1 a0.length) fun y2 =>
 some (y1, y2, true)
def s_octet_Get1 (r1 : ((List UInt8) × (List UInt8) × Bool)) (st1 : (Int × Int)) (nx1 : (Int × Int) → Option (Int × (List UInt8) × Bool)) (bk1 : (Int) → Option (Int × (List UInt8) × Bool)) : Option (Int × (List UInt8) × Bool) :=
 bif decide (st1.2 < (r1.1.length : Int)) then
 bd (ix r1.1 st1.2) fun y2 =>
 nx1 ((IntKind.i64.wrap ((BitVec.ofInt IntKind.i64.bits (IntKind.i64.wrap (st1.1 * 2 ^ (min (8 : Int).toNat IntKind.i64.bits))) ||| BitVec.ofInt IntKind.i64.bits (IntKind.i64.wrap (y2.toNat : Int))).toNat : Int)), (IntKind.i64.wrap (st1.2 + (1 : Int))))
 else
 bk1 st1.1
def m_octet_Get (a0 : (List UInt8)) (a1 : Int) : Option (Int × (List UInt8) × Bool) :=
 bif decide (a1 < (1 : Int)) then
 some ((0 : Int), [], false)
 else
 bif decide (a1 > (4 : Int)) then
 some ((0 : Int), [], false)
 else
 bd (m_octet_Take a0 a1) fun r1 =>
 loopC (s_octet_Get1 r1) (fun e1 =>
 some (e1, r1.2.1, r1.2.2)) BIG ((0 : Int), (0 : Int))
def m_prefix_size (a0 : Int) : Option Int :=
 some (IntKind.i64.wrap ((IntKind.i64.wrap (a0 + (7 : Int))).tdiv (8 : Int)))
def m_prefix_Get (a0 : (List UInt8)) : Option (Prefix × (List UInt8) × Bool) :=
 bd (m_octet_Get a0 (1 : Int)) fun r1 =>
 bif (!r1.2.2) then
 some ((Prefix.mk (0 : Int) (0 : Int)), [], false)
 else
 bif decide (r1.1 > (32 : Int)) then
 some ((Prefix.mk (0 : Int) (0 : Int)), [], false)
 else
 bd (m_prefix_size r1.1) fun r2 =>
 bif decide (r2 = (0 : Int)) then
 some ((Prefix.mk (0 : Int) (0 : Int)), r1.2.1, true)
 else
 bd (m_octet_Get r1.2.1 r2) fun r3 =>
 bif (!r3.2.2) then
 some ((Prefix.mk (0 : Int) (0 : Int)), [], false)
 else
 nn (IntKind.i64.wrap ((32 : Int) - (IntKind.i64.wrap ((8 : Int) * r2)))) <|
 bd (m_prefix_Mask (IntKind.i64.wrap (r3.1 * 2 ^ (min (IntKind.i64.wrap ((32 : Int) - (IntKind.i64.wrap ((8 : Int) * r2)))).toNat IntKind.i64.bits))) r1.1) fun r4 =>
 some ((Prefix.mk r4 r1.1), r3.2.1, true)
def s_prefix_All1 (st1 : ((List UInt8) × (List Prefix))) (nx1 : ((List UInt8) × (List Prefix)) → Option ((List Prefix) × Bool)) (bk1 : Unit → Option ((List Prefix) × Bool)) : Option ((List Prefix) × Bool) :=
 bd (m_prefix_Get st1.1) fun r1 =>
 bif r1.2.2 then
 bd (ap 16 st1.2 ([r1.1])) fun y2 =>
 nx1 (r1.2.1, y2)
 else
 bif decide ((st1.1.length : Int) > (0 : Int)) then
 some ([], false)
 else
 some (st1.2, true)
def m_prefix_All (a0 : (List UInt8)) : Option ((List Prefix) × Bool) :=
 loopC (s_prefix_All1) (fun e1 =>
 none) BIG (a0, [])
def m_prefix_Sane (a0 : Prefix) : Option Bool :=
 bif decide (a0.N ≥ (0 : Int)) then
 bif decide (a0.N ≤ (32 : Int)) then
 bd (m_prefix_Mask a0.A a0.N) fun r1 =>
 some (decide (r1 = a0.A))
 else
 some false
 else
 some false
def s_octet_Put1 (a1 : Int) (a2 : Int) (st1 : ((List UInt8) × Int)) (nx1 : ((List UInt8) × Int) → Option (List UInt8)) (bk1 : ((List UInt8)) → Option (List UInt8)) : Option (List UInt8) :=
 bif decide (st1.2 < a2) then
 nn (IntKind.i64.wrap ((8 : Int) * (IntKind.i64.wrap ((IntKind.i64.wrap (a2 - (1 : Int))) - st1.2)))) <|
 bd (ap 1 st1.1 ([(toB (IntKind.u8.wrap (a1.fdiv (2 ^ (min (IntKind.i64.wrap ((8 : Int) * (IntKind.i64.wrap ((IntKind.i64.wrap (a2 - (1 : Int))) - st1.2)))).toNat IntKind.i64.bits)))))])) fun y2 =>
 nx1 (y2, (IntKind.i64.wrap (st1.2 + (1 : Int))))
 else
 bk1 st1.1
def m_octet_Put (a0 : (List UInt8)) (a1 : Int) (a2 : Int) : Option (List UInt8) :=
 bif decide (a2 < (1 : Int)) then
 some a0
 else
 bif decide (a2 > (4 : Int)) then
 some a0
 else
 bd (sl a0 0 (a0.length : Int)) fun y1 =>
 loopC (s_octet_Put1 a1 a2) (fun e1 =>
 some e1) BIG (y1, (0 : Int))
def m_prefix_Put (a0 : (List UInt8)) (a1 : Prefix) : Option (List UInt8) :=
 bd (m_prefix_Sane a1) fun r1 =>
 bif (!r1) then
 some a0
 else
 bd (m_prefix_size a1.N) fun r2 =>
 bd (m_octet_Put a0 a1.N (1 : Int)) fun r3 =>
 nn (IntKind.i64.wrap ((32 : Int) - (IntKind.i64.wrap ((8 : Int) * r2)))) <|
 bd (m_octet_Put r3 (a1.A.fdiv (2 ^ (min (IntKind.i64.wrap ((32 : Int) - (IntKind.i64.wrap ((8 : Int) * r2)))).toNat IntKind.i64.bits))) r2) fun r4 =>
 some r4
def s_ridgewayref02_Same1 (a0 : (List Prefix)) (a1 : (List Prefix)) (st1 : (Int)) (nx1 : (Int) → Option Bool) (bk1 : Unit → Option Bool) : Option Bool :=
 bif decide (st1 < (a0.length : Int)) then
 bd (ix a0 st1) fun y1 =>
 bd (ix a1 st1) fun y2 =>
 bif (!((decide (y1.A = y2.A) && decide (y1.N = y2.N)))) then
 some false
 else
 nx1 (IntKind.i64.wrap (st1 + (1 : Int)))
 else
 bk1 ()
def m_ridgewayref02_Same (a0 : (List Prefix)) (a1 : (List Prefix)) : Option Bool :=
 bif decide (¬ (a0.length : Int) = (a1.length : Int)) then
 some false
 else
 loopC (s_ridgewayref02_Same1 a0 a1) (fun e1 =>
 some true) BIG (0 : Int)
def s_ridgewaylaw02_PrefixBack1 (a0 : (List Prefix)) (a1 : (List UInt8)) (st1 : ((List UInt8) × (List Prefix) × Int)) (nx1 : ((List UInt8) × (List Prefix) × Int) → Option Bool) (bk1 : ((List UInt8) × (List Prefix)) → Option Bool) : Option Bool :=
 bif decide (st1.2.2 < (a0.length : Int)) then
 bd (ix a0 st1.2.2) fun y2 =>
 bd (m_prefix_Put st1.1 y2) fun r3 =>
 bd (ix a0 st1.2.2) fun y4 =>
 bd (m_prefix_Sane y4) fun r5 =>
 bif (!r5) then
 bif (!(r3 == st1.1)) then
 some false
 else
 nx1 (st1.1, st1.2.1, (IntKind.i64.wrap (st1.2.2 + (1 : Int))))
 else
 bd (ix a0 st1.2.2) fun y6 =>
 bd (m_prefix_Put ([] : List UInt8) y6) fun r7 =>
 bd (ap 1 ([] : List UInt8) r7) fun y8 =>
 bd (ap 1 y8 a1) fun y9 =>
 bd (m_prefix_Get y9) fun r10 =>
 bd (ix a0 st1.2.2) fun y11 =>
 bif decide (¬ (r3.length : Int) = (IntKind.i64.wrap ((IntKind.i64.wrap ((st1.1.length : Int) + (1 : Int))) + (IntKind.i64.wrap ((IntKind.i64.wrap (y11.N + (7 : Int))).tdiv (8 : Int)))))) then
 some false
 else
 bif (!r10.2.2) then
 some false
 else
 bd (ix a0 st1.2.2) fun y12 =>
 bif (!((decide (r10.1.A = y12.A) && decide (r10.1.N = y12.N)))) then
 some false
 else
 bif (!(r10.2.1 == a1)) then
 some false
 else
 bd (ix a0 st1.2.2) fun y13 =>
 bd (ap 16 st1.2.1 ([y13])) fun y14 =>
 nx1 (r3, y14, (IntKind.i64.wrap (st1.2.2 + (1 : Int))))
 else
 bk1 (st1.1, st1.2.1)
def m_ridgewaylaw02_PrefixBack (a0 : (List Prefix)) (a1 : (List UInt8)) : Option Bool :=
 bd (m_ridgewaylaw02_awake) fun r1 =>
 bif decide ((a0.length : Int) > (60 : Int)) then
 some r1
 else
 bif decide ((a1.length : Int) > (200 : Int)) then
 some r1
 else
 loopC (s_ridgewaylaw02_PrefixBack1 a0 a1) (fun e1 =>
 bd (m_prefix_All e1.1) fun r15 =>
 bif r1 then
 bif r15.2 then
 bd (m_ridgewayref02_Same r15.1 e1.2) fun r16 =>
 some r16
 else
 some false
 else
 some false) BIG ([], [], (0 : Int))
theorem encs : type_of% (And.intro @enc_Prefix @sz_Prefix) := (And.intro @enc_Prefix @sz_Prefix)
end Go.Proofs.YtppekacobjdhnaaDoor
