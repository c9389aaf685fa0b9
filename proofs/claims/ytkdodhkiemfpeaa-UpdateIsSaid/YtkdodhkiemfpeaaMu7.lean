/- What functions compute. -/
import Derived.Test.YtkdodhkiemfpeaaMo
namespace Go.Proofs.Ytkdodhkiemfpeaa
set_option linter.unusedVariables false
structure Msg where
  Typ : Int
  Body : (List UInt8)
deriving DecidableEq
instance encMsg : Enc Msg := ⟨2, fun x => .agg [(.int .i64 x.Typ), (.slice .imm 1 (List.map Enc.enc x.Body))], fun x => by simp only [pur.eq_3, purL.eq_1, purL.eq_2, pur.eq_2, purL_enc, pur, Bool.and_self], fun _ => ⟨_, rfl, rfl⟩⟩
theorem enc_Msg (x : Msg) : Enc.enc x = .agg [(.int .i64 x.Typ), (.slice .imm 1 (List.map Enc.enc x.Body))] := rfl
theorem sz_Msg : Enc.sz Msg = 2 := rfl
structure Attr where
  Flags : Int
  Typ : Int
  Data : (List UInt8)
deriving DecidableEq
instance encAttr : Enc Attr := ⟨3, fun x => .agg [(.int .i64 x.Flags), (.int .i64 x.Typ), (.slice .imm 1 (List.map Enc.enc x.Data))], fun x => by simp only [pur.eq_3, purL.eq_1, purL.eq_2, pur.eq_2, purL_enc, pur, Bool.and_self], fun _ => ⟨_, rfl, rfl⟩⟩
theorem enc_Attr (x : Attr) : Enc.enc x = .agg [(.int .i64 x.Flags), (.int .i64 x.Typ), (.slice .imm 1 (List.map Enc.enc x.Data))] := rfl
theorem sz_Attr : Enc.sz Attr = 3 := rfl
structure Path where
  Origin : Int
  As : (List Int)
  Hop : Int
  Otc : Int
deriving DecidableEq
instance encPath : Enc Path := ⟨4, fun x => .agg [(.int .i64 x.Origin), (.slice .imm 1 (List.map Enc.enc x.As)), (.int .i64 x.Hop), (.int .i64 x.Otc)], fun x => by simp only [pur.eq_3, purL.eq_1, purL.eq_2, pur.eq_2, purL_enc, pur, Bool.and_self], fun _ => ⟨_, rfl, rfl⟩⟩
theorem enc_Path (x : Path) : Enc.enc x = .agg [(.int .i64 x.Origin), (.slice .imm 1 (List.map Enc.enc x.As)), (.int .i64 x.Hop), (.int .i64 x.Otc)] := rfl
theorem sz_Path : Enc.sz Path = 4 := rfl
structure Note where
  Code : Int
  Sub : Int
  Data : (List UInt8)
deriving DecidableEq
instance encNote : Enc Note := ⟨3, fun x => .agg [(.int .i64 x.Code), (.int .i64 x.Sub), (.slice .imm 1 (List.map Enc.enc x.Data))], fun x => by simp only [pur.eq_3, purL.eq_1, purL.eq_2, pur.eq_2, purL_enc, pur, Bool.and_self], fun _ => ⟨_, rfl, rfl⟩⟩
theorem enc_Note (x : Note) : Enc.enc x = .agg [(.int .i64 x.Code), (.int .i64 x.Sub), (.slice .imm 1 (List.map Enc.enc x.Data))] := rfl
theorem sz_Note : Enc.sz Note = 3 := rfl
structure Prefix where
  A : Int
  N : Int
deriving DecidableEq
instance encPrefix : Enc Prefix := ⟨2, fun x => .agg [(.int .i64 x.A), (.int .i64 x.N)], fun x => by simp only [pur.eq_3, purL.eq_1, purL.eq_2, pur.eq_2, purL_enc, pur, Bool.and_self], fun _ => ⟨_, rfl, rfl⟩⟩
theorem enc_Prefix (x : Prefix) : Enc.enc x = .agg [(.int .i64 x.A), (.int .i64 x.N)] := rfl
theorem sz_Prefix : Enc.sz Prefix = 2 := rfl
structure News where
  Gone : (List Prefix)
  P : Path
  Nlri : (List Prefix)
deriving DecidableEq
instance encNews : Enc News := ⟨6, fun x => .agg [(.slice .imm 2 (List.map Enc.enc x.Gone)), (.int .i64 x.P.Origin), (.slice .imm 1 (List.map Enc.enc x.P.As)), (.int .i64 x.P.Hop), (.int .i64 x.P.Otc), (.slice .imm 2 (List.map Enc.enc x.Nlri))], fun x => by simp only [pur.eq_3, purL.eq_1, purL.eq_2, pur.eq_2, purL_enc, pur, Bool.and_self], fun _ => ⟨_, rfl, rfl⟩⟩
theorem enc_News (x : News) : Enc.enc x = .agg [(.slice .imm 2 (List.map Enc.enc x.Gone)), (.int .i64 x.P.Origin), (.slice .imm 1 (List.map Enc.enc x.P.As)), (.int .i64 x.P.Hop), (.int .i64 x.P.Otc), (.slice .imm 2 (List.map Enc.enc x.Nlri))] := rfl
theorem sz_News : Enc.sz News = 6 := rfl
def m_msg_Least (a0 : Int) : Option Int :=
 bif decide (a0 = (1 : Int)) then
 some (IntKind.i64.wrap ((10 : Int) + (19 : Int)))
 else
 bif decide (a0 = (2 : Int)) then
 some (IntKind.i64.wrap ((4 : Int) + (19 : Int)))
 else
 bif decide (a0 = (3 : Int)) then
 some (IntKind.i64.wrap ((2 : Int) + (19 : Int)))
 else
 bif decide (a0 = (4 : Int)) then
 some (IntKind.i64.wrap ((0 : Int) + (19 : Int)))
 else
 some (0 : Int)
def m_msg_wrong (a0 : Int) (a1 : Int) : Option Bool :=
 bd (m_msg_Least a0) fun r1 =>
 bif decide (a1 < r1) then
 some true
 else
 bif decide (a0 = (4 : Int)) then
 some (decide (¬ a1 = (19 : Int)))
 else
 some false
def m_msg_Sane (a0 : Msg) : Option Bool :=
 bd (m_msg_Least a0.Typ) fun r1 =>
 bif decide (r1 > (0 : Int)) then
 bd (m_msg_wrong a0.Typ (IntKind.i64.wrap ((19 : Int) + (a0.Body.length : Int)))) fun r2 =>
 bif (!r2) then
 some (decide ((IntKind.i64.wrap ((19 : Int) + (a0.Body.length : Int))) ≤ (4096 : Int)))
 else
 some false
 else
 some false
def m_octet_Take (a0 : (List UInt8)) (a1 : Int) : Option ((List UInt8) × (List UInt8) × Bool) :=
 bif decide (a1 < (0 : Int)) then
 some ([], [], false)
 else
 bif decide (a1 > (a0.length : Int)) then
 some ([], [], false)
 else
 bd (sl a0 0 a1) fun y1 =>
 bd (sl a0 a1 a0.length) fun y2 =>
 some (y1, y2, true)
def s_octet_Get1 (r1 : ((List UInt8) × (List UInt8) × Bool)) (st1 : (Int × Int)) (nx1 : (Int × Int) → Option (Int × (List UInt8) × Bool)) (bk1 : (Int) → Option (Int × (List UInt8) × Bool)) : Option (Int × (List UInt8) × Bool) :=
 bif decide (st1.2 < (r1.1.length : Int)) then
 bd (ix r1.1 st1.2) fun y2 =>
 nx1 ((IntKind.i64.wrap ((BitVec.ofInt IntKind.i64.bits (IntKind.i64.wrap (st1.1 * 2 ^ (min (8 : Int).toNat IntKind.i64.bits))) ||| BitVec.ofInt IntKind.i64.bits (IntKind.i64.wrap (y2.toNat : Int))).toNat : Int)), (IntKind.i64.wrap (st1.2 + (1 : Int))))
 else
 bk1 st1.1
def m_octet_Get (a0 : (List UInt8)) (a1 : Int) : Option (Int × (List UInt8) × Bool) :=
 bif decide (a1 < (1 : Int)) then
 some ((0 : Int), [], false)
 else
 bif decide (a1 > (4 : Int)) then
 some ((0 : Int), [], false)
 else
 bd (m_octet_Take a0 a1) fun r1 =>
 loopC (s_octet_Get1 r1) (fun e1 =>
 some (e1, r1.2.1, r1.2.2)) BIG ((0 : Int), (0 : Int))
def m_attr_Get (a0 : (List UInt8)) : Option (Attr × (List UInt8) × Bool) :=
 bd (m_octet_Get a0 (1 : Int)) fun r1 =>
 bd (m_octet_Get r1.2.1 (1 : Int)) fun r2 =>
 jn 1 (fun (k1 : (Int) → Option (Attr × (List UInt8) × Bool)) =>
 bif decide (¬ (IntKind.i64.wrap ((BitVec.ofInt IntKind.i64.bits r1.1 &&& BitVec.ofInt IntKind.i64.bits (16 : Int)).toNat : Int)) = (0 : Int)) then
 k1 (2 : Int)
 else
 k1 (1 : Int)) fun j1 =>
 bd (m_octet_Get r2.2.1 j1) fun r3 =>
 bd (m_octet_Take r3.2.1 r3.1) fun r4 =>
 bif (!r3.2.2) then
 some ((Attr.mk (0 : Int) (0 : Int) ([])), [], false)
 else
 bif (!r4.2.2) then
 some ((Attr.mk (0 : Int) (0 : Int) ([])), [], false)
 else
 some ((Attr.mk r1.1 r2.1 r4.1), r4.2.1, true)
def s_attr_All1 (st1 : ((List UInt8) × (List Attr))) (nx1 : ((List UInt8) × (List Attr)) → Option ((List Attr) × Bool)) (bk1 : ((List Attr)) → Option ((List Attr) × Bool)) : Option ((List Attr) × Bool) :=
 bif decide ((st1.1.length : Int) > (0 : Int)) then
 bd (m_attr_Get st1.1) fun r1 =>
 bif (!r1.2.2) then
 some ([], false)
 else
 bd (ap 40 st1.2 ([r1.1])) fun y2 =>
 nx1 (r1.2.1, y2)
 else
 bk1 st1.2
def m_attr_All (a0 : (List UInt8)) : Option ((List Attr) × Bool) :=
 loopC (s_attr_All1) (fun e1 =>
 some (e1, true)) BIG (a0, [])
def m_attr_fatal (a0 : Attr) : Option Bool :=
 bif decide (a0.Typ ≥ (1 : Int)) then
 bif decide (a0.Typ ≤ (7 : Int)) then
 some false
 else
 bif (!decide (a0.Typ = (35 : Int))) then
 some (decide ((IntKind.i64.wrap ((BitVec.ofInt IntKind.i64.bits a0.Flags &&& BitVec.ofInt IntKind.i64.bits (128 : Int)).toNat : Int)) = (0 : Int)))
 else
 some false
 else
 bif (!decide (a0.Typ = (35 : Int))) then
 some (decide ((IntKind.i64.wrap ((BitVec.ofInt IntKind.i64.bits a0.Flags &&& BitVec.ofInt IntKind.i64.bits (128 : Int)).toNat : Int)) = (0 : Int)))
 else
 some false
def s_octet_Put1 (a1 : Int) (a2 : Int) (st1 : ((List UInt8) × Int)) (nx1 : ((List UInt8) × Int) → Option (List UInt8)) (bk1 : ((List UInt8)) → Option (List UInt8)) : Option (List UInt8) :=
 bif decide (st1.2 < a2) then
 nn (IntKind.i64.wrap ((8 : Int) * (IntKind.i64.wrap ((IntKind.i64.wrap (a2 - (1 : Int))) - st1.2)))) <|
 bd (ap 1 st1.1 ([(toB (IntKind.u8.wrap (a1.fdiv (2 ^ (min (IntKind.i64.wrap ((8 : Int) * (IntKind.i64.wrap ((IntKind.i64.wrap (a2 - (1 : Int))) - st1.2)))).toNat IntKind.i64.bits)))))])) fun y2 =>
 nx1 (y2, (IntKind.i64.wrap (st1.2 + (1 : Int))))
 else
 bk1 st1.1
def m_octet_Put (a0 : (List UInt8)) (a1 : Int) (a2 : Int) : Option (List UInt8) :=
 bif decide (a2 < (1 : Int)) then
 some a0
 else
 bif decide (a2 > (4 : Int)) then
 some a0
 else
 bd (sl a0 0 (a0.length : Int)) fun y1 =>
 loopC (s_octet_Put1 a1 a2) (fun e1 =>
 some e1) BIG (y1, (0 : Int))
def m_attr_octetSized (a0 : Int) : Option Bool :=
 bif decide (a0 ≥ (0 : Int)) then
 some (decide (a0 ≤ (255 : Int)))
 else
 some false
def m_attr_Put (a0 : (List UInt8)) (a1 : Attr) : Option (List UInt8) :=
 bd (m_attr_octetSized a1.Flags) fun r1 =>
 bif (!r1) then
 some a0
 else
 bd (m_attr_octetSized a1.Typ) fun r2 =>
 bif (!r2) then
 some a0
 else
 bif decide ((a1.Data.length : Int) > (65535 : Int)) then
 some a0
 else
 bif decide ((a1.Data.length : Int) > (255 : Int)) then
 bd (m_octet_Put a0 (IntKind.i64.wrap ((BitVec.ofInt IntKind.i64.bits (IntKind.i64.wrap ((BitVec.ofInt IntKind.i64.bits a1.Flags &&& ~~~ BitVec.ofInt IntKind.i64.bits (16 : Int)).toNat : Int)) ||| BitVec.ofInt IntKind.i64.bits (16 : Int)).toNat : Int)) (1 : Int)) fun r3 =>
 bd (m_octet_Put r3 a1.Typ (1 : Int)) fun r4 =>
 bd (m_octet_Put r4 (a1.Data.length : Int) (2 : Int)) fun r5 =>
 bd (ap 1 r5 a1.Data) fun y6 =>
 some y6
 else
 bd (m_octet_Put a0 (IntKind.i64.wrap ((BitVec.ofInt IntKind.i64.bits a1.Flags &&& ~~~ BitVec.ofInt IntKind.i64.bits (16 : Int)).toNat : Int)) (1 : Int)) fun r7 =>
 bd (m_octet_Put r7 a1.Typ (1 : Int)) fun r8 =>
 bd (m_octet_Put r8 (a1.Data.length : Int) (1 : Int)) fun r9 =>
 bd (ap 1 r9 a1.Data) fun y10 =>
 some y10
def m_attr_number (a0 : (List UInt8)) : Option (Int × Bool) :=
 bd (m_octet_Get a0 (4 : Int)) fun r1 =>
 bif decide (¬ r1.1 = (0 : Int)) then
 some (r1.1, decide ((r1.2.1.length : Int) = (0 : Int)))
 else
 some (r1.1, false)
def s_attr_Judge3 (r11 : (Int × (List UInt8) × Bool)) (k102 : ((Bool × (List Int)) → Option (Path × Int × Note))) (st3 : ((List UInt8) × Int × (List Int))) (nx3 : ((List UInt8) × Int × (List Int)) → Option (Path × Int × Note)) (bk3 : ((List UInt8) × (List Int)) → Option (Path × Int × Note)) : Option (Path × Int × Note) :=
 bif decide (st3.2.1 < r11.1) then
 bd (m_octet_Get st3.1 (4 : Int)) fun r12 =>
 bif decide (r12.1 = (0 : Int)) then
 k102 (false, st3.2.2)
 else
 bd (ap 8 st3.2.2 ([r12.1])) fun y13 =>
 nx3 (r12.2.1, (IntKind.i64.wrap (st3.2.1 + (1 : Int))), y13)
 else
 bk3 (st3.1, st3.2.2)
def s_attr_Judge2 (k102 : ((Bool × (List Int)) → Option (Path × Int × Note))) (st2 : ((List UInt8) × (List Int))) (nx2 : ((List UInt8) × (List Int)) → Option (Path × Int × Note)) (bk2 : ((List Int)) → Option (Path × Int × Note)) : Option (Path × Int × Note) :=
 bif decide ((st2.1.length : Int) > (0 : Int)) then
 bd (m_octet_Get st2.1 (1 : Int)) fun r10 =>
 bd (m_octet_Get r10.2.1 (1 : Int)) fun r11 =>
 bif decide (¬ r10.1 = (2 : Int)) then
 k102 (false, st2.2)
 else
 bif decide (r11.1 = (0 : Int)) then
 k102 (false, st2.2)
 else
 loopC (s_attr_Judge3 r11 k102) (fun e3 =>
 nx2 (e3.1, e3.2)) BIG (r11.2.1, (0 : Int), st2.2)
 else
 bk2 st2.2
def s_attr_Judge1 (a0 : (List Attr)) (st1 : (Int × (List (Int × Attr)))) (nx1 : (Int × (List (Int × Attr))) → Option (Path × Int × Note)) (bk1 : ((List (Int × Attr))) → Option (Path × Int × Note)) : Option (Path × Int × Note) :=
 bif decide (st1.1 < (a0.length : Int)) then
 bd (ix a0 st1.1) fun y1 =>
 bif mhas st1.2 y1.Typ then
 bd (mget st1.2 y1.Typ) fun y2 =>
 nx1 ((IntKind.i64.wrap (st1.1 + (1 : Int))), st1.2)
 else
 bd (ms st1.2 y1.Typ y1) fun z3 =>
 bd (m_attr_fatal y1) fun r4 =>
 bif r4 then
 bd (m_attr_Put ([] : List UInt8) y1) fun r5 =>
 some ((Path.mk (0 : Int) ([]) (0 : Int) (0 : Int)), (2 : Int), (Note.mk (3 : Int) (2 : Int) r5))
 else
 nx1 ((IntKind.i64.wrap (st1.1 + (1 : Int))), z3)
 else
 bk1 st1.2
def m_attr_Judge (a0 : (List Attr)) : Option (Path × Int × Note) :=
 loopC (s_attr_Judge1 a0) (fun e1 =>
 bif mhas e1 (1 : Int) then
 bd (mget e1 (1 : Int)) fun y6 =>
 bif decide (¬ (IntKind.i64.wrap ((BitVec.ofInt IntKind.i64.bits y6.Flags &&& BitVec.ofInt IntKind.i64.bits (192 : Int)).toNat : Int)) = (64 : Int)) then
 some ((Path.mk (0 : Int) ([]) (0 : Int) (0 : Int)), (1 : Int), (Note.mk (0 : Int) (0 : Int) ([])))
 else
 jn 101 (fun (k101 : (Bool × Int) → Option (Path × Int × Note)) =>
 bif decide (¬ (y6.Data.length : Int) = (1 : Int)) then
 k101 (false, (0 : Int))
 else
 bd (ix y6.Data (0 : Int)) fun y7 =>
 bif decide ((y7.toNat : Int) > (2 : Int)) then
 k101 (false, (0 : Int))
 else
 bd (ix y6.Data (0 : Int)) fun y8 =>
 k101 (true, (IntKind.i64.wrap (y8.toNat : Int)))) fun i1 =>
 bif (!i1.1) then
 some ((Path.mk (0 : Int) ([]) (0 : Int) (0 : Int)), (1 : Int), (Note.mk (0 : Int) (0 : Int) ([])))
 else
 bif mhas e1 (2 : Int) then
 bd (mget e1 (2 : Int)) fun y9 =>
 bif decide (¬ (IntKind.i64.wrap ((BitVec.ofInt IntKind.i64.bits y9.Flags &&& BitVec.ofInt IntKind.i64.bits (192 : Int)).toNat : Int)) = (64 : Int)) then
 some ((Path.mk (0 : Int) ([]) (0 : Int) (0 : Int)), (1 : Int), (Note.mk (0 : Int) (0 : Int) ([])))
 else
 jn 102 (fun (k102 : (Bool × (List Int)) → Option (Path × Int × Note)) =>
 loopC (s_attr_Judge2 k102) (fun e2 =>
 k102 (true, e2)) BIG (y9.Data, [])) fun i2 =>
 bif (!i2.1) then
 some ((Path.mk (0 : Int) ([]) (0 : Int) (0 : Int)), (1 : Int), (Note.mk (0 : Int) (0 : Int) ([])))
 else
 bif mhas e1 (3 : Int) then
 bd (mget e1 (3 : Int)) fun y14 =>
 bif decide (¬ (IntKind.i64.wrap ((BitVec.ofInt IntKind.i64.bits y14.Flags &&& BitVec.ofInt IntKind.i64.bits (192 : Int)).toNat : Int)) = (64 : Int)) then
 some ((Path.mk (0 : Int) ([]) (0 : Int) (0 : Int)), (1 : Int), (Note.mk (0 : Int) (0 : Int) ([])))
 else
 bd (m_attr_number y14.Data) fun r15 =>
 bif (!r15.2) then
 some ((Path.mk (0 : Int) ([]) (0 : Int) (0 : Int)), (1 : Int), (Note.mk (0 : Int) (0 : Int) ([])))
 else
 bif mhas e1 (4 : Int) then
 bd (mget e1 (4 : Int)) fun y16 =>
 bif decide (¬ (IntKind.i64.wrap ((BitVec.ofInt IntKind.i64.bits y16.Flags &&& BitVec.ofInt IntKind.i64.bits (192 : Int)).toNat : Int)) = (128 : Int)) then
 some ((Path.mk (0 : Int) ([]) (0 : Int) (0 : Int)), (1 : Int), (Note.mk (0 : Int) (0 : Int) ([])))
 else
 bif (!decide ((y16.Data.length : Int) = (4 : Int))) then
 some ((Path.mk (0 : Int) ([]) (0 : Int) (0 : Int)), (1 : Int), (Note.mk (0 : Int) (0 : Int) ([])))
 else
 bif mhas e1 (35 : Int) then
 bd (mget e1 (35 : Int)) fun y17 =>
 bif decide (¬ (IntKind.i64.wrap ((BitVec.ofInt IntKind.i64.bits y17.Flags &&& BitVec.ofInt IntKind.i64.bits (192 : Int)).toNat : Int)) = (192 : Int)) then
 some ((Path.mk (0 : Int) ([]) (0 : Int) (0 : Int)), (1 : Int), (Note.mk (0 : Int) (0 : Int) ([])))
 else
 bd (m_attr_number y17.Data) fun r18 =>
 bif (!r18.2) then
 some ((Path.mk (0 : Int) ([]) (0 : Int) (0 : Int)), (1 : Int), (Note.mk (0 : Int) (0 : Int) ([])))
 else
 some ((Path.mk i1.2 i2.2 r15.1 r18.1), (0 : Int), (Note.mk (0 : Int) (0 : Int) ([])))
 else
 some ((Path.mk i1.2 i2.2 r15.1 (0 : Int)), (0 : Int), (Note.mk (0 : Int) (0 : Int) ([])))
 else
 bif mhas e1 (35 : Int) then
 bd (mget e1 (35 : Int)) fun y19 =>
 bif decide (¬ (IntKind.i64.wrap ((BitVec.ofInt IntKind.i64.bits y19.Flags &&& BitVec.ofInt IntKind.i64.bits (192 : Int)).toNat : Int)) = (192 : Int)) then
 some ((Path.mk (0 : Int) ([]) (0 : Int) (0 : Int)), (1 : Int), (Note.mk (0 : Int) (0 : Int) ([])))
 else
 bd (m_attr_number y19.Data) fun r20 =>
 bif (!r20.2) then
 some ((Path.mk (0 : Int) ([]) (0 : Int) (0 : Int)), (1 : Int), (Note.mk (0 : Int) (0 : Int) ([])))
 else
 some ((Path.mk i1.2 i2.2 r15.1 r20.1), (0 : Int), (Note.mk (0 : Int) (0 : Int) ([])))
 else
 some ((Path.mk i1.2 i2.2 r15.1 (0 : Int)), (0 : Int), (Note.mk (0 : Int) (0 : Int) ([])))
 else
 some ((Path.mk (0 : Int) ([]) (0 : Int) (0 : Int)), (1 : Int), (Note.mk (0 : Int) (0 : Int) ([])))
 else
 some ((Path.mk (0 : Int) ([]) (0 : Int) (0 : Int)), (1 : Int), (Note.mk (0 : Int) (0 : Int) ([])))
 else
 some ((Path.mk (0 : Int) ([]) (0 : Int) (0 : Int)), (1 : Int), (Note.mk (0 : Int) (0 : Int) ([])))) BIG ((0 : Int), [])
def m_update_counted (a0 : (List UInt8)) : Option ((List UInt8) × (List UInt8) × Bool) :=
 bd (m_octet_Get a0 (2 : Int)) fun r1 =>
 bif (!r1.2.2) then
 some ([], [], false)
 else
 bd (m_octet_Take r1.2.1 r1.1) fun r2 =>
 some (r2.1, r2.2.1, r2.2.2)
def m_prefix_Mask (a0 : Int) (a1 : Int) : Option Int :=
 nn (IntKind.i64.wrap ((32 : Int) - (if (32 : Int) < (if (0 : Int) > a1 then (0 : Int) else a1) then (32 : Int) else (if (0 : Int) > a1 then (0 : Int) else a1)))) <|
 nn (IntKind.i64.wrap ((32 : Int) - (if (32 : Int) < (if (0 : Int) > a1 then (0 : Int) else a1) then (32 : Int) else (if (0 : Int) > a1 then (0 : Int) else a1)))) <|
 some (IntKind.i64.wrap (((IntKind.i64.wrap ((BitVec.ofInt IntKind.i64.bits a0 &&& BitVec.ofInt IntKind.i64.bits (4294967295 : Int)).toNat : Int)).fdiv (2 ^ (min (IntKind.i64.wrap ((32 : Int) - (if (32 : Int) < (if (0 : Int) > a1 then (0 : Int) else a1) then (32 : Int) else (if (0 : Int) > a1 then (0 : Int) else a1)))).toNat IntKind.i64.bits))) * 2 ^ (min (IntKind.i64.wrap ((32 : Int) - (if (32 : Int) < (if (0 : Int) > a1 then (0 : Int) else a1) then (32 : Int) else (if (0 : Int) > a1 then (0 : Int) else a1)))).toNat IntKind.i64.bits)))
def m_prefix_size (a0 : Int) : Option Int :=
 some (IntKind.i64.wrap ((IntKind.i64.wrap (a0 + (7 : Int))).tdiv (8 : Int)))
def m_prefix_Get (a0 : (List UInt8)) : Option (Prefix × (List UInt8) × Bool) :=
 bd (m_octet_Get a0 (1 : Int)) fun r1 =>
 bif (!r1.2.2) then
 some ((Prefix.mk (0 : Int) (0 : Int)), [], false)
 else
 bif decide (r1.1 > (32 : Int)) then
 some ((Prefix.mk (0 : Int) (0 : Int)), [], false)
 else
 bd (m_prefix_size r1.1) fun r2 =>
 bif decide (r2 = (0 : Int)) then
 some ((Prefix.mk (0 : Int) (0 : Int)), r1.2.1, true)
 else
 bd (m_octet_Get r1.2.1 r2) fun r3 =>
 bif (!r3.2.2) then
 some ((Prefix.mk (0 : Int) (0 : Int)), [], false)
 else
 nn (IntKind.i64.wrap ((32 : Int) - (IntKind.i64.wrap ((8 : Int) * r2)))) <|
 bd (m_prefix_Mask (IntKind.i64.wrap (r3.1 * 2 ^ (min (IntKind.i64.wrap ((32 : Int) - (IntKind.i64.wrap ((8 : Int) * r2)))).toNat IntKind.i64.bits))) r1.1) fun r4 =>
 some ((Prefix.mk r4 r1.1), r3.2.1, true)
def s_prefix_All1 (st1 : ((List UInt8) × (List Prefix))) (nx1 : ((List UInt8) × (List Prefix)) → Option ((List Prefix) × Bool)) (bk1 : Unit → Option ((List Prefix) × Bool)) : Option ((List Prefix) × Bool) :=
 bd (m_prefix_Get st1.1) fun r1 =>
 bif r1.2.2 then
 bd (ap 16 st1.2 ([r1.1])) fun y2 =>
 nx1 (r1.2.1, y2)
 else
 bif decide ((st1.1.length : Int) > (0 : Int)) then
 some ([], false)
 else
 some (st1.2, true)
def m_prefix_All (a0 : (List UInt8)) : Option ((List Prefix) × Bool) :=
 loopC (s_prefix_All1) (fun e1 =>
 none) BIG (a0, [])
def m_update_Get (a0 : Msg) : Option (News × Note) :=
 bif decide (¬ a0.Typ = (2 : Int)) then
 some ((News.mk ([]) (Path.mk (0 : Int) ([]) (0 : Int) (0 : Int)) ([])), (Note.mk (3 : Int) (1 : Int) ([])))
 else
 bd (m_msg_Sane a0) fun r1 =>
 bif (!r1) then
 some ((News.mk ([]) (Path.mk (0 : Int) ([]) (0 : Int) (0 : Int)) ([])), (Note.mk (3 : Int) (1 : Int) ([])))
 else
 bd (m_update_counted a0.Body) fun r2 =>
 bd (m_update_counted r2.2.1) fun r3 =>
 bif (!r2.2.2) then
 some ((News.mk ([]) (Path.mk (0 : Int) ([]) (0 : Int) (0 : Int)) ([])), (Note.mk (3 : Int) (1 : Int) ([])))
 else
 bif (!r3.2.2) then
 some ((News.mk ([]) (Path.mk (0 : Int) ([]) (0 : Int) (0 : Int)) ([])), (Note.mk (3 : Int) (1 : Int) ([])))
 else
 bd (m_prefix_All r2.1) fun r4 =>
 bd (m_prefix_All r3.2.1) fun r5 =>
 bif (!r4.2) then
 some ((News.mk ([]) (Path.mk (0 : Int) ([]) (0 : Int) (0 : Int)) ([])), (Note.mk (3 : Int) (10 : Int) ([])))
 else
 bif (!r5.2) then
 some ((News.mk ([]) (Path.mk (0 : Int) ([]) (0 : Int) (0 : Int)) ([])), (Note.mk (3 : Int) (10 : Int) ([])))
 else
 bd (m_attr_All r3.1) fun r6 =>
 jn 1 (fun (k1 : (Int × Int × (List Int) × Int × Int × Int × Int × (List UInt8)) → Option (News × Note)) =>
 bif r6.2 then
 bd (m_attr_Judge r6.1) fun r7 =>
 k1 (r7.2.1, r7.1.Origin, r7.1.As, r7.1.Hop, r7.1.Otc, r7.2.2.Code, r7.2.2.Sub, r7.2.2.Data)
 else
 k1 ((1 : Int), (0 : Int), [], (0 : Int), (0 : Int), (0 : Int), (0 : Int), [])) fun j1 =>
 bif decide (¬ j1.2.2.2.2.2.1 = (0 : Int)) then
 some ((News.mk ([]) (Path.mk (0 : Int) ([]) (0 : Int) (0 : Int)) ([])), (Note.mk j1.2.2.2.2.2.1 j1.2.2.2.2.2.2.1 j1.2.2.2.2.2.2.2))
 else
 bif decide ((r5.1.length : Int) = (0 : Int)) then
 some ((News.mk r4.1 (Path.mk (0 : Int) ([]) (0 : Int) (0 : Int)) ([])), (Note.mk (0 : Int) (0 : Int) ([])))
 else
 bif decide (¬ j1.1 = (0 : Int)) then
 bd (ap 16 r4.1 r5.1) fun y8 =>
 some ((News.mk y8 (Path.mk (0 : Int) ([]) (0 : Int) (0 : Int)) ([])), (Note.mk (0 : Int) (0 : Int) ([])))
 else
 some ((News.mk r4.1 (Path.mk j1.2.1 j1.2.2.1 j1.2.2.2.1 j1.2.2.2.2.1) r5.1), (Note.mk (0 : Int) (0 : Int) ([])))
def m_prefix_Sane (a0 : Prefix) : Option Bool :=
 bif decide (a0.N ≥ (0 : Int)) then
 bif decide (a0.N ≤ (32 : Int)) then
 bd (m_prefix_Mask a0.A a0.N) fun r1 =>
 some (decide (r1 = a0.A))
 else
 some false
 else
 some false
def s_attr_Sane1 (a0 : Path) (st1 : (Int)) (nx1 : (Int) → Option Bool) (bk1 : Unit → Option Bool) : Option Bool :=
 bif decide (st1 < (a0.As.length : Int)) then
 bd (ix a0.As st1) fun y1 =>
 bif decide (y1 < (1 : Int)) then
 some false
 else
 bif decide (y1 > (4294967295 : Int)) then
 some false
 else
 nx1 (IntKind.i64.wrap (st1 + (1 : Int)))
 else
 bk1 ()
def m_attr_Sane (a0 : Path) : Option Bool :=
 loopC (s_attr_Sane1 a0) (fun e1 =>
 bif decide (a0.Origin ≥ (0 : Int)) then
 bif decide (a0.Origin ≤ (2 : Int)) then
 bif decide ((a0.As.length : Int) ≤ (255 : Int)) then
 bif decide (a0.Hop ≥ (1 : Int)) then
 bif decide (a0.Hop ≤ (4294967295 : Int)) then
 bif decide (a0.Otc ≥ (0 : Int)) then
 some (decide (a0.Otc ≤ (4294967295 : Int)))
 else
 some false
 else
 some false
 else
 some false
 else
 some false
 else
 some false
 else
 some false) BIG (0 : Int)
def s_update_Sane2 (a0 : News) (st2 : (Int)) (nx2 : (Int) → Option Bool) (bk2 : Unit → Option Bool) : Option Bool :=
 bif decide (st2 < (a0.Nlri.length : Int)) then
 bd (ix a0.Nlri st2) fun y3 =>
 bd (m_prefix_Sane y3) fun r4 =>
 bif (!r4) then
 some false
 else
 nx2 (IntKind.i64.wrap (st2 + (1 : Int)))
 else
 bk2 ()
def s_update_Sane1 (a0 : News) (st1 : (Int)) (nx1 : (Int) → Option Bool) (bk1 : Unit → Option Bool) : Option Bool :=
 bif decide (st1 < (a0.Gone.length : Int)) then
 bd (ix a0.Gone st1) fun y1 =>
 bd (m_prefix_Sane y1) fun r2 =>
 bif (!r2) then
 some false
 else
 nx1 (IntKind.i64.wrap (st1 + (1 : Int)))
 else
 bk1 ()
def m_update_Sane (a0 : News) : Option Bool :=
 loopC (s_update_Sane1 a0) (fun e1 =>
 loopC (s_update_Sane2 a0) (fun e2 =>
 bif decide ((a0.Nlri.length : Int) > (0 : Int)) then
 bd (m_attr_Sane a0.P) fun r5 =>
 some r5
 else
 bif decide (a0.P.Origin = (0 : Int)) then
 bif decide ((a0.P.As.length : Int) = (0 : Int)) then
 bif decide (a0.P.Hop = (0 : Int)) then
 some (decide (a0.P.Otc = (0 : Int)))
 else
 some false
 else
 some false
 else
 some false) BIG (0 : Int)) BIG (0 : Int)
def m_update_body (a0 : (List UInt8)) (a1 : (List UInt8)) (a2 : (List UInt8)) : Option (List UInt8) :=
 bd (m_octet_Put ([] : List UInt8) (a0.length : Int) (2 : Int)) fun r1 =>
 bd (ap 1 r1 a0) fun y2 =>
 bd (m_octet_Put ([] : List UInt8) (a1.length : Int) (2 : Int)) fun r3 =>
 bd (ap 1 y2 r3) fun y4 =>
 bd (ap 1 y4 a1) fun y5 =>
 bd (ap 1 y5 a2) fun y6 =>
 some y6
def m_prefix_Put (a0 : (List UInt8)) (a1 : Prefix) : Option (List UInt8) :=
 bd (m_prefix_Sane a1) fun r1 =>
 bif (!r1) then
 some a0
 else
 bd (m_prefix_size a1.N) fun r2 =>
 bd (m_octet_Put a0 a1.N (1 : Int)) fun r3 =>
 nn (IntKind.i64.wrap ((32 : Int) - (IntKind.i64.wrap ((8 : Int) * r2)))) <|
 bd (m_octet_Put r3 (a1.A.fdiv (2 ^ (min (IntKind.i64.wrap ((32 : Int) - (IntKind.i64.wrap ((8 : Int) * r2)))).toNat IntKind.i64.bits))) r2) fun r4 =>
 some r4
def s_update_prefixes1 (a0 : (List Prefix)) (st1 : ((List UInt8) × Int)) (nx1 : ((List UInt8) × Int) → Option (List UInt8)) (bk1 : ((List UInt8)) → Option (List UInt8)) : Option (List UInt8) :=
 bif decide (st1.2 < (a0.length : Int)) then
 bd (ix a0 st1.2) fun y1 =>
 bd (m_prefix_Put ([] : List UInt8) y1) fun r2 =>
 bd (ap 1 st1.1 r2) fun y3 =>
 nx1 (y3, (IntKind.i64.wrap (st1.2 + (1 : Int))))
 else
 bk1 st1.1
def m_update_prefixes (a0 : (List Prefix)) : Option (List UInt8) :=
 loopC (s_update_prefixes1 a0) (fun e1 =>
 some e1) BIG ([], (0 : Int))
def s_attr_segment1 (a0 : (List Int)) (st1 : ((List UInt8) × Int)) (nx1 : ((List UInt8) × Int) → Option (List UInt8)) (bk1 : ((List UInt8)) → Option (List UInt8)) : Option (List UInt8) :=
 bif decide (st1.2 < (a0.length : Int)) then
 bd (ix a0 st1.2) fun y1 =>
 bd (m_octet_Put ([] : List UInt8) y1 (4 : Int)) fun r2 =>
 bd (ap 1 st1.1 r2) fun y3 =>
 nx1 (y3, (IntKind.i64.wrap (st1.2 + (1 : Int))))
 else
 bk1 st1.1
def m_attr_segment (a0 : (List Int)) : Option (List UInt8) :=
 bif decide ((a0.length : Int) = (0 : Int)) then
 some ([])
 else
 loopC (s_attr_segment1 a0) (fun e1 =>
 some e1) BIG ([(2 : UInt8), (toB (IntKind.u8.wrap (a0.length : Int)))], (0 : Int))
def m_attr_Of (a0 : Path) : Option (List Attr) :=
 bd (m_attr_Sane a0) fun r1 =>
 bif (!r1) then
 some ([])
 else
 bd (m_octet_Put ([] : List UInt8) a0.Origin (1 : Int)) fun r2 =>
 bd (m_attr_segment a0.As) fun r3 =>
 bd (m_octet_Put ([] : List UInt8) a0.Hop (4 : Int)) fun r4 =>
 bif decide (¬ a0.Otc = (0 : Int)) then
 bd (m_octet_Put ([] : List UInt8) a0.Otc (4 : Int)) fun r5 =>
 bd (ap 40 ([(Attr.mk (64 : Int) (1 : Int) r2), (Attr.mk (64 : Int) (2 : Int) r3), (Attr.mk (64 : Int) (3 : Int) r4)]) ([(Attr.mk (192 : Int) (35 : Int) r5)])) fun y6 =>
 some y6
 else
 some ([(Attr.mk (64 : Int) (1 : Int) r2), (Attr.mk (64 : Int) (2 : Int) r3), (Attr.mk (64 : Int) (3 : Int) r4)])
def s_update_attributes1 (r1 : (List Attr)) (st1 : ((List UInt8) × Int)) (nx1 : ((List UInt8) × Int) → Option (List UInt8)) (bk1 : ((List UInt8)) → Option (List UInt8)) : Option (List UInt8) :=
 bif decide (st1.2 < (r1.length : Int)) then
 bd (ix r1 st1.2) fun y2 =>
 bd (m_attr_Put st1.1 y2) fun r3 =>
 nx1 (r3, (IntKind.i64.wrap (st1.2 + (1 : Int))))
 else
 bk1 st1.1
def m_update_attributes (a0 : Path) : Option (List UInt8) :=
 bd (m_attr_Of a0) fun r1 =>
 loopC (s_update_attributes1 r1) (fun e1 =>
 some e1) BIG ([], (0 : Int))
def m_update_Put (a0 : News) : Option Msg :=
 bd (m_update_Sane a0) fun r1 =>
 bif (!r1) then
 some (Msg.mk (0 : Int) ([]))
 else
 bd (m_update_prefixes a0.Gone) fun r2 =>
 bd (m_update_attributes a0.P) fun r3 =>
 bd (m_update_prefixes a0.Nlri) fun r4 =>
 bd (m_update_body r2 r3 r4) fun r5 =>
 bd (m_msg_Sane (Msg.mk (2 : Int) r5)) fun r6 =>
 bif (!r6) then
 some (Msg.mk (0 : Int) ([]))
 else
 some (Msg.mk (2 : Int) r5)
def m_update_Pack_1 (a0 : (List Prefix)) : Option News :=
 some (News.mk a0 (Path.mk (0 : Int) ([]) (0 : Int) (0 : Int)) ([]))
def s_update_pack_s11 (a0 : (List Prefix)) (a1 : Int) (r1 : Int) (st1 : ((List Msg) × Int × Int × Int)) (nx1 : ((List Msg) × Int × Int × Int) → Option (List Msg)) (bk1 : ((List Msg) × Int × Int) → Option (List Msg)) : Option (List Msg) :=
 bif decide (st1.2.1 < (a0.length : Int)) then
 bd (ix a0 st1.2.1) fun y2 =>
 bd (m_prefix_Put ([] : List UInt8) y2) fun r3 =>
 bif (!decide ((IntKind.i64.wrap (st1.2.2.1 + (r3.length : Int))) ≤ (4096 : Int))) then
 bd (sl a0 st1.2.2.2 st1.2.1) fun y4 =>
 bd (m_update_Pack_1 y4) fun r5 =>
 bd (m_update_Put r5) fun r6 =>
 bd (ap 32 st1.1 ([r6])) fun y7 =>
 bd (m_prefix_Put ([] : List UInt8) y2) fun r8 =>
 nx1 (y7, (IntKind.i64.wrap (st1.2.1 + (1 : Int))), (IntKind.i64.wrap ((IntKind.i64.wrap (r1 + a1)) + (r8.length : Int))), st1.2.1)
 else
 nx1 (st1.1, (IntKind.i64.wrap (st1.2.1 + (1 : Int))), (IntKind.i64.wrap (st1.2.2.1 + (r3.length : Int))), st1.2.2.2)
 else
 bk1 (st1.1, st1.2.2.2, st1.2.2.1)
def m_update_pack_s1 (a0 : (List Prefix)) (a1 : Int) : Option (List Msg) :=
 bd (m_msg_Least (2 : Int)) fun r1 =>
 loopC (s_update_pack_s11 a0 a1 r1) (fun e1 =>
 bif decide ((a0.length : Int) > (0 : Int)) then
 bd (sl a0 e1.2.1 a0.length) fun y9 =>
 bd (m_update_Pack_1 y9) fun r10 =>
 bd (m_update_Put r10) fun r11 =>
 bd (ap 32 e1.1 ([r11])) fun y12 =>
 some y12
 else
 some e1.1) BIG ([], (0 : Int), (IntKind.i64.wrap (r1 + a1)), (0 : Int))
def s_update_Pack1 (a0 : News) (r3 : (List UInt8)) (r4 : Int) (st1 : ((List Msg) × Int × Int × Int)) (nx1 : ((List Msg) × Int × Int × Int) → Option (List Msg)) (bk1 : ((List Msg) × Int × Int) → Option (List Msg)) : Option (List Msg) :=
 bif decide (st1.2.1 < (a0.Nlri.length : Int)) then
 bd (ix a0.Nlri st1.2.1) fun y5 =>
 bd (m_prefix_Put ([] : List UInt8) y5) fun r6 =>
 bif (!decide ((IntKind.i64.wrap (st1.2.2.1 + (r6.length : Int))) ≤ (4096 : Int))) then
 bd (sl a0.Nlri st1.2.2.2 st1.2.1) fun y7 =>
 bd (m_update_Put (News.mk ([]) a0.P y7)) fun r8 =>
 bd (ap 32 st1.1 ([r8])) fun y9 =>
 bd (m_prefix_Put ([] : List UInt8) y5) fun r10 =>
 nx1 (y9, (IntKind.i64.wrap (st1.2.1 + (1 : Int))), (IntKind.i64.wrap ((IntKind.i64.wrap (r4 + (r3.length : Int))) + (r10.length : Int))), st1.2.1)
 else
 nx1 (st1.1, (IntKind.i64.wrap (st1.2.1 + (1 : Int))), (IntKind.i64.wrap (st1.2.2.1 + (r6.length : Int))), st1.2.2.2)
 else
 bk1 (st1.1, st1.2.2.2, st1.2.2.1)
def m_update_Pack (a0 : News) : Option (List Msg) :=
 bd (m_update_Sane a0) fun r1 =>
 bif (!r1) then
 some ([])
 else
 bd (m_update_pack_s1 a0.Gone (0 : Int)) fun r2 =>
 bd (m_update_attributes a0.P) fun r3 =>
 jn 101 (fun (k101 : ((List Msg)) → Option (List Msg)) =>
 bd (m_msg_Least (2 : Int)) fun r4 =>
 loopC (s_update_Pack1 a0 r3 r4) (fun e1 =>
 bif decide ((a0.Nlri.length : Int) > (0 : Int)) then
 bd (sl a0.Nlri e1.2.1 a0.Nlri.length) fun y11 =>
 bd (m_update_Put (News.mk ([]) a0.P y11)) fun r12 =>
 bd (ap 32 e1.1 ([r12])) fun y13 =>
 k101 y13
 else
 k101 e1.1) BIG ([], (0 : Int), (IntKind.i64.wrap (r4 + (r3.length : Int))), (0 : Int))) fun i1 =>
 bd (ap 32 r2 i1) fun y14 =>
 some y14
def s_ridgewayref07_SamePath1 (a0 : Path) (a1 : Path) (st1 : (Int)) (nx1 : (Int) → Option Bool) (bk1 : Unit → Option Bool) : Option Bool :=
 bif decide (st1 < (a0.As.length : Int)) then
 bd (ix a0.As st1) fun y1 =>
 bd (ix a1.As st1) fun y2 =>
 bif decide (¬ y1 = y2) then
 some false
 else
 nx1 (IntKind.i64.wrap (st1 + (1 : Int)))
 else
 bk1 ()
def m_ridgewayref07_SamePath (a0 : Path) (a1 : Path) : Option Bool :=
 bif decide (¬ a0.Origin = a1.Origin) then
 some false
 else
 bif decide (¬ a0.Hop = a1.Hop) then
 some false
 else
 bif decide (¬ a0.Otc = a1.Otc) then
 some false
 else
 bif decide (¬ (a0.As.length : Int) = (a1.As.length : Int)) then
 some false
 else
 loopC (s_ridgewayref07_SamePath1 a0 a1) (fun e1 =>
 some true) BIG (0 : Int)
def m_ridgewaylaw08_awake : Option Bool :=
 bd (m_update_Put (News.mk ([(Prefix.mk (167772160 : Int) (8 : Int))]) (Path.mk (0 : Int) ([]) (0 : Int) (0 : Int)) ([]))) fun r1 =>
 bd (m_update_Put (News.mk ([]) (Path.mk (0 : Int) ([(7 : Int)]) (1 : Int) (0 : Int)) ([(Prefix.mk (167772160 : Int) (8 : Int))]))) fun r2 =>
 bd (m_update_Get r2) fun r3 =>
 bif (r1.Body == [0, 2, 8, 10, 0, 0]) then
 bif decide (r1.Typ = (2 : Int)) then
 bif decide (r3.2.Code = (0 : Int)) then
 bd (m_ridgewayref07_SamePath r3.1.P (Path.mk (0 : Int) ([(7 : Int)]) (1 : Int) (0 : Int))) fun r4 =>
 bif r4 then
 bif decide ((r3.1.Nlri.length : Int) = (1 : Int)) then
 bif decide ((r3.1.Gone.length : Int) = (0 : Int)) then
 bd (m_update_Pack (News.mk ([]) (Path.mk (0 : Int) ([]) (0 : Int) (0 : Int)) ([]))) fun r5 =>
 bif decide ((r5.length : Int) = (0 : Int)) then
 bd (m_update_Sane r3.1) fun r6 =>
 some r6
 else
 some false
 else
 some false
 else
 some false
 else
 some false
 else
 some false
 else
 some false
 else
 some false
def m_ridgewayref08_Few (a0 : News) : Option Bool :=
 bif decide ((a0.Gone.length : Int) ≤ (40 : Int)) then
 bif decide ((a0.Nlri.length : Int) ≤ (40 : Int)) then
 some (decide ((a0.P.As.length : Int) ≤ (300 : Int)))
 else
 some false
 else
 some false
def m_ridgewayref03_Least (a0 : Int) : Option Int :=
 bif decide (a0 = (1 : Int)) then
 some (29 : Int)
 else
 bif decide (a0 = (2 : Int)) then
 some (23 : Int)
 else
 bif decide (a0 = (3 : Int)) then
 some (21 : Int)
 else
 bif decide (a0 = (4 : Int)) then
 some (19 : Int)
 else
 some (0 : Int)
def m_ridgewayref03_fits (a0 : Int) (a1 : Int) : Option Bool :=
 bd (m_ridgewayref03_Least a0) fun r1 =>
 bif decide (r1 > (0 : Int)) then
 bd (m_ridgewayref03_Least a0) fun r2 =>
 bif decide (a1 ≥ r2) then
 bif decide (a1 ≤ (4096 : Int)) then
 bif decide (¬ a0 = (4 : Int)) then
 some true
 else
 some (decide (a1 = (19 : Int)))
 else
 some false
 else
 some false
 else
 some false
def m_ridgewayref03_Sane (a0 : Msg) : Option Bool :=
 bd (m_ridgewayref03_fits a0.Typ (IntKind.i64.wrap ((a0.Body.length : Int) + (19 : Int)))) fun r1 =>
 some r1
def m_ridgewayref08_bad (a0 : Int) : Option (News × Note) :=
 some ((News.mk ([]) (Path.mk (0 : Int) ([]) (0 : Int) (0 : Int)) ([])), (Note.mk (3 : Int) a0 ([])))
def s_ridgewayref01_Get1 (a0 : (List UInt8)) (a1 : Int) (st1 : (Int × Int)) (nx1 : (Int × Int) → Option (Int × (List UInt8) × Bool)) (bk1 : (Int) → Option (Int × (List UInt8) × Bool)) : Option (Int × (List UInt8) × Bool) :=
 bif decide (st1.2 < a1) then
 bd (ix a0 st1.2) fun y1 =>
 nx1 ((IntKind.i64.wrap ((IntKind.i64.wrap (st1.1 * (256 : Int))) + (IntKind.i64.wrap (y1.toNat : Int)))), (IntKind.i64.wrap (st1.2 + (1 : Int))))
 else
 bk1 st1.1
def m_ridgewayref01_Get (a0 : (List UInt8)) (a1 : Int) : Option (Int × (List UInt8) × Bool) :=
 bif decide (a1 < (1 : Int)) then
 some ((0 : Int), [], false)
 else
 bif decide (a1 > (4 : Int)) then
 some ((0 : Int), [], false)
 else
 bif decide ((a0.length : Int) < a1) then
 some ((0 : Int), [], false)
 else
 loopC (s_ridgewayref01_Get1 a0 a1) (fun e1 =>
 bd (sl a0 a1 a0.length) fun y2 =>
 some (e1, y2, true)) BIG ((0 : Int), (0 : Int))
def m_ridgewayref01_Take (a0 : (List UInt8)) (a1 : Int) : Option ((List UInt8) × (List UInt8) × Bool) :=
 bif decide (a1 < (0 : Int)) then
 some ([], [], false)
 else
 bif decide ((a0.length : Int) < a1) then
 some ([], [], false)
 else
 bd (sl a0 0 a1) fun y1 =>
 bd (sl a0 a1 a0.length) fun y2 =>
 some (y1, y2, true)
def m_ridgewayref08_part (a0 : (List UInt8)) : Option ((List UInt8) × (List UInt8) × Bool) :=
 bd (m_ridgewayref01_Get a0 (2 : Int)) fun r1 =>
 bif (!r1.2.2) then
 some ([], [], false)
 else
 bd (m_ridgewayref01_Take r1.2.1 r1.1) fun r2 =>
 some (r2.1, r2.2.1, r2.2.2)
def s_ridgewayref02_size1 (st1 : (Int × Int)) (nx1 : (Int × Int) → Option Int) (bk1 : (Int) → Option Int) : Option Int :=
 bif decide (st1.2 < (32 : Int)) then
 nx1 ((IntKind.i64.wrap (st1.1 * (2 : Int))), (IntKind.i64.wrap (st1.2 + (1 : Int))))
 else
 bk1 st1.1
def m_ridgewayref02_size (a0 : Int) : Option Int :=
 loopC (s_ridgewayref02_size1) (fun e1 =>
 some e1) BIG ((1 : Int), (if (0 : Int) > a0 then (0 : Int) else a0))
def m_ridgewayref02_Mask (a0 : Int) (a1 : Int) : Option Int :=
 bd (m_ridgewayref02_size a1) fun r1 =>
 nz r1 <|
 some (IntKind.i64.wrap ((IntKind.i64.wrap ((BitVec.ofInt IntKind.i64.bits a0 &&& BitVec.ofInt IntKind.i64.bits (4294967295 : Int)).toNat : Int)) - ((IntKind.i64.wrap ((BitVec.ofInt IntKind.i64.bits a0 &&& BitVec.ofInt IntKind.i64.bits (4294967295 : Int)).toNat : Int)).tmod r1)))
def s_ridgewayref02_Get1 (a0 : (List UInt8)) (y3 : UInt8) (st1 : (Int × Int)) (nx1 : (Int × Int) → Option (Prefix × (List UInt8) × Bool)) (bk1 : (Int) → Option (Prefix × (List UInt8) × Bool)) : Option (Prefix × (List UInt8) × Bool) :=
 bif decide (st1.2 < (4 : Int)) then
 bif decide (st1.2 < (IntKind.i64.wrap ((IntKind.i64.wrap ((IntKind.i64.wrap (y3.toNat : Int)) + (7 : Int))).tdiv (8 : Int)))) then
 bd (ix a0 (IntKind.i64.wrap ((1 : Int) + st1.2))) fun y4 =>
 nx1 ((IntKind.i64.wrap ((IntKind.i64.wrap (st1.1 * (256 : Int))) + (IntKind.i64.wrap (y4.toNat : Int)))), (IntKind.i64.wrap (st1.2 + (1 : Int))))
 else
 nx1 ((IntKind.i64.wrap (st1.1 * (256 : Int))), (IntKind.i64.wrap (st1.2 + (1 : Int))))
 else
 bk1 st1.1
def m_ridgewayref02_Get (a0 : (List UInt8)) : Option (Prefix × (List UInt8) × Bool) :=
 bif decide ((a0.length : Int) = (0 : Int)) then
 some ((Prefix.mk (0 : Int) (0 : Int)), [], false)
 else
 bd (ix a0 (0 : Int)) fun y1 =>
 bif decide ((y1.toNat : Int) > (32 : Int)) then
 some ((Prefix.mk (0 : Int) (0 : Int)), [], false)
 else
 bd (ix a0 (0 : Int)) fun y2 =>
 bif decide ((a0.length : Int) < (IntKind.i64.wrap ((1 : Int) + (IntKind.i64.wrap ((IntKind.i64.wrap ((IntKind.i64.wrap (y2.toNat : Int)) + (7 : Int))).tdiv (8 : Int)))))) then
 some ((Prefix.mk (0 : Int) (0 : Int)), [], false)
 else
 bd (ix a0 (0 : Int)) fun y3 =>
 loopC (s_ridgewayref02_Get1 a0 y3) (fun e1 =>
 bd (m_ridgewayref01_Take a0 (IntKind.i64.wrap ((1 : Int) + (IntKind.i64.wrap ((IntKind.i64.wrap ((IntKind.i64.wrap (y3.toNat : Int)) + (7 : Int))).tdiv (8 : Int)))))) fun r5 =>
 bd (m_ridgewayref02_Mask e1 (IntKind.i64.wrap (y3.toNat : Int))) fun r6 =>
 some ((Prefix.mk r6 (IntKind.i64.wrap (y3.toNat : Int))), r5.2.1, true)) BIG ((0 : Int), (0 : Int))
def s_ridgewayref02_All1 (st1 : ((List UInt8) × (List Prefix))) (nx1 : ((List UInt8) × (List Prefix)) → Option ((List Prefix) × Bool)) (bk1 : ((List Prefix)) → Option ((List Prefix) × Bool)) : Option ((List Prefix) × Bool) :=
 bif decide ((st1.1.length : Int) > (0 : Int)) then
 bd (m_ridgewayref02_Get st1.1) fun r1 =>
 bif (!r1.2.2) then
 some ([], false)
 else
 bd (ap 16 st1.2 ([r1.1])) fun y2 =>
 nx1 (r1.2.1, y2)
 else
 bk1 st1.2
def m_ridgewayref02_All (a0 : (List UInt8)) : Option ((List Prefix) × Bool) :=
 loopC (s_ridgewayref02_All1) (fun e1 =>
 some (e1, true)) BIG (a0, [])
def m_ridgewayref07_Get (a0 : (List UInt8)) : Option (Attr × (List UInt8) × Bool) :=
 bif decide ((a0.length : Int) < (3 : Int)) then
 some ((Attr.mk (0 : Int) (0 : Int) ([])), [], false)
 else
 bd (ix a0 (2 : Int)) fun y1 =>
 jn 1 (fun (k1 : (Int × Int) → Option (Attr × (List UInt8) × Bool)) =>
 bd (ix a0 (0 : Int)) fun y2 =>
 bif decide (((IntKind.u8.wrap ((y2.toNat : Int).tdiv (16 : Int))).tmod (2 : Int)) = (1 : Int)) then
 bif decide ((a0.length : Int) < (4 : Int)) then
 some ((Attr.mk (0 : Int) (0 : Int) ([])), [], false)
 else
 bd (ix a0 (3 : Int)) fun y3 =>
 k1 ((4 : Int), (IntKind.i64.wrap ((IntKind.i64.wrap ((IntKind.i64.wrap (y1.toNat : Int)) * (256 : Int))) + (IntKind.i64.wrap (y3.toNat : Int)))))
 else
 k1 ((3 : Int), (IntKind.i64.wrap (y1.toNat : Int)))) fun j1 =>
 bif decide ((a0.length : Int) < (IntKind.i64.wrap (j1.1 + j1.2))) then
 some ((Attr.mk (0 : Int) (0 : Int) ([])), [], false)
 else
 bd (ix a0 (0 : Int)) fun y4 =>
 bd (ix a0 (1 : Int)) fun y5 =>
 bd (sl a0 j1.1 (IntKind.i64.wrap (j1.1 + j1.2))) fun y6 =>
 bd (sl a0 (IntKind.i64.wrap (j1.1 + j1.2)) a0.length) fun y7 =>
 some ((Attr.mk (IntKind.i64.wrap (y4.toNat : Int)) (IntKind.i64.wrap (y5.toNat : Int)) y6), y7, true)
def s_ridgewayref07_All1 (st1 : ((List UInt8) × (List Attr))) (nx1 : ((List UInt8) × (List Attr)) → Option ((List Attr) × Bool)) (bk1 : ((List Attr)) → Option ((List Attr) × Bool)) : Option ((List Attr) × Bool) :=
 bif decide ((st1.1.length : Int) > (0 : Int)) then
 bd (m_ridgewayref07_Get st1.1) fun r1 =>
 bif (!r1.2.2) then
 some ([], false)
 else
 bd (ap 40 st1.2 ([r1.1])) fun y2 =>
 nx1 (r1.2.1, y2)
 else
 bk1 st1.2
def m_ridgewayref07_All (a0 : (List UInt8)) : Option ((List Attr) × Bool) :=
 loopC (s_ridgewayref07_All1) (fun e1 =>
 some (e1, true)) BIG (a0, [])
def m_ridgewayref07_right (a0 : Attr) : Option Bool :=
 bif decide (a0.Flags ≥ (0 : Int)) then
 bif decide (a0.Flags ≤ (255 : Int)) then
 bif decide (a0.Typ ≥ (0 : Int)) then
 bif decide (a0.Typ ≤ (255 : Int)) then
 some (decide ((a0.Data.length : Int) ≤ (65535 : Int)))
 else
 some false
 else
 some false
 else
 some false
 else
 some false
def m_ridgewayref07_Put (a0 : (List UInt8)) (a1 : Attr) : Option (List UInt8) :=
 bd (ap 1 ([] : List UInt8) a0) fun y1 =>
 bd (m_ridgewayref07_right a1) fun r2 =>
 bif (!r2) then
 some y1
 else
 bif decide ((a1.Data.length : Int) > (255 : Int)) then
 bd (ap 1 y1 ([(toB (IntKind.u8.wrap (IntKind.i64.wrap ((IntKind.i64.wrap (a1.Flags - (IntKind.i64.wrap (((IntKind.i64.wrap (a1.Flags.tdiv (16 : Int))).tmod (2 : Int)) * (16 : Int))))) + (16 : Int))))), (toB (IntKind.u8.wrap a1.Typ)), (toB (IntKind.u8.wrap (IntKind.i64.wrap ((a1.Data.length : Int).tdiv (256 : Int))))), (toB (IntKind.u8.wrap ((a1.Data.length : Int).tmod (256 : Int))))])) fun y3 =>
 bd (ap 1 y3 a1.Data) fun y4 =>
 some y4
 else
 bd (ap 1 y1 ([(toB (IntKind.u8.wrap (IntKind.i64.wrap (a1.Flags - (IntKind.i64.wrap (((IntKind.i64.wrap (a1.Flags.tdiv (16 : Int))).tmod (2 : Int)) * (16 : Int))))))), (toB (IntKind.u8.wrap a1.Typ)), (toB (IntKind.u8.wrap (a1.Data.length : Int)))])) fun y5 =>
 bd (ap 1 y5 a1.Data) fun y6 =>
 some y6
def m_ridgewayref07_four (a0 : (List UInt8)) : Option Int :=
 bif decide (¬ (a0.length : Int) = (4 : Int)) then
 some (0 : Int)
 else
 bd (m_ridgewayref01_Get a0 (4 : Int)) fun r1 =>
 some r1.1
def s_ridgewayref07_ases2 (st1 : ((List UInt8) × (List Int))) (st2 : ((List Int) × Int)) (nx2 : ((List Int) × Int) → Option ((List Int) × Bool)) (bk2 : ((List Int)) → Option ((List Int) × Bool)) : Option ((List Int) × Bool) :=
 bd (ix st1.1 (1 : Int)) fun y4 =>
 bif decide (st2.2 < (IntKind.i64.wrap (y4.toNat : Int))) then
 bd (sl st1.1 (IntKind.i64.wrap ((2 : Int) + (IntKind.i64.wrap ((4 : Int) * st2.2)))) (IntKind.i64.wrap ((6 : Int) + (IntKind.i64.wrap ((4 : Int) * st2.2))))) fun y5 =>
 bd (m_ridgewayref07_four y5) fun r6 =>
 bif decide (r6 = (0 : Int)) then
 some ([], false)
 else
 bd (ap 8 st2.1 ([r6])) fun y7 =>
 nx2 (y7, (IntKind.i64.wrap (st2.2 + (1 : Int))))
 else
 bk2 st2.1
def s_ridgewayref07_ases1 (st1 : ((List UInt8) × (List Int))) (nx1 : ((List UInt8) × (List Int)) → Option ((List Int) × Bool)) (bk1 : ((List Int)) → Option ((List Int) × Bool)) : Option ((List Int) × Bool) :=
 bif decide ((st1.1.length : Int) > (0 : Int)) then
 bif decide ((st1.1.length : Int) < (2 : Int)) then
 some ([], false)
 else
 bd (ix st1.1 (0 : Int)) fun y1 =>
 bif decide (¬ (y1.toNat : Int) = (2 : Int)) then
 some ([], false)
 else
 bd (ix st1.1 (1 : Int)) fun y2 =>
 bif decide ((y2.toNat : Int) = (0 : Int)) then
 some ([], false)
 else
 bd (ix st1.1 (1 : Int)) fun y3 =>
 bif decide ((st1.1.length : Int) < (IntKind.i64.wrap ((2 : Int) + (IntKind.i64.wrap ((4 : Int) * (IntKind.i64.wrap (y3.toNat : Int))))))) then
 some ([], false)
 else
 loopC (s_ridgewayref07_ases2 st1) (fun e2 =>
 bd (ix st1.1 (1 : Int)) fun y8 =>
 bd (sl st1.1 (IntKind.i64.wrap ((2 : Int) + (IntKind.i64.wrap ((4 : Int) * (IntKind.i64.wrap (y8.toNat : Int)))))) st1.1.length) fun y9 =>
 nx1 (y9, e2)) BIG (st1.2, (0 : Int))
 else
 bk1 st1.2
def m_ridgewayref07_ases (a0 : (List UInt8)) : Option ((List Int) × Bool) :=
 loopC (s_ridgewayref07_ases1) (fun e1 =>
 some (e1, true)) BIG (a0, [])
def s_ridgewayref07_Judge2 (st1 : (Int × Int × (List Int) × Int × Int × (List Int) × Bool × Int × Int × (List UInt8))) (y1 : Attr) (k107 : ((Bool) → Option (Path × Int × Note))) (st2 : (Int)) (nx2 : (Int) → Option (Path × Int × Note)) (bk2 : Unit → Option (Path × Int × Note)) : Option (Path × Int × Note) :=
 bif decide (st2 < (st1.2.2.2.2.2.1.length : Int)) then
 bd (ix st1.2.2.2.2.2.1 st2) fun y2 =>
 bif decide (y2 = y1.Typ) then
 k107 true
 else
 nx2 (IntKind.i64.wrap (st2 + (1 : Int)))
 else
 bk2 ()
def s_ridgewayref07_Judge3 (e1 : (Int × (List Int) × Int × Int × (List Int) × Bool × Int × Int × (List UInt8))) (k114 : ((Bool) → Option (Path × Int × Note))) (st3 : (Int)) (nx3 : (Int) → Option (Path × Int × Note)) (bk3 : Unit → Option (Path × Int × Note)) : Option (Path × Int × Note) :=
 bif decide (st3 < (e1.2.2.2.2.1.length : Int)) then
 bd (ix e1.2.2.2.2.1 st3) fun y18 =>
 bif decide (y18 = (1 : Int)) then
 k114 true
 else
 nx3 (IntKind.i64.wrap (st3 + (1 : Int)))
 else
 bk3 ()
def s_ridgewayref07_Judge4 (e1 : (Int × (List Int) × Int × Int × (List Int) × Bool × Int × Int × (List UInt8))) (k115 : ((Bool) → Option (Path × Int × Note))) (st4 : (Int)) (nx4 : (Int) → Option (Path × Int × Note)) (bk4 : Unit → Option (Path × Int × Note)) : Option (Path × Int × Note) :=
 bif decide (st4 < (e1.2.2.2.2.1.length : Int)) then
 bd (ix e1.2.2.2.2.1 st4) fun y19 =>
 bif decide (y19 = (2 : Int)) then
 k115 true
 else
 nx4 (IntKind.i64.wrap (st4 + (1 : Int)))
 else
 bk4 ()
def s_ridgewayref07_Judge5 (e1 : (Int × (List Int) × Int × Int × (List Int) × Bool × Int × Int × (List UInt8))) (k116 : ((Bool) → Option (Path × Int × Note))) (st5 : (Int)) (nx5 : (Int) → Option (Path × Int × Note)) (bk5 : Unit → Option (Path × Int × Note)) : Option (Path × Int × Note) :=
 bif decide (st5 < (e1.2.2.2.2.1.length : Int)) then
 bd (ix e1.2.2.2.2.1 st5) fun y20 =>
 bif decide (y20 = (3 : Int)) then
 k116 true
 else
 nx5 (IntKind.i64.wrap (st5 + (1 : Int)))
 else
 bk5 ()
def s_ridgewayref07_Judge1 (a0 : (List Attr)) (st1 : (Int × Int × (List Int) × Int × Int × (List Int) × Bool × Int × Int × (List UInt8))) (nx1 : (Int × Int × (List Int) × Int × Int × (List Int) × Bool × Int × Int × (List UInt8)) → Option (Path × Int × Note)) (bk1 : (Int × (List Int) × Int × Int × (List Int) × Bool × Int × Int × (List UInt8)) → Option (Path × Int × Note)) : Option (Path × Int × Note) :=
 bif decide (st1.1 < (a0.length : Int)) then
 bd (ix a0 st1.1) fun y1 =>
 jn 107 (fun (k107 : (Bool) → Option (Path × Int × Note)) =>
 loopC (s_ridgewayref07_Judge2 st1 y1 k107) (fun e2 =>
 k107 false) BIG (0 : Int)) fun i7 =>
 bif (!i7) then
 bd (ix a0 st1.1) fun y3 =>
 bd (ap 8 st1.2.2.2.2.2.1 ([y3.Typ])) fun y4 =>
 bd (ix a0 st1.1) fun y5 =>
 jn 108 (fun (k108 : (Int × (List Int) × Int × Int × Bool × Int × Int × (List UInt8)) → Option (Path × Int × Note)) =>
 bif decide (y5.Typ = (1 : Int)) then
 bif decide ((IntKind.i64.wrap ((BitVec.ofInt IntKind.i64.bits y5.Flags &&& BitVec.ofInt IntKind.i64.bits (192 : Int)).toNat : Int)) = (64 : Int)) then
 bif decide ((y5.Data.length : Int) = (1 : Int)) then
 bd (ix y5.Data (0 : Int)) fun y6 =>
 jn 109 (fun (k109 : (Bool) → Option (Path × Int × Note)) =>
 bif (!decide ((y6.toNat : Int) ≤ (2 : Int))) then
 k109 true
 else
 k109 st1.2.2.2.2.2.2.1) fun i9 =>
 bif decide ((y5.Data.length : Int) > (0 : Int)) then
 bd (ix y5.Data (0 : Int)) fun y7 =>
 k108 ((IntKind.i64.wrap (y7.toNat : Int)), st1.2.2.1, st1.2.2.2.1, st1.2.2.2.2.1, i9, st1.2.2.2.2.2.2.2.1, st1.2.2.2.2.2.2.2.2.1, st1.2.2.2.2.2.2.2.2.2)
 else
 k108 (st1.2.1, st1.2.2.1, st1.2.2.2.1, st1.2.2.2.2.1, i9, st1.2.2.2.2.2.2.2.1, st1.2.2.2.2.2.2.2.2.1, st1.2.2.2.2.2.2.2.2.2)
 else
 bif decide ((y5.Data.length : Int) > (0 : Int)) then
 bd (ix y5.Data (0 : Int)) fun y8 =>
 k108 ((IntKind.i64.wrap (y8.toNat : Int)), st1.2.2.1, st1.2.2.2.1, st1.2.2.2.2.1, true, st1.2.2.2.2.2.2.2.1, st1.2.2.2.2.2.2.2.2.1, st1.2.2.2.2.2.2.2.2.2)
 else
 k108 (st1.2.1, st1.2.2.1, st1.2.2.2.1, st1.2.2.2.2.1, true, st1.2.2.2.2.2.2.2.1, st1.2.2.2.2.2.2.2.2.1, st1.2.2.2.2.2.2.2.2.2)
 else
 bif decide ((y5.Data.length : Int) > (0 : Int)) then
 bd (ix y5.Data (0 : Int)) fun y9 =>
 k108 ((IntKind.i64.wrap (y9.toNat : Int)), st1.2.2.1, st1.2.2.2.1, st1.2.2.2.2.1, true, st1.2.2.2.2.2.2.2.1, st1.2.2.2.2.2.2.2.2.1, st1.2.2.2.2.2.2.2.2.2)
 else
 k108 (st1.2.1, st1.2.2.1, st1.2.2.2.1, st1.2.2.2.2.1, true, st1.2.2.2.2.2.2.2.1, st1.2.2.2.2.2.2.2.2.1, st1.2.2.2.2.2.2.2.2.2)
 else
 bif decide (y5.Typ = (2 : Int)) then
 bd (m_ridgewayref07_ases y5.Data) fun r10 =>
 bif decide ((IntKind.i64.wrap ((BitVec.ofInt IntKind.i64.bits y5.Flags &&& BitVec.ofInt IntKind.i64.bits (192 : Int)).toNat : Int)) = (64 : Int)) then
 jn 110 (fun (k110 : (Bool) → Option (Path × Int × Note)) =>
 bif (!r10.2) then
 k110 true
 else
 k110 st1.2.2.2.2.2.2.1) fun i10 =>
 k108 (st1.2.1, r10.1, st1.2.2.2.1, st1.2.2.2.2.1, i10, st1.2.2.2.2.2.2.2.1, st1.2.2.2.2.2.2.2.2.1, st1.2.2.2.2.2.2.2.2.2)
 else
 k108 (st1.2.1, r10.1, st1.2.2.2.1, st1.2.2.2.2.1, true, st1.2.2.2.2.2.2.2.1, st1.2.2.2.2.2.2.2.2.1, st1.2.2.2.2.2.2.2.2.2)
 else
 bif decide (y5.Typ = (3 : Int)) then
 bif decide ((IntKind.i64.wrap ((BitVec.ofInt IntKind.i64.bits y5.Flags &&& BitVec.ofInt IntKind.i64.bits (192 : Int)).toNat : Int)) = (64 : Int)) then
 bd (m_ridgewayref07_four y5.Data) fun r11 =>
 jn 111 (fun (k111 : (Bool) → Option (Path × Int × Note)) =>
 bif (!decide (r11 > (0 : Int))) then
 k111 true
 else
 k111 st1.2.2.2.2.2.2.1) fun i11 =>
 bd (m_ridgewayref07_four y5.Data) fun r12 =>
 k108 (st1.2.1, st1.2.2.1, r12, st1.2.2.2.2.1, i11, st1.2.2.2.2.2.2.2.1, st1.2.2.2.2.2.2.2.2.1, st1.2.2.2.2.2.2.2.2.2)
 else
 bd (m_ridgewayref07_four y5.Data) fun r13 =>
 k108 (st1.2.1, st1.2.2.1, r13, st1.2.2.2.2.1, true, st1.2.2.2.2.2.2.2.1, st1.2.2.2.2.2.2.2.2.1, st1.2.2.2.2.2.2.2.2.2)
 else
 bif decide (y5.Typ = (4 : Int)) then
 bif decide ((IntKind.i64.wrap ((BitVec.ofInt IntKind.i64.bits y5.Flags &&& BitVec.ofInt IntKind.i64.bits (192 : Int)).toNat : Int)) = (128 : Int)) then
 jn 112 (fun (k112 : (Bool) → Option (Path × Int × Note)) =>
 bif (!decide ((y5.Data.length : Int) = (4 : Int))) then
 k112 true
 else
 k112 st1.2.2.2.2.2.2.1) fun i12 =>
 k108 (st1.2.1, st1.2.2.1, st1.2.2.2.1, st1.2.2.2.2.1, i12, st1.2.2.2.2.2.2.2.1, st1.2.2.2.2.2.2.2.2.1, st1.2.2.2.2.2.2.2.2.2)
 else
 k108 (st1.2.1, st1.2.2.1, st1.2.2.2.1, st1.2.2.2.2.1, true, st1.2.2.2.2.2.2.2.1, st1.2.2.2.2.2.2.2.2.1, st1.2.2.2.2.2.2.2.2.2)
 else
 bif decide (y5.Typ = (35 : Int)) then
 bif decide ((IntKind.i64.wrap ((BitVec.ofInt IntKind.i64.bits y5.Flags &&& BitVec.ofInt IntKind.i64.bits (192 : Int)).toNat : Int)) = (192 : Int)) then
 bd (m_ridgewayref07_four y5.Data) fun r14 =>
 jn 113 (fun (k113 : (Bool) → Option (Path × Int × Note)) =>
 bif (!decide (r14 > (0 : Int))) then
 k113 true
 else
 k113 st1.2.2.2.2.2.2.1) fun i13 =>
 bd (m_ridgewayref07_four y5.Data) fun r15 =>
 k108 (st1.2.1, st1.2.2.1, st1.2.2.2.1, r15, i13, st1.2.2.2.2.2.2.2.1, st1.2.2.2.2.2.2.2.2.1, st1.2.2.2.2.2.2.2.2.2)
 else
 bd (m_ridgewayref07_four y5.Data) fun r16 =>
 k108 (st1.2.1, st1.2.2.1, st1.2.2.2.1, r16, true, st1.2.2.2.2.2.2.2.1, st1.2.2.2.2.2.2.2.2.1, st1.2.2.2.2.2.2.2.2.2)
 else
 jn 1 (fun (k1 : (Bool) → Option (Path × Int × Note)) =>
 bif decide (y5.Typ = (5 : Int)) then
 k1 true
 else
 bif decide (y5.Typ = (6 : Int)) then
 k1 true
 else
 k1 (decide (y5.Typ = (7 : Int)))) fun j1 =>
 bif j1 then
 k108 (st1.2.1, st1.2.2.1, st1.2.2.2.1, st1.2.2.2.2.1, st1.2.2.2.2.2.2.1, st1.2.2.2.2.2.2.2.1, st1.2.2.2.2.2.2.2.2.1, st1.2.2.2.2.2.2.2.2.2)
 else
 bif decide ((IntKind.i64.wrap ((BitVec.ofInt IntKind.i64.bits y5.Flags &&& BitVec.ofInt IntKind.i64.bits (128 : Int)).toNat : Int)) = (0 : Int)) then
 bif decide (st1.2.2.2.2.2.2.2.1 = (0 : Int)) then
 bd (m_ridgewayref07_Put ([] : List UInt8) y5) fun r17 =>
 k108 (st1.2.1, st1.2.2.1, st1.2.2.2.1, st1.2.2.2.2.1, st1.2.2.2.2.2.2.1, (3 : Int), (2 : Int), r17)
 else
 k108 (st1.2.1, st1.2.2.1, st1.2.2.2.1, st1.2.2.2.2.1, st1.2.2.2.2.2.2.1, st1.2.2.2.2.2.2.2.1, st1.2.2.2.2.2.2.2.2.1, st1.2.2.2.2.2.2.2.2.2)
 else
 k108 (st1.2.1, st1.2.2.1, st1.2.2.2.1, st1.2.2.2.2.1, st1.2.2.2.2.2.2.1, st1.2.2.2.2.2.2.2.1, st1.2.2.2.2.2.2.2.2.1, st1.2.2.2.2.2.2.2.2.2)) fun i8 =>
 nx1 ((IntKind.i64.wrap (st1.1 + (1 : Int))), i8.1, i8.2.1, i8.2.2.1, i8.2.2.2.1, y4, i8.2.2.2.2.1, i8.2.2.2.2.2.1, i8.2.2.2.2.2.2.1, i8.2.2.2.2.2.2.2)
 else
 nx1 ((IntKind.i64.wrap (st1.1 + (1 : Int))), st1.2.1, st1.2.2.1, st1.2.2.2.1, st1.2.2.2.2.1, st1.2.2.2.2.2.1, st1.2.2.2.2.2.2.1, st1.2.2.2.2.2.2.2.1, st1.2.2.2.2.2.2.2.2.1, st1.2.2.2.2.2.2.2.2.2)
 else
 bk1 (st1.2.1, st1.2.2.1, st1.2.2.2.1, st1.2.2.2.2.1, st1.2.2.2.2.2.1, st1.2.2.2.2.2.2.1, st1.2.2.2.2.2.2.2.1, st1.2.2.2.2.2.2.2.2.1, st1.2.2.2.2.2.2.2.2.2)
def m_ridgewayref07_Judge (a0 : (List Attr)) : Option (Path × Int × Note) :=
 loopC (s_ridgewayref07_Judge1 a0) (fun e1 =>
 bif decide (¬ e1.2.2.2.2.2.2.1 = (0 : Int)) then
 some ((Path.mk (0 : Int) ([]) (0 : Int) (0 : Int)), (2 : Int), (Note.mk e1.2.2.2.2.2.2.1 e1.2.2.2.2.2.2.2.1 e1.2.2.2.2.2.2.2.2))
 else
 bif e1.2.2.2.2.2.1 then
 some ((Path.mk (0 : Int) ([]) (0 : Int) (0 : Int)), (1 : Int), (Note.mk (0 : Int) (0 : Int) ([])))
 else
 jn 114 (fun (k114 : (Bool) → Option (Path × Int × Note)) =>
 loopC (s_ridgewayref07_Judge3 e1 k114) (fun e3 =>
 k114 false) BIG (0 : Int)) fun i14 =>
 bif (!i14) then
 some ((Path.mk (0 : Int) ([]) (0 : Int) (0 : Int)), (1 : Int), (Note.mk (0 : Int) (0 : Int) ([])))
 else
 jn 115 (fun (k115 : (Bool) → Option (Path × Int × Note)) =>
 loopC (s_ridgewayref07_Judge4 e1 k115) (fun e4 =>
 k115 false) BIG (0 : Int)) fun i15 =>
 bif (!i15) then
 some ((Path.mk (0 : Int) ([]) (0 : Int) (0 : Int)), (1 : Int), (Note.mk (0 : Int) (0 : Int) ([])))
 else
 jn 116 (fun (k116 : (Bool) → Option (Path × Int × Note)) =>
 loopC (s_ridgewayref07_Judge5 e1 k116) (fun e5 =>
 k116 false) BIG (0 : Int)) fun i16 =>
 bif (!i16) then
 some ((Path.mk (0 : Int) ([]) (0 : Int) (0 : Int)), (1 : Int), (Note.mk (0 : Int) (0 : Int) ([])))
 else
 some ((Path.mk e1.1 e1.2.1 e1.2.2.1 e1.2.2.2.1), (0 : Int), (Note.mk (0 : Int) (0 : Int) ([])))) BIG ((0 : Int), (0 : Int), [], (0 : Int), (0 : Int), [], false, (0 : Int), (0 : Int), [])
def m_ridgewayref08_Get (a0 : Msg) : Option (News × Note) :=
 bif decide (¬ a0.Typ = (2 : Int)) then
 bd (m_ridgewayref08_bad (1 : Int)) fun r1 =>
 some (r1.1, r1.2)
 else
 bd (m_ridgewayref03_Sane a0) fun r2 =>
 bif (!r2) then
 bd (m_ridgewayref08_bad (1 : Int)) fun r3 =>
 some (r3.1, r3.2)
 else
 bd (m_ridgewayref08_part a0.Body) fun r4 =>
 bif (!r4.2.2) then
 bd (m_ridgewayref08_bad (1 : Int)) fun r5 =>
 some (r5.1, r5.2)
 else
 bd (m_ridgewayref08_part r4.2.1) fun r6 =>
 bif (!r6.2.2) then
 bd (m_ridgewayref08_bad (1 : Int)) fun r7 =>
 some (r7.1, r7.2)
 else
 bd (m_ridgewayref02_All r4.1) fun r8 =>
 bd (m_ridgewayref02_All r6.2.1) fun r9 =>
 bif (!r8.2) then
 bd (m_ridgewayref08_bad (10 : Int)) fun r10 =>
 some (r10.1, r10.2)
 else
 bif (!r9.2) then
 bd (m_ridgewayref08_bad (10 : Int)) fun r11 =>
 some (r11.1, r11.2)
 else
 bd (m_ridgewayref07_All r6.1) fun r12 =>
 bd (m_ridgewayref07_Judge r12.1) fun r13 =>
 bif r12.2 then
 bif decide (r13.2.1 = (2 : Int)) then
 some ((News.mk ([]) (Path.mk (0 : Int) ([]) (0 : Int) (0 : Int)) ([])), r13.2.2)
 else
 bif decide ((r9.1.length : Int) = (0 : Int)) then
 some ((News.mk r8.1 (Path.mk (0 : Int) ([]) (0 : Int) (0 : Int)) ([])), (Note.mk (0 : Int) (0 : Int) ([])))
 else
 bif decide (r13.2.1 = (1 : Int)) then
 bd (ap 16 r8.1 r9.1) fun y14 =>
 some ((News.mk y14 (Path.mk (0 : Int) ([]) (0 : Int) (0 : Int)) ([])), (Note.mk (0 : Int) (0 : Int) ([])))
 else
 some ((News.mk r8.1 r13.1 r9.1), (Note.mk (0 : Int) (0 : Int) ([])))
 else
 bif decide ((r9.1.length : Int) = (0 : Int)) then
 some ((News.mk r8.1 (Path.mk (0 : Int) ([]) (0 : Int) (0 : Int)) ([])), (Note.mk (0 : Int) (0 : Int) ([])))
 else
 bd (ap 16 r8.1 r9.1) fun y15 =>
 some ((News.mk y15 (Path.mk (0 : Int) ([]) (0 : Int) (0 : Int)) ([])), (Note.mk (0 : Int) (0 : Int) ([])))
def s_ridgewayref02_Same1 (a0 : (List Prefix)) (a1 : (List Prefix)) (st1 : (Int)) (nx1 : (Int) → Option Bool) (bk1 : Unit → Option Bool) : Option Bool :=
 bif decide (st1 < (a0.length : Int)) then
 bd (ix a0 st1) fun y1 =>
 bd (ix a1 st1) fun y2 =>
 bif (!((decide (y1.A = y2.A) && decide (y1.N = y2.N)))) then
 some false
 else
 nx1 (IntKind.i64.wrap (st1 + (1 : Int)))
 else
 bk1 ()
def m_ridgewayref02_Same (a0 : (List Prefix)) (a1 : (List Prefix)) : Option Bool :=
 bif decide (¬ (a0.length : Int) = (a1.length : Int)) then
 some false
 else
 loopC (s_ridgewayref02_Same1 a0 a1) (fun e1 =>
 some true) BIG (0 : Int)
def m_ridgewayref08_Same (a0 : News) (a1 : News) : Option Bool :=
 bd (m_ridgewayref02_Same a0.Gone a1.Gone) fun r1 =>
 bif r1 then
 bd (m_ridgewayref07_SamePath a0.P a1.P) fun r2 =>
 bif r2 then
 bd (m_ridgewayref02_Same a0.Nlri a1.Nlri) fun r3 =>
 some r3
 else
 some false
 else
 some false
def m_ridgewayref03_SameNote (a0 : Note) (a1 : Note) : Option Bool :=
 bif decide (a0.Code = a1.Code) then
 bif decide (a0.Sub = a1.Sub) then
 some (a0.Data == a1.Data)
 else
 some false
 else
 some false
def m_ridgewayref02_Sane (a0 : Prefix) : Option Bool :=
 bif decide (a0.N ≥ (0 : Int)) then
 bif decide (a0.N ≤ (32 : Int)) then
 bif decide (a0.A ≥ (0 : Int)) then
 bif decide (a0.A ≤ (4294967295 : Int)) then
 bd (m_ridgewayref02_Mask a0.A a0.N) fun r1 =>
 some (decide (r1 = a0.A))
 else
 some false
 else
 some false
 else
 some false
 else
 some false
def s_ridgewayref08_prefixes1 (a0 : (List Prefix)) (st1 : (Int)) (nx1 : (Int) → Option Bool) (bk1 : Unit → Option Bool) : Option Bool :=
 bif decide (st1 < (a0.length : Int)) then
 bd (ix a0 st1) fun y1 =>
 bd (m_ridgewayref02_Sane y1) fun r2 =>
 bif (!r2) then
 some false
 else
 nx1 (IntKind.i64.wrap (st1 + (1 : Int)))
 else
 bk1 ()
def m_ridgewayref08_prefixes (a0 : (List Prefix)) : Option Bool :=
 loopC (s_ridgewayref08_prefixes1 a0) (fun e1 =>
 some true) BIG (0 : Int)
def s_ridgewayref07_Sane1 (a0 : Path) (st1 : (Int)) (nx1 : (Int) → Option Bool) (bk1 : Unit → Option Bool) : Option Bool :=
 bif decide (st1 < (a0.As.length : Int)) then
 bd (ix a0.As st1) fun y1 =>
 bif decide (y1 < (1 : Int)) then
 some false
 else
 bd (ix a0.As st1) fun y2 =>
 bif decide (y2 > (4294967295 : Int)) then
 some false
 else
 nx1 (IntKind.i64.wrap (st1 + (1 : Int)))
 else
 bk1 ()
def m_ridgewayref07_Sane (a0 : Path) : Option Bool :=
 loopC (s_ridgewayref07_Sane1 a0) (fun e1 =>
 bif decide (a0.Origin ≥ (0 : Int)) then
 bif decide (a0.Origin ≤ (2 : Int)) then
 bif decide ((a0.As.length : Int) ≤ (255 : Int)) then
 bif decide (a0.Hop ≥ (1 : Int)) then
 bif decide (a0.Hop ≤ (4294967295 : Int)) then
 bif decide (a0.Otc ≥ (0 : Int)) then
 some (decide (a0.Otc ≤ (4294967295 : Int)))
 else
 some false
 else
 some false
 else
 some false
 else
 some false
 else
 some false
 else
 some false) BIG (0 : Int)
def m_ridgewayref08_Sane (a0 : News) : Option Bool :=
 bd (m_ridgewayref08_prefixes a0.Gone) fun r1 =>
 bif (!r1) then
 some false
 else
 bd (m_ridgewayref08_prefixes a0.Nlri) fun r2 =>
 bif (!r2) then
 some false
 else
 bif decide ((a0.Nlri.length : Int) = (0 : Int)) then
 bd (m_ridgewayref07_SamePath a0.P (Path.mk (0 : Int) ([]) (0 : Int) (0 : Int))) fun r3 =>
 some r3
 else
 bd (m_ridgewayref07_Sane a0.P) fun r4 =>
 some r4
def m_ridgewayref03_Same (a0 : Msg) (a1 : Msg) : Option Bool :=
 bif decide (a0.Typ = a1.Typ) then
 some (a0.Body == a1.Body)
 else
 some false
def s_ridgewayref02_Put1 (a1 : Prefix) (st1 : ((List UInt8) × Int)) (nx1 : ((List UInt8) × Int) → Option (List UInt8)) (bk1 : ((List UInt8)) → Option (List UInt8)) : Option (List UInt8) :=
 bif decide (st1.2 < (IntKind.i64.wrap ((IntKind.i64.wrap (a1.N + (7 : Int))).tdiv (8 : Int)))) then
 nn (IntKind.u64.wrap (IntKind.i64.wrap ((24 : Int) - (IntKind.i64.wrap ((8 : Int) * st1.2))))) <|
 bd (ap 1 st1.1 ([(toB (IntKind.u8.wrap (a1.A.fdiv (2 ^ (min (IntKind.u64.wrap (IntKind.i64.wrap ((24 : Int) - (IntKind.i64.wrap ((8 : Int) * st1.2))))).toNat IntKind.i64.bits)))))])) fun y4 =>
 nx1 (y4, (IntKind.i64.wrap (st1.2 + (1 : Int))))
 else
 bk1 st1.1
def m_ridgewayref02_Put (a0 : (List UInt8)) (a1 : Prefix) : Option (List UInt8) :=
 bd (ap 1 ([] : List UInt8) a0) fun y1 =>
 bd (m_ridgewayref02_Sane a1) fun r2 =>
 bif (!r2) then
 some y1
 else
 bd (ap 1 y1 ([(toB (IntKind.u8.wrap a1.N))])) fun y3 =>
 loopC (s_ridgewayref02_Put1 a1) (fun e1 =>
 some e1) BIG (y3, (0 : Int))
def s_ridgewayref08_octets1 (a0 : (List Prefix)) (st1 : ((List UInt8) × Int)) (nx1 : ((List UInt8) × Int) → Option (List UInt8)) (bk1 : ((List UInt8)) → Option (List UInt8)) : Option (List UInt8) :=
 bif decide (st1.2 < (a0.length : Int)) then
 bd (ix a0 st1.2) fun y1 =>
 bd (m_ridgewayref02_Put st1.1 y1) fun r2 =>
 nx1 (r2, (IntKind.i64.wrap (st1.2 + (1 : Int))))
 else
 bk1 st1.1
def m_ridgewayref08_octets (a0 : (List Prefix)) : Option (List UInt8) :=
 loopC (s_ridgewayref08_octets1 a0) (fun e1 =>
 some e1) BIG ([], (0 : Int))
def s_ridgewayref01_Put1 (a1 : Int) (st1 : ((List UInt8) × Int)) (nx1 : ((List UInt8) × Int) → Option (List UInt8)) (bk1 : ((List UInt8)) → Option (List UInt8)) : Option (List UInt8) :=
 bif decide (st1.2 ≥ (0 : Int)) then
 nn (IntKind.u64.wrap (IntKind.i64.wrap ((8 : Int) * st1.2))) <|
 bd (ap 1 st1.1 ([(toB (IntKind.u8.wrap (a1.fdiv (2 ^ (min (IntKind.u64.wrap (IntKind.i64.wrap ((8 : Int) * st1.2))).toNat IntKind.i64.bits)))))])) fun y2 =>
 nx1 (y2, (IntKind.i64.wrap (st1.2 - (1 : Int))))
 else
 bk1 st1.1
def m_ridgewayref01_Put (a0 : (List UInt8)) (a1 : Int) (a2 : Int) : Option (List UInt8) :=
 bd (ap 1 ([] : List UInt8) a0) fun y1 =>
 bif decide (a2 < (1 : Int)) then
 some y1
 else
 bif decide (a2 > (4 : Int)) then
 some y1
 else
 loopC (s_ridgewayref01_Put1 a1) (fun e1 =>
 some e1) BIG (y1, (IntKind.i64.wrap (a2 - (1 : Int))))
def s_ridgewayref07_Of1 (a0 : Path) (st1 : ((List UInt8) × Int)) (nx1 : ((List UInt8) × Int) → Option (List Attr)) (bk1 : ((List UInt8)) → Option (List Attr)) : Option (List Attr) :=
 bif decide (st1.2 < (a0.As.length : Int)) then
 bd (ix a0.As st1.2) fun y2 =>
 bd (m_ridgewayref01_Put st1.1 y2 (4 : Int)) fun r3 =>
 nx1 (r3, (IntKind.i64.wrap (st1.2 + (1 : Int))))
 else
 bk1 st1.1
def m_ridgewayref07_Of (a0 : Path) : Option (List Attr) :=
 bd (m_ridgewayref07_Sane a0) fun r1 =>
 bif (!r1) then
 some ([])
 else
 jn 1 (fun (k1 : ((List UInt8)) → Option (List Attr)) =>
 bif decide ((a0.As.length : Int) > (0 : Int)) then
 k1 ([(2 : UInt8), (toB (IntKind.u8.wrap (a0.As.length : Int)))])
 else
 k1 ([])) fun j1 =>
 loopC (s_ridgewayref07_Of1 a0) (fun e1 =>
 bd (m_ridgewayref01_Put ([] : List UInt8) a0.Hop (4 : Int)) fun r4 =>
 bif decide (¬ a0.Otc = (0 : Int)) then
 bd (m_ridgewayref01_Put ([] : List UInt8) a0.Otc (4 : Int)) fun r5 =>
 bd (ap 40 ([(Attr.mk (64 : Int) (1 : Int) ([(toB (IntKind.u8.wrap a0.Origin))])), (Attr.mk (64 : Int) (2 : Int) e1), (Attr.mk (64 : Int) (3 : Int) r4)]) ([(Attr.mk (192 : Int) (35 : Int) r5)])) fun y6 =>
 some y6
 else
 some ([(Attr.mk (64 : Int) (1 : Int) ([(toB (IntKind.u8.wrap a0.Origin))])), (Attr.mk (64 : Int) (2 : Int) e1), (Attr.mk (64 : Int) (3 : Int) r4)])) BIG (j1, (0 : Int))
def s_ridgewayref08_Put1 (r4 : (List Attr)) (st1 : ((List UInt8) × Int)) (nx1 : ((List UInt8) × Int) → Option Msg) (bk1 : ((List UInt8)) → Option Msg) : Option Msg :=
 bif decide (st1.2 < (r4.length : Int)) then
 bd (ix r4 st1.2) fun y5 =>
 bd (m_ridgewayref07_Put st1.1 y5) fun r6 =>
 nx1 (r6, (IntKind.i64.wrap (st1.2 + (1 : Int))))
 else
 bk1 st1.1
def m_ridgewayref08_Put (a0 : News) : Option Msg :=
 bd (m_ridgewayref08_Sane a0) fun r1 =>
 bif (!r1) then
 some (Msg.mk (0 : Int) ([]))
 else
 bd (m_ridgewayref08_octets a0.Gone) fun r2 =>
 bd (m_ridgewayref08_octets a0.Nlri) fun r3 =>
 jn 1 (fun (k1 : ((List UInt8)) → Option Msg) =>
 bif decide ((a0.Nlri.length : Int) > (0 : Int)) then
 bd (m_ridgewayref07_Of a0.P) fun r4 =>
 loopC (s_ridgewayref08_Put1 r4) (fun e1 =>
 k1 e1) BIG ([], (0 : Int))
 else
 k1 ([])) fun j1 =>
 bif decide ((IntKind.i64.wrap ((IntKind.i64.wrap ((IntKind.i64.wrap ((23 : Int) + (r2.length : Int))) + (j1.length : Int))) + (r3.length : Int))) > (4096 : Int)) then
 some (Msg.mk (0 : Int) ([]))
 else
 bd (m_ridgewayref01_Put ([] : List UInt8) (r2.length : Int) (2 : Int)) fun r7 =>
 bd (ap 1 r7 r2) fun y8 =>
 bd (m_ridgewayref01_Put y8 (j1.length : Int) (2 : Int)) fun r9 =>
 bd (ap 1 r9 j1) fun y10 =>
 bd (ap 1 y10 r3) fun y11 =>
 some (Msg.mk (2 : Int) y11)
def m_ridgewaylaw08_UpdateIs (a0 : News) (a1 : Msg) : Option Bool :=
 bd (m_ridgewaylaw08_awake) fun r1 =>
 bd (m_ridgewayref08_Few a0) fun r2 =>
 bif (!r2) then
 some r1
 else
 bif decide ((a1.Body.length : Int) > (5000 : Int)) then
 some r1
 else
 bd (m_update_Get a1) fun r3 =>
 bd (m_ridgewayref08_Get a1) fun r4 =>
 bif r1 then
 bd (m_ridgewayref08_Same r3.1 r4.1) fun r5 =>
 bif r5 then
 bd (m_ridgewayref03_SameNote r3.2 r4.2) fun r6 =>
 bif r6 then
 bd (m_update_Sane a0) fun r7 =>
 bd (m_ridgewayref08_Sane a0) fun r8 =>
 bif (r7 == r8) then
 bd (m_update_Put a0) fun r9 =>
 bd (m_ridgewayref08_Put a0) fun r10 =>
 bd (m_ridgewayref03_Same r9 r10) fun r11 =>
 some r11
 else
 some false
 else
 some false
 else
 some false
 else
 some false
theorem encs : type_of% (And.intro @enc_Msg (And.intro @sz_Msg (And.intro @enc_Attr (And.intro @sz_Attr (And.intro @enc_Path (And.intro @sz_Path (And.intro @enc_Note (And.intro @sz_Note (And.intro @enc_Prefix (And.intro @sz_Prefix (And.intro @enc_News @sz_News))))))))))) := (And.intro @enc_Msg (And.intro @sz_Msg (And.intro @enc_Attr (And.intro @sz_Attr (And.intro @enc_Path (And.intro @sz_Path (And.intro @enc_Note (And.intro @sz_Note (And.intro @enc_Prefix (And.intro @sz_Prefix (And.intro @enc_News @sz_News)))))))))))
end Go.Proofs.Ytkdodhkiemfpeaa
