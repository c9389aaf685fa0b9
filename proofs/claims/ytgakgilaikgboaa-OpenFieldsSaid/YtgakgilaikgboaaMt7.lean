/- What functions compute. -/
import Derived.Test.YtgakgilaikgboaaMo
namespace Go.Proofs.Ytgakgilaikgboaa
set_option linter.unusedVariables false
structure Msg where
  Typ : Int
  Body : (List UInt8)
deriving DecidableEq
instance encMsg : Enc Msg := ⟨2, fun x => .agg [(.int .i64 x.Typ), (.slice .imm 1 (List.map Enc.enc x.Body))], fun x => by simp only [pur.eq_3, purL.eq_1, purL.eq_2, pur.eq_2, purL_enc, pur, Bool.and_self], fun _ => ⟨_, rfl, rfl⟩⟩
theorem enc_Msg (x : Msg) : Enc.enc x = .agg [(.int .i64 x.Typ), (.slice .imm 1 (List.map Enc.enc x.Body))] := rfl
theorem sz_Msg : Enc.sz Msg = 2 := rfl
structure OpenSaid where
  as_ : Int
  role : Int
deriving DecidableEq
instance encOpenSaid : Enc OpenSaid := ⟨2, fun x => .agg [(.int .i64 x.as_), (.int .i64 x.role)], fun x => by simp only [pur.eq_3, purL.eq_1, purL.eq_2, pur.eq_2, purL_enc, pur, Bool.and_self], fun _ => ⟨_, rfl, rfl⟩⟩
theorem enc_OpenSaid (x : OpenSaid) : Enc.enc x = .agg [(.int .i64 x.as_), (.int .i64 x.role)] := rfl
theorem sz_OpenSaid : Enc.sz OpenSaid = 2 := rfl
structure Note where
  Code : Int
  Sub : Int
  Data : (List UInt8)
deriving DecidableEq
instance encNote : Enc Note := ⟨3, fun x => .agg [(.int .i64 x.Code), (.int .i64 x.Sub), (.slice .imm 1 (List.map Enc.enc x.Data))], fun x => by simp only [pur.eq_3, purL.eq_1, purL.eq_2, pur.eq_2, purL_enc, pur, Bool.and_self], fun _ => ⟨_, rfl, rfl⟩⟩
theorem enc_Note (x : Note) : Enc.enc x = .agg [(.int .i64 x.Code), (.int .i64 x.Sub), (.slice .imm 1 (List.map Enc.enc x.Data))] := rfl
theorem sz_Note : Enc.sz Note = 3 := rfl
structure Hello where
  As : Int
  Hold : Int
  Id : Int
  Role : Int
deriving DecidableEq
instance encHello : Enc Hello := ⟨4, fun x => .agg [(.int .i64 x.As), (.int .i64 x.Hold), (.int .i64 x.Id), (.int .i64 x.Role)], fun x => by simp only [pur.eq_3, purL.eq_1, purL.eq_2, pur.eq_2, purL_enc, pur, Bool.and_self], fun _ => ⟨_, rfl, rfl⟩⟩
theorem enc_Hello (x : Hello) : Enc.enc x = .agg [(.int .i64 x.As), (.int .i64 x.Hold), (.int .i64 x.Id), (.int .i64 x.Role)] := rfl
theorem sz_Hello : Enc.sz Hello = 4 := rfl
def m_msg_Least (a0 : Int) : Option Int :=
  bif decide (a0 = (1 : Int)) then
    some (IntKind.i64.wrap ((10 : Int) + (19 : Int)))
  else
    bif decide (a0 = (2 : Int)) then
      some (IntKind.i64.wrap ((4 : Int) + (19 : Int)))
    else
      bif decide (a0 = (3 : Int)) then
        some (IntKind.i64.wrap ((2 : Int) + (19 : Int)))
      else
        bif decide (a0 = (4 : Int)) then
          some (IntKind.i64.wrap ((0 : Int) + (19 : Int)))
        else
          some (0 : Int)
def m_msg_wrong (a0 : Int) (a1 : Int) : Option Bool :=
  bd (m_msg_Least a0) fun r1 =>
  bif decide (a1 < r1) then
    some true
  else
    bif decide (a0 = (4 : Int)) then
      some (decide (¬ a1 = (19 : Int)))
    else
      some false
def m_msg_Sane (a0 : Msg) : Option Bool :=
  bd (m_msg_Least a0.Typ) fun r1 =>
  bif decide (r1 > (0 : Int)) then
    bd (m_msg_wrong a0.Typ (IntKind.i64.wrap ((19 : Int) + (a0.Body.length : Int)))) fun r2 =>
    bif (!r2) then
      some (decide ((IntKind.i64.wrap ((19 : Int) + (a0.Body.length : Int))) ≤ (4096 : Int)))
    else
      some false
  else
    some false
def m_octet_Take (a0 : (List UInt8)) (a1 : Int) : Option ((List UInt8) × (List UInt8) × Bool) :=
  bif decide (a1 < (0 : Int)) then
    some ([], [], false)
  else
    bif decide (a1 > (a0.length : Int)) then
      some ([], [], false)
    else
      bd (sl a0 0 a1) fun y1 =>
      bd (sl a0 a1 a0.length) fun y2 =>
      some (y1, y2, true)
def s_octet_Get1 (r1 : ((List UInt8) × (List UInt8) × Bool)) (st1 : (Int × Int)) (nx1 : (Int × Int) → Option (Int × (List UInt8) × Bool)) (bk1 : (Int) → Option (Int × (List UInt8) × Bool)) : Option (Int × (List UInt8) × Bool) :=
  bif decide (st1.2 < (r1.1.length : Int)) then
    bd (ix r1.1 st1.2) fun y2 =>
    nx1 ((IntKind.i64.wrap ((BitVec.ofInt IntKind.i64.bits (IntKind.i64.wrap (st1.1 * 2 ^ (min (8 : Int).toNat IntKind.i64.bits))) ||| BitVec.ofInt IntKind.i64.bits (IntKind.i64.wrap (y2.toNat : Int))).toNat : Int)), (IntKind.i64.wrap (st1.2 + (1 : Int))))
  else
    bk1 st1.1
def m_octet_Get (a0 : (List UInt8)) (a1 : Int) : Option (Int × (List UInt8) × Bool) :=
  bif decide (a1 < (1 : Int)) then
    some ((0 : Int), [], false)
  else
    bif decide (a1 > (4 : Int)) then
      some ((0 : Int), [], false)
    else
      bd (m_octet_Take a0 a1) fun r1 =>
      loopC (s_octet_Get1 r1) (fun e1 =>
        some (e1, r1.2.1, r1.2.2)) BIG ((0 : Int), (0 : Int))
def s_octet_Put1 (a1 : Int) (a2 : Int) (st1 : ((List UInt8) × Int)) (nx1 : ((List UInt8) × Int) → Option (List UInt8)) (bk1 : ((List UInt8)) → Option (List UInt8)) : Option (List UInt8) :=
  bif decide (st1.2 < a2) then
    nn (IntKind.i64.wrap ((8 : Int) * (IntKind.i64.wrap ((IntKind.i64.wrap (a2 - (1 : Int))) - st1.2)))) <|
    bd (ap 1 st1.1 ([(toB (IntKind.u8.wrap (a1.fdiv (2 ^ (min (IntKind.i64.wrap ((8 : Int) * (IntKind.i64.wrap ((IntKind.i64.wrap (a2 - (1 : Int))) - st1.2)))).toNat IntKind.i64.bits)))))])) fun y2 =>
    nx1 (y2, (IntKind.i64.wrap (st1.2 + (1 : Int))))
  else
    bk1 st1.1
def m_octet_Put (a0 : (List UInt8)) (a1 : Int) (a2 : Int) : Option (List UInt8) :=
  bif decide (a2 < (1 : Int)) then
    some a0
  else
    bif decide (a2 > (4 : Int)) then
      some a0
    else
      bd (sl a0 0 (a0.length : Int)) fun y1 =>
      loopC (s_octet_Put1 a1 a2) (fun e1 =>
        some e1) BIG (y1, (0 : Int))
def s_open_read2 (k107 : ((Int × Int × Int × Int) → Option (OpenSaid × Note))) (st2 : ((List UInt8) × Int × Int)) (nx2 : ((List UInt8) × Int × Int) → Option (OpenSaid × Note)) (bk2 : (Int × Int) → Option (OpenSaid × Note)) : Option (OpenSaid × Note) :=
  bif decide ((st2.1.length : Int) > (0 : Int)) then
    bd (m_octet_Get st2.1 (1 : Int)) fun r4 =>
    bd (m_octet_Get r4.2.1 (1 : Int)) fun r5 =>
    bd (m_octet_Take r5.2.1 r5.1) fun r6 =>
    bif (!r5.2.2) then
      k107 ((2 : Int), (0 : Int), st2.2.1, st2.2.2)
    else
      bif (!r6.2.2) then
        k107 ((2 : Int), (0 : Int), st2.2.1, st2.2.2)
      else
        jn 109 (fun (k109 : (Int × Int × Int × Int) → Option (OpenSaid × Note)) =>
          jn 1 (fun (k1 : (Bool) → Option (OpenSaid × Note)) =>
            bif decide (r4.1 = (65 : Int)) then
              bif decide (¬ (r6.1.length : Int) = (4 : Int)) then
                k1 true
              else
                bif decide (r4.1 = (9 : Int)) then
                  k1 (decide (¬ (r6.1.length : Int) = (1 : Int)))
                else
                  k1 false
            else
              bif decide (r4.1 = (9 : Int)) then
                k1 (decide (¬ (r6.1.length : Int) = (1 : Int)))
              else
                k1 false) fun j1 =>
          bif j1 then
            k109 ((2 : Int), (0 : Int), st2.2.1, st2.2.2)
          else
            bif decide (r4.1 = (65 : Int)) then
              bif decide (st2.2.1 < (0 : Int)) then
                bd (m_octet_Get r6.1 (4 : Int)) fun r7 =>
                k109 ((0 : Int), (0 : Int), r7.1, st2.2.2)
              else
                bif decide (r4.1 = (9 : Int)) then
                  bif decide (st2.2.2 < (0 : Int)) then
                    bd (ix r6.1 (0 : Int)) fun y8 =>
                    k109 ((0 : Int), (0 : Int), st2.2.1, (IntKind.i64.wrap (y8.toNat : Int)))
                  else
                    bif decide (r4.1 = (9 : Int)) then
                      bd (ix r6.1 (0 : Int)) fun y9 =>
                      bif decide (¬ st2.2.2 = (IntKind.i64.wrap (y9.toNat : Int))) then
                        k109 ((2 : Int), (11 : Int), st2.2.1, st2.2.2)
                      else
                        k109 ((0 : Int), (0 : Int), st2.2.1, st2.2.2)
                    else
                      k109 ((0 : Int), (0 : Int), st2.2.1, st2.2.2)
                else
                  bif decide (r4.1 = (9 : Int)) then
                    bd (ix r6.1 (0 : Int)) fun y10 =>
                    bif decide (¬ st2.2.2 = (IntKind.i64.wrap (y10.toNat : Int))) then
                      k109 ((2 : Int), (11 : Int), st2.2.1, st2.2.2)
                    else
                      k109 ((0 : Int), (0 : Int), st2.2.1, st2.2.2)
                  else
                    k109 ((0 : Int), (0 : Int), st2.2.1, st2.2.2)
            else
              bif decide (r4.1 = (9 : Int)) then
                bif decide (st2.2.2 < (0 : Int)) then
                  bd (ix r6.1 (0 : Int)) fun y11 =>
                  k109 ((0 : Int), (0 : Int), st2.2.1, (IntKind.i64.wrap (y11.toNat : Int)))
                else
                  bif decide (r4.1 = (9 : Int)) then
                    bd (ix r6.1 (0 : Int)) fun y12 =>
                    bif decide (¬ st2.2.2 = (IntKind.i64.wrap (y12.toNat : Int))) then
                      k109 ((2 : Int), (11 : Int), st2.2.1, st2.2.2)
                    else
                      k109 ((0 : Int), (0 : Int), st2.2.1, st2.2.2)
                  else
                    k109 ((0 : Int), (0 : Int), st2.2.1, st2.2.2)
              else
                bif decide (r4.1 = (9 : Int)) then
                  bd (ix r6.1 (0 : Int)) fun y13 =>
                  bif decide (¬ st2.2.2 = (IntKind.i64.wrap (y13.toNat : Int))) then
                    k109 ((2 : Int), (11 : Int), st2.2.1, st2.2.2)
                  else
                    k109 ((0 : Int), (0 : Int), st2.2.1, st2.2.2)
                else
                  k109 ((0 : Int), (0 : Int), st2.2.1, st2.2.2)) fun i9 =>
        bif decide (¬ i9.1 = (0 : Int)) then
          k107 (i9.1, i9.2.1, i9.2.2.1, i9.2.2.2)
        else
          nx2 (r6.2.1, i9.2.2.1, i9.2.2.2)
  else
    bk2 (st2.2.1, st2.2.2)
def s_open_read1 (k101 : ((Int × Int × Int × Int) → Option (OpenSaid × Note))) (st1 : ((List UInt8) × Int × Int)) (nx1 : ((List UInt8) × Int × Int) → Option (OpenSaid × Note)) (bk1 : (Int × Int) → Option (OpenSaid × Note)) : Option (OpenSaid × Note) :=
  bif decide ((st1.1.length : Int) > (0 : Int)) then
    bd (m_octet_Get st1.1 (1 : Int)) fun r1 =>
    bd (m_octet_Get r1.2.1 (1 : Int)) fun r2 =>
    bd (m_octet_Take r2.2.1 r2.1) fun r3 =>
    bif (!r2.2.2) then
      k101 ((2 : Int), (0 : Int), st1.2.1, st1.2.2)
    else
      bif (!r3.2.2) then
        k101 ((2 : Int), (0 : Int), st1.2.1, st1.2.2)
      else
        jn 106 (fun (k106 : (Int × Int × Int × Int) → Option (OpenSaid × Note)) =>
          bif decide (¬ r1.1 = (2 : Int)) then
            k106 ((2 : Int), (4 : Int), st1.2.1, st1.2.2)
          else
            jn 107 (fun (k107 : (Int × Int × Int × Int) → Option (OpenSaid × Note)) =>
              loopC (s_open_read2 k107) (fun e2 =>
                k107 ((0 : Int), (0 : Int), e2.1, e2.2)) BIG (r3.1, st1.2.1, st1.2.2)) fun i7 =>
            k106 (i7.1, i7.2.1, i7.2.2.1, i7.2.2.2)) fun i6 =>
        bif decide (¬ i6.1 = (0 : Int)) then
          k101 (i6.1, i6.2.1, i6.2.2.1, i6.2.2.2)
        else
          nx1 (r3.2.1, i6.2.2.1, i6.2.2.2)
  else
    bk1 (st1.2.1, st1.2.2)
def m_open_read (a0 : (List UInt8)) : Option (OpenSaid × Note) :=
  jn 101 (fun (k101 : (Int × Int × Int × Int) → Option (OpenSaid × Note)) =>
    loopC (s_open_read1 k101) (fun e1 =>
      k101 ((0 : Int), (0 : Int), e1.1, e1.2)) BIG (a0, (-1 : Int), (-1 : Int))) fun i1 =>
  some ((OpenSaid.mk i1.2.2.1 i1.2.2.2), (Note.mk i1.1 i1.2.1 ([])))
def m_open_holds (a0 : Int) : Option Bool :=
  bif decide (a0 = (0 : Int)) then
    some true
  else
    bif decide (a0 ≥ (3 : Int)) then
      some (decide (a0 ≤ (65535 : Int)))
    else
      some false
def m_open_short (a0 : Int) : Option Int :=
  bif decide (a0 > (65535 : Int)) then
    some (23456 : Int)
  else
    some a0
def m_open_fault (a0 : OpenSaid) (a1 : Int) (a2 : Int) (a3 : Int) (a4 : Int) : Option Note :=
  bif decide (a0.as_ < (0 : Int)) then
    some (Note.mk (2 : Int) (7 : Int) ([(65 : UInt8), (0 : UInt8)]))
  else
    bif decide (a0.as_ = (0 : Int)) then
      some (Note.mk (2 : Int) (2 : Int) ([]))
    else
      bif decide (¬ a0.as_ = a1) then
        some (Note.mk (2 : Int) (2 : Int) ([]))
      else
        bd (m_open_short a0.as_) fun r1 =>
        bif decide (¬ a2 = r1) then
          some (Note.mk (2 : Int) (2 : Int) ([]))
        else
          bd (m_open_holds a3) fun r2 =>
          bif (!r2) then
            some (Note.mk (2 : Int) (6 : Int) ([]))
          else
            bif decide (a4 = (0 : Int)) then
              some (Note.mk (2 : Int) (3 : Int) ([]))
            else
              some (Note.mk (0 : Int) (0 : Int) ([]))
def m_open_Get (a0 : Msg) (a1 : Int) : Option (Hello × Note) :=
  bif decide (¬ a0.Typ = (1 : Int)) then
    some ((Hello.mk (0 : Int) (0 : Int) (0 : Int) (0 : Int)), (Note.mk (2 : Int) (0 : Int) ([])))
  else
    bd (m_msg_Sane a0) fun r1 =>
    bif (!r1) then
      some ((Hello.mk (0 : Int) (0 : Int) (0 : Int) (0 : Int)), (Note.mk (2 : Int) (0 : Int) ([])))
    else
      bd (m_octet_Get a0.Body (1 : Int)) fun r2 =>
      bd (m_octet_Get r2.2.1 (2 : Int)) fun r3 =>
      bd (m_octet_Get r3.2.1 (2 : Int)) fun r4 =>
      bd (m_octet_Get r4.2.1 (4 : Int)) fun r5 =>
      bd (m_octet_Get r5.2.1 (1 : Int)) fun r6 =>
      bif decide (¬ r2.1 = (4 : Int)) then
        bd (m_octet_Put ([] : List UInt8) (4 : Int) (2 : Int)) fun r7 =>
        some ((Hello.mk (0 : Int) (0 : Int) (0 : Int) (0 : Int)), (Note.mk (2 : Int) (1 : Int) r7))
      else
        bif decide (¬ r6.1 = (r6.2.1.length : Int)) then
          some ((Hello.mk (0 : Int) (0 : Int) (0 : Int) (0 : Int)), (Note.mk (2 : Int) (0 : Int) ([])))
        else
          bd (m_open_read r6.2.1) fun r8 =>
          jn 1 (fun (k1 : (Int × Int × (List UInt8)) → Option (Hello × Note)) =>
            bif decide (r8.2.Code = (0 : Int)) then
              bd (m_open_fault r8.1 a1 r3.1 r4.1 r5.1) fun r9 =>
              k1 (r9.Code, r9.Sub, r9.Data)
            else
              k1 (r8.2.Code, r8.2.Sub, r8.2.Data)) fun j1 =>
          bif decide (¬ j1.1 = (0 : Int)) then
            some ((Hello.mk (0 : Int) (0 : Int) (0 : Int) (0 : Int)), (Note.mk j1.1 j1.2.1 j1.2.2))
          else
            some ((Hello.mk r8.1.as_ r4.1 r5.1 r8.1.role), (Note.mk (0 : Int) (0 : Int) ([])))
def m_open_number (a0 : Int) : Option Bool :=
  bif decide (a0 ≥ (1 : Int)) then
    some (decide (a0 ≤ (4294967295 : Int)))
  else
    some false
def m_open_Sane (a0 : Hello) : Option Bool :=
  bd (m_open_number a0.As) fun r1 =>
  bif r1 then
    bd (m_open_number a0.Id) fun r2 =>
    bif r2 then
      bd (m_open_holds a0.Hold) fun r3 =>
      bif r3 then
        bif decide (a0.Role ≥ (-1 : Int)) then
          some (decide (a0.Role ≤ (4 : Int)))
        else
          some false
      else
        some false
    else
      some false
  else
    some false
def m_open_labelled (a0 : Int) (a1 : (List UInt8)) : Option (List UInt8) :=
  bd (ap 1 ([(toB (IntKind.u8.wrap a0)), (toB (IntKind.u8.wrap (a1.length : Int)))]) a1) fun y1 =>
  some y1
def m_open_Put (a0 : Hello) : Option Msg :=
  bd (m_open_Sane a0) fun r1 =>
  bif (!r1) then
    some (Msg.mk (0 : Int) ([]))
  else
    bd (m_octet_Put ([] : List UInt8) a0.As (4 : Int)) fun r2 =>
    bd (m_open_labelled (65 : Int) r2) fun r3 =>
    bd (m_open_labelled (2 : Int) r3) fun r4 =>
    jn 1 (fun (k1 : ((List UInt8)) → Option Msg) =>
      bif decide (¬ a0.Role = (-1 : Int)) then
        bd (m_octet_Put ([] : List UInt8) a0.Role (1 : Int)) fun r5 =>
        bd (m_open_labelled (9 : Int) r5) fun r6 =>
        bd (m_open_labelled (2 : Int) r6) fun r7 =>
        bd (ap 1 r4 r7) fun y8 =>
        k1 y8
      else
        k1 r4) fun j1 =>
    bd (m_octet_Put ([] : List UInt8) (4 : Int) (1 : Int)) fun r9 =>
    bd (m_open_short a0.As) fun r10 =>
    bd (m_octet_Put r9 r10 (2 : Int)) fun r11 =>
    bd (m_octet_Put r11 a0.Hold (2 : Int)) fun r12 =>
    bd (m_octet_Put r12 a0.Id (4 : Int)) fun r13 =>
    bd (m_octet_Put r13 (j1.length : Int) (1 : Int)) fun r14 =>
    bd (ap 1 r14 j1) fun y15 =>
    some (Msg.mk (1 : Int) y15)
def m_ridgewaylaw06_awake : Option Bool :=
  bd (m_open_Put (Hello.mk (70000 : Int) (90 : Int) (167772161 : Int) (-1 : Int))) fun r1 =>
  bd (m_open_Get r1 (70000 : Int)) fun r2 =>
  bd (m_open_Get r1 (70001 : Int)) fun r3 =>
  bif decide (r1.Typ = (1 : Int)) then
    bif (r1.Body == [4, 91, 160, 0, 90, 10, 0, 0, 1, 8, 2, 6, 65, 4, 0, 1, 17, 112]) then
      bif ((decide (r2.1.As = (70000 : Int)) && (decide (r2.1.Hold = (90 : Int)) && (decide (r2.1.Id = (167772161 : Int)) && decide (r2.1.Role = (-1 : Int)))))) then
        bif decide (r2.2.Code = (0 : Int)) then
          bif decide (r3.2.Code = (2 : Int)) then
            bif decide (r3.2.Sub = (2 : Int)) then
              bd (m_open_Sane (Hello.mk (70000 : Int) (90 : Int) (167772161 : Int) (-1 : Int))) fun r4 =>
              some r4
            else
              some false
          else
            some false
        else
          some false
      else
        some false
    else
      some false
  else
    some false
def m_ridgewaylaw06_OpenFields (a0 : Hello) (a1 : UInt8) : Option Bool :=
  bd (m_ridgewaylaw06_awake) fun r1 =>
  bd (m_open_Put a0) fun r2 =>
  bd (m_open_Sane a0) fun r3 =>
  bif (!r3) then
    bif r1 then
      bd (m_open_Sane a0) fun r4 =>
      some (!r4)
    else
      some false
  else
    bif decide ((r2.Body.length : Int) < (10 : Int)) then
      bif r1 then
        bd (m_open_Sane a0) fun r5 =>
        some (!r5)
      else
        some false
    else
      bif decide ((r2.Body.length : Int) = (0 : Int)) then
        bif decide ((r2.Body.length : Int) = (0 : Int)) then
          bif decide ((r2.Body.length : Int) = (0 : Int)) then
            none
          else
          bd (an 1 r2.Body) fun y8 =>
          none
        else
        bd (an 1 r2.Body) fun y7 =>
        bif decide ((r2.Body.length : Int) = (0 : Int)) then
          none
        else
        bd (an 1 r2.Body) fun y9 =>
        none
      else
      bd (an 1 r2.Body) fun y6 =>
      bif decide ((r2.Body.length : Int) = (0 : Int)) then
        bif decide ((r2.Body.length : Int) = (0 : Int)) then
          bd (ix y6 (0 : Int)) fun y12 =>
          bd (up y6 (0 : Int) a1) fun z13 =>
          none
        else
        bd (an 1 r2.Body) fun y11 =>
        bd (ix y6 (0 : Int)) fun y14 =>
        bd (up y6 (0 : Int) a1) fun z15 =>
        none
      else
      bd (an 1 r2.Body) fun y10 =>
      bif decide ((r2.Body.length : Int) = (0 : Int)) then
        bd (ix y6 (0 : Int)) fun y17 =>
        bd (up y6 (0 : Int) a1) fun z18 =>
        bd (ix y10 (3 : Int)) fun y19 =>
        bd (up y10 (3 : Int) (0 : UInt8)) fun z20 =>
        bd (ix z20 (4 : Int)) fun y21 =>
        bd (up z20 (4 : Int) (toB (IntKind.u8.wrap ((1 : Int) + (IntKind.u8.wrap ((BitVec.ofInt IntKind.u8.bits (a1.toNat : Int) &&& BitVec.ofInt IntKind.u8.bits (1 : Int)).toNat : Int)))))) fun z22 =>
        none
      else
      bd (an 1 r2.Body) fun y16 =>
      bd (ix y6 (0 : Int)) fun y23 =>
      bd (up y6 (0 : Int) a1) fun z24 =>
      bd (ix y10 (3 : Int)) fun y25 =>
      bd (up y10 (3 : Int) (0 : UInt8)) fun z26 =>
      bd (ix z26 (4 : Int)) fun y27 =>
      bd (up z26 (4 : Int) (toB (IntKind.u8.wrap ((1 : Int) + (IntKind.u8.wrap ((BitVec.ofInt IntKind.u8.bits (a1.toNat : Int) &&& BitVec.ofInt IntKind.u8.bits (1 : Int)).toNat : Int)))))) fun z28 =>
      bd (ix y16 (5 : Int)) fun y29 =>
      bd (up y16 (5 : Int) (0 : UInt8)) fun z30 =>
      bd (ix z30 (6 : Int)) fun y31 =>
      bd (up z30 (6 : Int) (0 : UInt8)) fun z32 =>
      bd (ix z32 (7 : Int)) fun y33 =>
      bd (up z32 (7 : Int) (0 : UInt8)) fun z34 =>
      bd (ix z34 (8 : Int)) fun y35 =>
      bd (up z34 (8 : Int) (0 : UInt8)) fun z36 =>
      bd (fz 4 z36) fun _ =>
      bd (fz 3 z28) fun _ =>
      bd (fz 2 z24) fun _ =>
      bd (m_open_Get (Msg.mk (1 : Int) z24) a0.As) fun r37 =>
      bd (m_open_Get (Msg.mk (1 : Int) z28) a0.As) fun r38 =>
      bd (m_open_Get (Msg.mk (1 : Int) z36) a0.As) fun r39 =>
      bif r1 then
        bif decide ((a1.toNat : Int) = (4 : Int)) then
          bif decide (r38.2.Code = (2 : Int)) then
            bif decide (r38.2.Sub = (6 : Int)) then
              bif decide (r39.2.Code = (2 : Int)) then
                some (decide (r39.2.Sub = (3 : Int)))
              else
                some false
            else
              some false
          else
            some false
        else
          bif decide (r37.2.Code = (2 : Int)) then
            bif decide (r37.2.Sub = (1 : Int)) then
              bif (r37.2.Data == [(0 : UInt8), (4 : UInt8)]) then
                bif decide (r38.2.Code = (2 : Int)) then
                  bif decide (r38.2.Sub = (6 : Int)) then
                    bif decide (r39.2.Code = (2 : Int)) then
                      some (decide (r39.2.Sub = (3 : Int)))
                    else
                      some false
                  else
                    some false
                else
                  some false
              else
                some false
            else
              some false
          else
            some false
      else
        some false
end Go.Proofs.Ytgakgilaikgboaa
