import Derived.Test.YtibploaibljcmaaGreatDoorMo
namespace Go.Proofs.YtibploaibljcmaaGreatDoor
set_option linter.unusedVariables false
structure Prefix where
  A : Int
  N : Int
deriving DecidableEq
instance encPrefix : Enc Prefix := ⟨2, fun x => .agg [(.int .i64 x.A), (.int .i64 x.N)], fun x => by simp only [pur.eq_3, purL.eq_1, purL.eq_2, pur.eq_2, purL_enc, pur, Bool.and_self], fun _ => ⟨_, rfl, rfl⟩⟩
theorem enc_Prefix (x : Prefix) : Enc.enc x = .agg [(.int .i64 x.A), (.int .i64 x.N)] := rfl
theorem sz_Prefix : Enc.sz Prefix = 2 := rfl
structure Rule where
  Match : Int
  X : Prefix
  V : Int
  Act : Int
  N : Int
deriving DecidableEq
instance encRule : Enc Rule := ⟨6, fun x => .agg [(.int .i64 x.Match), (.int .i64 x.X.A), (.int .i64 x.X.N), (.int .i64 x.V), (.int .i64 x.Act), (.int .i64 x.N)], fun x => by simp only [pur.eq_3, purL.eq_1, purL.eq_2, pur.eq_2, purL_enc, pur, Bool.and_self], fun _ => ⟨_, rfl, rfl⟩⟩
theorem enc_Rule (x : Rule) : Enc.enc x = .agg [(.int .i64 x.Match), (.int .i64 x.X.A), (.int .i64 x.X.N), (.int .i64 x.V), (.int .i64 x.Act), (.int .i64 x.N)] := rfl
theorem sz_Rule : Enc.sz Rule = 6 := rfl
structure Side where
  As : Int
  Rel : Int
  In : (List Rule)
  Out : (List Rule)
deriving DecidableEq
instance encSide : Enc Side := ⟨4, fun x => .agg [(.int .i64 x.As), (.int .i64 x.Rel), (.slice .imm 6 (List.map Enc.enc x.In)), (.slice .imm 6 (List.map Enc.enc x.Out))], fun x => by simp only [pur.eq_3, purL.eq_1, purL.eq_2, pur.eq_2, purL_enc, pur, Bool.and_self], fun _ => ⟨_, rfl, rfl⟩⟩
theorem enc_Side (x : Side) : Enc.enc x = .agg [(.int .i64 x.As), (.int .i64 x.Rel), (.slice .imm 6 (List.map Enc.enc x.In)), (.slice .imm 6 (List.map Enc.enc x.Out))] := rfl
theorem sz_Side : Enc.sz Side = 4 := rfl
structure Conf where
  As : Int
  Id : Int
  Hold : Int
  Cap : Int
  Own : (List Prefix)
  Sides : (List Side)
deriving DecidableEq
instance encConf : Enc Conf := ⟨6, fun x => .agg [(.int .i64 x.As), (.int .i64 x.Id), (.int .i64 x.Hold), (.int .i64 x.Cap), (.slice .imm 2 (List.map Enc.enc x.Own)), (.slice .imm 4 (List.map Enc.enc x.Sides))], fun x => by simp only [pur.eq_3, purL.eq_1, purL.eq_2, pur.eq_2, purL_enc, pur, Bool.and_self], fun _ => ⟨_, rfl, rfl⟩⟩
theorem enc_Conf (x : Conf) : Enc.enc x = .agg [(.int .i64 x.As), (.int .i64 x.Id), (.int .i64 x.Hold), (.int .i64 x.Cap), (.slice .imm 2 (List.map Enc.enc x.Own)), (.slice .imm 4 (List.map Enc.enc x.Sides))] := rfl
theorem sz_Conf : Enc.sz Conf = 6 := rfl
structure Hello where
  As : Int
  Hold : Int
  Id : Int
  Role : Int
deriving DecidableEq
instance encHello : Enc Hello := ⟨4, fun x => .agg [(.int .i64 x.As), (.int .i64 x.Hold), (.int .i64 x.Id), (.int .i64 x.Role)], fun x => by simp only [pur.eq_3, purL.eq_1, purL.eq_2, pur.eq_2, purL_enc, pur, Bool.and_self], fun _ => ⟨_, rfl, rfl⟩⟩
theorem enc_Hello (x : Hello) : Enc.enc x = .agg [(.int .i64 x.As), (.int .i64 x.Hold), (.int .i64 x.Id), (.int .i64 x.Role)] := rfl
theorem sz_Hello : Enc.sz Hello = 4 := rfl
structure Sess where
  State : Int
  Hold : Int
  Left : Int
  Keep : Int
deriving DecidableEq
instance encSess : Enc Sess := ⟨4, fun x => .agg [(.int .i64 x.State), (.int .i64 x.Hold), (.int .i64 x.Left), (.int .i64 x.Keep)], fun x => by simp only [pur.eq_3, purL.eq_1, purL.eq_2, pur.eq_2, purL_enc, pur, Bool.and_self], fun _ => ⟨_, rfl, rfl⟩⟩
theorem enc_Sess (x : Sess) : Enc.enc x = .agg [(.int .i64 x.State), (.int .i64 x.Hold), (.int .i64 x.Left), (.int .i64 x.Keep)] := rfl
theorem sz_Sess : Enc.sz Sess = 4 := rfl
structure Msg where
  Typ : Int
  Body : (List UInt8)
deriving DecidableEq
instance encMsg : Enc Msg := ⟨2, fun x => .agg [(.int .i64 x.Typ), (.slice .imm 1 (List.map Enc.enc x.Body))], fun x => by simp only [pur.eq_3, purL.eq_1, purL.eq_2, pur.eq_2, purL_enc, pur, Bool.and_self], fun _ => ⟨_, rfl, rfl⟩⟩
theorem enc_Msg (x : Msg) : Enc.enc x = .agg [(.int .i64 x.Typ), (.slice .imm 1 (List.map Enc.enc x.Body))] := rfl
theorem sz_Msg : Enc.sz Msg = 2 := rfl
structure SessionTurn where
  s : Sess
  c : Conf
  side : Side
  m : Msg
deriving DecidableEq
instance encSessionTurn : Enc SessionTurn := ⟨16, fun x => .agg [(.int .i64 x.s.State), (.int .i64 x.s.Hold), (.int .i64 x.s.Left), (.int .i64 x.s.Keep), (.int .i64 x.c.As), (.int .i64 x.c.Id), (.int .i64 x.c.Hold), (.int .i64 x.c.Cap), (.slice .imm 2 (List.map Enc.enc x.c.Own)), (.slice .imm 4 (List.map Enc.enc x.c.Sides)), (.int .i64 x.side.As), (.int .i64 x.side.Rel), (.slice .imm 6 (List.map Enc.enc x.side.In)), (.slice .imm 6 (List.map Enc.enc x.side.Out)), (.int .i64 x.m.Typ), (.slice .imm 1 (List.map Enc.enc x.m.Body))], fun x => by simp only [pur.eq_3, purL.eq_1, purL.eq_2, pur.eq_2, purL_enc, pur, Bool.and_self], fun _ => ⟨_, rfl, rfl⟩⟩
theorem enc_SessionTurn (x : SessionTurn) : Enc.enc x = .agg [(.int .i64 x.s.State), (.int .i64 x.s.Hold), (.int .i64 x.s.Left), (.int .i64 x.s.Keep), (.int .i64 x.c.As), (.int .i64 x.c.Id), (.int .i64 x.c.Hold), (.int .i64 x.c.Cap), (.slice .imm 2 (List.map Enc.enc x.c.Own)), (.slice .imm 4 (List.map Enc.enc x.c.Sides)), (.int .i64 x.side.As), (.int .i64 x.side.Rel), (.slice .imm 6 (List.map Enc.enc x.side.In)), (.slice .imm 6 (List.map Enc.enc x.side.Out)), (.int .i64 x.m.Typ), (.slice .imm 1 (List.map Enc.enc x.m.Body))] := rfl
theorem sz_SessionTurn : Enc.sz SessionTurn = 16 := rfl
structure Note where
  Code : Int
  Sub : Int
  Data : (List UInt8)
deriving DecidableEq
instance encNote : Enc Note := ⟨3, fun x => .agg [(.int .i64 x.Code), (.int .i64 x.Sub), (.slice .imm 1 (List.map Enc.enc x.Data))], fun x => by simp only [pur.eq_3, purL.eq_1, purL.eq_2, pur.eq_2, purL_enc, pur, Bool.and_self], fun _ => ⟨_, rfl, rfl⟩⟩
theorem enc_Note (x : Note) : Enc.enc x = .agg [(.int .i64 x.Code), (.int .i64 x.Sub), (.slice .imm 1 (List.map Enc.enc x.Data))] := rfl
theorem sz_Note : Enc.sz Note = 3 := rfl
structure OpenSaid where
  as_ : Int
  role : Int
deriving DecidableEq
instance encOpenSaid : Enc OpenSaid := ⟨2, fun x => .agg [(.int .i64 x.as_), (.int .i64 x.role)], fun x => by simp only [pur.eq_3, purL.eq_1, purL.eq_2, pur.eq_2, purL_enc, pur, Bool.and_self], fun _ => ⟨_, rfl, rfl⟩⟩
theorem enc_OpenSaid (x : OpenSaid) : Enc.enc x = .agg [(.int .i64 x.as_), (.int .i64 x.role)] := rfl
theorem sz_OpenSaid : Enc.sz OpenSaid = 2 := rfl
def m_conf_saneNumber (a0 : Int) : Option Bool :=
 bif decide (a0 ≥ (1 : Int)) then
 some (decide (a0 ≤ (4294967295 : Int)))
 else
 some false
def m_conf_saneHold (a0 : Int) : Option Bool :=
 bif decide (a0 = (0 : Int)) then
 some true
 else
 bif decide (a0 ≥ (3 : Int)) then
 some (decide (a0 ≤ (65535 : Int)))
 else
 some false
def m_conf_saneCap (a0 : Int) : Option Bool :=
 bif decide (a0 ≥ (1 : Int)) then
 some (decide (a0 ≤ (1000 : Int)))
 else
 some false
def m_prefix_Mask (a0 : Int) (a1 : Int) : Option Int :=
 nn (IntKind.i64.wrap ((32 : Int) - (if (32 : Int) < (if (0 : Int) > a1 then (0 : Int) else a1) then (32 : Int) else (if (0 : Int) > a1 then (0 : Int) else a1)))) <|
 nn (IntKind.i64.wrap ((32 : Int) - (if (32 : Int) < (if (0 : Int) > a1 then (0 : Int) else a1) then (32 : Int) else (if (0 : Int) > a1 then (0 : Int) else a1)))) <|
 some (IntKind.i64.wrap (((IntKind.i64.wrap ((BitVec.ofInt IntKind.i64.bits a0 &&& BitVec.ofInt IntKind.i64.bits (4294967295 : Int)).toNat : Int)).fdiv (2 ^ (min (IntKind.i64.wrap ((32 : Int) - (if (32 : Int) < (if (0 : Int) > a1 then (0 : Int) else a1) then (32 : Int) else (if (0 : Int) > a1 then (0 : Int) else a1)))).toNat IntKind.i64.bits))) * 2 ^ (min (IntKind.i64.wrap ((32 : Int) - (if (32 : Int) < (if (0 : Int) > a1 then (0 : Int) else a1) then (32 : Int) else (if (0 : Int) > a1 then (0 : Int) else a1)))).toNat IntKind.i64.bits)))
def m_prefix_Sane (a0 : Prefix) : Option Bool :=
 bif decide (a0.N ≥ (0 : Int)) then
 bif decide (a0.N ≤ (32 : Int)) then
 bd (m_prefix_Mask a0.A a0.N) fun r1 =>
 some (decide (r1 = a0.A))
 else
 some false
 else
 some false
def s_slices_Index___api_Prefix_api_Prefix1 (a0 : (List Prefix)) (a1 : Prefix) (st1 : (Int)) (nx1 : (Int) → Option Int) (bk1 : Unit → Option Int) : Option Int :=
 bif decide (st1 < (a0.length : Int)) then
 bd (ix a0 st1) fun y1 =>
 bif ((decide (a1.A = y1.A) && decide (a1.N = y1.N))) then
 some st1
 else
 nx1 (IntKind.i64.wrap (st1 + (1 : Int)))
 else
 bk1 ()
def m_slices_Index___api_Prefix_api_Prefix (a0 : (List Prefix)) (a1 : Prefix) : Option Int :=
 loopC (s_slices_Index___api_Prefix_api_Prefix1 a0 a1) (fun e1 =>
 some (-1 : Int)) BIG (0 : Int)
def m_slices_Contains___api_Prefix_api_Prefix (a0 : (List Prefix)) (a1 : Prefix) : Option Bool :=
 bd (m_slices_Index___api_Prefix_api_Prefix a0 a1) fun r1 =>
 some (decide (r1 ≥ (0 : Int)))
def s_conf_saneOwn1 (a0 : (List Prefix)) (st1 : (Int)) (nx1 : (Int) → Option Bool) (bk1 : Unit → Option Bool) : Option Bool :=
 bif decide (st1 < (a0.length : Int)) then
 bd (ix a0 st1) fun y1 =>
 bd (m_prefix_Sane y1) fun r2 =>
 bif (!r2) then
 some false
 else
 bd (sl a0 0 st1) fun y3 =>
 bd (m_slices_Contains___api_Prefix_api_Prefix y3 y1) fun r4 =>
 bif r4 then
 some false
 else
 nx1 (IntKind.i64.wrap (st1 + (1 : Int)))
 else
 bk1 ()
def m_conf_saneOwn (a0 : (List Prefix)) : Option Bool :=
 bif decide ((a0.length : Int) > (8 : Int)) then
 some false
 else
 loopC (s_conf_saneOwn1 a0) (fun e1 =>
 some true) BIG (0 : Int)
def s_conf_taken1 (a1 : (List Side)) (a2 : Int) (k101 : ((Int) → Option Bool)) (st1 : (Int)) (nx1 : (Int) → Option Bool) (bk1 : Unit → Option Bool) : Option Bool :=
 bif decide (st1 < (a1.length : Int)) then
 bd (ix a1 st1) fun y1 =>
 bif decide (y1.As = a2) then
 k101 st1
 else
 nx1 (IntKind.i64.wrap (st1 + (1 : Int)))
 else
 bk1 ()
def m_conf_taken (a0 : Int) (a1 : (List Side)) (a2 : Int) : Option Bool :=
 bif decide (a2 = a0) then
 some true
 else
 jn 101 (fun (k101 : (Int) → Option Bool) =>
 loopC (s_conf_taken1 a1 a2 k101) (fun e1 =>
 k101 (-1 : Int)) BIG (0 : Int)) fun i1 =>
 some (decide (i1 ≥ (0 : Int)))
def m_policy_saneMatch (a0 : Rule) (a1 : Bool) : Option Bool :=
 bif decide (a0.Match = (1 : Int)) then
 bd (m_prefix_Sane a0.X) fun r1 =>
 bif r1 then
 some (decide (a0.V = (0 : Int)))
 else
 some false
 else
 bif (!((decide (a0.X.A = (0 : Int)) && decide (a0.X.N = (0 : Int))))) then
 some false
 else
 bif decide (a0.Match = (0 : Int)) then
 some (decide (a0.V = (0 : Int)))
 else
 bif decide (a0.Match = (2 : Int)) then
 bif decide (a0.V ≥ (1 : Int)) then
 some (decide (a0.V ≤ (4294967295 : Int)))
 else
 some false
 else
 bif decide (a0.Match = (3 : Int)) then
 bif decide (a0.V ≥ (0 : Int)) then
 some (decide (a0.V ≤ (32 : Int)))
 else
 some false
 else
 bif decide (a0.Match = (4 : Int)) then
 bif (!a1) then
 bif decide (a0.V ≥ (0 : Int)) then
 some (decide (a0.V ≤ (3 : Int)))
 else
 some false
 else
 some false
 else
 some false
def m_policy_saneAct (a0 : Rule) (a1 : Bool) : Option Bool :=
 bif decide (a0.Act = (0 : Int)) then
 some (decide (a0.N = (0 : Int)))
 else
 bif decide (a0.Act = (1 : Int)) then
 bif (!a1) then
 some (decide (a0.N = (0 : Int)))
 else
 some false
 else
 bif decide (a0.Act = (2 : Int)) then
 bif a1 then
 bif decide (a0.N ≥ (1 : Int)) then
 some (decide (a0.N < (400 : Int)))
 else
 some false
 else
 some false
 else
 bif decide (a0.Act = (3 : Int)) then
 bif (!a1) then
 bif decide (a0.N ≥ (1 : Int)) then
 some (decide (a0.N ≤ (8 : Int)))
 else
 some false
 else
 some false
 else
 some false
def m_policy_Sane (a0 : Rule) (a1 : Bool) : Option Bool :=
 bd (m_policy_saneMatch a0 a1) fun r1 =>
 bif r1 then
 bd (m_policy_saneAct a0 a1) fun r2 =>
 some r2
 else
 some false
def s_conf_saneRules1 (a0 : (List Rule)) (a1 : Bool) (st1 : (Int)) (nx1 : (Int) → Option Bool) (bk1 : Unit → Option Bool) : Option Bool :=
 bif decide (st1 < (a0.length : Int)) then
 bd (ix a0 st1) fun y1 =>
 bd (m_policy_Sane y1 a1) fun r2 =>
 bif (!r2) then
 some false
 else
 nx1 (IntKind.i64.wrap (st1 + (1 : Int)))
 else
 bk1 ()
def m_conf_saneRules (a0 : (List Rule)) (a1 : Bool) : Option Bool :=
 bif decide ((a0.length : Int) > (8 : Int)) then
 some false
 else
 loopC (s_conf_saneRules1 a0 a1) (fun e1 =>
 some true) BIG (0 : Int)
def s_conf_saneSides1 (a0 : Conf) (st1 : (Int)) (nx1 : (Int) → Option Bool) (bk1 : Unit → Option Bool) : Option Bool :=
 bif decide (st1 < (a0.Sides.length : Int)) then
 bd (ix a0.Sides st1) fun y1 =>
 bd (m_conf_saneNumber y1.As) fun r2 =>
 bif (!r2) then
 some false
 else
 bd (sl a0.Sides 0 st1) fun y3 =>
 bd (m_conf_taken a0.As y3 y1.As) fun r4 =>
 bif r4 then
 some false
 else
 bif decide (y1.Rel < (1 : Int)) then
 some false
 else
 bif decide (y1.Rel > (3 : Int)) then
 some false
 else
 bd (m_conf_saneRules y1.In true) fun r5 =>
 bif (!r5) then
 some false
 else
 bd (m_conf_saneRules y1.Out false) fun r6 =>
 bif (!r6) then
 some false
 else
 nx1 (IntKind.i64.wrap (st1 + (1 : Int)))
 else
 bk1 ()
def m_conf_saneSides (a0 : Conf) : Option Bool :=
 bif decide ((a0.Sides.length : Int) > (8 : Int)) then
 some false
 else
 loopC (s_conf_saneSides1 a0) (fun e1 =>
 some true) BIG (0 : Int)
def m_conf_Sane (a0 : Conf) : Option Bool :=
 bd (m_conf_saneNumber a0.As) fun r1 =>
 bif r1 then
 bd (m_conf_saneNumber a0.Id) fun r2 =>
 bif r2 then
 bd (m_conf_saneHold a0.Hold) fun r3 =>
 bif r3 then
 bd (m_conf_saneCap a0.Cap) fun r4 =>
 bif r4 then
 bd (m_conf_saneOwn a0.Own) fun r5 =>
 bif r5 then
 bd (m_conf_saneSides a0) fun r6 =>
 some r6
 else
 some false
 else
 some false
 else
 some false
 else
 some false
 else
 some false
def m_session_there (a0 : Conf) (a1 : Int) : Option Bool :=
 bif decide (a1 ≥ (0 : Int)) then
 bif decide (a1 < (a0.Sides.length : Int)) then
 bd (m_conf_Sane a0) fun r1 =>
 some r1
 else
 some false
 else
 some false
def m_role_Mine (a0 : Int) : Option Int :=
 bif decide (a0 = (1 : Int)) then
 some (0 : Int)
 else
 bif decide (a0 = (2 : Int)) then
 some (4 : Int)
 else
 bif decide (a0 = (3 : Int)) then
 some (3 : Int)
 else
 some (-1 : Int)
def m_session_Hello (a0 : Conf) (a1 : Int) : Option Hello :=
 bd (m_session_there a0 a1) fun r1 =>
 bif (!r1) then
 some (Hello.mk (0 : Int) (0 : Int) (0 : Int) (0 : Int))
 else
 bd (ix a0.Sides a1) fun y2 =>
 bd (m_role_Mine y2.Rel) fun r3 =>
 some (Hello.mk a0.As a0.Hold a0.Id r3)
def m_session_third (a0 : Int) : Option Int :=
 some (IntKind.i64.wrap (a0.tdiv (3 : Int)))
def m_session_Sane (a0 : Sess) : Option Bool :=
 bif decide (a0.State = (0 : Int)) then
 some ((decide (a0.State = (0 : Int)) && (decide (a0.Hold = (0 : Int)) && (decide (a0.Left = (0 : Int)) && decide (a0.Keep = (0 : Int))))))
 else
 bif decide (a0.State = (1 : Int)) then
 bif decide (a0.Hold = (0 : Int)) then
 bif decide (a0.Keep = (0 : Int)) then
 bif decide (a0.Left ≥ (1 : Int)) then
 some (decide (a0.Left ≤ (240 : Int)))
 else
 some false
 else
 some false
 else
 some false
 else
 jn 1 (fun (k1 : (Bool) → Option Bool) =>
 bif decide (a0.State = (2 : Int)) then
 k1 true
 else
 k1 (decide (a0.State = (3 : Int)))) fun j1 =>
 bif j1 then
 bif decide (a0.Hold = (0 : Int)) then
 bif decide (a0.Left = (0 : Int)) then
 some (decide (a0.Keep = (0 : Int)))
 else
 some false
 else
 bif decide (a0.Hold ≥ (3 : Int)) then
 bif decide (a0.Hold ≤ (65535 : Int)) then
 bif decide (a0.Left ≥ (1 : Int)) then
 bif decide (a0.Left ≤ a0.Hold) then
 bif decide (a0.Keep ≥ (1 : Int)) then
 bd (m_session_third a0.Hold) fun r1 =>
 some (decide (a0.Keep ≤ r1))
 else
 some false
 else
 some false
 else
 some false
 else
 some false
 else
 some false
 else
 some false
def m_session_sane (a0 : Sess) : Option Sess :=
 bd (m_session_Sane a0) fun r1 =>
 bif (!r1) then
 some (Sess.mk (0 : Int) (0 : Int) (0 : Int) (0 : Int))
 else
 some a0
def m_open_number (a0 : Int) : Option Bool :=
 bif decide (a0 ≥ (1 : Int)) then
 some (decide (a0 ≤ (4294967295 : Int)))
 else
 some false
def m_open_holds (a0 : Int) : Option Bool :=
 bif decide (a0 = (0 : Int)) then
 some true
 else
 bif decide (a0 ≥ (3 : Int)) then
 some (decide (a0 ≤ (65535 : Int)))
 else
 some false
def m_open_Sane (a0 : Hello) : Option Bool :=
 bd (m_open_number a0.As) fun r1 =>
 bif r1 then
 bd (m_open_number a0.Id) fun r2 =>
 bif r2 then
 bd (m_open_holds a0.Hold) fun r3 =>
 bif r3 then
 bif decide (a0.Role ≥ (-1 : Int)) then
 some (decide (a0.Role ≤ (4 : Int)))
 else
 some false
 else
 some false
 else
 some false
 else
 some false
def m_open_labelled (a0 : Int) (a1 : (List UInt8)) : Option (List UInt8) :=
 bd (ap 1 ([(toB (IntKind.u8.wrap a0)), (toB (IntKind.u8.wrap (a1.length : Int)))]) a1) fun y1 =>
 some y1
def s_octet_Put1 (a1 : Int) (a2 : Int) (st1 : ((List UInt8) × Int)) (nx1 : ((List UInt8) × Int) → Option (List UInt8)) (bk1 : ((List UInt8)) → Option (List UInt8)) : Option (List UInt8) :=
 bif decide (st1.2 < a2) then
 nn (IntKind.i64.wrap ((8 : Int) * (IntKind.i64.wrap ((IntKind.i64.wrap (a2 - (1 : Int))) - st1.2)))) <|
 bd (ap 1 st1.1 ([(toB (IntKind.u8.wrap (a1.fdiv (2 ^ (min (IntKind.i64.wrap ((8 : Int) * (IntKind.i64.wrap ((IntKind.i64.wrap (a2 - (1 : Int))) - st1.2)))).toNat IntKind.i64.bits)))))])) fun y2 =>
 nx1 (y2, (IntKind.i64.wrap (st1.2 + (1 : Int))))
 else
 bk1 st1.1
def m_octet_Put (a0 : (List UInt8)) (a1 : Int) (a2 : Int) : Option (List UInt8) :=
 bif decide (a2 < (1 : Int)) then
 some a0
 else
 bif decide (a2 > (4 : Int)) then
 some a0
 else
 bd (sl a0 0 (a0.length : Int)) fun y1 =>
 loopC (s_octet_Put1 a1 a2) (fun e1 =>
 some e1) BIG (y1, (0 : Int))
def m_open_short (a0 : Int) : Option Int :=
 bif decide (a0 > (65535 : Int)) then
 some (23456 : Int)
 else
 some a0
def m_open_Put (a0 : Hello) : Option Msg :=
 bd (m_open_Sane a0) fun r1 =>
 bif (!r1) then
 some (Msg.mk (0 : Int) ([]))
 else
 bd (m_octet_Put ([] : List UInt8) a0.As (4 : Int)) fun r2 =>
 bd (m_open_labelled (65 : Int) r2) fun r3 =>
 bd (m_open_labelled (2 : Int) r3) fun r4 =>
 jn 1 (fun (k1 : ((List UInt8)) → Option Msg) =>
 bif decide (¬ a0.Role = (-1 : Int)) then
 bd (m_octet_Put ([] : List UInt8) a0.Role (1 : Int)) fun r5 =>
 bd (m_open_labelled (9 : Int) r5) fun r6 =>
 bd (m_open_labelled (2 : Int) r6) fun r7 =>
 bd (ap 1 r4 r7) fun y8 =>
 k1 y8
 else
 k1 r4) fun j1 =>
 bd (m_octet_Put ([] : List UInt8) (4 : Int) (1 : Int)) fun r9 =>
 bd (m_open_short a0.As) fun r10 =>
 bd (m_octet_Put r9 r10 (2 : Int)) fun r11 =>
 bd (m_octet_Put r11 a0.Hold (2 : Int)) fun r12 =>
 bd (m_octet_Put r12 a0.Id (4 : Int)) fun r13 =>
 bd (m_octet_Put r13 (j1.length : Int) (1 : Int)) fun r14 =>
 bd (ap 1 r14 j1) fun y15 =>
 some (Msg.mk (1 : Int) y15)
def m_session_Start (a0 : Sess) (a1 : Conf) (a2 : Int) : Option (Sess × (List Msg)) :=
 bd (m_session_sane a0) fun r1 =>
 bif decide (¬ r1.State = (0 : Int)) then
 some (r1, [])
 else
 bd (m_session_there a1 a2) fun r2 =>
 bif (!r2) then
 some (r1, [])
 else
 bd (m_session_Hello a1 a2) fun r3 =>
 bd (m_open_Put r3) fun r4 =>
 some ((Sess.mk (1 : Int) (0 : Int) (240 : Int) (0 : Int)), [r4])
def m_ridgewaylaw17_node (a0 : Int) (a1 : Int) (a2 : Int) (a3 : Int) : Option Conf :=
 some (Conf.mk a0 a0 a3 (9 : Int) ([]) ([(Side.mk a1 a2 ([]) ([]))]))
def m_msg_Least (a0 : Int) : Option Int :=
 bif decide (a0 = (1 : Int)) then
 some (IntKind.i64.wrap ((10 : Int) + (19 : Int)))
 else
 bif decide (a0 = (2 : Int)) then
 some (IntKind.i64.wrap ((4 : Int) + (19 : Int)))
 else
 bif decide (a0 = (3 : Int)) then
 some (IntKind.i64.wrap ((2 : Int) + (19 : Int)))
 else
 bif decide (a0 = (4 : Int)) then
 some (IntKind.i64.wrap ((0 : Int) + (19 : Int)))
 else
 some (0 : Int)
def m_msg_wrong (a0 : Int) (a1 : Int) : Option Bool :=
 bd (m_msg_Least a0) fun r1 =>
 bif decide (a1 < r1) then
 some true
 else
 bif decide (a0 = (4 : Int)) then
 some (decide (¬ a1 = (19 : Int)))
 else
 some false
def m_msg_Sane (a0 : Msg) : Option Bool :=
 bd (m_msg_Least a0.Typ) fun r1 =>
 bif decide (r1 > (0 : Int)) then
 bd (m_msg_wrong a0.Typ (IntKind.i64.wrap ((19 : Int) + (a0.Body.length : Int)))) fun r2 =>
 bif (!r2) then
 some (decide ((IntKind.i64.wrap ((19 : Int) + (a0.Body.length : Int))) ≤ (4096 : Int)))
 else
 some false
 else
 some false
def m_session_does_1 (a0 : SessionTurn) : Option (Sess × (List Msg) × Bool) :=
 some (a0.s, [], false)
def m_session_alive : Option (List Msg) :=
 some ([(Msg.mk (4 : Int) ([]))])
def m_note_Sane (a0 : Note) : Option Bool :=
 bif decide (a0.Code ≥ (1 : Int)) then
 bif decide (a0.Code ≤ (255 : Int)) then
 bif decide (a0.Sub ≥ (0 : Int)) then
 bif decide (a0.Sub ≤ (255 : Int)) then
 some (decide ((a0.Data.length : Int) ≤ (4075 : Int)))
 else
 some false
 else
 some false
 else
 some false
 else
 some false
def m_note_Put (a0 : Note) : Option Msg :=
 bd (m_note_Sane a0) fun r1 =>
 bif (!r1) then
 some (Msg.mk (0 : Int) ([]))
 else
 bd (ap 1 ([(toB (IntKind.u8.wrap a0.Code)), (toB (IntKind.u8.wrap a0.Sub))]) a0.Data) fun y2 =>
 some (Msg.mk (3 : Int) y2)
def m_session_Stop (a0 : Sess) (a1 : Note) : Option (Sess × (List Msg)) :=
 bd (m_session_sane a0) fun r1 =>
 bif decide (r1.State = (0 : Int)) then
 some ((Sess.mk (0 : Int) (0 : Int) (0 : Int) (0 : Int)), [])
 else
 bd (m_note_Sane a1) fun r2 =>
 bif (!r2) then
 some ((Sess.mk (0 : Int) (0 : Int) (0 : Int) (0 : Int)), [])
 else
 bd (m_note_Put a1) fun r3 =>
 some ((Sess.mk (0 : Int) (0 : Int) (0 : Int) (0 : Int)), [r3])
def m_session_turn__end (a0 : SessionTurn) (a1 : Note) : Option (Sess × (List Msg) × Bool) :=
 bd (m_session_Stop a0.s a1) fun r1 =>
 some (r1.1, r1.2, false)
def m_octet_Take (a0 : (List UInt8)) (a1 : Int) : Option ((List UInt8) × (List UInt8) × Bool) :=
 bif decide (a1 < (0 : Int)) then
 some ([], [], false)
 else
 bif decide (a1 > (a0.length : Int)) then
 some ([], [], false)
 else
 bd (sl a0 0 a1) fun y1 =>
 bd (sl a0 a1 a0.length) fun y2 =>
 some (y1, y2, true)
def s_octet_Get1 (r1 : ((List UInt8) × (List UInt8) × Bool)) (st1 : (Int × Int)) (nx1 : (Int × Int) → Option (Int × (List UInt8) × Bool)) (bk1 : (Int) → Option (Int × (List UInt8) × Bool)) : Option (Int × (List UInt8) × Bool) :=
 bif decide (st1.2 < (r1.1.length : Int)) then
 bd (ix r1.1 st1.2) fun y2 =>
 nx1 ((IntKind.i64.wrap ((BitVec.ofInt IntKind.i64.bits (IntKind.i64.wrap (st1.1 * 2 ^ (min (8 : Int).toNat IntKind.i64.bits))) ||| BitVec.ofInt IntKind.i64.bits (IntKind.i64.wrap (y2.toNat : Int))).toNat : Int)), (IntKind.i64.wrap (st1.2 + (1 : Int))))
 else
 bk1 st1.1
def m_octet_Get (a0 : (List UInt8)) (a1 : Int) : Option (Int × (List UInt8) × Bool) :=
 bif decide (a1 < (1 : Int)) then
 some ((0 : Int), [], false)
 else
 bif decide (a1 > (4 : Int)) then
 some ((0 : Int), [], false)
 else
 bd (m_octet_Take a0 a1) fun r1 =>
 loopC (s_octet_Get1 r1) (fun e1 =>
 some (e1, r1.2.1, r1.2.2)) BIG ((0 : Int), (0 : Int))
def s_open_read2 (k107 : ((Int × Int × Int × Int) → Option (OpenSaid × Note))) (st2 : ((List UInt8) × Int × Int)) (nx2 : ((List UInt8) × Int × Int) → Option (OpenSaid × Note)) (bk2 : (Int × Int) → Option (OpenSaid × Note)) : Option (OpenSaid × Note) :=
 bif decide ((st2.1.length : Int) > (0 : Int)) then
 bd (m_octet_Get st2.1 (1 : Int)) fun r4 =>
 bd (m_octet_Get r4.2.1 (1 : Int)) fun r5 =>
 bd (m_octet_Take r5.2.1 r5.1) fun r6 =>
 bif (!r5.2.2) then
 k107 ((2 : Int), (0 : Int), st2.2.1, st2.2.2)
 else
 bif (!r6.2.2) then
 k107 ((2 : Int), (0 : Int), st2.2.1, st2.2.2)
 else
 jn 109 (fun (k109 : (Int × Int × Int × Int) → Option (OpenSaid × Note)) =>
 jn 1 (fun (k1 : (Bool) → Option (OpenSaid × Note)) =>
 bif decide (r4.1 = (65 : Int)) then
 bif decide (¬ (r6.1.length : Int) = (4 : Int)) then
 k1 true
 else
 bif decide (r4.1 = (9 : Int)) then
 k1 (decide (¬ (r6.1.length : Int) = (1 : Int)))
 else
 k1 false
 else
 bif decide (r4.1 = (9 : Int)) then
 k1 (decide (¬ (r6.1.length : Int) = (1 : Int)))
 else
 k1 false) fun j1 =>
 bif j1 then
 k109 ((2 : Int), (0 : Int), st2.2.1, st2.2.2)
 else
 bif decide (r4.1 = (65 : Int)) then
 bif decide (st2.2.1 < (0 : Int)) then
 bd (m_octet_Get r6.1 (4 : Int)) fun r7 =>
 k109 ((0 : Int), (0 : Int), r7.1, st2.2.2)
 else
 bif decide (r4.1 = (9 : Int)) then
 bif decide (st2.2.2 < (0 : Int)) then
 bd (ix r6.1 (0 : Int)) fun y8 =>
 k109 ((0 : Int), (0 : Int), st2.2.1, (IntKind.i64.wrap (y8.toNat : Int)))
 else
 bif decide (r4.1 = (9 : Int)) then
 bd (ix r6.1 (0 : Int)) fun y9 =>
 bif decide (¬ st2.2.2 = (IntKind.i64.wrap (y9.toNat : Int))) then
 k109 ((2 : Int), (11 : Int), st2.2.1, st2.2.2)
 else
 k109 ((0 : Int), (0 : Int), st2.2.1, st2.2.2)
 else
 k109 ((0 : Int), (0 : Int), st2.2.1, st2.2.2)
 else
 bif decide (r4.1 = (9 : Int)) then
 bd (ix r6.1 (0 : Int)) fun y10 =>
 bif decide (¬ st2.2.2 = (IntKind.i64.wrap (y10.toNat : Int))) then
 k109 ((2 : Int), (11 : Int), st2.2.1, st2.2.2)
 else
 k109 ((0 : Int), (0 : Int), st2.2.1, st2.2.2)
 else
 k109 ((0 : Int), (0 : Int), st2.2.1, st2.2.2)
 else
 bif decide (r4.1 = (9 : Int)) then
 bif decide (st2.2.2 < (0 : Int)) then
 bd (ix r6.1 (0 : Int)) fun y11 =>
 k109 ((0 : Int), (0 : Int), st2.2.1, (IntKind.i64.wrap (y11.toNat : Int)))
 else
 bif decide (r4.1 = (9 : Int)) then
 bd (ix r6.1 (0 : Int)) fun y12 =>
 bif decide (¬ st2.2.2 = (IntKind.i64.wrap (y12.toNat : Int))) then
 k109 ((2 : Int), (11 : Int), st2.2.1, st2.2.2)
 else
 k109 ((0 : Int), (0 : Int), st2.2.1, st2.2.2)
 else
 k109 ((0 : Int), (0 : Int), st2.2.1, st2.2.2)
 else
 bif decide (r4.1 = (9 : Int)) then
 bd (ix r6.1 (0 : Int)) fun y13 =>
 bif decide (¬ st2.2.2 = (IntKind.i64.wrap (y13.toNat : Int))) then
 k109 ((2 : Int), (11 : Int), st2.2.1, st2.2.2)
 else
 k109 ((0 : Int), (0 : Int), st2.2.1, st2.2.2)
 else
 k109 ((0 : Int), (0 : Int), st2.2.1, st2.2.2)) fun i9 =>
 bif decide (¬ i9.1 = (0 : Int)) then
 k107 (i9.1, i9.2.1, i9.2.2.1, i9.2.2.2)
 else
 nx2 (r6.2.1, i9.2.2.1, i9.2.2.2)
 else
 bk2 (st2.2.1, st2.2.2)
def s_open_read1 (k101 : ((Int × Int × Int × Int) → Option (OpenSaid × Note))) (st1 : ((List UInt8) × Int × Int)) (nx1 : ((List UInt8) × Int × Int) → Option (OpenSaid × Note)) (bk1 : (Int × Int) → Option (OpenSaid × Note)) : Option (OpenSaid × Note) :=
 bif decide ((st1.1.length : Int) > (0 : Int)) then
 bd (m_octet_Get st1.1 (1 : Int)) fun r1 =>
 bd (m_octet_Get r1.2.1 (1 : Int)) fun r2 =>
 bd (m_octet_Take r2.2.1 r2.1) fun r3 =>
 bif (!r2.2.2) then
 k101 ((2 : Int), (0 : Int), st1.2.1, st1.2.2)
 else
 bif (!r3.2.2) then
 k101 ((2 : Int), (0 : Int), st1.2.1, st1.2.2)
 else
 jn 106 (fun (k106 : (Int × Int × Int × Int) → Option (OpenSaid × Note)) =>
 bif decide (¬ r1.1 = (2 : Int)) then
 k106 ((2 : Int), (4 : Int), st1.2.1, st1.2.2)
 else
 jn 107 (fun (k107 : (Int × Int × Int × Int) → Option (OpenSaid × Note)) =>
 loopC (s_open_read2 k107) (fun e2 =>
 k107 ((0 : Int), (0 : Int), e2.1, e2.2)) BIG (r3.1, st1.2.1, st1.2.2)) fun i7 =>
 k106 (i7.1, i7.2.1, i7.2.2.1, i7.2.2.2)) fun i6 =>
 bif decide (¬ i6.1 = (0 : Int)) then
 k101 (i6.1, i6.2.1, i6.2.2.1, i6.2.2.2)
 else
 nx1 (r3.2.1, i6.2.2.1, i6.2.2.2)
 else
 bk1 (st1.2.1, st1.2.2)
def m_open_read (a0 : (List UInt8)) : Option (OpenSaid × Note) :=
 jn 101 (fun (k101 : (Int × Int × Int × Int) → Option (OpenSaid × Note)) =>
 loopC (s_open_read1 k101) (fun e1 =>
 k101 ((0 : Int), (0 : Int), e1.1, e1.2)) BIG (a0, (-1 : Int), (-1 : Int))) fun i1 =>
 some ((OpenSaid.mk i1.2.2.1 i1.2.2.2), (Note.mk i1.1 i1.2.1 ([])))
def m_open_fault (a0 : OpenSaid) (a1 : Int) (a2 : Int) (a3 : Int) (a4 : Int) : Option Note :=
 bif decide (a0.as_ < (0 : Int)) then
 some (Note.mk (2 : Int) (7 : Int) ([(65 : UInt8), (0 : UInt8)]))
 else
 bif decide (a0.as_ = (0 : Int)) then
 some (Note.mk (2 : Int) (2 : Int) ([]))
 else
 bif decide (¬ a0.as_ = a1) then
 some (Note.mk (2 : Int) (2 : Int) ([]))
 else
 bd (m_open_short a0.as_) fun r1 =>
 bif decide (¬ a2 = r1) then
 some (Note.mk (2 : Int) (2 : Int) ([]))
 else
 bd (m_open_holds a3) fun r2 =>
 bif (!r2) then
 some (Note.mk (2 : Int) (6 : Int) ([]))
 else
 bif decide (a4 = (0 : Int)) then
 some (Note.mk (2 : Int) (3 : Int) ([]))
 else
 some (Note.mk (0 : Int) (0 : Int) ([]))
def m_open_Get (a0 : Msg) (a1 : Int) : Option (Hello × Note) :=
 bif decide (¬ a0.Typ = (1 : Int)) then
 some ((Hello.mk (0 : Int) (0 : Int) (0 : Int) (0 : Int)), (Note.mk (2 : Int) (0 : Int) ([])))
 else
 bd (m_msg_Sane a0) fun r1 =>
 bif (!r1) then
 some ((Hello.mk (0 : Int) (0 : Int) (0 : Int) (0 : Int)), (Note.mk (2 : Int) (0 : Int) ([])))
 else
 bd (m_octet_Get a0.Body (1 : Int)) fun r2 =>
 bd (m_octet_Get r2.2.1 (2 : Int)) fun r3 =>
 bd (m_octet_Get r3.2.1 (2 : Int)) fun r4 =>
 bd (m_octet_Get r4.2.1 (4 : Int)) fun r5 =>
 bd (m_octet_Get r5.2.1 (1 : Int)) fun r6 =>
 bif decide (¬ r2.1 = (4 : Int)) then
 bd (m_octet_Put ([] : List UInt8) (4 : Int) (2 : Int)) fun r7 =>
 some ((Hello.mk (0 : Int) (0 : Int) (0 : Int) (0 : Int)), (Note.mk (2 : Int) (1 : Int) r7))
 else
 bif decide (¬ r6.1 = (r6.2.1.length : Int)) then
 some ((Hello.mk (0 : Int) (0 : Int) (0 : Int) (0 : Int)), (Note.mk (2 : Int) (0 : Int) ([])))
 else
 bd (m_open_read r6.2.1) fun r8 =>
 jn 1 (fun (k1 : (Int × Int × (List UInt8)) → Option (Hello × Note)) =>
 bif decide (r8.2.Code = (0 : Int)) then
 bd (m_open_fault r8.1 a1 r3.1 r4.1 r5.1) fun r9 =>
 k1 (r9.Code, r9.Sub, r9.Data)
 else
 k1 (r8.2.Code, r8.2.Sub, r8.2.Data)) fun j1 =>
 bif decide (¬ j1.1 = (0 : Int)) then
 some ((Hello.mk (0 : Int) (0 : Int) (0 : Int) (0 : Int)), (Note.mk j1.1 j1.2.1 j1.2.2))
 else
 some ((Hello.mk r8.1.as_ r4.1 r5.1 r8.1.role), (Note.mk (0 : Int) (0 : Int) ([])))
def s_role_Pairs1 (a0 : Int) (a1 : Int) (st1 : (Int)) (nx1 : (Int) → Option Bool) (bk1 : Unit → Option Bool) : Option Bool :=
 bif decide (st1 < (5 : Int)) then
 bif decide (st1 = (0 : Int)) then
 bif decide ((0 : Int) = a0) then
 bif decide ((3 : Int) = a1) then
 some true
 else
 nx1 (IntKind.i64.wrap (st1 + (1 : Int)))
 else
 nx1 (IntKind.i64.wrap (st1 + (1 : Int)))
 else
 bif decide (st1 = (1 : Int)) then
 bif decide ((1 : Int) = a0) then
 bif decide ((2 : Int) = a1) then
 some true
 else
 nx1 (IntKind.i64.wrap (st1 + (1 : Int)))
 else
 nx1 (IntKind.i64.wrap (st1 + (1 : Int)))
 else
 bif decide (st1 = (2 : Int)) then
 bif decide ((3 : Int) = a0) then
 bif decide ((0 : Int) = a1) then
 some true
 else
 nx1 (IntKind.i64.wrap (st1 + (1 : Int)))
 else
 nx1 (IntKind.i64.wrap (st1 + (1 : Int)))
 else
 bif decide (st1 = (3 : Int)) then
 bif decide ((2 : Int) = a0) then
 bif decide ((1 : Int) = a1) then
 some true
 else
 nx1 (IntKind.i64.wrap (st1 + (1 : Int)))
 else
 nx1 (IntKind.i64.wrap (st1 + (1 : Int)))
 else
 bif decide (st1 = (4 : Int)) then
 bif decide ((4 : Int) = a0) then
 bif decide ((4 : Int) = a1) then
 some true
 else
 nx1 (IntKind.i64.wrap (st1 + (1 : Int)))
 else
 nx1 (IntKind.i64.wrap (st1 + (1 : Int)))
 else
 none
 else
 bk1 ()
def m_role_Pairs (a0 : Int) (a1 : Int) : Option Bool :=
 loopC (s_role_Pairs1 a0 a1) (fun e1 =>
 some false) BIG (0 : Int)
def m_session_turn__sent (a0 : SessionTurn) : Option (Sess × (List Msg) × Bool) :=
 bif decide (¬ a0.m.Typ = (1 : Int)) then
 bd (m_session_turn__end a0 (Note.mk (5 : Int) (1 : Int) ([]))) fun r1 =>
 some (r1.1, r1.2.1, r1.2.2)
 else
 bd (m_open_Get a0.m a0.side.As) fun r2 =>
 bif decide (¬ r2.2.Code = (0 : Int)) then
 bd (m_session_turn__end a0 r2.2) fun r3 =>
 some (r3.1, r3.2.1, r3.2.2)
 else
 bif decide (r2.1.Role ≥ (0 : Int)) then
 bd (m_role_Mine a0.side.Rel) fun r4 =>
 bd (m_role_Pairs r4 r2.1.Role) fun r5 =>
 bif (!r5) then
 bd (m_session_turn__end a0 (Note.mk (2 : Int) (11 : Int) ([]))) fun r6 =>
 some (r6.1, r6.2.1, r6.2.2)
 else
 bd (m_session_third (if r2.1.Hold < a0.c.Hold then r2.1.Hold else a0.c.Hold)) fun r7 =>
 bd (m_session_alive) fun r8 =>
 some ((Sess.mk (2 : Int) (if r2.1.Hold < a0.c.Hold then r2.1.Hold else a0.c.Hold) (if r2.1.Hold < a0.c.Hold then r2.1.Hold else a0.c.Hold) r7), r8, false)
 else
 bd (m_session_third (if r2.1.Hold < a0.c.Hold then r2.1.Hold else a0.c.Hold)) fun r9 =>
 bd (m_session_alive) fun r10 =>
 some ((Sess.mk (2 : Int) (if r2.1.Hold < a0.c.Hold then r2.1.Hold else a0.c.Hold) (if r2.1.Hold < a0.c.Hold then r2.1.Hold else a0.c.Hold) r9), r10, false)
def m_session_turn__confirm (a0 : SessionTurn) : Option (Sess × (List Msg) × Bool) :=
 bif decide (¬ a0.m.Typ = (4 : Int)) then
 bd (m_session_turn__end a0 (Note.mk (5 : Int) (2 : Int) ([]))) fun r1 =>
 some (r1.1, r1.2.1, r1.2.2)
 else
 some ((Sess.mk (3 : Int) a0.s.Hold a0.s.Hold a0.s.Keep), [], false)
def m_session_turn__up (a0 : SessionTurn) : Option (Sess × (List Msg) × Bool) :=
 bif decide (a0.m.Typ = (1 : Int)) then
 bd (m_session_turn__end a0 (Note.mk (5 : Int) (3 : Int) ([]))) fun r1 =>
 some (r1.1, r1.2.1, r1.2.2)
 else
 some ((Sess.mk a0.s.State a0.s.Hold a0.s.Hold a0.s.Keep), [], decide (a0.m.Typ = (2 : Int)))
def m_session_Take (a0 : Sess) (a1 : Conf) (a2 : Int) (a3 : Msg) : Option (Sess × (List Msg) × Bool) :=
 bd (m_session_sane a0) fun r1 =>
 bd (m_session_there a1 a2) fun r2 =>
 bif (!r2) then
 some (r1, [], false)
 else
 bd (m_msg_Sane a3) fun r3 =>
 bif (!r3) then
 some (r1, [], false)
 else
 bif decide (a3.Typ = (3 : Int)) then
 some ((Sess.mk (0 : Int) (0 : Int) (0 : Int) (0 : Int)), [], false)
 else
 bif decide (r1.State = (0 : Int)) then
 bd (ix a1.Sides a2) fun y4 =>
 bd (m_session_does_1 (SessionTurn.mk r1 a1 y4 a3)) fun r5 =>
 some (r5.1, r5.2.1, r5.2.2)
 else
 bif decide (r1.State = (1 : Int)) then
 bd (ix a1.Sides a2) fun y6 =>
 bd (m_session_turn__sent (SessionTurn.mk r1 a1 y6 a3)) fun r7 =>
 some (r7.1, r7.2.1, r7.2.2)
 else
 bif decide (r1.State = (2 : Int)) then
 bd (ix a1.Sides a2) fun y8 =>
 bd (m_session_turn__confirm (SessionTurn.mk r1 a1 y8 a3)) fun r9 =>
 some (r9.1, r9.2.1, r9.2.2)
 else
 bif decide (r1.State = (3 : Int)) then
 bd (ix a1.Sides a2) fun y10 =>
 bd (m_session_turn__up (SessionTurn.mk r1 a1 y10 a3)) fun r11 =>
 some (r11.1, r11.2.1, r11.2.2)
 else
 none
def s_ridgewaylaw17_step1 (a1 : Conf) (a2 : Int) (a3 : (List Msg)) (st1 : ((List Msg) × Int × Int × Int × Int × Int)) (nx1 : ((List Msg) × Int × Int × Int × Int × Int) → Option (Sess × (List Msg))) (bk1 : ((List Msg) × Int × Int × Int × Int) → Option (Sess × (List Msg))) : Option (Sess × (List Msg)) :=
 bif decide (st1.2.1 < (a3.length : Int)) then
 bd (ix a3 st1.2.1) fun y1 =>
 bd (m_session_Take (Sess.mk st1.2.2.1 st1.2.2.2.1 st1.2.2.2.2.1 st1.2.2.2.2.2) a1 a2 y1) fun r2 =>
 bd (ap 32 st1.1 r2.2.1) fun y3 =>
 nx1 (y3, (IntKind.i64.wrap (st1.2.1 + (1 : Int))), r2.1.State, r2.1.Hold, r2.1.Left, r2.1.Keep)
 else
 bk1 (st1.1, st1.2.2.1, st1.2.2.2.1, st1.2.2.2.2.1, st1.2.2.2.2.2)
def m_ridgewaylaw17_step (a0 : Sess) (a1 : Conf) (a2 : Int) (a3 : (List Msg)) : Option (Sess × (List Msg)) :=
 loopC (s_ridgewaylaw17_step1 a1 a2 a3) (fun e1 =>
 some ((Sess.mk e1.2.1 e1.2.2.1 e1.2.2.2.1 e1.2.2.2.2), e1.1)) BIG ([], (0 : Int), a0.State, a0.Hold, a0.Left, a0.Keep)
def m_ridgewaylaw17_awake : Option Bool :=
 bd (m_ridgewaylaw17_node (1 : Int) (2 : Int) (1 : Int) (90 : Int)) fun r1 =>
 bd (m_ridgewaylaw17_node (2 : Int) (1 : Int) (3 : Int) (9 : Int)) fun r2 =>
 bd (m_session_Start (Sess.mk (0 : Int) (0 : Int) (0 : Int) (0 : Int)) r1 (0 : Int)) fun r3 =>
 bd (m_session_Start (Sess.mk (0 : Int) (0 : Int) (0 : Int) (0 : Int)) r2 (0 : Int)) fun r4 =>
 bd (m_ridgewaylaw17_step r3.1 r1 (0 : Int) r4.2) fun r5 =>
 bd (m_ridgewaylaw17_step r4.1 r2 (0 : Int) r3.2) fun r6 =>
 bd (m_ridgewaylaw17_step r5.1 r1 (0 : Int) r6.2) fun r7 =>
 bd (m_ridgewaylaw17_step r6.1 r2 (0 : Int) r5.2) fun r8 =>
 bif decide ((r3.2.length : Int) = (1 : Int)) then
 bif decide ((r5.2.length : Int) = (1 : Int)) then
 bif decide ((r6.2.length : Int) = (1 : Int)) then
 bif decide (r5.1.State = (2 : Int)) then
 bif decide (r7.1.State = (3 : Int)) then
 bif decide (r8.1.State = (3 : Int)) then
 bif decide (r7.1.Hold = (9 : Int)) then
 bif decide (r8.1.Keep = (3 : Int)) then
 bd (m_session_Sane r7.1) fun r9 =>
 some r9
 else
 some false
 else
 some false
 else
 some false
 else
 some false
 else
 some false
 else
 some false
 else
 some false
 else
 some false
def s_ridgewayref12_Few1 (a0 : Conf) (st1 : (Int)) (nx1 : (Int) → Option Bool) (bk1 : Unit → Option Bool) : Option Bool :=
 bif decide (st1 < (a0.Sides.length : Int)) then
 bd (ix a0.Sides st1) fun y1 =>
 bif decide ((y1.In.length : Int) > (20 : Int)) then
 some false
 else
 bd (ix a0.Sides st1) fun y2 =>
 bif decide ((y2.Out.length : Int) > (20 : Int)) then
 some false
 else
 nx1 (IntKind.i64.wrap (st1 + (1 : Int)))
 else
 bk1 ()
def m_ridgewayref12_Few (a0 : Conf) : Option Bool :=
 loopC (s_ridgewayref12_Few1 a0) (fun e1 =>
 bif decide ((a0.Own.length : Int) ≤ (20 : Int)) then
 some (decide ((a0.Sides.length : Int) ≤ (20 : Int)))
 else
 some false) BIG (0 : Int)
def m_ridgewaylaw17_short (a0 : Conf) (a1 : Msg) : Option Bool :=
 bd (m_ridgewayref12_Few a0) fun r1 =>
 bif r1 then
 some (decide ((a1.Body.length : Int) ≤ (5000 : Int)))
 else
 some false
def m_ridgewayref12_Hold (a0 : Int) : Option Bool :=
 bif decide (a0 = (0 : Int)) then
 some true
 else
 bif decide (a0 ≥ (3 : Int)) then
 some (decide (a0 ≤ (65535 : Int)))
 else
 some false
def s_ridgewayref02_size1 (st1 : (Int × Int)) (nx1 : (Int × Int) → Option Int) (bk1 : (Int) → Option Int) : Option Int :=
 bif decide (st1.2 < (32 : Int)) then
 nx1 ((IntKind.i64.wrap (st1.1 * (2 : Int))), (IntKind.i64.wrap (st1.2 + (1 : Int))))
 else
 bk1 st1.1
def m_ridgewayref02_size (a0 : Int) : Option Int :=
 loopC (s_ridgewayref02_size1) (fun e1 =>
 some e1) BIG ((1 : Int), (if (0 : Int) > a0 then (0 : Int) else a0))
def m_ridgewayref02_Mask (a0 : Int) (a1 : Int) : Option Int :=
 bd (m_ridgewayref02_size a1) fun r1 =>
 nz r1 <|
 some (IntKind.i64.wrap ((IntKind.i64.wrap ((BitVec.ofInt IntKind.i64.bits a0 &&& BitVec.ofInt IntKind.i64.bits (4294967295 : Int)).toNat : Int)) - ((IntKind.i64.wrap ((BitVec.ofInt IntKind.i64.bits a0 &&& BitVec.ofInt IntKind.i64.bits (4294967295 : Int)).toNat : Int)).tmod r1)))
def m_ridgewayref02_Sane (a0 : Prefix) : Option Bool :=
 bif decide (a0.N ≥ (0 : Int)) then
 bif decide (a0.N ≤ (32 : Int)) then
 bif decide (a0.A ≥ (0 : Int)) then
 bif decide (a0.A ≤ (4294967295 : Int)) then
 bd (m_ridgewayref02_Mask a0.A a0.N) fun r1 =>
 some (decide (r1 = a0.A))
 else
 some false
 else
 some false
 else
 some false
 else
 some false
def s_ridgewayref12_owns2 (a0 : (List Prefix)) (st1 : (Int)) (st2 : (Int)) (nx2 : (Int) → Option Bool) (bk2 : Unit → Option Bool) : Option Bool :=
 bif decide (st2 < st1) then
 bd (ix a0 st2) fun y3 =>
 bd (ix a0 st1) fun y4 =>
 bif ((decide (y3.A = y4.A) && decide (y3.N = y4.N))) then
 some false
 else
 nx2 (IntKind.i64.wrap (st2 + (1 : Int)))
 else
 bk2 ()
def s_ridgewayref12_owns1 (a0 : (List Prefix)) (st1 : (Int)) (nx1 : (Int) → Option Bool) (bk1 : Unit → Option Bool) : Option Bool :=
 bif decide (st1 < (a0.length : Int)) then
 bd (ix a0 st1) fun y1 =>
 bd (m_ridgewayref02_Sane y1) fun r2 =>
 bif (!r2) then
 some false
 else
 loopC (s_ridgewayref12_owns2 a0 st1) (fun e2 =>
 nx1 (IntKind.i64.wrap (st1 + (1 : Int)))) BIG (0 : Int)
 else
 bk1 ()
def m_ridgewayref12_owns (a0 : (List Prefix)) : Option Bool :=
 loopC (s_ridgewayref12_owns1 a0) (fun e1 =>
 some (decide ((a0.length : Int) ≤ (8 : Int)))) BIG (0 : Int)
def m_ridgewayref10_match (a0 : Rule) : Option Bool :=
 bif decide (a0.Match = (0 : Int)) then
 bif ((decide (a0.X.A = (0 : Int)) && decide (a0.X.N = (0 : Int)))) then
 some (decide (a0.V = (0 : Int)))
 else
 some false
 else
 bif decide (a0.Match = (1 : Int)) then
 bd (m_ridgewayref02_Sane a0.X) fun r1 =>
 bif r1 then
 some (decide (a0.V = (0 : Int)))
 else
 some false
 else
 bif decide (a0.Match = (2 : Int)) then
 bif ((decide (a0.X.A = (0 : Int)) && decide (a0.X.N = (0 : Int)))) then
 bif decide (a0.V ≥ (1 : Int)) then
 some (decide (a0.V ≤ (4294967295 : Int)))
 else
 some false
 else
 some false
 else
 bif decide (a0.Match = (3 : Int)) then
 bif ((decide (a0.X.A = (0 : Int)) && decide (a0.X.N = (0 : Int)))) then
 bif decide (a0.V ≥ (0 : Int)) then
 some (decide (a0.V ≤ (32 : Int)))
 else
 some false
 else
 some false
 else
 bif decide (a0.Match = (4 : Int)) then
 bif ((decide (a0.X.A = (0 : Int)) && decide (a0.X.N = (0 : Int)))) then
 bif decide (a0.V ≥ (0 : Int)) then
 some (decide (a0.V ≤ (3 : Int)))
 else
 some false
 else
 some false
 else
 some false
def m_ridgewayref10_Sane (a0 : Rule) (a1 : Bool) : Option Bool :=
 bd (m_ridgewayref10_match a0) fun r1 =>
 bif (!r1) then
 some false
 else
 bif a1 then
 bif decide (a0.Match = (4 : Int)) then
 some false
 else
 bif decide (a0.Act = (0 : Int)) then
 some (decide (a0.N = (0 : Int)))
 else
 bif decide (a0.Act = (1 : Int)) then
 some false
 else
 bif decide (a0.Act = (2 : Int)) then
 bif decide (a0.N ≥ (1 : Int)) then
 some (decide (a0.N ≤ (399 : Int)))
 else
 some false
 else
 bif decide (a0.Act = (3 : Int)) then
 some false
 else
 some false
 else
 bif decide (a0.Act = (0 : Int)) then
 some (decide (a0.N = (0 : Int)))
 else
 bif decide (a0.Act = (1 : Int)) then
 some (decide (a0.N = (0 : Int)))
 else
 bif decide (a0.Act = (2 : Int)) then
 some false
 else
 bif decide (a0.Act = (3 : Int)) then
 bif decide (a0.N ≥ (1 : Int)) then
 some (decide (a0.N ≤ (8 : Int)))
 else
 some false
 else
 some false
def s_ridgewayref12_rules1 (a0 : (List Rule)) (a1 : Bool) (st1 : (Int)) (nx1 : (Int) → Option Bool) (bk1 : Unit → Option Bool) : Option Bool :=
 bif decide (st1 < (a0.length : Int)) then
 bd (ix a0 st1) fun y1 =>
 bd (m_ridgewayref10_Sane y1 a1) fun r2 =>
 bif (!r2) then
 some false
 else
 nx1 (IntKind.i64.wrap (st1 + (1 : Int)))
 else
 bk1 ()
def m_ridgewayref12_rules (a0 : (List Rule)) (a1 : Bool) : Option Bool :=
 loopC (s_ridgewayref12_rules1 a0 a1) (fun e1 =>
 some (decide ((a0.length : Int) ≤ (8 : Int)))) BIG (0 : Int)
def s_ridgewayref12_sides2 (a0 : (List Side)) (st1 : (Int)) (y1 : Side) (st2 : (Int)) (nx2 : (Int) → Option Bool) (bk2 : Unit → Option Bool) : Option Bool :=
 bif decide (st2 < st1) then
 bd (ix a0 st2) fun y4 =>
 bif decide (y4.As = y1.As) then
 some false
 else
 nx2 (IntKind.i64.wrap (st2 + (1 : Int)))
 else
 bk2 ()
def s_ridgewayref12_sides1 (a0 : (List Side)) (a1 : Int) (st1 : (Int)) (nx1 : (Int) → Option Bool) (bk1 : Unit → Option Bool) : Option Bool :=
 bif decide (st1 < (a0.length : Int)) then
 bd (ix a0 st1) fun y1 =>
 bif decide (y1.As < (1 : Int)) then
 some false
 else
 bif decide (y1.As > (4294967295 : Int)) then
 some false
 else
 bif decide (y1.As = a1) then
 some false
 else
 bif decide (y1.Rel < (1 : Int)) then
 some false
 else
 bif decide (y1.Rel > (3 : Int)) then
 some false
 else
 bd (m_ridgewayref12_rules y1.In true) fun r2 =>
 bif (!r2) then
 some false
 else
 bd (m_ridgewayref12_rules y1.Out false) fun r3 =>
 bif (!r3) then
 some false
 else
 loopC (s_ridgewayref12_sides2 a0 st1 y1) (fun e2 =>
 nx1 (IntKind.i64.wrap (st1 + (1 : Int)))) BIG (0 : Int)
 else
 bk1 ()
def m_ridgewayref12_sides (a0 : (List Side)) (a1 : Int) : Option Bool :=
 loopC (s_ridgewayref12_sides1 a0 a1) (fun e1 =>
 some (decide ((a0.length : Int) ≤ (8 : Int)))) BIG (0 : Int)
def m_ridgewayref12_Sane (a0 : Conf) : Option Bool :=
 bif decide (a0.As ≥ (1 : Int)) then
 bif decide (a0.As ≤ (4294967295 : Int)) then
 bif decide (a0.Id ≥ (1 : Int)) then
 bif decide (a0.Id ≤ (4294967295 : Int)) then
 bd (m_ridgewayref12_Hold a0.Hold) fun r1 =>
 bif r1 then
 bif decide (a0.Cap ≥ (1 : Int)) then
 bif decide (a0.Cap ≤ (1000 : Int)) then
 bd (m_ridgewayref12_owns a0.Own) fun r2 =>
 bif r2 then
 bd (m_ridgewayref12_sides a0.Sides a0.As) fun r3 =>
 some r3
 else
 some false
 else
 some false
 else
 some false
 else
 some false
 else
 some false
 else
 some false
 else
 some false
 else
 some false
def m_ridgewayref13_Mine (a0 : Int) : Option Int :=
 bif decide (a0 = (1 : Int)) then
 some (0 : Int)
 else
 bif decide (a0 = (2 : Int)) then
 some (4 : Int)
 else
 bif decide (a0 = (3 : Int)) then
 some (3 : Int)
 else
 some (-1 : Int)
def m_ridgewayref17_Hello (a0 : Conf) (a1 : Int) : Option Hello :=
 bd (m_ridgewayref12_Sane a0) fun r1 =>
 bif (!r1) then
 some (Hello.mk (0 : Int) (0 : Int) (0 : Int) (0 : Int))
 else
 bif decide (a1 < (0 : Int)) then
 some (Hello.mk (0 : Int) (0 : Int) (0 : Int) (0 : Int))
 else
 bif decide (a1 ≥ (a0.Sides.length : Int)) then
 some (Hello.mk (0 : Int) (0 : Int) (0 : Int) (0 : Int))
 else
 bd (ix a0.Sides a1) fun y2 =>
 bd (m_ridgewayref13_Mine y2.Rel) fun r3 =>
 some (Hello.mk a0.As a0.Hold a0.Id r3)
def m_ridgewayref17_Sane (a0 : Sess) : Option Bool :=
 bif decide (a0.State = (0 : Int)) then
 some ((decide (a0.State = (0 : Int)) && (decide (a0.Hold = (0 : Int)) && (decide (a0.Left = (0 : Int)) && decide (a0.Keep = (0 : Int))))))
 else
 bif decide (a0.State = (1 : Int)) then
 bif decide (a0.Hold = (0 : Int)) then
 bif decide (a0.Keep = (0 : Int)) then
 bif decide (a0.Left ≥ (1 : Int)) then
 some (decide (a0.Left ≤ (240 : Int)))
 else
 some false
 else
 some false
 else
 some false
 else
 jn 1 (fun (k1 : (Bool) → Option Bool) =>
 bif decide (a0.State = (2 : Int)) then
 k1 true
 else
 k1 (decide (a0.State = (3 : Int)))) fun j1 =>
 bif j1 then
 bif decide (a0.Hold = (0 : Int)) then
 bif decide (a0.Left = (0 : Int)) then
 some (decide (a0.Keep = (0 : Int)))
 else
 some false
 else
 bif decide (a0.Hold ≥ (3 : Int)) then
 bif decide (a0.Hold ≤ (65535 : Int)) then
 bif decide (a0.Left ≥ (1 : Int)) then
 bif decide (a0.Left ≤ a0.Hold) then
 bif decide (a0.Keep ≥ (1 : Int)) then
 some (decide (a0.Keep ≤ (IntKind.i64.wrap (a0.Hold.tdiv (3 : Int)))))
 else
 some false
 else
 some false
 else
 some false
 else
 some false
 else
 some false
 else
 some false
def m_ridgewayref17_As (a0 : Sess) : Option Sess :=
 bd (m_ridgewayref17_Sane a0) fun r1 =>
 bif (!r1) then
 some (Sess.mk (0 : Int) (0 : Int) (0 : Int) (0 : Int))
 else
 some a0
def m_ridgewayref06_Sane (a0 : Hello) : Option Bool :=
 bif decide (a0.As ≥ (1 : Int)) then
 bif decide (a0.As ≤ (4294967295 : Int)) then
 bif decide (a0.Hold = (0 : Int)) then
 bif decide (a0.Id ≥ (1 : Int)) then
 bif decide (a0.Id ≤ (4294967295 : Int)) then
 bif decide (a0.Role ≥ (-1 : Int)) then
 some (decide (a0.Role ≤ (4 : Int)))
 else
 some false
 else
 some false
 else
 some false
 else
 bif decide (a0.Hold ≥ (3 : Int)) then
 bif decide (a0.Hold ≤ (65535 : Int)) then
 bif decide (a0.Id ≥ (1 : Int)) then
 bif decide (a0.Id ≤ (4294967295 : Int)) then
 bif decide (a0.Role ≥ (-1 : Int)) then
 some (decide (a0.Role ≤ (4 : Int)))
 else
 some false
 else
 some false
 else
 some false
 else
 some false
 else
 some false
 else
 some false
 else
 some false
def s_ridgewayref01_Put1 (a1 : Int) (st1 : ((List UInt8) × Int)) (nx1 : ((List UInt8) × Int) → Option (List UInt8)) (bk1 : ((List UInt8)) → Option (List UInt8)) : Option (List UInt8) :=
 bif decide (st1.2 ≥ (0 : Int)) then
 nn (IntKind.u64.wrap (IntKind.i64.wrap ((8 : Int) * st1.2))) <|
 bd (ap 1 st1.1 ([(toB (IntKind.u8.wrap (a1.fdiv (2 ^ (min (IntKind.u64.wrap (IntKind.i64.wrap ((8 : Int) * st1.2))).toNat IntKind.i64.bits)))))])) fun y2 =>
 nx1 (y2, (IntKind.i64.wrap (st1.2 - (1 : Int))))
 else
 bk1 st1.1
def m_ridgewayref01_Put (a0 : (List UInt8)) (a1 : Int) (a2 : Int) : Option (List UInt8) :=
 bd (ap 1 ([] : List UInt8) a0) fun y1 =>
 bif decide (a2 < (1 : Int)) then
 some y1
 else
 bif decide (a2 > (4 : Int)) then
 some y1
 else
 loopC (s_ridgewayref01_Put1 a1) (fun e1 =>
 some e1) BIG (y1, (IntKind.i64.wrap (a2 - (1 : Int))))
def m_ridgewayref06_two (a0 : Int) : Option Int :=
 bif decide (a0 > (65535 : Int)) then
 some (23456 : Int)
 else
 some a0
def m_ridgewayref06_Put (a0 : Hello) : Option Msg :=
 bd (m_ridgewayref06_Sane a0) fun r1 =>
 bif (!r1) then
 some (Msg.mk (0 : Int) ([]))
 else
 bd (m_ridgewayref06_two a0.As) fun r2 =>
 bd (m_ridgewayref01_Put ([(4 : UInt8)]) r2 (2 : Int)) fun r3 =>
 bd (m_ridgewayref01_Put r3 a0.Hold (2 : Int)) fun r4 =>
 bd (m_ridgewayref01_Put r4 a0.Id (4 : Int)) fun r5 =>
 bd (m_ridgewayref01_Put ([(2 : UInt8), (6 : UInt8), (65 : UInt8), (4 : UInt8)]) a0.As (4 : Int)) fun r6 =>
 jn 1 (fun (k1 : ((List UInt8)) → Option Msg) =>
 bif decide (a0.Role ≥ (0 : Int)) then
 bd (ap 1 r6 ([(2 : UInt8), (3 : UInt8), (9 : UInt8), (1 : UInt8), (toB (IntKind.u8.wrap a0.Role))])) fun y7 =>
 k1 y7
 else
 k1 r6) fun j1 =>
 bd (ap 1 r5 ([(toB (IntKind.u8.wrap (j1.length : Int)))])) fun y8 =>
 bd (ap 1 y8 j1) fun y9 =>
 some (Msg.mk (1 : Int) y9)
def m_ridgewayref17_Start (a0 : Sess) (a1 : Conf) (a2 : Int) : Option (Sess × (List Msg)) :=
 bd (m_ridgewayref17_As a0) fun r1 =>
 bd (m_ridgewayref17_Hello a1 a2) fun r2 =>
 bif decide (¬ r1.State = (0 : Int)) then
 some (r1, [])
 else
 bif decide (r2.As = (0 : Int)) then
 some (r1, [])
 else
 bd (m_ridgewayref06_Put r2) fun r3 =>
 some ((Sess.mk (1 : Int) (0 : Int) (240 : Int) (0 : Int)), [r3])
def m_ridgewayref03_Least (a0 : Int) : Option Int :=
 bif decide (a0 = (1 : Int)) then
 some (29 : Int)
 else
 bif decide (a0 = (2 : Int)) then
 some (23 : Int)
 else
 bif decide (a0 = (3 : Int)) then
 some (21 : Int)
 else
 bif decide (a0 = (4 : Int)) then
 some (19 : Int)
 else
 some (0 : Int)
def m_ridgewayref03_fits (a0 : Int) (a1 : Int) : Option Bool :=
 bd (m_ridgewayref03_Least a0) fun r1 =>
 bif decide (r1 > (0 : Int)) then
 bd (m_ridgewayref03_Least a0) fun r2 =>
 bif decide (a1 ≥ r2) then
 bif decide (a1 ≤ (4096 : Int)) then
 bif decide (¬ a0 = (4 : Int)) then
 some true
 else
 some (decide (a1 = (19 : Int)))
 else
 some false
 else
 some false
 else
 some false
def m_ridgewayref03_Sane (a0 : Msg) : Option Bool :=
 bd (m_ridgewayref03_fits a0.Typ (IntKind.i64.wrap ((a0.Body.length : Int) + (19 : Int)))) fun r1 =>
 some r1
def m_ridgewayref05_Sane (a0 : Note) : Option Bool :=
 bif decide (a0.Code ≥ (1 : Int)) then
 bif decide (a0.Code ≤ (255 : Int)) then
 bif decide (a0.Sub ≥ (0 : Int)) then
 bif decide (a0.Sub ≤ (255 : Int)) then
 some (decide ((a0.Data.length : Int) ≤ (4075 : Int)))
 else
 some false
 else
 some false
 else
 some false
 else
 some false
def m_ridgewayref05_Put (a0 : Note) : Option Msg :=
 bd (m_ridgewayref05_Sane a0) fun r1 =>
 bif (!r1) then
 some (Msg.mk (0 : Int) ([]))
 else
 bd (ap 1 ([(toB (IntKind.u8.wrap a0.Code)), (toB (IntKind.u8.wrap a0.Sub))]) a0.Data) fun y2 =>
 some (Msg.mk (3 : Int) y2)
def m_ridgewayref17_Stop (a0 : Sess) (a1 : Note) : Option (Sess × (List Msg)) :=
 bd (m_ridgewayref17_As a0) fun r1 =>
 bif decide (r1.State = (0 : Int)) then
 some (r1, [])
 else
 bd (m_ridgewayref05_Put a1) fun r2 =>
 bif decide (r2.Typ = (0 : Int)) then
 some ((Sess.mk (0 : Int) (0 : Int) (0 : Int) (0 : Int)), [])
 else
 some ((Sess.mk (0 : Int) (0 : Int) (0 : Int) (0 : Int)), [r2])
def m_ridgewayref17_ends (a0 : Sess) (a1 : Int) (a2 : Int) : Option (Sess × (List Msg) × Bool) :=
 bd (m_ridgewayref17_Stop a0 (Note.mk a1 a2 ([]))) fun r1 =>
 some (r1.1, r1.2, false)
def m_ridgewayref06_bad (a0 : Int) : Option (Hello × Note) :=
 some ((Hello.mk (0 : Int) (0 : Int) (0 : Int) (0 : Int)), (Note.mk (2 : Int) a0 ([])))
def s_ridgewayref01_Get1 (a0 : (List UInt8)) (a1 : Int) (st1 : (Int × Int)) (nx1 : (Int × Int) → Option (Int × (List UInt8) × Bool)) (bk1 : (Int) → Option (Int × (List UInt8) × Bool)) : Option (Int × (List UInt8) × Bool) :=
 bif decide (st1.2 < a1) then
 bd (ix a0 st1.2) fun y1 =>
 nx1 ((IntKind.i64.wrap ((IntKind.i64.wrap (st1.1 * (256 : Int))) + (IntKind.i64.wrap (y1.toNat : Int)))), (IntKind.i64.wrap (st1.2 + (1 : Int))))
 else
 bk1 st1.1
def m_ridgewayref01_Get (a0 : (List UInt8)) (a1 : Int) : Option (Int × (List UInt8) × Bool) :=
 bif decide (a1 < (1 : Int)) then
 some ((0 : Int), [], false)
 else
 bif decide (a1 > (4 : Int)) then
 some ((0 : Int), [], false)
 else
 bif decide ((a0.length : Int) < a1) then
 some ((0 : Int), [], false)
 else
 loopC (s_ridgewayref01_Get1 a0 a1) (fun e1 =>
 bd (sl a0 a1 a0.length) fun y2 =>
 some (e1, y2, true)) BIG ((0 : Int), (0 : Int))
def s_ridgewayref06_Get2 (k113 : ((Int × Bool × Int × Int) → Option (Hello × Note))) (st2 : ((List UInt8) × Int × Bool × Int × Int)) (nx2 : ((List UInt8) × Int × Bool × Int × Int) → Option (Hello × Note)) (bk2 : (Int × Bool × Int × Int) → Option (Hello × Note)) : Option (Hello × Note) :=
 bif decide ((st2.1.length : Int) > (0 : Int)) then
 bif decide (st2.2.2.2.2 < (0 : Int)) then
 bif decide ((st2.1.length : Int) < (2 : Int)) then
 jn 120 (fun (k120 : (Int) → Option (Hello × Note)) =>
 bif decide (st2.2.2.2.2 < (0 : Int)) then
 k120 (0 : Int)
 else
 k120 st2.2.2.2.2) fun i20 =>
 k113 (st2.2.1, st2.2.2.1, st2.2.2.2.1, i20)
 else
 bd (ix st2.1 (1 : Int)) fun y12 =>
 bif decide ((st2.1.length : Int) < (IntKind.i64.wrap ((2 : Int) + (IntKind.i64.wrap (y12.toNat : Int))))) then
 jn 121 (fun (k121 : (Int) → Option (Hello × Note)) =>
 bif decide (st2.2.2.2.2 < (0 : Int)) then
 k121 (0 : Int)
 else
 k121 st2.2.2.2.2) fun i21 =>
 k113 (st2.2.1, st2.2.2.1, st2.2.2.2.1, i21)
 else
 bd (ix st2.1 (1 : Int)) fun y13 =>
 bd (ix st2.1 (0 : Int)) fun y14 =>
 bd (sl st2.1 (2 : Int) (IntKind.i64.wrap ((2 : Int) + (IntKind.i64.wrap (y13.toNat : Int))))) fun y15 =>
 jn 122 (fun (k122 : (Int × Bool × Int × Int) → Option (Hello × Note)) =>
 bif decide ((y14.toNat : Int) = (65 : Int)) then
 bif decide (¬ (y15.length : Int) = (4 : Int)) then
 jn 123 (fun (k123 : (Int) → Option (Hello × Note)) =>
 bif decide (st2.2.2.2.2 < (0 : Int)) then
 k123 (0 : Int)
 else
 k123 st2.2.2.2.2) fun i23 =>
 k122 (st2.2.1, st2.2.2.1, st2.2.2.2.1, i23)
 else
 bif (!st2.2.2.1) then
 bd (m_ridgewayref01_Get y15 (4 : Int)) fun r16 =>
 k122 (r16.1, true, st2.2.2.2.1, st2.2.2.2.2)
 else
 k122 (st2.2.1, st2.2.2.1, st2.2.2.2.1, st2.2.2.2.2)
 else
 bif decide ((y14.toNat : Int) = (9 : Int)) then
 bif decide (¬ (y15.length : Int) = (1 : Int)) then
 jn 124 (fun (k124 : (Int) → Option (Hello × Note)) =>
 bif decide (st2.2.2.2.2 < (0 : Int)) then
 k124 (0 : Int)
 else
 k124 st2.2.2.2.2) fun i24 =>
 k122 (st2.2.1, st2.2.2.1, st2.2.2.2.1, i24)
 else
 bif decide (st2.2.2.2.1 ≥ (0 : Int)) then
 bd (ix y15 (0 : Int)) fun y17 =>
 bif decide (¬ st2.2.2.2.1 = (IntKind.i64.wrap (y17.toNat : Int))) then
 jn 125 (fun (k125 : (Int) → Option (Hello × Note)) =>
 bif decide (st2.2.2.2.2 < (0 : Int)) then
 k125 (11 : Int)
 else
 k125 st2.2.2.2.2) fun i25 =>
 k122 (st2.2.1, st2.2.2.1, st2.2.2.2.1, i25)
 else
 bd (ix y15 (0 : Int)) fun y18 =>
 k122 (st2.2.1, st2.2.2.1, (IntKind.i64.wrap (y18.toNat : Int)), st2.2.2.2.2)
 else
 bd (ix y15 (0 : Int)) fun y19 =>
 k122 (st2.2.1, st2.2.2.1, (IntKind.i64.wrap (y19.toNat : Int)), st2.2.2.2.2)
 else
 k122 (st2.2.1, st2.2.2.1, st2.2.2.2.1, st2.2.2.2.2)) fun i22 =>
 bd (sl st2.1 (IntKind.i64.wrap ((2 : Int) + (IntKind.i64.wrap (y13.toNat : Int)))) st2.1.length) fun y20 =>
 nx2 (y20, i22.1, i22.2.1, i22.2.2.1, i22.2.2.2)
 else
 bk2 (st2.2.1, st2.2.2.1, st2.2.2.2.1, st2.2.2.2.2)
 else
 bk2 (st2.2.1, st2.2.2.1, st2.2.2.2.1, st2.2.2.2.2)
def s_ridgewayref06_Get1 (k101 : ((Int × Bool × Int × Int) → Option (Hello × Note))) (st1 : ((List UInt8) × Int × Bool × Int × Int)) (nx1 : ((List UInt8) × Int × Bool × Int × Int) → Option (Hello × Note)) (bk1 : (Int × Bool × Int × Int) → Option (Hello × Note)) : Option (Hello × Note) :=
 bif decide ((st1.1.length : Int) > (0 : Int)) then
 bif decide (st1.2.2.2.2 < (0 : Int)) then
 bif decide ((st1.1.length : Int) < (2 : Int)) then
 jn 110 (fun (k110 : (Int) → Option (Hello × Note)) =>
 bif decide (st1.2.2.2.2 < (0 : Int)) then
 k110 (0 : Int)
 else
 k110 st1.2.2.2.2) fun i10 =>
 k101 (st1.2.1, st1.2.2.1, st1.2.2.2.1, i10)
 else
 bd (ix st1.1 (1 : Int)) fun y8 =>
 bif decide ((st1.1.length : Int) < (IntKind.i64.wrap ((2 : Int) + (IntKind.i64.wrap (y8.toNat : Int))))) then
 jn 111 (fun (k111 : (Int) → Option (Hello × Note)) =>
 bif decide (st1.2.2.2.2 < (0 : Int)) then
 k111 (0 : Int)
 else
 k111 st1.2.2.2.2) fun i11 =>
 k101 (st1.2.1, st1.2.2.1, st1.2.2.2.1, i11)
 else
 bd (ix st1.1 (1 : Int)) fun y9 =>
 bd (ix st1.1 (0 : Int)) fun y10 =>
 bif decide (¬ (y10.toNat : Int) = (2 : Int)) then
 jn 112 (fun (k112 : (Int) → Option (Hello × Note)) =>
 bif decide (st1.2.2.2.2 < (0 : Int)) then
 k112 (4 : Int)
 else
 k112 st1.2.2.2.2) fun i12 =>
 k101 (st1.2.1, st1.2.2.1, st1.2.2.2.1, i12)
 else
 bd (sl st1.1 (2 : Int) (IntKind.i64.wrap ((2 : Int) + (IntKind.i64.wrap (y9.toNat : Int))))) fun y11 =>
 jn 113 (fun (k113 : (Int × Bool × Int × Int) → Option (Hello × Note)) =>
 loopC (s_ridgewayref06_Get2 k113) (fun e2 =>
 k113 (e2.1, e2.2.1, e2.2.2.1, e2.2.2.2)) BIG (y11, st1.2.1, st1.2.2.1, st1.2.2.2.1, st1.2.2.2.2)) fun i13 =>
 bd (sl st1.1 (IntKind.i64.wrap ((2 : Int) + (IntKind.i64.wrap (y9.toNat : Int)))) st1.1.length) fun y21 =>
 nx1 (y21, i13.1, i13.2.1, i13.2.2.1, i13.2.2.2)
 else
 bk1 (st1.2.1, st1.2.2.1, st1.2.2.2.1, st1.2.2.2.2)
 else
 bk1 (st1.2.1, st1.2.2.1, st1.2.2.2.1, st1.2.2.2.2)
def m_ridgewayref06_Get (a0 : Msg) (a1 : Int) : Option (Hello × Note) :=
 bif decide (¬ a0.Typ = (1 : Int)) then
 bd (m_ridgewayref06_bad (0 : Int)) fun r1 =>
 some (r1.1, r1.2)
 else
 bd (m_ridgewayref03_Sane a0) fun r2 =>
 bif (!r2) then
 bd (m_ridgewayref06_bad (0 : Int)) fun r3 =>
 some (r3.1, r3.2)
 else
 bd (ix a0.Body (0 : Int)) fun y4 =>
 bif decide (¬ (y4.toNat : Int) = (4 : Int)) then
 some ((Hello.mk (0 : Int) (0 : Int) (0 : Int) (0 : Int)), (Note.mk (2 : Int) (1 : Int) ([(0 : UInt8), (4 : UInt8)])))
 else
 bd (ix a0.Body (9 : Int)) fun y5 =>
 bif decide (¬ (IntKind.i64.wrap (y5.toNat : Int)) = (IntKind.i64.wrap ((a0.Body.length : Int) - (10 : Int)))) then
 bd (m_ridgewayref06_bad (0 : Int)) fun r6 =>
 some (r6.1, r6.2)
 else
 bd (sl a0.Body (10 : Int) a0.Body.length) fun y7 =>
 jn 101 (fun (k101 : (Int × Bool × Int × Int) → Option (Hello × Note)) =>
 loopC (s_ridgewayref06_Get1 k101) (fun e1 =>
 k101 (e1.1, e1.2.1, e1.2.2.1, e1.2.2.2)) BIG (y7, (0 : Int), false, (-1 : Int), (-1 : Int))) fun i1 =>
 bif decide (i1.2.2.2 ≥ (0 : Int)) then
 bd (m_ridgewayref06_bad i1.2.2.2) fun r22 =>
 some (r22.1, r22.2)
 else
 bif (!i1.2.1) then
 some ((Hello.mk (0 : Int) (0 : Int) (0 : Int) (0 : Int)), (Note.mk (2 : Int) (7 : Int) ([(65 : UInt8), (0 : UInt8)])))
 else
 bd (sl a0.Body (1 : Int) a0.Body.length) fun y23 =>
 bd (m_ridgewayref01_Get y23 (2 : Int)) fun r24 =>
 bd (sl a0.Body (3 : Int) a0.Body.length) fun y25 =>
 bd (m_ridgewayref01_Get y25 (2 : Int)) fun r26 =>
 bd (sl a0.Body (5 : Int) a0.Body.length) fun y27 =>
 bd (m_ridgewayref01_Get y27 (4 : Int)) fun r28 =>
 bif decide (i1.1 = (0 : Int)) then
 bd (m_ridgewayref06_bad (2 : Int)) fun r29 =>
 some (r29.1, r29.2)
 else
 bif decide (¬ i1.1 = a1) then
 bd (m_ridgewayref06_bad (2 : Int)) fun r30 =>
 some (r30.1, r30.2)
 else
 bd (m_ridgewayref06_two i1.1) fun r31 =>
 bif decide (¬ r24.1 = r31) then
 bd (m_ridgewayref06_bad (2 : Int)) fun r32 =>
 some (r32.1, r32.2)
 else
 bif decide (r26.1 = (1 : Int)) then
 bd (m_ridgewayref06_bad (6 : Int)) fun r33 =>
 some (r33.1, r33.2)
 else
 bif decide (r26.1 = (2 : Int)) then
 bd (m_ridgewayref06_bad (6 : Int)) fun r34 =>
 some (r34.1, r34.2)
 else
 bif decide (r28.1 = (0 : Int)) then
 bd (m_ridgewayref06_bad (3 : Int)) fun r35 =>
 some (r35.1, r35.2)
 else
 some ((Hello.mk i1.1 r26.1 r28.1 i1.2.2.1), (Note.mk (0 : Int) (0 : Int) ([])))
def m_ridgewayref13_Pairs (a0 : Int) (a1 : Int) : Option Bool :=
 bif decide (a0 = (0 : Int)) then
 bif decide (a1 = (3 : Int)) then
 some true
 else
 bif decide (a0 = (3 : Int)) then
 bif decide (a1 = (0 : Int)) then
 some true
 else
 bif decide (a0 = (1 : Int)) then
 bif decide (a1 = (2 : Int)) then
 some true
 else
 bif decide (a0 = (2 : Int)) then
 bif decide (a1 = (1 : Int)) then
 some true
 else
 bif decide (a0 = (4 : Int)) then
 some (decide (a1 = (4 : Int)))
 else
 some false
 else
 bif decide (a0 = (4 : Int)) then
 some (decide (a1 = (4 : Int)))
 else
 some false
 else
 bif decide (a0 = (2 : Int)) then
 bif decide (a1 = (1 : Int)) then
 some true
 else
 bif decide (a0 = (4 : Int)) then
 some (decide (a1 = (4 : Int)))
 else
 some false
 else
 bif decide (a0 = (4 : Int)) then
 some (decide (a1 = (4 : Int)))
 else
 some false
 else
 bif decide (a0 = (1 : Int)) then
 bif decide (a1 = (2 : Int)) then
 some true
 else
 bif decide (a0 = (2 : Int)) then
 bif decide (a1 = (1 : Int)) then
 some true
 else
 bif decide (a0 = (4 : Int)) then
 some (decide (a1 = (4 : Int)))
 else
 some false
 else
 bif decide (a0 = (4 : Int)) then
 some (decide (a1 = (4 : Int)))
 else
 some false
 else
 bif decide (a0 = (2 : Int)) then
 bif decide (a1 = (1 : Int)) then
 some true
 else
 bif decide (a0 = (4 : Int)) then
 some (decide (a1 = (4 : Int)))
 else
 some false
 else
 bif decide (a0 = (4 : Int)) then
 some (decide (a1 = (4 : Int)))
 else
 some false
 else
 bif decide (a0 = (3 : Int)) then
 bif decide (a1 = (0 : Int)) then
 some true
 else
 bif decide (a0 = (1 : Int)) then
 bif decide (a1 = (2 : Int)) then
 some true
 else
 bif decide (a0 = (2 : Int)) then
 bif decide (a1 = (1 : Int)) then
 some true
 else
 bif decide (a0 = (4 : Int)) then
 some (decide (a1 = (4 : Int)))
 else
 some false
 else
 bif decide (a0 = (4 : Int)) then
 some (decide (a1 = (4 : Int)))
 else
 some false
 else
 bif decide (a0 = (2 : Int)) then
 bif decide (a1 = (1 : Int)) then
 some true
 else
 bif decide (a0 = (4 : Int)) then
 some (decide (a1 = (4 : Int)))
 else
 some false
 else
 bif decide (a0 = (4 : Int)) then
 some (decide (a1 = (4 : Int)))
 else
 some false
 else
 bif decide (a0 = (1 : Int)) then
 bif decide (a1 = (2 : Int)) then
 some true
 else
 bif decide (a0 = (2 : Int)) then
 bif decide (a1 = (1 : Int)) then
 some true
 else
 bif decide (a0 = (4 : Int)) then
 some (decide (a1 = (4 : Int)))
 else
 some false
 else
 bif decide (a0 = (4 : Int)) then
 some (decide (a1 = (4 : Int)))
 else
 some false
 else
 bif decide (a0 = (2 : Int)) then
 bif decide (a1 = (1 : Int)) then
 some true
 else
 bif decide (a0 = (4 : Int)) then
 some (decide (a1 = (4 : Int)))
 else
 some false
 else
 bif decide (a0 = (4 : Int)) then
 some (decide (a1 = (4 : Int)))
 else
 some false
def m_ridgewayref17_opens (a0 : Sess) (a1 : Conf) (a2 : Int) (a3 : Msg) : Option (Sess × (List Msg) × Bool) :=
 bd (ix a1.Sides a2) fun y1 =>
 bd (m_ridgewayref06_Get a3 y1.As) fun r2 =>
 bif decide (¬ r2.2.Code = (0 : Int)) then
 bd (m_ridgewayref17_Stop a0 r2.2) fun r3 =>
 some (r3.1, r3.2, false)
 else
 bif decide (r2.1.Role ≥ (0 : Int)) then
 bd (ix a1.Sides a2) fun y4 =>
 bd (m_ridgewayref13_Mine y4.Rel) fun r5 =>
 bd (m_ridgewayref13_Pairs r5 r2.1.Role) fun r6 =>
 bif (!r6) then
 bd (m_ridgewayref17_ends a0 (2 : Int) (11 : Int)) fun r7 =>
 some (r7.1, r7.2.1, r7.2.2)
 else
 some ((Sess.mk (2 : Int) (if r2.1.Hold < a1.Hold then r2.1.Hold else a1.Hold) (if r2.1.Hold < a1.Hold then r2.1.Hold else a1.Hold) (IntKind.i64.wrap ((if r2.1.Hold < a1.Hold then r2.1.Hold else a1.Hold).tdiv (3 : Int)))), [(Msg.mk (4 : Int) ([]))], false)
 else
 some ((Sess.mk (2 : Int) (if r2.1.Hold < a1.Hold then r2.1.Hold else a1.Hold) (if r2.1.Hold < a1.Hold then r2.1.Hold else a1.Hold) (IntKind.i64.wrap ((if r2.1.Hold < a1.Hold then r2.1.Hold else a1.Hold).tdiv (3 : Int)))), [(Msg.mk (4 : Int) ([]))], false)
def m_ridgewayref17_Take (a0 : Sess) (a1 : Conf) (a2 : Int) (a3 : Msg) : Option (Sess × (List Msg) × Bool) :=
 bd (m_ridgewayref17_As a0) fun r1 =>
 bd (m_ridgewayref17_Hello a1 a2) fun r2 =>
 bif decide (r1.State = (0 : Int)) then
 some (r1, [], false)
 else
 bif decide (r2.As = (0 : Int)) then
 some (r1, [], false)
 else
 bd (m_ridgewayref03_Sane a3) fun r3 =>
 bif (!r3) then
 some (r1, [], false)
 else
 bif decide (a3.Typ = (3 : Int)) then
 some ((Sess.mk (0 : Int) (0 : Int) (0 : Int) (0 : Int)), [], false)
 else
 bif decide (r1.State = (1 : Int)) then
 bif decide (a3.Typ = (1 : Int)) then
 bd (m_ridgewayref17_opens r1 a1 a2 a3) fun r4 =>
 some (r4.1, r4.2.1, r4.2.2)
 else
 bif decide (r1.State = (1 : Int)) then
 bd (m_ridgewayref17_ends r1 (5 : Int) (1 : Int)) fun r5 =>
 some (r5.1, r5.2.1, r5.2.2)
 else
 bif decide (r1.State = (2 : Int)) then
 bif decide (¬ a3.Typ = (4 : Int)) then
 bd (m_ridgewayref17_ends r1 (5 : Int) (2 : Int)) fun r6 =>
 some (r6.1, r6.2.1, r6.2.2)
 else
 bif decide (r1.State = (3 : Int)) then
 bif decide (a3.Typ = (1 : Int)) then
 bd (m_ridgewayref17_ends r1 (5 : Int) (3 : Int)) fun r7 =>
 some (r7.1, r7.2.1, r7.2.2)
 else
 some ((Sess.mk (3 : Int) r1.Hold r1.Hold r1.Keep), [], decide (a3.Typ = (2 : Int)))
 else
 some ((Sess.mk (3 : Int) r1.Hold r1.Hold r1.Keep), [], decide (a3.Typ = (2 : Int)))
 else
 bif decide (r1.State = (3 : Int)) then
 bif decide (a3.Typ = (1 : Int)) then
 bd (m_ridgewayref17_ends r1 (5 : Int) (3 : Int)) fun r8 =>
 some (r8.1, r8.2.1, r8.2.2)
 else
 some ((Sess.mk (3 : Int) r1.Hold r1.Hold r1.Keep), [], decide (a3.Typ = (2 : Int)))
 else
 some ((Sess.mk (3 : Int) r1.Hold r1.Hold r1.Keep), [], decide (a3.Typ = (2 : Int)))
 else
 bif decide (r1.State = (1 : Int)) then
 bd (m_ridgewayref17_ends r1 (5 : Int) (1 : Int)) fun r9 =>
 some (r9.1, r9.2.1, r9.2.2)
 else
 bif decide (r1.State = (2 : Int)) then
 bif decide (¬ a3.Typ = (4 : Int)) then
 bd (m_ridgewayref17_ends r1 (5 : Int) (2 : Int)) fun r10 =>
 some (r10.1, r10.2.1, r10.2.2)
 else
 bif decide (r1.State = (3 : Int)) then
 bif decide (a3.Typ = (1 : Int)) then
 bd (m_ridgewayref17_ends r1 (5 : Int) (3 : Int)) fun r11 =>
 some (r11.1, r11.2.1, r11.2.2)
 else
 some ((Sess.mk (3 : Int) r1.Hold r1.Hold r1.Keep), [], decide (a3.Typ = (2 : Int)))
 else
 some ((Sess.mk (3 : Int) r1.Hold r1.Hold r1.Keep), [], decide (a3.Typ = (2 : Int)))
 else
 bif decide (r1.State = (3 : Int)) then
 bif decide (a3.Typ = (1 : Int)) then
 bd (m_ridgewayref17_ends r1 (5 : Int) (3 : Int)) fun r12 =>
 some (r12.1, r12.2.1, r12.2.2)
 else
 some ((Sess.mk (3 : Int) r1.Hold r1.Hold r1.Keep), [], decide (a3.Typ = (2 : Int)))
 else
 some ((Sess.mk (3 : Int) r1.Hold r1.Hold r1.Keep), [], decide (a3.Typ = (2 : Int)))
def m_session_second (a0 : Sess) : Option (Sess × (List Msg)) :=
 bif decide (a0.Left = (0 : Int)) then
 some (a0, [])
 else
 bif decide (a0.Left = (1 : Int)) then
 bd (m_session_Stop a0 (Note.mk (4 : Int) (0 : Int) ([]))) fun r1 =>
 some (r1.1, r1.2)
 else
 bif decide (a0.Keep = (0 : Int)) then
 some ((Sess.mk a0.State a0.Hold (IntKind.i64.wrap (a0.Left - (1 : Int))) a0.Keep), [])
 else
 bif decide ((IntKind.i64.wrap (a0.Keep - (1 : Int))) > (0 : Int)) then
 some ((Sess.mk a0.State a0.Hold (IntKind.i64.wrap (a0.Left - (1 : Int))) (IntKind.i64.wrap (a0.Keep - (1 : Int)))), [])
 else
 bd (m_session_third a0.Hold) fun r2 =>
 bd (m_session_alive) fun r3 =>
 some ((Sess.mk a0.State a0.Hold (IntKind.i64.wrap (a0.Left - (1 : Int))) r2), r3)
def s_session_Tick1 (a1 : Int) (st1 : ((List Msg) × Int × Int × Int × Int × Int)) (nx1 : ((List Msg) × Int × Int × Int × Int × Int) → Option (Sess × (List Msg))) (bk1 : ((List Msg) × Int × Int × Int × Int) → Option (Sess × (List Msg))) : Option (Sess × (List Msg)) :=
 bif decide (st1.2.1 < (if (1000 : Int) < a1 then (1000 : Int) else a1)) then
 bd (m_session_second (Sess.mk st1.2.2.1 st1.2.2.2.1 st1.2.2.2.2.1 st1.2.2.2.2.2)) fun r2 =>
 bd (ap 32 st1.1 r2.2) fun y3 =>
 nx1 (y3, (IntKind.i64.wrap (st1.2.1 + (1 : Int))), r2.1.State, r2.1.Hold, r2.1.Left, r2.1.Keep)
 else
 bk1 (st1.1, st1.2.2.1, st1.2.2.2.1, st1.2.2.2.2.1, st1.2.2.2.2.2)
def m_session_Tick (a0 : Sess) (a1 : Int) : Option (Sess × (List Msg)) :=
 bd (m_session_sane a0) fun r1 =>
 loopC (s_session_Tick1 a1) (fun e1 =>
 some ((Sess.mk e1.2.1 e1.2.2.1 e1.2.2.2.1 e1.2.2.2.2), e1.1)) BIG ([], (0 : Int), r1.State, r1.Hold, r1.Left, r1.Keep)
def s_ridgewayref17_Tick1 (a1 : Int) (r1 : Sess) (st1 : ((List Msg) × Int × Int × Int)) (nx1 : ((List Msg) × Int × Int × Int) → Option (Sess × (List Msg))) (bk1 : ((List Msg) × Int × Int) → Option (Sess × (List Msg))) : Option (Sess × (List Msg)) :=
 bif decide (st1.2.1 < (if (1000 : Int) < a1 then (1000 : Int) else a1)) then
 bif decide (st1.2.2.1 > (0 : Int)) then
 bif decide ((IntKind.i64.wrap (st1.2.2.1 - (1 : Int))) = (0 : Int)) then
 bd (m_ridgewayref17_Stop (Sess.mk (1 : Int) (0 : Int) (1 : Int) (0 : Int)) (Note.mk (4 : Int) (0 : Int) ([]))) fun r2 =>
 bd (ap 32 st1.1 r2.2) fun y3 =>
 some (r2.1, y3)
 else
 bif decide (st1.2.2.2 > (0 : Int)) then
 bif decide ((IntKind.i64.wrap (st1.2.2.2 - (1 : Int))) = (0 : Int)) then
 bd (ap 32 st1.1 ([(Msg.mk (4 : Int) ([]))])) fun y4 =>
 nx1 (y4, (IntKind.i64.wrap (st1.2.1 + (1 : Int))), (IntKind.i64.wrap (st1.2.2.1 - (1 : Int))), (IntKind.i64.wrap (r1.Hold.tdiv (3 : Int))))
 else
 nx1 (st1.1, (IntKind.i64.wrap (st1.2.1 + (1 : Int))), (IntKind.i64.wrap (st1.2.2.1 - (1 : Int))), (IntKind.i64.wrap (st1.2.2.2 - (1 : Int))))
 else
 nx1 (st1.1, (IntKind.i64.wrap (st1.2.1 + (1 : Int))), (IntKind.i64.wrap (st1.2.2.1 - (1 : Int))), st1.2.2.2)
 else
 bk1 (st1.1, st1.2.2.1, st1.2.2.2)
 else
 bk1 (st1.1, st1.2.2.1, st1.2.2.2)
def m_ridgewayref17_Tick (a0 : Sess) (a1 : Int) : Option (Sess × (List Msg)) :=
 bd (m_ridgewayref17_As a0) fun r1 =>
 loopC (s_ridgewayref17_Tick1 a1 r1) (fun e1 =>
 some ((Sess.mk r1.State r1.Hold e1.2.1 e1.2.2), e1.1)) BIG ([], (0 : Int), r1.Left, r1.Keep)
def m_ridgewayref03_Same (a0 : Msg) (a1 : Msg) : Option Bool :=
 bif decide (a0.Typ = a1.Typ) then
 some (a0.Body == a1.Body)
 else
 some false
def s_ridgewayref03_SameAll1 (a0 : (List Msg)) (a1 : (List Msg)) (st1 : (Int)) (nx1 : (Int) → Option Bool) (bk1 : Unit → Option Bool) : Option Bool :=
 bif decide (st1 < (a0.length : Int)) then
 bd (ix a0 st1) fun y1 =>
 bd (ix a1 st1) fun y2 =>
 bd (m_ridgewayref03_Same y1 y2) fun r3 =>
 bif (!r3) then
 some false
 else
 nx1 (IntKind.i64.wrap (st1 + (1 : Int)))
 else
 bk1 ()
def m_ridgewayref03_SameAll (a0 : (List Msg)) (a1 : (List Msg)) : Option Bool :=
 bif decide (¬ (a0.length : Int) = (a1.length : Int)) then
 some false
 else
 loopC (s_ridgewayref03_SameAll1 a0 a1) (fun e1 =>
 some true) BIG (0 : Int)
def m_ridgewaylaw17_SessionIs (a0 : Sess) (a1 : Conf) (a2 : Int) (a3 : Msg) (a4 : Int) : Option Bool :=
 bd (m_ridgewaylaw17_awake) fun r1 =>
 bd (m_ridgewaylaw17_short a1 a3) fun r2 =>
 bif (!r2) then
 some r1
 else
 bd (m_session_Start a0 a1 a2) fun r3 =>
 bd (m_ridgewayref17_Start a0 a1 a2) fun r4 =>
 bd (m_session_Take a0 a1 a2 a3) fun r5 =>
 bd (m_ridgewayref17_Take a0 a1 a2 a3) fun r6 =>
 bd (m_session_Tick a0 a4) fun r7 =>
 bd (m_ridgewayref17_Tick a0 a4) fun r8 =>
 bd (m_session_Stop a0 (Note.mk a4 a2 ([]))) fun r9 =>
 bd (m_ridgewayref17_Stop a0 (Note.mk a4 a2 ([]))) fun r10 =>
 bif (!((decide (r3.1.State = r4.1.State) && (decide (r3.1.Hold = r4.1.Hold) && (decide (r3.1.Left = r4.1.Left) && decide (r3.1.Keep = r4.1.Keep)))))) then
 some false
 else
 bif (!((decide (r5.1.State = r6.1.State) && (decide (r5.1.Hold = r6.1.Hold) && (decide (r5.1.Left = r6.1.Left) && decide (r5.1.Keep = r6.1.Keep)))))) then
 some false
 else
 bif (!((decide (r7.1.State = r8.1.State) && (decide (r7.1.Hold = r8.1.Hold) && (decide (r7.1.Left = r8.1.Left) && decide (r7.1.Keep = r8.1.Keep)))))) then
 some false
 else
 bif (!((decide (r9.1.State = r10.1.State) && (decide (r9.1.Hold = r10.1.Hold) && (decide (r9.1.Left = r10.1.Left) && decide (r9.1.Keep = r10.1.Keep)))))) then
 some false
 else
 bif (!(r5.2.2 == r6.2.2)) then
 some false
 else
 bd (m_ridgewayref03_SameAll r3.2 r4.2) fun r11 =>
 bif (!r11) then
 some false
 else
 bd (m_ridgewayref03_SameAll r5.2.1 r6.2.1) fun r12 =>
 bif (!r12) then
 some false
 else
 bif r1 then
 bd (m_ridgewayref03_SameAll r7.2 r8.2) fun r13 =>
 bif r13 then
 bd (m_ridgewayref03_SameAll r9.2 r10.2) fun r14 =>
 bif r14 then
 bd (m_session_Sane a0) fun r15 =>
 bd (m_ridgewayref17_Sane a0) fun r16 =>
 bif (r15 == r16) then
 bd (m_session_Hello a1 a2) fun r17 =>
 bd (m_ridgewayref17_Hello a1 a2) fun r18 =>
 some ((decide (r17.As = r18.As) && (decide (r17.Hold = r18.Hold) && (decide (r17.Id = r18.Id) && decide (r17.Role = r18.Role)))))
 else
 some false
 else
 some false
 else
 some false
 else
 some false
theorem encs : type_of% (And.intro @enc_Prefix (And.intro @sz_Prefix (And.intro @enc_Rule (And.intro @sz_Rule (And.intro @enc_Side (And.intro @sz_Side (And.intro @enc_Conf (And.intro @sz_Conf (And.intro @enc_Hello (And.intro @sz_Hello (And.intro @enc_Sess (And.intro @sz_Sess (And.intro @enc_Msg (And.intro @sz_Msg (And.intro @enc_SessionTurn (And.intro @sz_SessionTurn (And.intro @enc_Note (And.intro @sz_Note (And.intro @enc_OpenSaid @sz_OpenSaid))))))))))))))))))) := (And.intro @enc_Prefix (And.intro @sz_Prefix (And.intro @enc_Rule (And.intro @sz_Rule (And.intro @enc_Side (And.intro @sz_Side (And.intro @enc_Conf (And.intro @sz_Conf (And.intro @enc_Hello (And.intro @sz_Hello (And.intro @enc_Sess (And.intro @sz_Sess (And.intro @enc_Msg (And.intro @sz_Msg (And.intro @enc_SessionTurn (And.intro @sz_SessionTurn (And.intro @enc_Note (And.intro @sz_Note (And.intro @enc_OpenSaid @sz_OpenSaid)))))))))))))))))))
end Go.Proofs.YtibploaibljcmaaGreatDoor
