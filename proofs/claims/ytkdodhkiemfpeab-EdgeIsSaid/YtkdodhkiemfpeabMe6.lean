/- What functions compute. -/
import Derived.Test.YtkdodhkiemfpeabMo
namespace Go.Proofs.Ytkdodhkiemfpeab
set_option linter.unusedVariables false
structure Path where
  Origin : Int
  As : (List Int)
  Hop : Int
  Otc : Int
deriving DecidableEq
instance encPath : Enc Path := ⟨4, fun x => .agg [(.int .i64 x.Origin), (.slice .imm 1 (List.map Enc.enc x.As)), (.int .i64 x.Hop), (.int .i64 x.Otc)], fun x => by simp only [pur.eq_3, purL.eq_1, purL.eq_2, pur.eq_2, purL_enc, pur, Bool.and_self], fun _ => ⟨_, rfl, rfl⟩⟩
theorem enc_Path (x : Path) : Enc.enc x = .agg [(.int .i64 x.Origin), (.slice .imm 1 (List.map Enc.enc x.As)), (.int .i64 x.Hop), (.int .i64 x.Otc)] := rfl
theorem sz_Path : Enc.sz Path = 4 := rfl
structure Prefix where
  A : Int
  N : Int
deriving DecidableEq
instance encPrefix : Enc Prefix := ⟨2, fun x => .agg [(.int .i64 x.A), (.int .i64 x.N)], fun x => by simp only [pur.eq_3, purL.eq_1, purL.eq_2, pur.eq_2, purL_enc, pur, Bool.and_self], fun _ => ⟨_, rfl, rfl⟩⟩
theorem enc_Prefix (x : Prefix) : Enc.enc x = .agg [(.int .i64 x.A), (.int .i64 x.N)] := rfl
theorem sz_Prefix : Enc.sz Prefix = 2 := rfl
structure Rule where
  Match : Int
  X : Prefix
  V : Int
  Act : Int
  N : Int
deriving DecidableEq
instance encRule : Enc Rule := ⟨6, fun x => .agg [(.int .i64 x.Match), (.int .i64 x.X.A), (.int .i64 x.X.N), (.int .i64 x.V), (.int .i64 x.Act), (.int .i64 x.N)], fun x => by simp only [pur.eq_3, purL.eq_1, purL.eq_2, pur.eq_2, purL_enc, pur, Bool.and_self], fun _ => ⟨_, rfl, rfl⟩⟩
theorem enc_Rule (x : Rule) : Enc.enc x = .agg [(.int .i64 x.Match), (.int .i64 x.X.A), (.int .i64 x.X.N), (.int .i64 x.V), (.int .i64 x.Act), (.int .i64 x.N)] := rfl
theorem sz_Rule : Enc.sz Rule = 6 := rfl
structure Side where
  As : Int
  Rel : Int
  In : (List Rule)
  Out : (List Rule)
deriving DecidableEq
instance encSide : Enc Side := ⟨4, fun x => .agg [(.int .i64 x.As), (.int .i64 x.Rel), (.slice .imm 6 (List.map Enc.enc x.In)), (.slice .imm 6 (List.map Enc.enc x.Out))], fun x => by simp only [pur.eq_3, purL.eq_1, purL.eq_2, pur.eq_2, purL_enc, pur, Bool.and_self], fun _ => ⟨_, rfl, rfl⟩⟩
theorem enc_Side (x : Side) : Enc.enc x = .agg [(.int .i64 x.As), (.int .i64 x.Rel), (.slice .imm 6 (List.map Enc.enc x.In)), (.slice .imm 6 (List.map Enc.enc x.Out))] := rfl
theorem sz_Side : Enc.sz Side = 4 := rfl
structure Conf where
  As : Int
  Id : Int
  Hold : Int
  Cap : Int
  Own : (List Prefix)
  Sides : (List Side)
deriving DecidableEq
instance encConf : Enc Conf := ⟨6, fun x => .agg [(.int .i64 x.As), (.int .i64 x.Id), (.int .i64 x.Hold), (.int .i64 x.Cap), (.slice .imm 2 (List.map Enc.enc x.Own)), (.slice .imm 4 (List.map Enc.enc x.Sides))], fun x => by simp only [pur.eq_3, purL.eq_1, purL.eq_2, pur.eq_2, purL_enc, pur, Bool.and_self], fun _ => ⟨_, rfl, rfl⟩⟩
theorem enc_Conf (x : Conf) : Enc.enc x = .agg [(.int .i64 x.As), (.int .i64 x.Id), (.int .i64 x.Hold), (.int .i64 x.Cap), (.slice .imm 2 (List.map Enc.enc x.Own)), (.slice .imm 4 (List.map Enc.enc x.Sides))] := rfl
theorem sz_Conf : Enc.sz Conf = 6 := rfl
structure View where
  X : Prefix
  As : (List Int)
  Class : Int
deriving DecidableEq
instance encView : Enc View := ⟨4, fun x => .agg [(.int .i64 x.X.A), (.int .i64 x.X.N), (.slice .imm 1 (List.map Enc.enc x.As)), (.int .i64 x.Class)], fun x => by simp only [pur.eq_3, purL.eq_1, purL.eq_2, pur.eq_2, purL_enc, pur, Bool.and_self], fun _ => ⟨_, rfl, rfl⟩⟩
theorem enc_View (x : View) : Enc.enc x = .agg [(.int .i64 x.X.A), (.int .i64 x.X.N), (.slice .imm 1 (List.map Enc.enc x.As)), (.int .i64 x.Class)] := rfl
theorem sz_View : Enc.sz View = 4 := rfl
structure Route where
  Pref : Int
  P : Path
  From : Int
deriving DecidableEq
instance encRoute : Enc Route := ⟨6, fun x => .agg [(.int .i64 x.Pref), (.int .i64 x.P.Origin), (.slice .imm 1 (List.map Enc.enc x.P.As)), (.int .i64 x.P.Hop), (.int .i64 x.P.Otc), (.int .i64 x.From)], fun x => by simp only [pur.eq_3, purL.eq_1, purL.eq_2, pur.eq_2, purL_enc, pur, Bool.and_self], fun _ => ⟨_, rfl, rfl⟩⟩
theorem enc_Route (x : Route) : Enc.enc x = .agg [(.int .i64 x.Pref), (.int .i64 x.P.Origin), (.slice .imm 1 (List.map Enc.enc x.P.As)), (.int .i64 x.P.Hop), (.int .i64 x.P.Otc), (.int .i64 x.From)] := rfl
theorem sz_Route : Enc.sz Route = 6 := rfl
def s_attr_Sane1 (a0 : Path) (st1 : (Int)) (nx1 : (Int) → Option Bool) (bk1 : Unit → Option Bool) : Option Bool :=
 bif decide (st1 < (a0.As.length : Int)) then
 bd (ix a0.As st1) fun y1 =>
 bif decide (y1 < (1 : Int)) then
 some false
 else
 bif decide (y1 > (4294967295 : Int)) then
 some false
 else
 nx1 (IntKind.i64.wrap (st1 + (1 : Int)))
 else
 bk1 ()
def m_attr_Sane (a0 : Path) : Option Bool :=
 loopC (s_attr_Sane1 a0) (fun e1 =>
 bif decide (a0.Origin ≥ (0 : Int)) then
 bif decide (a0.Origin ≤ (2 : Int)) then
 bif decide ((a0.As.length : Int) ≤ (255 : Int)) then
 bif decide (a0.Hop ≥ (1 : Int)) then
 bif decide (a0.Hop ≤ (4294967295 : Int)) then
 bif decide (a0.Otc ≥ (0 : Int)) then
 some (decide (a0.Otc ≤ (4294967295 : Int)))
 else
 some false
 else
 some false
 else
 some false
 else
 some false
 else
 some false
 else
 some false) BIG (0 : Int)
def m_conf_saneNumber (a0 : Int) : Option Bool :=
 bif decide (a0 ≥ (1 : Int)) then
 some (decide (a0 ≤ (4294967295 : Int)))
 else
 some false
def m_conf_saneHold (a0 : Int) : Option Bool :=
 bif decide (a0 = (0 : Int)) then
 some true
 else
 bif decide (a0 ≥ (3 : Int)) then
 some (decide (a0 ≤ (65535 : Int)))
 else
 some false
def m_conf_saneCap (a0 : Int) : Option Bool :=
 bif decide (a0 ≥ (1 : Int)) then
 some (decide (a0 ≤ (1000 : Int)))
 else
 some false
def m_prefix_Mask (a0 : Int) (a1 : Int) : Option Int :=
 nn (IntKind.i64.wrap ((32 : Int) - (if (32 : Int) < (if (0 : Int) > a1 then (0 : Int) else a1) then (32 : Int) else (if (0 : Int) > a1 then (0 : Int) else a1)))) <|
 nn (IntKind.i64.wrap ((32 : Int) - (if (32 : Int) < (if (0 : Int) > a1 then (0 : Int) else a1) then (32 : Int) else (if (0 : Int) > a1 then (0 : Int) else a1)))) <|
 some (IntKind.i64.wrap (((IntKind.i64.wrap ((BitVec.ofInt IntKind.i64.bits a0 &&& BitVec.ofInt IntKind.i64.bits (4294967295 : Int)).toNat : Int)).fdiv (2 ^ (min (IntKind.i64.wrap ((32 : Int) - (if (32 : Int) < (if (0 : Int) > a1 then (0 : Int) else a1) then (32 : Int) else (if (0 : Int) > a1 then (0 : Int) else a1)))).toNat IntKind.i64.bits))) * 2 ^ (min (IntKind.i64.wrap ((32 : Int) - (if (32 : Int) < (if (0 : Int) > a1 then (0 : Int) else a1) then (32 : Int) else (if (0 : Int) > a1 then (0 : Int) else a1)))).toNat IntKind.i64.bits)))
def m_prefix_Sane (a0 : Prefix) : Option Bool :=
 bif decide (a0.N ≥ (0 : Int)) then
 bif decide (a0.N ≤ (32 : Int)) then
 bd (m_prefix_Mask a0.A a0.N) fun r1 =>
 some (decide (r1 = a0.A))
 else
 some false
 else
 some false
def s_slices_Index___api_Prefix_api_Prefix1 (a0 : (List Prefix)) (a1 : Prefix) (st1 : (Int)) (nx1 : (Int) → Option Int) (bk1 : Unit → Option Int) : Option Int :=
 bif decide (st1 < (a0.length : Int)) then
 bd (ix a0 st1) fun y1 =>
 bif ((decide (a1.A = y1.A) && decide (a1.N = y1.N))) then
 some st1
 else
 nx1 (IntKind.i64.wrap (st1 + (1 : Int)))
 else
 bk1 ()
def m_slices_Index___api_Prefix_api_Prefix (a0 : (List Prefix)) (a1 : Prefix) : Option Int :=
 loopC (s_slices_Index___api_Prefix_api_Prefix1 a0 a1) (fun e1 =>
 some (-1 : Int)) BIG (0 : Int)
def m_slices_Contains___api_Prefix_api_Prefix (a0 : (List Prefix)) (a1 : Prefix) : Option Bool :=
 bd (m_slices_Index___api_Prefix_api_Prefix a0 a1) fun r1 =>
 some (decide (r1 ≥ (0 : Int)))
def s_conf_saneOwn1 (a0 : (List Prefix)) (st1 : (Int)) (nx1 : (Int) → Option Bool) (bk1 : Unit → Option Bool) : Option Bool :=
 bif decide (st1 < (a0.length : Int)) then
 bd (ix a0 st1) fun y1 =>
 bd (m_prefix_Sane y1) fun r2 =>
 bif (!r2) then
 some false
 else
 bd (sl a0 0 st1) fun y3 =>
 bd (m_slices_Contains___api_Prefix_api_Prefix y3 y1) fun r4 =>
 bif r4 then
 some false
 else
 nx1 (IntKind.i64.wrap (st1 + (1 : Int)))
 else
 bk1 ()
def m_conf_saneOwn (a0 : (List Prefix)) : Option Bool :=
 bif decide ((a0.length : Int) > (8 : Int)) then
 some false
 else
 loopC (s_conf_saneOwn1 a0) (fun e1 =>
 some true) BIG (0 : Int)
def s_conf_taken1 (a1 : (List Side)) (a2 : Int) (k101 : ((Int) → Option Bool)) (st1 : (Int)) (nx1 : (Int) → Option Bool) (bk1 : Unit → Option Bool) : Option Bool :=
 bif decide (st1 < (a1.length : Int)) then
 bd (ix a1 st1) fun y1 =>
 bif decide (y1.As = a2) then
 k101 st1
 else
 nx1 (IntKind.i64.wrap (st1 + (1 : Int)))
 else
 bk1 ()
def m_conf_taken (a0 : Int) (a1 : (List Side)) (a2 : Int) : Option Bool :=
 bif decide (a2 = a0) then
 some true
 else
 jn 101 (fun (k101 : (Int) → Option Bool) =>
 loopC (s_conf_taken1 a1 a2 k101) (fun e1 =>
 k101 (-1 : Int)) BIG (0 : Int)) fun i1 =>
 some (decide (i1 ≥ (0 : Int)))
def m_policy_saneMatch (a0 : Rule) (a1 : Bool) : Option Bool :=
 bif decide (a0.Match = (1 : Int)) then
 bd (m_prefix_Sane a0.X) fun r1 =>
 bif r1 then
 some (decide (a0.V = (0 : Int)))
 else
 some false
 else
 bif (!((decide (a0.X.A = (0 : Int)) && decide (a0.X.N = (0 : Int))))) then
 some false
 else
 bif decide (a0.Match = (0 : Int)) then
 some (decide (a0.V = (0 : Int)))
 else
 bif decide (a0.Match = (2 : Int)) then
 bif decide (a0.V ≥ (1 : Int)) then
 some (decide (a0.V ≤ (4294967295 : Int)))
 else
 some false
 else
 bif decide (a0.Match = (3 : Int)) then
 bif decide (a0.V ≥ (0 : Int)) then
 some (decide (a0.V ≤ (32 : Int)))
 else
 some false
 else
 bif decide (a0.Match = (4 : Int)) then
 bif (!a1) then
 bif decide (a0.V ≥ (0 : Int)) then
 some (decide (a0.V ≤ (3 : Int)))
 else
 some false
 else
 some false
 else
 some false
def m_policy_saneAct (a0 : Rule) (a1 : Bool) : Option Bool :=
 bif decide (a0.Act = (0 : Int)) then
 some (decide (a0.N = (0 : Int)))
 else
 bif decide (a0.Act = (1 : Int)) then
 bif (!a1) then
 some (decide (a0.N = (0 : Int)))
 else
 some false
 else
 bif decide (a0.Act = (2 : Int)) then
 bif a1 then
 bif decide (a0.N ≥ (1 : Int)) then
 some (decide (a0.N < (400 : Int)))
 else
 some false
 else
 some false
 else
 bif decide (a0.Act = (3 : Int)) then
 bif (!a1) then
 bif decide (a0.N ≥ (1 : Int)) then
 some (decide (a0.N ≤ (8 : Int)))
 else
 some false
 else
 some false
 else
 some false
def m_policy_Sane (a0 : Rule) (a1 : Bool) : Option Bool :=
 bd (m_policy_saneMatch a0 a1) fun r1 =>
 bif r1 then
 bd (m_policy_saneAct a0 a1) fun r2 =>
 some r2
 else
 some false
def s_conf_saneRules1 (a0 : (List Rule)) (a1 : Bool) (st1 : (Int)) (nx1 : (Int) → Option Bool) (bk1 : Unit → Option Bool) : Option Bool :=
 bif decide (st1 < (a0.length : Int)) then
 bd (ix a0 st1) fun y1 =>
 bd (m_policy_Sane y1 a1) fun r2 =>
 bif (!r2) then
 some false
 else
 nx1 (IntKind.i64.wrap (st1 + (1 : Int)))
 else
 bk1 ()
def m_conf_saneRules (a0 : (List Rule)) (a1 : Bool) : Option Bool :=
 bif decide ((a0.length : Int) > (8 : Int)) then
 some false
 else
 loopC (s_conf_saneRules1 a0 a1) (fun e1 =>
 some true) BIG (0 : Int)
def s_conf_saneSides1 (a0 : Conf) (st1 : (Int)) (nx1 : (Int) → Option Bool) (bk1 : Unit → Option Bool) : Option Bool :=
 bif decide (st1 < (a0.Sides.length : Int)) then
 bd (ix a0.Sides st1) fun y1 =>
 bd (m_conf_saneNumber y1.As) fun r2 =>
 bif (!r2) then
 some false
 else
 bd (sl a0.Sides 0 st1) fun y3 =>
 bd (m_conf_taken a0.As y3 y1.As) fun r4 =>
 bif r4 then
 some false
 else
 bif decide (y1.Rel < (1 : Int)) then
 some false
 else
 bif decide (y1.Rel > (3 : Int)) then
 some false
 else
 bd (m_conf_saneRules y1.In true) fun r5 =>
 bif (!r5) then
 some false
 else
 bd (m_conf_saneRules y1.Out false) fun r6 =>
 bif (!r6) then
 some false
 else
 nx1 (IntKind.i64.wrap (st1 + (1 : Int)))
 else
 bk1 ()
def m_conf_saneSides (a0 : Conf) : Option Bool :=
 bif decide ((a0.Sides.length : Int) > (8 : Int)) then
 some false
 else
 loopC (s_conf_saneSides1 a0) (fun e1 =>
 some true) BIG (0 : Int)
def m_conf_Sane (a0 : Conf) : Option Bool :=
 bd (m_conf_saneNumber a0.As) fun r1 =>
 bif r1 then
 bd (m_conf_saneNumber a0.Id) fun r2 =>
 bif r2 then
 bd (m_conf_saneHold a0.Hold) fun r3 =>
 bif r3 then
 bd (m_conf_saneCap a0.Cap) fun r4 =>
 bif r4 then
 bd (m_conf_saneOwn a0.Own) fun r5 =>
 bif r5 then
 bd (m_conf_saneSides a0) fun r6 =>
 some r6
 else
 some false
 else
 some false
 else
 some false
 else
 some false
 else
 some false
def m_edge_at (a0 : Conf) (a1 : Int) (a2 : Prefix) : Option Bool :=
 bif decide (a1 ≥ (0 : Int)) then
 bif decide (a1 < (a0.Sides.length : Int)) then
 bd (m_prefix_Sane a2) fun r1 =>
 bif r1 then
 bd (m_conf_Sane a0) fun r2 =>
 some r2
 else
 some false
 else
 some false
 else
 some false
def s_slices_Index___int_int1 (a0 : (List Int)) (a1 : Int) (st1 : (Int)) (nx1 : (Int) → Option Int) (bk1 : Unit → Option Int) : Option Int :=
 bif decide (st1 < (a0.length : Int)) then
 bd (ix a0 st1) fun y1 =>
 bif decide (a1 = y1) then
 some st1
 else
 nx1 (IntKind.i64.wrap (st1 + (1 : Int)))
 else
 bk1 ()
def m_slices_Index___int_int (a0 : (List Int)) (a1 : Int) : Option Int :=
 loopC (s_slices_Index___int_int1 a0 a1) (fun e1 =>
 some (-1 : Int)) BIG (0 : Int)
def m_slices_Contains___int_int (a0 : (List Int)) (a1 : Int) : Option Bool :=
 bd (m_slices_Index___int_int a0 a1) fun r1 =>
 some (decide (r1 ≥ (0 : Int)))
def m_role_In (a0 : Int) (a1 : Int) (a2 : Int) : Option (Int × Bool) :=
 bif decide (a0 = (1 : Int)) then
 bif decide (a2 = (0 : Int)) then
 some ((0 : Int), true)
 else
 jn 1 (fun (k1 : (Bool) → Option (Int × Bool)) =>
 bif decide (a0 = (2 : Int)) then
 bif decide (a2 = (0 : Int)) then
 k1 true
 else
 bif decide (a2 = a1) then
 k1 true
 else
 bif decide (a0 = (3 : Int)) then
 k1 (decide (a2 = (0 : Int)))
 else
 k1 false
 else
 bif decide (a0 = (3 : Int)) then
 k1 (decide (a2 = (0 : Int)))
 else
 k1 false) fun j1 =>
 bif j1 then
 some (a1, true)
 else
 bif decide (a0 = (3 : Int)) then
 some (a2, true)
 else
 some ((0 : Int), false)
 else
 jn 2 (fun (k2 : (Bool) → Option (Int × Bool)) =>
 bif decide (a0 = (2 : Int)) then
 bif decide (a2 = (0 : Int)) then
 k2 true
 else
 bif decide (a2 = a1) then
 k2 true
 else
 bif decide (a0 = (3 : Int)) then
 k2 (decide (a2 = (0 : Int)))
 else
 k2 false
 else
 bif decide (a0 = (3 : Int)) then
 k2 (decide (a2 = (0 : Int)))
 else
 k2 false) fun j2 =>
 bif j2 then
 some (a1, true)
 else
 bif decide (a0 = (3 : Int)) then
 some (a2, true)
 else
 some ((0 : Int), false)
def m_policy_fits_1 (a0 : Rule) (a1 : View) : Option Bool :=
 some true
def m_prefix_Has (a0 : Prefix) (a1 : Prefix) : Option Bool :=
 bd (m_prefix_Sane a0) fun r1 =>
 bif r1 then
 bd (m_prefix_Sane a1) fun r2 =>
 bif r2 then
 bif decide (a1.N ≥ a0.N) then
 bd (m_prefix_Mask a1.A a0.N) fun r3 =>
 some (decide (r3 = a0.A))
 else
 some false
 else
 some false
 else
 some false
def m_policy_fits_2 (a0 : Rule) (a1 : View) : Option Bool :=
 bd (m_prefix_Has a0.X a1.X) fun r1 =>
 some r1
def m_policy_fits_3 (a0 : Rule) (a1 : View) : Option Bool :=
 bd (m_slices_Contains___int_int a1.As a0.V) fun r1 =>
 some r1
def m_policy_fits_4 (a0 : Rule) (a1 : View) : Option Bool :=
 some (decide ((a1.As.length : Int) > a0.V))
def m_policy_fits_5 (a0 : Rule) (a1 : View) : Option Bool :=
 some (decide (a1.Class = a0.V))
def m_policy_Fits (a0 : Rule) (a1 : View) : Option Bool :=
 bif decide (a0.Match < (0 : Int)) then
 some false
 else
 bif decide (a0.Match ≥ (5 : Int)) then
 some false
 else
 bif decide (a0.Match = (0 : Int)) then
 bd (m_policy_fits_1 a0 a1) fun r1 =>
 some r1
 else
 bif decide (a0.Match = (1 : Int)) then
 bd (m_policy_fits_2 a0 a1) fun r2 =>
 some r2
 else
 bif decide (a0.Match = (2 : Int)) then
 bd (m_policy_fits_3 a0 a1) fun r3 =>
 some r3
 else
 bif decide (a0.Match = (3 : Int)) then
 bd (m_policy_fits_4 a0 a1) fun r4 =>
 some r4
 else
 bif decide (a0.Match = (4 : Int)) then
 bd (m_policy_fits_5 a0 a1) fun r5 =>
 some r5
 else
 none
def s_policy_Pick1 (a0 : (List Rule)) (a1 : View) (st1 : (Int)) (nx1 : (Int) → Option (Rule × Bool)) (bk1 : Unit → Option (Rule × Bool)) : Option (Rule × Bool) :=
 bif decide (st1 < (a0.length : Int)) then
 bd (ix a0 st1) fun y1 =>
 bd (m_policy_Fits y1 a1) fun r2 =>
 bif r2 then
 some (y1, true)
 else
 nx1 (IntKind.i64.wrap (st1 + (1 : Int)))
 else
 bk1 ()
def m_policy_Pick (a0 : (List Rule)) (a1 : View) : Option (Rule × Bool) :=
 loopC (s_policy_Pick1 a0 a1) (fun e1 =>
 some ((Rule.mk (0 : Int) (Prefix.mk (0 : Int) (0 : Int)) (0 : Int) (0 : Int) (0 : Int)), false)) BIG (0 : Int)
def m_edge_accepts (a0 : Rule) (a1 : Bool) : Option Bool :=
 bif a1 then
 some (decide (¬ a0.Act = (0 : Int)))
 else
 some false
def m_edge_In (a0 : Conf) (a1 : Int) (a2 : Prefix) (a3 : Path) : Option (Route × Bool) :=
 bd (m_edge_at a0 a1 a2) fun r1 =>
 bif (!r1) then
 some ((Route.mk (0 : Int) (Path.mk (0 : Int) ([]) (0 : Int) (0 : Int)) (0 : Int)), false)
 else
 bd (m_attr_Sane a3) fun r2 =>
 bif (!r2) then
 some ((Route.mk (0 : Int) (Path.mk (0 : Int) ([]) (0 : Int) (0 : Int)) (0 : Int)), false)
 else
 bd (ix a0.Sides a1) fun y3 =>
 jn 101 (fun (k101 : (Bool × Int × Int × Int × Int × Int × Int × Int) → Option (Route × Bool)) =>
 jn 102 (fun (k102 : (Bool) → Option (Route × Bool)) =>
 bif decide ((a3.As.length : Int) > (0 : Int)) then
 bd (ix a3.As (0 : Int)) fun y4 =>
 k102 (decide (y4 = y3.As))
 else
 k102 false) fun i2 =>
 bif (!i2) then
 k101 (false, (0 : Int), (0 : Int), (0 : Int), (0 : Int), (0 : Int), (0 : Int), (0 : Int))
 else
 bd (m_slices_Contains___int_int a3.As a0.As) fun r5 =>
 bif (!(!r5)) then
 k101 (false, (0 : Int), (0 : Int), (0 : Int), (0 : Int), (0 : Int), (0 : Int), (0 : Int))
 else
 bif (!decide ((a3.As.length : Int) ≤ (32 : Int))) then
 k101 (false, (0 : Int), (0 : Int), (0 : Int), (0 : Int), (0 : Int), (0 : Int), (0 : Int))
 else
 bd (m_role_In y3.Rel y3.As a3.Otc) fun r6 =>
 bif (!r6.2) then
 k101 (false, (0 : Int), (0 : Int), (0 : Int), (0 : Int), (0 : Int), (0 : Int), r6.1)
 else
 bd (m_policy_Pick y3.In (View.mk a2 a3.As y3.Rel)) fun r7 =>
 bd (m_edge_accepts r7.1 r7.2) fun r8 =>
 bif (!r8) then
 k101 (false, r7.1.Match, r7.1.X.A, r7.1.X.N, r7.1.V, r7.1.Act, r7.1.N, r6.1)
 else
 k101 (true, r7.1.Match, r7.1.X.A, r7.1.X.N, r7.1.V, r7.1.Act, r7.1.N, r6.1)) fun i1 =>
 bif (!i1.1) then
 some ((Route.mk (0 : Int) (Path.mk (0 : Int) ([]) (0 : Int) (0 : Int)) (0 : Int)), false)
 else
 some ((Route.mk i1.2.2.2.2.2.2.1 (Path.mk a3.Origin a3.As a3.Hop i1.2.2.2.2.2.2.2) a1), true)
def m_route_Sane (a0 : Route) : Option Bool :=
 bd (m_attr_Sane a0.P) fun r1 =>
 bif (!r1) then
 some false
 else
 bif decide ((a0.P.As.length : Int) > (32 : Int)) then
 some false
 else
 bif decide (a0.From = (-1 : Int)) then
 bif decide (a0.Pref = (400 : Int)) then
 bif decide ((a0.P.As.length : Int) = (0 : Int)) then
 bif decide (a0.P.Origin = (0 : Int)) then
 some (decide (a0.P.Otc = (0 : Int)))
 else
 some false
 else
 some false
 else
 some false
 else
 bif decide (a0.From ≥ (0 : Int)) then
 bif decide (a0.From < (8 : Int)) then
 bif decide (a0.Pref ≥ (1 : Int)) then
 some (decide (a0.Pref < (400 : Int)))
 else
 some false
 else
 some false
 else
 some false
def m_edge_Class (a0 : Conf) (a1 : Int) : Option Int :=
 bif decide (a1 < (0 : Int)) then
 some (0 : Int)
 else
 bif decide (a1 ≥ (a0.Sides.length : Int)) then
 some (0 : Int)
 else
 bd (ix a0.Sides a1) fun y1 =>
 some y1.Rel
def m_math_bits_Mul32 (a0 : U32) (a1 : U32) : Option (U32 × U32) :=
 some ((U32.mk (IntKind.u32.wrap ((IntKind.u64.wrap ((IntKind.u64.wrap a0.v) * (IntKind.u64.wrap a1.v))).fdiv (2 ^ (min (32 : Int).toNat IntKind.u64.bits))))), (U32.mk (IntKind.u32.wrap (IntKind.u64.wrap ((IntKind.u64.wrap a0.v) * (IntKind.u64.wrap a1.v))))))
def m_math_bits_Mul64 (a0 : U64) (a1 : U64) : Option (U64 × U64) :=
 some ((U64.mk (IntKind.u64.wrap ((IntKind.u64.wrap ((IntKind.u64.wrap ((a0.v.fdiv (2 ^ (min (32 : Int).toNat IntKind.u64.bits))) * (a1.v.fdiv (2 ^ (min (32 : Int).toNat IntKind.u64.bits))))) + ((IntKind.u64.wrap ((IntKind.u64.wrap ((a0.v.fdiv (2 ^ (min (32 : Int).toNat IntKind.u64.bits))) * (IntKind.u64.wrap ((BitVec.ofInt IntKind.u64.bits a1.v &&& BitVec.ofInt IntKind.u64.bits (4294967295 : Int)).toNat : Int)))) + ((IntKind.u64.wrap ((IntKind.u64.wrap ((BitVec.ofInt IntKind.u64.bits a0.v &&& BitVec.ofInt IntKind.u64.bits (4294967295 : Int)).toNat : Int)) * (IntKind.u64.wrap ((BitVec.ofInt IntKind.u64.bits a1.v &&& BitVec.ofInt IntKind.u64.bits (4294967295 : Int)).toNat : Int)))).fdiv (2 ^ (min (32 : Int).toNat IntKind.u64.bits))))).fdiv (2 ^ (min (32 : Int).toNat IntKind.u64.bits))))) + ((IntKind.u64.wrap ((IntKind.u64.wrap ((BitVec.ofInt IntKind.u64.bits (IntKind.u64.wrap ((IntKind.u64.wrap ((a0.v.fdiv (2 ^ (min (32 : Int).toNat IntKind.u64.bits))) * (IntKind.u64.wrap ((BitVec.ofInt IntKind.u64.bits a1.v &&& BitVec.ofInt IntKind.u64.bits (4294967295 : Int)).toNat : Int)))) + ((IntKind.u64.wrap ((IntKind.u64.wrap ((BitVec.ofInt IntKind.u64.bits a0.v &&& BitVec.ofInt IntKind.u64.bits (4294967295 : Int)).toNat : Int)) * (IntKind.u64.wrap ((BitVec.ofInt IntKind.u64.bits a1.v &&& BitVec.ofInt IntKind.u64.bits (4294967295 : Int)).toNat : Int)))).fdiv (2 ^ (min (32 : Int).toNat IntKind.u64.bits))))) &&& BitVec.ofInt IntKind.u64.bits (4294967295 : Int)).toNat : Int)) + (IntKind.u64.wrap ((IntKind.u64.wrap ((BitVec.ofInt IntKind.u64.bits a0.v &&& BitVec.ofInt IntKind.u64.bits (4294967295 : Int)).toNat : Int)) * (a1.v.fdiv (2 ^ (min (32 : Int).toNat IntKind.u64.bits))))))).fdiv (2 ^ (min (32 : Int).toNat IntKind.u64.bits)))))), (U64.mk (IntKind.u64.wrap (a0.v * a1.v))))
def m_math_bits_Mul (a0 : U64) (a1 : U64) : Option (U64 × U64) :=
 bd (m_math_bits_Mul64 a0 a1) fun r1 =>
 some (r1.1, r1.2)
def s_slices_Repeat___int_int1 (r1 : (U64 × U64)) (st1 : (Int × (List Int))) (nx1 : (Int × (List Int)) → Option (List Int)) (bk1 : ((List Int)) → Option (List Int)) : Option (List Int) :=
 bif decide (st1.1 < (((IntKind.i64.wrap r1.2.v).toNat : Nat) : Int)) then
 bd (slb ((IntKind.i64.wrap r1.2.v).toNat) st1.1 (((IntKind.i64.wrap r1.2.v).toNat : Nat) : Int)) fun _ =>
 bd (slb ((IntKind.i64.wrap r1.2.v).toNat) 0 st1.1) fun _ =>
 bd (sub st1.2 0 st1.1.toNat) fun y4 =>
 bd (cpn st1.2 st1.1.toNat (((IntKind.i64.wrap r1.2.v).toNat) - st1.1.toNat) y4) fun z5 =>
 nx1 ((IntKind.i64.wrap (st1.1 + ((min st1.1.toNat (((IntKind.i64.wrap r1.2.v).toNat) - st1.1.toNat) : Nat) : Int))), z5)
 else
 bk1 st1.2
def m_slices_Repeat___int_int (a0 : (List Int)) (a1 : Int) : Option (List Int) :=
 bif decide (a1 < (0 : Int)) then
 none
 else
 bd (m_math_bits_Mul (U64.mk (IntKind.u64.wrap (a0.length : Int))) (U64.mk (IntKind.u64.wrap a1))) fun r1 =>
 bif decide (r1.1.v > (0 : Int)) then
 none
 else
 bif decide (r1.2.v > (9223372036854775807 : Int)) then
 none
 else
 bd (mkz 8 (0 : Int) (IntKind.i64.wrap r1.2.v)) fun y2 =>
 bd (cpn y2 0 ((IntKind.i64.wrap r1.2.v).toNat) a0) fun z3 =>
 loopC (s_slices_Repeat___int_int1 r1) (fun e1 =>
 bd (fzn ((IntKind.i64.wrap r1.2.v).toNat) e1) fun _ =>
 some e1) BIG (((min a0.length ((IntKind.i64.wrap r1.2.v).toNat) : Nat) : Int), z3)
def m_edge_longer (a0 : Int) (a1 : Rule) (a2 : (List Int)) : Option (List Int) :=
 bif decide (a1.Act = (3 : Int)) then
 bd (m_slices_Repeat___int_int ([a0]) (IntKind.i64.wrap ((1 : Int) + a1.N))) fun r1 =>
 bd (ap 8 r1 a2) fun y2 =>
 some y2
 else
 bd (ap 8 ([a0]) a2) fun y3 =>
 some y3
def m_role_Out (a0 : Int) (a1 : Int) (a2 : Int) : Option (Int × Bool) :=
 bif decide (a0 = (1 : Int)) then
 bif decide (¬ a2 = (0 : Int)) then
 some (a2, true)
 else
 bif decide (a0 = (1 : Int)) then
 bif decide (a2 = (0 : Int)) then
 some (a1, true)
 else
 bif decide (a0 = (3 : Int)) then
 bif decide (a2 = (0 : Int)) then
 some ((0 : Int), true)
 else
 some ((0 : Int), false)
 else
 some ((0 : Int), false)
 else
 bif decide (a0 = (2 : Int)) then
 bif decide (a2 = (0 : Int)) then
 some (a1, true)
 else
 bif decide (a0 = (3 : Int)) then
 bif decide (a2 = (0 : Int)) then
 some ((0 : Int), true)
 else
 some ((0 : Int), false)
 else
 some ((0 : Int), false)
 else
 bif decide (a0 = (3 : Int)) then
 bif decide (a2 = (0 : Int)) then
 some ((0 : Int), true)
 else
 some ((0 : Int), false)
 else
 some ((0 : Int), false)
 else
 bif decide (a0 = (1 : Int)) then
 bif decide (a2 = (0 : Int)) then
 some (a1, true)
 else
 bif decide (a0 = (3 : Int)) then
 bif decide (a2 = (0 : Int)) then
 some ((0 : Int), true)
 else
 some ((0 : Int), false)
 else
 some ((0 : Int), false)
 else
 bif decide (a0 = (2 : Int)) then
 bif decide (a2 = (0 : Int)) then
 some (a1, true)
 else
 bif decide (a0 = (3 : Int)) then
 bif decide (a2 = (0 : Int)) then
 some ((0 : Int), true)
 else
 some ((0 : Int), false)
 else
 some ((0 : Int), false)
 else
 bif decide (a0 = (3 : Int)) then
 bif decide (a2 = (0 : Int)) then
 some ((0 : Int), true)
 else
 some ((0 : Int), false)
 else
 some ((0 : Int), false)
def m_edge_Out (a0 : Conf) (a1 : Int) (a2 : Prefix) (a3 : Route) : Option (Path × Bool) :=
 bd (m_edge_at a0 a1 a2) fun r1 =>
 bif (!r1) then
 some ((Path.mk (0 : Int) ([]) (0 : Int) (0 : Int)), false)
 else
 bd (m_route_Sane a3) fun r2 =>
 bif (!r2) then
 some ((Path.mk (0 : Int) ([]) (0 : Int) (0 : Int)), false)
 else
 bd (ix a0.Sides a1) fun y3 =>
 jn 101 (fun (k101 : (Bool × (List Int) × Int) → Option (Path × Bool)) =>
 jn 102 (fun (k102 : (Bool) → Option (Path × Bool)) =>
 bif decide (¬ a3.From = a1) then
 k102 (decide (a3.From < (a0.Sides.length : Int)))
 else
 k102 false) fun i2 =>
 bif (!i2) then
 k101 (false, [], (0 : Int))
 else
 bd (m_edge_Class a0 a3.From) fun r4 =>
 bd (m_policy_Pick y3.Out (View.mk a2 a3.P.As r4)) fun r5 =>
 bd (m_edge_longer a0.As r5.1 a3.P.As) fun r6 =>
 bd (m_edge_accepts r5.1 r5.2) fun r7 =>
 bif (!r7) then
 k101 (false, r6, (0 : Int))
 else
 bd (m_role_Out y3.Rel a0.As a3.P.Otc) fun r8 =>
 bif (!r8.2) then
 k101 (false, r6, r8.1)
 else
 bif (!decide ((r6.length : Int) ≤ (32 : Int))) then
 k101 (false, r6, r8.1)
 else
 k101 (true, r6, r8.1)) fun i1 =>
 bif (!i1.1) then
 some ((Path.mk (0 : Int) ([]) (0 : Int) (0 : Int)), false)
 else
 some ((Path.mk a3.P.Origin i1.2.1 a0.Id i1.2.2), true)
def m_ridgewaylaw14_node : Option Conf :=
 some (Conf.mk (65001 : Int) (9 : Int) (0 : Int) (9 : Int) ([]) ([(Side.mk (65002 : Int) (1 : Int) ([(Rule.mk (0 : Int) (Prefix.mk (0 : Int) (0 : Int)) (0 : Int) (2 : Int) (300 : Int))]) ([(Rule.mk (0 : Int) (Prefix.mk (0 : Int) (0 : Int)) (0 : Int) (1 : Int) (0 : Int))])), (Side.mk (65003 : Int) (3 : Int) ([(Rule.mk (0 : Int) (Prefix.mk (0 : Int) (0 : Int)) (0 : Int) (2 : Int) (100 : Int))]) ([(Rule.mk (0 : Int) (Prefix.mk (0 : Int) (0 : Int)) (0 : Int) (3 : Int) (1 : Int))]))]))
def m_ridgewaylaw14_awake : Option Bool :=
 bd (m_ridgewaylaw14_node) fun r1 =>
 bd (m_edge_In r1 (0 : Int) (Prefix.mk (0 : Int) (0 : Int)) (Path.mk (0 : Int) ([(65002 : Int)]) (5 : Int) (0 : Int))) fun r2 =>
 bd (m_ridgewaylaw14_node) fun r3 =>
 bd (m_edge_Out r3 (1 : Int) (Prefix.mk (0 : Int) (0 : Int)) r2.1) fun r4 =>
 bd (m_ridgewaylaw14_node) fun r5 =>
 bd (m_edge_Out r5 (0 : Int) (Prefix.mk (0 : Int) (0 : Int)) r2.1) fun r6 =>
 bif r2.2 then
 bif decide (r2.1.Pref = (300 : Int)) then
 bif decide (r2.1.From = (0 : Int)) then
 bif r4.2 then
 bif decide ((r4.1.As.length : Int) = (3 : Int)) then
 bd (ix r4.1.As (0 : Int)) fun y7 =>
 bif decide (y7 = (65001 : Int)) then
 bd (ix r4.1.As (1 : Int)) fun y8 =>
 bif decide (y8 = (65001 : Int)) then
 bd (ix r4.1.As (2 : Int)) fun y9 =>
 bif decide (y9 = (65002 : Int)) then
 bif decide (r4.1.Hop = (9 : Int)) then
 bif (!r6.2) then
 bd (m_ridgewaylaw14_node) fun r10 =>
 bd (m_edge_Class r10 (1 : Int)) fun r11 =>
 some (decide (r11 = (3 : Int)))
 else
 some false
 else
 some false
 else
 some false
 else
 some false
 else
 some false
 else
 some false
 else
 some false
 else
 some false
 else
 some false
 else
 some false
def s_ridgewayref12_Few1 (a0 : Conf) (st1 : (Int)) (nx1 : (Int) → Option Bool) (bk1 : Unit → Option Bool) : Option Bool :=
 bif decide (st1 < (a0.Sides.length : Int)) then
 bd (ix a0.Sides st1) fun y1 =>
 bif decide ((y1.In.length : Int) > (20 : Int)) then
 some false
 else
 bd (ix a0.Sides st1) fun y2 =>
 bif decide ((y2.Out.length : Int) > (20 : Int)) then
 some false
 else
 nx1 (IntKind.i64.wrap (st1 + (1 : Int)))
 else
 bk1 ()
def m_ridgewayref12_Few (a0 : Conf) : Option Bool :=
 loopC (s_ridgewayref12_Few1 a0) (fun e1 =>
 bif decide ((a0.Own.length : Int) ≤ (20 : Int)) then
 some (decide ((a0.Sides.length : Int) ≤ (20 : Int)))
 else
 some false) BIG (0 : Int)
def m_ridgewaylaw14_short (a0 : Conf) (a1 : Path) : Option Bool :=
 bd (m_ridgewayref12_Few a0) fun r1 =>
 bif r1 then
 some (decide ((a1.As.length : Int) ≤ (100 : Int)))
 else
 some false
def m_ridgewayref12_Hold (a0 : Int) : Option Bool :=
 bif decide (a0 = (0 : Int)) then
 some true
 else
 bif decide (a0 ≥ (3 : Int)) then
 some (decide (a0 ≤ (65535 : Int)))
 else
 some false
def s_ridgewayref02_size1 (st1 : (Int × Int)) (nx1 : (Int × Int) → Option Int) (bk1 : (Int) → Option Int) : Option Int :=
 bif decide (st1.2 < (32 : Int)) then
 nx1 ((IntKind.i64.wrap (st1.1 * (2 : Int))), (IntKind.i64.wrap (st1.2 + (1 : Int))))
 else
 bk1 st1.1
def m_ridgewayref02_size (a0 : Int) : Option Int :=
 loopC (s_ridgewayref02_size1) (fun e1 =>
 some e1) BIG ((1 : Int), (if (0 : Int) > a0 then (0 : Int) else a0))
def m_ridgewayref02_Mask (a0 : Int) (a1 : Int) : Option Int :=
 bd (m_ridgewayref02_size a1) fun r1 =>
 nz r1 <|
 some (IntKind.i64.wrap ((IntKind.i64.wrap ((BitVec.ofInt IntKind.i64.bits a0 &&& BitVec.ofInt IntKind.i64.bits (4294967295 : Int)).toNat : Int)) - ((IntKind.i64.wrap ((BitVec.ofInt IntKind.i64.bits a0 &&& BitVec.ofInt IntKind.i64.bits (4294967295 : Int)).toNat : Int)).tmod r1)))
def m_ridgewayref02_Sane (a0 : Prefix) : Option Bool :=
 bif decide (a0.N ≥ (0 : Int)) then
 bif decide (a0.N ≤ (32 : Int)) then
 bif decide (a0.A ≥ (0 : Int)) then
 bif decide (a0.A ≤ (4294967295 : Int)) then
 bd (m_ridgewayref02_Mask a0.A a0.N) fun r1 =>
 some (decide (r1 = a0.A))
 else
 some false
 else
 some false
 else
 some false
 else
 some false
def s_ridgewayref12_owns2 (a0 : (List Prefix)) (st1 : (Int)) (st2 : (Int)) (nx2 : (Int) → Option Bool) (bk2 : Unit → Option Bool) : Option Bool :=
 bif decide (st2 < st1) then
 bd (ix a0 st2) fun y3 =>
 bd (ix a0 st1) fun y4 =>
 bif ((decide (y3.A = y4.A) && decide (y3.N = y4.N))) then
 some false
 else
 nx2 (IntKind.i64.wrap (st2 + (1 : Int)))
 else
 bk2 ()
def s_ridgewayref12_owns1 (a0 : (List Prefix)) (st1 : (Int)) (nx1 : (Int) → Option Bool) (bk1 : Unit → Option Bool) : Option Bool :=
 bif decide (st1 < (a0.length : Int)) then
 bd (ix a0 st1) fun y1 =>
 bd (m_ridgewayref02_Sane y1) fun r2 =>
 bif (!r2) then
 some false
 else
 loopC (s_ridgewayref12_owns2 a0 st1) (fun e2 =>
 nx1 (IntKind.i64.wrap (st1 + (1 : Int)))) BIG (0 : Int)
 else
 bk1 ()
def m_ridgewayref12_owns (a0 : (List Prefix)) : Option Bool :=
 loopC (s_ridgewayref12_owns1 a0) (fun e1 =>
 some (decide ((a0.length : Int) ≤ (8 : Int)))) BIG (0 : Int)
def m_ridgewayref10_match (a0 : Rule) : Option Bool :=
 bif decide (a0.Match = (0 : Int)) then
 bif ((decide (a0.X.A = (0 : Int)) && decide (a0.X.N = (0 : Int)))) then
 some (decide (a0.V = (0 : Int)))
 else
 some false
 else
 bif decide (a0.Match = (1 : Int)) then
 bd (m_ridgewayref02_Sane a0.X) fun r1 =>
 bif r1 then
 some (decide (a0.V = (0 : Int)))
 else
 some false
 else
 bif decide (a0.Match = (2 : Int)) then
 bif ((decide (a0.X.A = (0 : Int)) && decide (a0.X.N = (0 : Int)))) then
 bif decide (a0.V ≥ (1 : Int)) then
 some (decide (a0.V ≤ (4294967295 : Int)))
 else
 some false
 else
 some false
 else
 bif decide (a0.Match = (3 : Int)) then
 bif ((decide (a0.X.A = (0 : Int)) && decide (a0.X.N = (0 : Int)))) then
 bif decide (a0.V ≥ (0 : Int)) then
 some (decide (a0.V ≤ (32 : Int)))
 else
 some false
 else
 some false
 else
 bif decide (a0.Match = (4 : Int)) then
 bif ((decide (a0.X.A = (0 : Int)) && decide (a0.X.N = (0 : Int)))) then
 bif decide (a0.V ≥ (0 : Int)) then
 some (decide (a0.V ≤ (3 : Int)))
 else
 some false
 else
 some false
 else
 some false
def m_ridgewayref10_Sane (a0 : Rule) (a1 : Bool) : Option Bool :=
 bd (m_ridgewayref10_match a0) fun r1 =>
 bif (!r1) then
 some false
 else
 bif a1 then
 bif decide (a0.Match = (4 : Int)) then
 some false
 else
 bif decide (a0.Act = (0 : Int)) then
 some (decide (a0.N = (0 : Int)))
 else
 bif decide (a0.Act = (1 : Int)) then
 some false
 else
 bif decide (a0.Act = (2 : Int)) then
 bif decide (a0.N ≥ (1 : Int)) then
 some (decide (a0.N ≤ (399 : Int)))
 else
 some false
 else
 bif decide (a0.Act = (3 : Int)) then
 some false
 else
 some false
 else
 bif decide (a0.Act = (0 : Int)) then
 some (decide (a0.N = (0 : Int)))
 else
 bif decide (a0.Act = (1 : Int)) then
 some (decide (a0.N = (0 : Int)))
 else
 bif decide (a0.Act = (2 : Int)) then
 some false
 else
 bif decide (a0.Act = (3 : Int)) then
 bif decide (a0.N ≥ (1 : Int)) then
 some (decide (a0.N ≤ (8 : Int)))
 else
 some false
 else
 some false
def s_ridgewayref12_rules1 (a0 : (List Rule)) (a1 : Bool) (st1 : (Int)) (nx1 : (Int) → Option Bool) (bk1 : Unit → Option Bool) : Option Bool :=
 bif decide (st1 < (a0.length : Int)) then
 bd (ix a0 st1) fun y1 =>
 bd (m_ridgewayref10_Sane y1 a1) fun r2 =>
 bif (!r2) then
 some false
 else
 nx1 (IntKind.i64.wrap (st1 + (1 : Int)))
 else
 bk1 ()
def m_ridgewayref12_rules (a0 : (List Rule)) (a1 : Bool) : Option Bool :=
 loopC (s_ridgewayref12_rules1 a0 a1) (fun e1 =>
 some (decide ((a0.length : Int) ≤ (8 : Int)))) BIG (0 : Int)
def s_ridgewayref12_sides2 (a0 : (List Side)) (st1 : (Int)) (y1 : Side) (st2 : (Int)) (nx2 : (Int) → Option Bool) (bk2 : Unit → Option Bool) : Option Bool :=
 bif decide (st2 < st1) then
 bd (ix a0 st2) fun y4 =>
 bif decide (y4.As = y1.As) then
 some false
 else
 nx2 (IntKind.i64.wrap (st2 + (1 : Int)))
 else
 bk2 ()
def s_ridgewayref12_sides1 (a0 : (List Side)) (a1 : Int) (st1 : (Int)) (nx1 : (Int) → Option Bool) (bk1 : Unit → Option Bool) : Option Bool :=
 bif decide (st1 < (a0.length : Int)) then
 bd (ix a0 st1) fun y1 =>
 bif decide (y1.As < (1 : Int)) then
 some false
 else
 bif decide (y1.As > (4294967295 : Int)) then
 some false
 else
 bif decide (y1.As = a1) then
 some false
 else
 bif decide (y1.Rel < (1 : Int)) then
 some false
 else
 bif decide (y1.Rel > (3 : Int)) then
 some false
 else
 bd (m_ridgewayref12_rules y1.In true) fun r2 =>
 bif (!r2) then
 some false
 else
 bd (m_ridgewayref12_rules y1.Out false) fun r3 =>
 bif (!r3) then
 some false
 else
 loopC (s_ridgewayref12_sides2 a0 st1 y1) (fun e2 =>
 nx1 (IntKind.i64.wrap (st1 + (1 : Int)))) BIG (0 : Int)
 else
 bk1 ()
def m_ridgewayref12_sides (a0 : (List Side)) (a1 : Int) : Option Bool :=
 loopC (s_ridgewayref12_sides1 a0 a1) (fun e1 =>
 some (decide ((a0.length : Int) ≤ (8 : Int)))) BIG (0 : Int)
def m_ridgewayref12_Sane (a0 : Conf) : Option Bool :=
 bif decide (a0.As ≥ (1 : Int)) then
 bif decide (a0.As ≤ (4294967295 : Int)) then
 bif decide (a0.Id ≥ (1 : Int)) then
 bif decide (a0.Id ≤ (4294967295 : Int)) then
 bd (m_ridgewayref12_Hold a0.Hold) fun r1 =>
 bif r1 then
 bif decide (a0.Cap ≥ (1 : Int)) then
 bif decide (a0.Cap ≤ (1000 : Int)) then
 bd (m_ridgewayref12_owns a0.Own) fun r2 =>
 bif r2 then
 bd (m_ridgewayref12_sides a0.Sides a0.As) fun r3 =>
 some r3
 else
 some false
 else
 some false
 else
 some false
 else
 some false
 else
 some false
 else
 some false
 else
 some false
 else
 some false
def m_ridgewayref14_side (a0 : Conf) (a1 : Int) : Option Bool :=
 bif decide (a1 ≥ (0 : Int)) then
 some (decide (a1 < (a0.Sides.length : Int)))
 else
 some false
def s_ridgewayref07_Sane1 (a0 : Path) (st1 : (Int)) (nx1 : (Int) → Option Bool) (bk1 : Unit → Option Bool) : Option Bool :=
 bif decide (st1 < (a0.As.length : Int)) then
 bd (ix a0.As st1) fun y1 =>
 bif decide (y1 < (1 : Int)) then
 some false
 else
 bd (ix a0.As st1) fun y2 =>
 bif decide (y2 > (4294967295 : Int)) then
 some false
 else
 nx1 (IntKind.i64.wrap (st1 + (1 : Int)))
 else
 bk1 ()
def m_ridgewayref07_Sane (a0 : Path) : Option Bool :=
 loopC (s_ridgewayref07_Sane1 a0) (fun e1 =>
 bif decide (a0.Origin ≥ (0 : Int)) then
 bif decide (a0.Origin ≤ (2 : Int)) then
 bif decide ((a0.As.length : Int) ≤ (255 : Int)) then
 bif decide (a0.Hop ≥ (1 : Int)) then
 bif decide (a0.Hop ≤ (4294967295 : Int)) then
 bif decide (a0.Otc ≥ (0 : Int)) then
 some (decide (a0.Otc ≤ (4294967295 : Int)))
 else
 some false
 else
 some false
 else
 some false
 else
 some false
 else
 some false
 else
 some false) BIG (0 : Int)
def s_ridgewayref14_has1 (a0 : (List Int)) (a1 : Int) (st1 : (Int)) (nx1 : (Int) → Option Bool) (bk1 : Unit → Option Bool) : Option Bool :=
 bif decide (st1 < (a0.length : Int)) then
 bd (ix a0 st1) fun y1 =>
 bif decide (y1 = a1) then
 some true
 else
 nx1 (IntKind.i64.wrap (st1 + (1 : Int)))
 else
 bk1 ()
def m_ridgewayref14_has (a0 : (List Int)) (a1 : Int) : Option Bool :=
 loopC (s_ridgewayref14_has1 a0 a1) (fun e1 =>
 some false) BIG (0 : Int)
def m_ridgewayref13_In (a0 : Int) (a1 : Int) (a2 : Int) : Option (Int × Bool) :=
 bif decide (a0 = (1 : Int)) then
 bif decide (a2 = (0 : Int)) then
 some ((0 : Int), true)
 else
 bif decide (a0 = (2 : Int)) then
 bif decide (a2 = (0 : Int)) then
 some (a1, true)
 else
 bif decide (a2 = a1) then
 some (a1, true)
 else
 bif decide (a0 = (3 : Int)) then
 bif decide (a2 = (0 : Int)) then
 some (a1, true)
 else
 bif decide (a0 = (3 : Int)) then
 some (a2, true)
 else
 some ((0 : Int), false)
 else
 bif decide (a0 = (3 : Int)) then
 some (a2, true)
 else
 some ((0 : Int), false)
 else
 bif decide (a0 = (3 : Int)) then
 bif decide (a2 = (0 : Int)) then
 some (a1, true)
 else
 bif decide (a0 = (3 : Int)) then
 some (a2, true)
 else
 some ((0 : Int), false)
 else
 bif decide (a0 = (3 : Int)) then
 some (a2, true)
 else
 some ((0 : Int), false)
 else
 bif decide (a0 = (2 : Int)) then
 bif decide (a2 = (0 : Int)) then
 some (a1, true)
 else
 bif decide (a2 = a1) then
 some (a1, true)
 else
 bif decide (a0 = (3 : Int)) then
 bif decide (a2 = (0 : Int)) then
 some (a1, true)
 else
 bif decide (a0 = (3 : Int)) then
 some (a2, true)
 else
 some ((0 : Int), false)
 else
 bif decide (a0 = (3 : Int)) then
 some (a2, true)
 else
 some ((0 : Int), false)
 else
 bif decide (a0 = (3 : Int)) then
 bif decide (a2 = (0 : Int)) then
 some (a1, true)
 else
 bif decide (a0 = (3 : Int)) then
 some (a2, true)
 else
 some ((0 : Int), false)
 else
 bif decide (a0 = (3 : Int)) then
 some (a2, true)
 else
 some ((0 : Int), false)
def m_ridgewayref02_Has (a0 : Prefix) (a1 : Prefix) : Option Bool :=
 bd (m_ridgewayref02_Sane a0) fun r1 =>
 bif r1 then
 bd (m_ridgewayref02_Sane a1) fun r2 =>
 bif r2 then
 bif decide (a1.N ≥ a0.N) then
 bd (m_ridgewayref02_Mask a1.A a0.N) fun r3 =>
 some (decide (r3 = a0.A))
 else
 some false
 else
 some false
 else
 some false
def s_ridgewayref10_has1 (a0 : (List Int)) (a1 : Int) (st1 : (Int)) (nx1 : (Int) → Option Bool) (bk1 : Unit → Option Bool) : Option Bool :=
 bif decide (st1 < (a0.length : Int)) then
 bd (ix a0 st1) fun y1 =>
 bif decide (y1 = a1) then
 some true
 else
 nx1 (IntKind.i64.wrap (st1 + (1 : Int)))
 else
 bk1 ()
def m_ridgewayref10_has (a0 : (List Int)) (a1 : Int) : Option Bool :=
 loopC (s_ridgewayref10_has1 a0 a1) (fun e1 =>
 some false) BIG (0 : Int)
def m_ridgewayref10_Fits (a0 : Rule) (a1 : View) : Option Bool :=
 bif decide (a0.Match = (0 : Int)) then
 some true
 else
 bif decide (a0.Match = (1 : Int)) then
 bd (m_ridgewayref02_Has a0.X a1.X) fun r1 =>
 some r1
 else
 bif decide (a0.Match = (2 : Int)) then
 bd (m_ridgewayref10_has a1.As a0.V) fun r2 =>
 some r2
 else
 bif decide (a0.Match = (3 : Int)) then
 some (decide ((a1.As.length : Int) > a0.V))
 else
 bif decide (a0.Match = (4 : Int)) then
 some (decide (a1.Class = a0.V))
 else
 some false
def s_ridgewayref10_Pick1 (a0 : (List Rule)) (a1 : View) (st1 : (Int)) (nx1 : (Int) → Option (Rule × Bool)) (bk1 : Unit → Option (Rule × Bool)) : Option (Rule × Bool) :=
 bif decide (st1 < (a0.length : Int)) then
 bd (ix a0 st1) fun y1 =>
 bd (m_ridgewayref10_Fits y1 a1) fun r2 =>
 bif r2 then
 bd (ix a0 st1) fun y3 =>
 some (y3, true)
 else
 nx1 (IntKind.i64.wrap (st1 + (1 : Int)))
 else
 bk1 ()
def m_ridgewayref10_Pick (a0 : (List Rule)) (a1 : View) : Option (Rule × Bool) :=
 loopC (s_ridgewayref10_Pick1 a0 a1) (fun e1 =>
 some ((Rule.mk (0 : Int) (Prefix.mk (0 : Int) (0 : Int)) (0 : Int) (0 : Int) (0 : Int)), false)) BIG (0 : Int)
def m_ridgewayref14_In (a0 : Conf) (a1 : Int) (a2 : Prefix) (a3 : Path) : Option (Route × Bool) :=
 bd (m_ridgewayref12_Sane a0) fun r1 =>
 bif (!r1) then
 some ((Route.mk (0 : Int) (Path.mk (0 : Int) ([]) (0 : Int) (0 : Int)) (0 : Int)), false)
 else
 bd (m_ridgewayref14_side a0 a1) fun r2 =>
 bif (!r2) then
 some ((Route.mk (0 : Int) (Path.mk (0 : Int) ([]) (0 : Int) (0 : Int)) (0 : Int)), false)
 else
 bd (m_ridgewayref02_Sane a2) fun r3 =>
 bif (!r3) then
 some ((Route.mk (0 : Int) (Path.mk (0 : Int) ([]) (0 : Int) (0 : Int)) (0 : Int)), false)
 else
 bd (m_ridgewayref07_Sane a3) fun r4 =>
 bif (!r4) then
 some ((Route.mk (0 : Int) (Path.mk (0 : Int) ([]) (0 : Int) (0 : Int)) (0 : Int)), false)
 else
 bd (ix a0.Sides a1) fun y5 =>
 bif decide ((a3.As.length : Int) = (0 : Int)) then
 some ((Route.mk (0 : Int) (Path.mk (0 : Int) ([]) (0 : Int) (0 : Int)) (0 : Int)), false)
 else
 bd (ix a3.As (0 : Int)) fun y6 =>
 bif decide (¬ y6 = y5.As) then
 some ((Route.mk (0 : Int) (Path.mk (0 : Int) ([]) (0 : Int) (0 : Int)) (0 : Int)), false)
 else
 bd (m_ridgewayref14_has a3.As a0.As) fun r7 =>
 bif r7 then
 some ((Route.mk (0 : Int) (Path.mk (0 : Int) ([]) (0 : Int) (0 : Int)) (0 : Int)), false)
 else
 bif decide ((a3.As.length : Int) > (32 : Int)) then
 some ((Route.mk (0 : Int) (Path.mk (0 : Int) ([]) (0 : Int) (0 : Int)) (0 : Int)), false)
 else
 bd (m_ridgewayref13_In y5.Rel y5.As a3.Otc) fun r8 =>
 bd (m_ridgewayref10_Pick y5.In (View.mk a2 a3.As y5.Rel)) fun r9 =>
 bif (!r8.2) then
 some ((Route.mk (0 : Int) (Path.mk (0 : Int) ([]) (0 : Int) (0 : Int)) (0 : Int)), false)
 else
 bif (!r9.2) then
 some ((Route.mk (0 : Int) (Path.mk (0 : Int) ([]) (0 : Int) (0 : Int)) (0 : Int)), false)
 else
 bif decide (¬ r9.1.Act = (2 : Int)) then
 some ((Route.mk (0 : Int) (Path.mk (0 : Int) ([]) (0 : Int) (0 : Int)) (0 : Int)), false)
 else
 some ((Route.mk r9.1.N (Path.mk a3.Origin a3.As a3.Hop r8.1) a1), true)
def m_ridgewayref14_Class (a0 : Conf) (a1 : Int) : Option Int :=
 bd (m_ridgewayref14_side a0 a1) fun r1 =>
 bif (!r1) then
 some (0 : Int)
 else
 bd (ix a0.Sides a1) fun y2 =>
 some y2.Rel
def m_ridgewayref09_Sane (a0 : Route) : Option Bool :=
 bd (m_ridgewayref07_Sane a0.P) fun r1 =>
 bif (!r1) then
 some false
 else
 bif decide ((a0.P.As.length : Int) > (32 : Int)) then
 some false
 else
 bif decide (a0.From = (-1 : Int)) then
 bif decide (a0.Pref = (400 : Int)) then
 bif decide ((a0.P.As.length : Int) = (0 : Int)) then
 bif decide (a0.P.Origin = (0 : Int)) then
 some (decide (a0.P.Otc = (0 : Int)))
 else
 some false
 else
 some false
 else
 some false
 else
 bif decide (a0.From ≥ (0 : Int)) then
 bif decide (a0.From ≤ (7 : Int)) then
 bif decide (a0.Pref ≥ (1 : Int)) then
 some (decide (a0.Pref ≤ (399 : Int)))
 else
 some false
 else
 some false
 else
 some false
def m_ridgewayref13_Out (a0 : Int) (a1 : Int) (a2 : Int) : Option (Int × Bool) :=
 bif decide (a0 = (1 : Int)) then
 bif decide (¬ a2 = (0 : Int)) then
 some (a2, true)
 else
 bif decide (a0 = (1 : Int)) then
 bif decide (a2 = (0 : Int)) then
 some (a1, true)
 else
 bif decide (a0 = (3 : Int)) then
 bif decide (a2 = (0 : Int)) then
 some ((0 : Int), true)
 else
 some ((0 : Int), false)
 else
 some ((0 : Int), false)
 else
 bif decide (a0 = (2 : Int)) then
 bif decide (a2 = (0 : Int)) then
 some (a1, true)
 else
 bif decide (a0 = (3 : Int)) then
 bif decide (a2 = (0 : Int)) then
 some ((0 : Int), true)
 else
 some ((0 : Int), false)
 else
 some ((0 : Int), false)
 else
 bif decide (a0 = (3 : Int)) then
 bif decide (a2 = (0 : Int)) then
 some ((0 : Int), true)
 else
 some ((0 : Int), false)
 else
 some ((0 : Int), false)
 else
 bif decide (a0 = (1 : Int)) then
 bif decide (a2 = (0 : Int)) then
 some (a1, true)
 else
 bif decide (a0 = (3 : Int)) then
 bif decide (a2 = (0 : Int)) then
 some ((0 : Int), true)
 else
 some ((0 : Int), false)
 else
 some ((0 : Int), false)
 else
 bif decide (a0 = (2 : Int)) then
 bif decide (a2 = (0 : Int)) then
 some (a1, true)
 else
 bif decide (a0 = (3 : Int)) then
 bif decide (a2 = (0 : Int)) then
 some ((0 : Int), true)
 else
 some ((0 : Int), false)
 else
 some ((0 : Int), false)
 else
 bif decide (a0 = (3 : Int)) then
 bif decide (a2 = (0 : Int)) then
 some ((0 : Int), true)
 else
 some ((0 : Int), false)
 else
 some ((0 : Int), false)
def s_ridgewayref14_Out1 (a0 : Conf) (r7 : (Rule × Bool)) (st1 : ((List Int) × Int)) (nx1 : ((List Int) × Int) → Option (Path × Bool)) (bk1 : ((List Int)) → Option (Path × Bool)) : Option (Path × Bool) :=
 bif decide (st1.2 < r7.1.N) then
 bd (ap 8 st1.1 ([a0.As])) fun y9 =>
 nx1 (y9, (IntKind.i64.wrap (st1.2 + (1 : Int))))
 else
 bk1 st1.1
def m_ridgewayref14_Out (a0 : Conf) (a1 : Int) (a2 : Prefix) (a3 : Route) : Option (Path × Bool) :=
 bd (m_ridgewayref12_Sane a0) fun r1 =>
 bif (!r1) then
 some ((Path.mk (0 : Int) ([]) (0 : Int) (0 : Int)), false)
 else
 bd (m_ridgewayref14_side a0 a1) fun r2 =>
 bif (!r2) then
 some ((Path.mk (0 : Int) ([]) (0 : Int) (0 : Int)), false)
 else
 bd (m_ridgewayref02_Sane a2) fun r3 =>
 bif (!r3) then
 some ((Path.mk (0 : Int) ([]) (0 : Int) (0 : Int)), false)
 else
 bd (m_ridgewayref09_Sane a3) fun r4 =>
 bif (!r4) then
 some ((Path.mk (0 : Int) ([]) (0 : Int) (0 : Int)), false)
 else
 bif decide (a3.From = a1) then
 some ((Path.mk (0 : Int) ([]) (0 : Int) (0 : Int)), false)
 else
 bif decide (a3.From ≥ (a0.Sides.length : Int)) then
 some ((Path.mk (0 : Int) ([]) (0 : Int) (0 : Int)), false)
 else
 bd (ix a0.Sides a1) fun y5 =>
 bd (m_ridgewayref14_Class a0 a3.From) fun r6 =>
 bd (m_ridgewayref10_Pick y5.Out (View.mk a2 a3.P.As r6)) fun r7 =>
 bd (m_ridgewayref13_Out y5.Rel a0.As a3.P.Otc) fun r8 =>
 bif (!r7.2) then
 some ((Path.mk (0 : Int) ([]) (0 : Int) (0 : Int)), false)
 else
 bif decide (r7.1.Act = (0 : Int)) then
 some ((Path.mk (0 : Int) ([]) (0 : Int) (0 : Int)), false)
 else
 bif (!r8.2) then
 some ((Path.mk (0 : Int) ([]) (0 : Int) (0 : Int)), false)
 else
 bif decide (r7.1.Act = (3 : Int)) then
 loopC (s_ridgewayref14_Out1 a0 r7) (fun e1 =>
 bd (ap 8 e1 a3.P.As) fun y10 =>
 bif decide ((y10.length : Int) > (32 : Int)) then
 some ((Path.mk (0 : Int) ([]) (0 : Int) (0 : Int)), false)
 else
 some ((Path.mk a3.P.Origin y10 a0.Id r8.1), true)) BIG ([a0.As], (0 : Int))
 else
 bd (ap 8 ([a0.As]) a3.P.As) fun y11 =>
 bif decide ((y11.length : Int) > (32 : Int)) then
 some ((Path.mk (0 : Int) ([]) (0 : Int) (0 : Int)), false)
 else
 some ((Path.mk a3.P.Origin y11 a0.Id r8.1), true)
def s_ridgewayref07_SamePath1 (a0 : Path) (a1 : Path) (st1 : (Int)) (nx1 : (Int) → Option Bool) (bk1 : Unit → Option Bool) : Option Bool :=
 bif decide (st1 < (a0.As.length : Int)) then
 bd (ix a0.As st1) fun y1 =>
 bd (ix a1.As st1) fun y2 =>
 bif decide (¬ y1 = y2) then
 some false
 else
 nx1 (IntKind.i64.wrap (st1 + (1 : Int)))
 else
 bk1 ()
def m_ridgewayref07_SamePath (a0 : Path) (a1 : Path) : Option Bool :=
 bif decide (¬ a0.Origin = a1.Origin) then
 some false
 else
 bif decide (¬ a0.Hop = a1.Hop) then
 some false
 else
 bif decide (¬ a0.Otc = a1.Otc) then
 some false
 else
 bif decide (¬ (a0.As.length : Int) = (a1.As.length : Int)) then
 some false
 else
 loopC (s_ridgewayref07_SamePath1 a0 a1) (fun e1 =>
 some true) BIG (0 : Int)
def m_ridgewayref09_Same (a0 : Route) (a1 : Route) : Option Bool :=
 bif decide (a0.Pref = a1.Pref) then
 bif decide (a0.From = a1.From) then
 bd (m_ridgewayref07_SamePath a0.P a1.P) fun r1 =>
 some r1
 else
 some false
 else
 some false
def m_ridgewaylaw14_EdgeIs (a0 : Conf) (a1 : Int) (a2 : Prefix) (a3 : Path) (a4 : Route) : Option Bool :=
 bd (m_ridgewaylaw14_awake) fun r1 =>
 bd (m_ridgewaylaw14_short a0 a3) fun r2 =>
 bif (!r2) then
 some r1
 else
 bd (m_ridgewaylaw14_short a0 a4.P) fun r3 =>
 bif (!r3) then
 some r1
 else
 bd (m_edge_In a0 a1 a2 a3) fun r4 =>
 bd (m_ridgewayref14_In a0 a1 a2 a3) fun r5 =>
 bd (m_edge_Out a0 a1 a2 a4) fun r6 =>
 bd (m_ridgewayref14_Out a0 a1 a2 a4) fun r7 =>
 bif r1 then
 bd (m_edge_Class a0 a1) fun r8 =>
 bd (m_ridgewayref14_Class a0 a1) fun r9 =>
 bif decide (r8 = r9) then
 bif (r4.2 == r5.2) then
 bd (m_ridgewayref09_Same r4.1 r5.1) fun r10 =>
 bif r10 then
 bif (r6.2 == r7.2) then
 bd (m_ridgewayref07_SamePath r6.1 r7.1) fun r11 =>
 some r11
 else
 some false
 else
 some false
 else
 some false
 else
 some false
 else
 some false
theorem encs : type_of% (And.intro @enc_Path (And.intro @sz_Path (And.intro @enc_Prefix (And.intro @sz_Prefix (And.intro @enc_Rule (And.intro @sz_Rule (And.intro @enc_Side (And.intro @sz_Side (And.intro @enc_Conf (And.intro @sz_Conf (And.intro @enc_View (And.intro @sz_View (And.intro @enc_Route @sz_Route))))))))))))) := (And.intro @enc_Path (And.intro @sz_Path (And.intro @enc_Prefix (And.intro @sz_Prefix (And.intro @enc_Rule (And.intro @sz_Rule (And.intro @enc_Side (And.intro @sz_Side (And.intro @enc_Conf (And.intro @sz_Conf (And.intro @enc_View (And.intro @sz_View (And.intro @enc_Route @sz_Route)))))))))))))
end Go.Proofs.Ytkdodhkiemfpeab
