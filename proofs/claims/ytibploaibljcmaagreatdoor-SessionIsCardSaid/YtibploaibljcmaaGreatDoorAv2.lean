import Derived.Test.YtibploaibljcmaaGreatDoorAv1
import Derived.Laws.StructEq
namespace Go.Proofs.YtibploaibljcmaaGreatDoor
open Go.RowKit
set_option linter.unusedVariables false
set_option linter.unusedSimpArgs false
inductive AX where
 | tmp (t : Nat)
 | val (a : AV)
inductive KeyK where
 | sc (k : Nat)
 | ag (n : Nat) (L : List (Nat × Nat))
inductive PK where
 | mkMap (t : TypeId)
 | mapGet (K : KeyK) (zero : AV) (ok : Bool)
 | mapSet (K : KeyK)
 | mapDel (K : KeyK)
 | mapLen
 | mkSl (e : TypeId) (sz bytes : Nat) (zero : List AV)
 | copy (sz : Nat)
inductive AOp where
 | mv (x : AX)
 | pick (c a b : AX)
 | box (T : TypeId) (n : Nat) (x : AX)
 | ld (n : Option Nat) (x : AX)
 | st (n : Nat) (a x : AX)
 | off (k : Nat) (x : AX)
 | idxA (sz : Nat) (x i : AX)
 | idxS (x i : AX)
 | bin (op : BinOp) (x y : AX)
 | eqB (neg : Bool) (x y : AX)
 | un (op : UnOp) (x : AX)
 | conv (k : IntKind) (x : AX)
 | slc (sz : Nat) (x : AX) (lo hi mx : Option AX)
 | slcS (x : AX) (lo hi : Option AX)
 | ext (x : AX) (i : Nat)
 | len (x : AX)
 | lenS (x : AX)
 | app (e : TypeId) (sz bytes : Nat) (x y : AX)
 | call (f : FuncId) (args : List AX)
 | callv (x : AX) (args : List AX)
 | mkfn (f : FuncId) (bs : List AX)
 | mkclo (f : FuncId) (cs : List AX)
 | mkif (t : TypeId) (x : AX)
 | tas (t : TypeId) (zero : AV) (ok : Bool) (x : AX)
 | isNil (neg : Bool) (x : AX)
 | nilc (x : AX)
 | callS (f : FuncId) (args : List AX)
 | callvS (x : AX) (args : List AX)
 | chk (cs : List (Option Nat × AX × Nat))
 | lit (e : TypeId) (sz : Nat) (ks : List Nat) (parts : List AX)
 | bld (zero : List AV) (parts : List (Nat × Nat × AX))
 | mx (x y : AX)
 | mn (x y : AX)
 | eqA (neg : Bool) (n : Nat) (L : List (Nat × Nat)) (x y : AX)
 | prt (n : Option Nat) (len mul off : Nat) (x i : AX)
 | b2s (x : AX)
 | s2b (e : TypeId) (x : AX)
 | prim (k : PK) (xs : List AX)
 | bad
def scalarOf : Value → Option AV
 | .bool b => some (.bool b)
 | .int k n => some (.int k n)
 | .string s => some (.str s)
 | .slice none 0 0 => some (.slice .full 0 [])
 | .nilFunc => some .nilFn
 | .nilIface => some .nilIface
 | .pointer none => some .und
 | _ => none
def avOf : Value → Option AV
 | .agg cs => (cs.toList.mapM scalarOf).map .agg
 | v => scalarOf v
def gamAX (g : Nat) : Option AX := (gam g).bind fun vs => (vs.mapM scalarOf).map fun cs => .val (.cptr [.agg cs] 0 0)
def axOf : Operand → Option AX
 | .tmp t => some (.tmp t)
 | .const v => (avOf v).map .val
 | .func f => some (.val (.fn f []))
 | .global g => gamAX g
def aggD : TypeDesc → Bool
 | .struct _ => true
 | .array _ _ => true
 | _ => false
def isAggT (P : Program) (t : TypeId) : Option Bool := (P.underlying t).map aggD
def aggSize (P : Program) (t : TypeId) : Option (Option Nat) :=
 match isAggT P t, P.info? t with
 | some true, some i => some (some i.size)
 | some false, some _ => some none
 | _, _ => none
def axsOf (xs : Array Operand) : Option (List AX) := xs.toList.mapM axOf
def axo : Option Operand → Option (Option AX)
 | none => some none
 | some x => (axOf x).map some
def partOf (places : List (Nat × Nat)) (p : Nat × Operand) : Option (Nat × Nat × AX) :=
 match places[p.1]?, axOf p.2 with
 | some q, some a => some (q.1, q.2, a)
 | _, _ => none
def leavesF (P : Program) (sz base : Nat) (go : TypeId → Nat → Option (List (Nat × Nat))) : List Field → Option (List (Nat × Nat))
 | [] => some []
 | f :: fs =>
   match P.info? f.type with
   | some fi =>
     if f.name ≠ "_" ∧ f.offset + fi.size ≤ sz ∧ fi.size ≠ 0 then
       match go f.type (base + f.offset), leavesF P sz base go fs with
       | some L, some L' => some (L ++ L')
       | _, _ => none
     else none
   | none => none
def leaves (P : Program) : Nat → TypeId → Nat → Option (List (Nat × Nat))
 | 0, _, _ => none
 | d + 1, t, base =>
   match P.underlying t with
   | some (.struct fs) =>
     match P.info? t with
     | some i => if P.stoodInHeld t then none else leavesF P i.size base (leaves P d) fs.toList
     | none => none
   | some (.int _) => some [(base, 0)]
   | some .bool => some [(base, 1)]
   | some .string => some [(base, 2)]
   | _ => none
def prepCall (P : Program) (c : Call) : Option AOp :=
 match c.callee with
 | .builtin b =>
   match b, c.args.toList, c.argTypes.toList with
   | .len, [x], [t] =>
     match P.underlying t with
     | some (.slice _) => (axOf x).map .len
     | some .string => (axOf x).map .lenS
     | _ => none
   | .append, [x, y], [t, t'] =>
     match P.underlying t with
     | some (.slice e) => do
       let i ← P.info? e
       let z ← i.zero
       if t = t' ∧ z.cells.size = i.size ∧ i.size ≠ 0 then return .app e i.size i.bytes (← axOf x) (← axOf y) else none
     | _ => none
   | .max, [x, y], _ => do return .mx (← axOf x) (← axOf y)
   | .min, [x, y], _ => do return .mn (← axOf x) (← axOf y)
   | _, _, _ => none
 | .value (.func f) => do
   let fn ← P.funcs[f]?
   if fn.body.isSome ∧ fn.name ≠ "runtime.NumGoroutine" then return .call f (← c.args.toList.mapM axOf) else none
 | .value (.tmp t) => do return .callv (.tmp t) (← c.args.toList.mapM axOf)
 | _ => none
def kindsF (P : Program) (go : TypeId → List Nat) : List Field → List Nat
 | [] => []
 | f :: fs => go f.type ++ kindsF P go fs
def cellKinds (P : Program) : Nat → TypeId → List Nat
 | 0, _ => []
 | d + 1, t =>
   match P.underlying t with
   | some (.struct fs) => kindsF P (cellKinds P d) fs.toList
   | some (.slice e) => [((P.info? e).map (·.size)).getD 0]
   | some (.array n e) => (List.replicate n (cellKinds P d e)).flatten
   | _ => [0]
def prep (P : Program) (o : Oper) : Option AOp :=
 match o.op with
 | .move x | .assign x => (axOf x).map .mv
 | .pick c a b => do return .pick (← axOf c) (← axOf a) (← axOf b)
 | .alloc T => do
   let i ← P.info? T
   let z ← i.zero
   let a ← avOf z
   if z.cells.size = i.size then some (.box T i.size (.val a)) else none
 | .box T x => do
   let i ← P.info? T
   return .box T i.size (← axOf x)
 | .load t a => do return .ld (← aggSize P t) (← axOf a)
 | .store t a x => do
   let i ← P.info? t
   return .st i.size (← axOf a) (← axOf x)
 | .fieldAddr s x f =>
   match P.underlying s with
   | some (.struct fs) =>
     match fs[f]? with
     | some fd => do
       let i ← P.info? fd.type
       if i.size = 0 then none else some (.off fd.offset (← axOf x))
     | none => none
   | _ => none
 | .indexAddr t x ix =>
   match P.underlying t with
   | some (.slice e) => do
     let i ← P.info? e
     if i.size = 0 then none else some (.idxA i.size (← axOf x) (← axOf ix))
   | some (.array n e) =>
     match ix with
     | .const (.int _ j) => do
       let i ← P.info? e
       if 0 ≤ j ∧ j < n then some (.off (j.toNat * i.size) (← axOf x)) else none
     | _ => none
   | _ => none
 | .index t x ix =>
   match P.underlying t with
   | some .string => do return .idxS (← axOf x) (← axOf ix)
   | some (.array n e) => do
     let i ← P.info? e
     return .prt (← aggSize P e) n i.size 0 (← axOf x) (← axOf ix)
   | _ => none
 | .binOp op t x y _ =>
   match P.underlying t with
   | some (.int _) | some .string => do return .bin op (← axOf x) (← axOf y)
   | some .bool =>
     match op with
     | .eql => do return .eqB false (← axOf x) (← axOf y)
     | .neq => do return .eqB true (← axOf x) (← axOf y)
     | _ => none
   | some (.struct _) =>
     match P.info? t, leaves P 8 t 0, P.eqGuardType P.depth t, op with
     | some i, some L, false, .eql => do return .eqA false i.size L (← axOf x) (← axOf y)
     | some i, some L, false, .neq => do return .eqA true i.size L (← axOf x) (← axOf y)
     | _, _, _, _ => none
   | some (.interface _) =>
     match op, x, y with
     | .eql, x, .const .nilIface => (axOf x).map (.isNil false)
     | .neq, x, .const .nilIface => (axOf x).map (.isNil true)
     | _, _, _ => none
   | _ => none
 | .unOp op _ x => do return .un op (← axOf x)
 | .convert s d x =>
   match P.underlying s, P.underlying d with
   | some (.int _), some (.int k) => do return .conv k (← axOf x)
   | some (.slice e), some .string =>
     match P.underlying e with
     | some (.int .u8) => (axOf x).map .b2s
     | _ => none
   | some .string, some (.slice e) =>
     match P.underlying e with
     | some (.int .u8) => (axOf x).map (.s2b e)
     | _ => none
   | _, _ => none
 | .slice t x lo hi mx =>
   match P.underlying t with
   | some (.slice e) => do
     let i ← P.info? e
     if mx.isSome && hi.isNone then none else return .slc i.size (← axOf x) (← axo lo) (← axo hi) (← axo mx)
   | some .string => do
     if mx.isSome then none else return .slcS (← axOf x) (← axo lo) (← axo hi)
   | _ => none
 | .extract t i => do return .ext (← axOf t) i
 | .makeFunc (.func f) first captured => if captured.size = 0 then (axsOf first).map (.mkfn f) else if first.size = 0 then (axsOf captured).map (.mkclo f) else none
 | .buildSlice t n parts =>
   match P.underlying t with
   | some (.slice e) => do
     let i ← P.info? e
     let z ← i.zero
     if parts.toList.map (·.1) = List.range n ∧ i.size ≠ 0 ∧ n * i.size ≤ 16777216 ∧ z.cells.size = i.size then
       return .lit e i.size (cellKinds P 8 e) (← (parts.toList.map (·.2)).mapM axOf)
     else none
   | _ => none
 | .build t parts =>
   match P.underlying t with
   | some (.struct fs) => do
     let z ← (← P.info? t).zero
     let .agg za ← avOf z | none
     let places ← fs.toList.mapM fun f => (P.info? f.type).map fun i => (f.offset, i.size)
     let ps ← parts.toList.mapM (partOf places)
     return .bld za ps
   | some (.array n e) => do
     let i ← P.info? e
     let z ← (← P.info? t).zero
     let .agg za ← avOf z | none
     let ps ← parts.toList.mapM (partOf ((List.range n).map fun j => (j * i.size, i.size)))
     return .bld za ps
   | _ => none
 | .call c => prepCall P c
 | .makeInterface t x =>
   match P.underlying t with
   | some (.interface _) => none
   | some _ => (axOf x).map (.mkif t)
   | none => none
 | .typeAssert x _ t ok =>
   match P.underlying t with
   | some (.interface _) => none
   | some _ => do
     let z ← (← P.info? t).zero
     return .tas t (← avOf z) ok (← axOf x)
   | none => none
 | .nilCheck x => (axOf x).map .nilc
 | .field t x f =>
   match P.underlying t with
   | some (.struct fs) =>
     match fs[f]? with
     | some fd => do return .prt (← aggSize P fd.type) 1 0 fd.offset (← axOf x) (.val (.int .i64 0))
     | none => none
   | _ => none
 | _ => none
def cellsOf : AV → Option (List AV)
 | .agg cs => some cs
 | .tup _ => none
 | .und => none
 | .nov => none
 | a => some [a]
def ldAt (n : Option Nat) (cs : List AV) (off : Nat) : Option AV :=
 match n with
 | none => cs[off]?
 | some k => if off + k ≤ cs.length then some (.agg ((cs.drop off).take k)) else none
def intBin (op : BinOp) (k : IntKind) (a b : Int) : Option AV :=
 match op with
 | .add => some (.int k (k.wrap (a + b)))
 | .sub => some (.int k (k.wrap (a - b)))
 | .mul => some (.int k (k.wrap (a * b)))
 | .quo => if b = 0 then none else some (.int k (k.wrap (a.tdiv b)))
 | .rem => if b = 0 then none else some (.int k (a.tmod b))
 | .and => some (.int k (k.wrap (BitVec.ofInt k.bits a &&& BitVec.ofInt k.bits b).toNat))
 | .or => some (.int k (k.wrap (BitVec.ofInt k.bits a ||| BitVec.ofInt k.bits b).toNat))
 | .xor => some (.int k (k.wrap (BitVec.ofInt k.bits a ^^^ BitVec.ofInt k.bits b).toNat))
 | .andNot => some (.int k (k.wrap (BitVec.ofInt k.bits a &&& ~~~ BitVec.ofInt k.bits b).toNat))
 | .eql => some (.bool (a == b))
 | .neq => some (.bool (a != b))
 | .lss => some (.bool (a < b))
 | .leq => some (.bool (a ≤ b))
 | .gtr => some (.bool (a > b))
 | .geq => some (.bool (a ≥ b))
 | _ => none
def strBin (op : BinOp) (a b : ByteArray) : Option AV :=
 match op with
 | .add => if ((a.size + b.size : Nat) : Int) ≤ IntKind.i64.max then some (.str (a ++ b)) else none
 | .eql => some (.bool (a.toList == b.toList))
 | .neq => some (.bool (!(a.toList == b.toList)))
 | .lss => some (.bool (Op.bytesLess a.toList b.toList))
 | .leq => some (.bool (Op.bytesLess a.toList b.toList || a.toList == b.toList))
 | .gtr => some (.bool (!(Op.bytesLess a.toList b.toList || a.toList == b.toList)))
 | .geq => some (.bool (!Op.bytesLess a.toList b.toList))
 | _ => none
def binAV (op : BinOp) (x y : AV) : Option AV :=
 match x, y with
 | .int k a, .int k' b =>
   match op with
   | .shl => if b < 0 then none else some (.int k (k.wrap (a * 2 ^ (min b.toNat k.bits))))
   | .shr => if b < 0 then none else some (.int k (a.fdiv (2 ^ (min b.toNat k.bits))))
   | _ => if k = k' then intBin op k a b else none
 | .str a, .str b => strBin op a b
 | _, _ => none
def unAV (op : UnOp) (x : AV) : Option AV :=
 match op, x with
 | .neg, .int k n => some (.int k (k.wrap (0 - n)))
 | .xor, .int k n => some (.int k (k.wrap (BitVec.ofInt k.bits (if k.signed then -1 else k.max) ^^^ BitVec.ofInt k.bits n).toNat))
 | .not, .bool b => some (.bool !b)
 | _, _ => none
def asNat : AV → Option Nat
 | .int _ n => if 0 ≤ n then some n.toNat else none
 | _ => none
def asNatO (d : Nat) : Option AV → Option Nat
 | none => some d
 | some a => asNat a
def cutAV (sz : Nat) (x : AV) (lo hi mx : Option AV) : Option AV :=
 match x with
 | .slice t sz' xs =>
   match asNatO 0 lo, asNatO xs.length hi with
   | some l, some h =>
     if (sz' = sz ∨ xs.length = 0) ∧ l ≤ h ∧ h ≤ xs.length then
       match mx with
       | none => some (.slice (match t, hi with | .full, none => .full | _, _ => .imm) sz ((xs.take h).drop l))
       | some m =>
         match asNat m with
         | some m => if h ≤ m ∧ m ≤ xs.length then some (.slice (if m = h then .full else .imm) sz ((xs.take h).drop l)) else none
         | none => none
     else none
   | _, _ => none
 | .bsl l off n sz' q =>
   match asNatO 0 lo, asNatO n hi with
   | some a, some b => if sz' = sz ∧ a < b ∧ b ≤ n ∧ mx.isNone = true then some (.bsl l (off + a) (b - a) sz (q - a)) else none
   | _, _ => none
 | _ => none
def cutStr (x : AV) (lo hi : Option AV) : Option AV :=
 match x with
 | .str s =>
   match asNatO 0 lo, asNatO s.size hi with
   | some l, some h => if l ≤ h ∧ h ≤ s.size then some (.str (s.extract l h)) else none
   | _, _ => none
 | _ => none
def imm0 : AV → AV
 | .slice (.app _) sz xs => .slice .imm sz xs
 | a => a
def imm1 : AV → AV
 | .agg cs => .agg (cs.map imm0)
 | a => imm0 a
def can1 (k : Nat) : AV → AV
 | .slice t sz xs => if k ≠ 0 ∧ (sz = k ∨ xs.length = 0) then .slice .imm k xs else .slice t sz xs
 | a => a
def canC : List Nat → List AV → List AV
 | k :: ks, a :: as => can1 k a :: canC ks as
 | _, as => as
def canA (ks : List Nat) : AV → AV
 | .agg cs => .agg (canC ks cs)
 | a => can1 (ks.headD 0) a
def putCells (cs : List AV) (off : Nat) (ds : List AV) : List AV := cs.take off ++ ds ++ cs.drop (off + ds.length)
def bldAV (ν : AX → AV) (cs : List AV) : List (Nat × Nat × AX) → Option (List AV)
 | [] => some cs
 | (off, sz, x) :: r =>
   match cellsOf (ν x) with
   | some ds => if ds.length = sz ∧ off + sz ≤ cs.length then bldAV ν (putCells cs off ds) r else none
   | none => none
def eqS : Nat → AV → AV → Option Bool
 | 0, .int k a, .int k' b => if k = k' then some (a == b) else none
 | 1, .bool a, .bool b => some (a == b)
 | 2, .str a, .str b => some (a.toList == b.toList)
 | _, _, _ => none
def eqL (xs ys : List AV) : List (Nat × Nat) → Option Bool
 | [] => some true
 | o :: L =>
   match xs[o.1]?, ys[o.1]? with
   | some a, some b =>
     match eqS o.2 a b with
     | some r => (eqL xs ys L).map fun q => r && q
     | none => none
   | _, _ => none
def bA (b : UInt8) : AV := .int .u8 (b.toNat : Int)
def bytesOf : List AV → Option (List UInt8)
 | [] => some []
 | .int .u8 n :: r => if 0 ≤ n ∧ n < 256 then (bytesOf r).map fun l => UInt8.ofNat n.toNat :: l else none
 | _ => none
theorem bytesOf_map : ∀ l : List UInt8, bytesOf (l.map bA) = some l
 | [] => rfl
 | b :: l => by
   have h : (b.toNat : Int) < 256 := by have := b.toNat_lt; omega
   simp [bytesOf, bA, bytesOf_map l, h]
def qop (ν : AX → AV) (σ : Nat → Option (TypeId × List AV)) (nl : Nat) : AOp → Option (AV × Option (TypeId × List AV))
 | .mv x => some (ν x, none)
 | .pick c a b => match ν c with
   | .bool t => some (if t then ν a else ν b, none)
   | _ => none
 | .box T n x => match cellsOf (ν x) with
   | some cs => if cs.length = n ∧ T < 1099511627776 then some (.ptr nl 0, some (T, cs)) else none
   | none => none
 | .ld n x => match ν x with
   | .ptr l off => match σ l with
     | some (T, cs) => if T < 1099511627776 then (ldAt n cs off).map fun a => (a, none) else none
     | none => none
   | .cptr xs i off => match xs[i]? with
     | some x => match cellsOf x with
       | some cs => (ldAt n cs off).map fun a => (a, none)
       | none => none
     | none => none
   | _ => none
 | .off k x => match ν x with
   | .ptr l off => some (.ptr l (off + k), none)
   | .cptr xs i off => some (.cptr xs i (off + k), none)
   | _ => none
 | .idxA sz x i => match ν x, ν i with
   | .slice _ sz' xs, .int _ n => if sz' = sz ∧ 0 ≤ n then (xs[n.toNat]?).map fun a => (.cptr [a] 0 0, none) else none
   | .bsl l off m sz' _, .int _ n => if sz' = sz ∧ 0 ≤ n ∧ n < m then some (.ptr l ((off + n.toNat) * sz), none) else none
   | _, _ => none
 | .idxS x i => match ν x, ν i with
   | .str s, .int _ n => if h : 0 ≤ n ∧ n < s.size then some (.int .u8 (s[n.toNat]'(by omega)).toNat, none) else none
   | _, _ => none
 | .bin op x y => (binAV op (ν x) (ν y)).map fun a => (a, none)
 | .eqB neg x y => match ν x, ν y with
   | .bool a, .bool b => some (.bool (if neg then !(a == b) else (a == b)), none)
   | _, _ => none
 | .un op x => (unAV op (ν x)).map fun a => (a, none)
 | .conv k x => match ν x with
   | .int _ n => some (.int k (k.wrap n), none)
   | _ => none
 | .slc sz x lo hi mx => (cutAV sz (ν x) (lo.map ν) (hi.map ν) (mx.map ν)).map fun a => (a, none)
 | .slcS x lo hi => (cutStr (ν x) (lo.map ν) (hi.map ν)).map fun a => (a, none)
 | .ext x i => match ν x with
   | .tup vs => (vs[i]?).map fun a => (a, none)
   | _ => none
 | .len x => match ν x with
   | .slice _ _ xs => some (.int .i64 xs.length, none)
   | .bsl _ _ n _ _ => some (.int .i64 n, none)
   | _ => none
 | .lenS x => match ν x with
   | .str s => some (.int .i64 s.size, none)
   | _ => none
 | .mkfn f bs => some (.fn f (bs.map fun x => imm1 (ν x)), none)
 | .mkclo f cs => some (.clo f (cs.map fun x => imm1 (ν x)), none)
 | .mkif t x => some (.iface t (imm1 (ν x)), none)
 | .tas t z ok x => match ν x with
   | .iface t' a => if t' = t then some (if ok then .tup [a, .bool true] else a, none) else if ok then some (.tup [z, .bool false], none) else none
   | .nilIface => if ok then some (.tup [z, .bool false], none) else none
   | _ => none
 | .isNil neg x => match ν x with
   | .iface _ _ => some (.bool neg, none)
   | .nilIface => some (.bool (!neg), none)
   | _ => none
 | .nilc x => match ν x with
   | .ptr l off => some (.ptr l off, none)
   | .cptr xs i off => some (.cptr xs i off, none)
   | .fn f bs => some (.fn f bs, none)
   | .clo f cs => some (.clo f cs, none)
   | .iface t a => some (.iface t a, none)
   | _ => none
 | .lit e sz ks parts =>
   if parts.all fun x => ((cellsOf (ν x)).map List.length == some sz) then some (.slice .full sz (parts.map fun x => canA ks (imm1 (ν x))), none) else none
 | .bld zero parts => (bldAV ν zero parts).map fun cs => (.agg cs, none)
 | .mx x y => match ν x, ν y with
   | .int k a, .int k' b => some (.int k (if b > a then b else a), none)
   | _, _ => none
 | .mn x y => match ν x, ν y with
   | .int k a, .int k' b => some (.int k (if b < a then b else a), none)
   | _, _ => none
 | .eqA neg n L x y => match ν x, ν y with
   | .agg xs, .agg ys => if xs.length = n ∧ ys.length = n then (eqL xs ys L).map fun r => (.bool (if neg then !r else r), none) else none
   | _, _ => none
 | .prt n len mul off x i => match ν x, ν i with
   | .agg cs, .int _ j => if 0 ≤ j ∧ j < len then (ldAt n cs (j.toNat * mul + off)).map fun a => (a, none) else none
   | _, _ => none
 | .b2s x => match ν x with
   | .slice _ sz xs => if sz = 1 ∨ xs.length = 0 then (bytesOf xs).map fun l => (.str ⟨l.toArray⟩, none) else none
   | _ => none
 | .s2b e x => match ν x with
   | .str s => if s.size ≤ 1000000 then some (.slice .imm 1 (s.data.toList.map bA), none) else none
   | _ => none
 | _ => none
end Go.Proofs.YtibploaibljcmaaGreatDoor
