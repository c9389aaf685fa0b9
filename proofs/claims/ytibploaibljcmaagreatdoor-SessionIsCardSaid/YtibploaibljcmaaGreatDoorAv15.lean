import Derived.Test.YtibploaibljcmaaGreatDoorAv14
namespace Go.Proofs.YtibploaibljcmaaGreatDoor
open Go.RowKit
set_option linter.unusedVariables false
set_option linter.unusedSimpArgs false
theorem ok_app {m b k sz : Nat} {xs : List AV} (h : k < m) (hp : purL xs = true) : okB m b (.slice (.app k) sz xs) = true := by
 simp only [okB, Bool.and_eq_true, decide_eq_true_eq]
 exact ⟨h, okBL_pur hp⟩
theorem wrap64 {x : Int} (h1 : -9223372036854775808 ≤ x) (h2 : x ≤ 9223372036854775807) : IntKind.i64.wrap x = x := by
 rw [IntKind.wrap_i64]
 omega
theorem wk_of {s t : St} (m : Nat) (nt : List (TypeId × Nat)) (hfr : t.fr = s.fr.take m ++ nt) (hm : m ≤ s.fr.length) (hn : s.n = t.n) (hp : s.p = t.p) (hpb : s.p.1 ≤ t.box.length ∧ s.p.2 ≤ m) (hT : WkT m t.box.length t.fr s.tm t.tm) (hB : WkB m t.box.length t.fr s.box t.box) : Wk s t :=
 ⟨hn, ⟨hp, hpb.1⟩, m, nt, hfr, hm, hpb.2, hT, hB⟩
def iA (x : Int) : AV := .int .i64 x
theorem act_le {P : Program} {f : FuncId} {as bs : List AV} {r : AV} {rfr : List (TypeId × Nat)} (h : ACt P f bs r rfr) (hl : LeL as bs) : ACt P f as r rfr :=
 ⟨h.1, fun w κ args hk hargs => h.2 w κ args hk (leL_reps hl hargs)⟩
theorem retLt {res : List RV} {as bs : List AV} {b1 b2 : AV} {e : Exit} {s : St} (he : e = .normal ∨ e = .ret) (h : resL s res = some as) (hL : RetL s.fr [] as (b1 :: b2 :: bs)) : RetOk res (.tup (b1 :: b2 :: bs)) [] e s :=
 ⟨by rcases he with rfl | rfl <;> trivial, as, _, [], h, hL, rfl, List.nodup_nil, rfl⟩
theorem retL1 {res : List RV} {as : List AV} {b : AV} {e : Exit} {s : St} (he : e = .normal ∨ e = .ret) (h : resL s res = some as) (hL : RetL s.fr [] as [b]) : RetOk res b [] e s :=
 ⟨by rcases he with rfl | rfl <;> trivial, as, _, [], h, hL, rfl, List.nodup_nil, rfl⟩
theorem ret_app {t j sz n : Nat} {ty : TypeId} {xs : List AV} {e : Exit} {s : St} (h : getT s.tm t = .slice (.app j) sz xs) (hf : s.fr[j]? = some (ty, n)) (hp : purL xs = true) (he : e = .normal ∨ e = .ret := by first | exact .inr rfl | exact .inl rfl) : RetOk [.tmp t] (.slice (.app 0) sz xs) [(ty, n)] e s :=
 ⟨by rcases he with rfl | rfl <;> trivial, [_], [_], [j], rfl, ⟨by rw [show s.get t = _ from h]; exact .app j 0 sz xs hp rfl (List.getElem?_eq_some_iff.1 hf).1, trivial⟩, rfl, by simp, by simp [hf]⟩
def AL (P : Program) (x : AC) (K : Exit → St → Prop) (s : St) : Prop :=
 ∀ (X : Cx) (c1 : Code), X.P = P → prepCode P c1 = some x → ∀ (a : Act) (w : World) (M : Mem), StR X s a w M → ∀ b k cs, ∃ e a' w', Post X K e a' w' ∧ Arrives P (lone (b.at a (.code c1 :: .inLoop c1 :: k)) cs w) b k cs e a' w'
def KUnr (P : Program) (x : AC) (K : Exit → St → Prop) (e : Exit) (t : St) : Prop :=
 match e with
 | .normal => AL P x K t
 | e => K e t
theorem bits_i64 : IntKind.i64.bits = 64 := rfl
theorem bits_u8 : IntKind.u8.bits = 8 := rfl
theorem bits_u64 : IntKind.u64.bits = 64 := rfl
def KSeq (P : Program) (y : AC) (K : Exit → St → Prop) (e : Exit) (t : St) : Prop :=
 match e with
 | .normal => AW P y K t
 | e => K e t
def KBlock (id : Nat) (K : Exit → St → Prop) (e : Exit) (t : St) : Prop :=
 match e with
 | .exit i => if i = id then K .normal t else K (.exit i) t
 | e => K e t
def KLoop {ι : Type} (R : ι → Prop) (pat : ι → St) (μ : ι → Nat) (i : ι) (K : Exit → St → Prop) (e : Exit) (t : St) : Prop :=
 match e with
 | .normal => ∃ j, R j ∧ Wk t (pat j) ∧ μ j < μ i
 | e => K e t
section
variable {P : Program} {K : Exit → St → Prop} {s t : St}
theorem kseq_normal {y : AC} : KSeq P y K .normal t = AW P y K t := rfl
theorem kseq_ret {y : AC} : KSeq P y K .ret t = K .ret t := rfl
theorem kseq_exit {y : AC} {i : Nat} : KSeq P y K (.exit i) t = K (.exit i) t := rfl
theorem kblock_normal {id : Nat} : KBlock id K .normal t = K .normal t := rfl
theorem kblock_ret {id : Nat} : KBlock id K .ret t = K .ret t := rfl
theorem kblock_exit {id i : Nat} : KBlock id K (.exit i) t = if i = id then K .normal t else K (.exit i) t := rfl
theorem kloop_normal {ι : Type} {R : ι → Prop} {pat : ι → St} {μ : ι → Nat} {i : ι} : KLoop R pat μ i K .normal t = ∃ j, R j ∧ Wk t (pat j) ∧ μ j < μ i := rfl
theorem kloop_ret {ι : Type} {R : ι → Prop} {pat : ι → St} {μ : ι → Nat} {i : ι} : KLoop R pat μ i K .ret t = K .ret t := rfl
theorem kloop_exit {ι : Type} {R : ι → Prop} {pat : ι → St} {μ : ι → Nat} {i : ι} {j : Nat} : KLoop R pat μ i K (.exit j) t = K (.exit j) t := rfl
theorem w_seq {x y : AC} (h : AW P x (KSeq P y K) s) : AW P (.seq x y) K s := aw_seq h
def KScope (K : Exit → St → Prop) (e : Exit) (t : St) : Prop :=
 match e with
 | .goto _ => False
 | e => K e t
theorem w_scope {x : AC} (h : AW P x (KScope K) s) : AW P (.scope x) K s := aw_scope h
theorem kn7 (h : K .normal t) : KScope K .normal t := h
theorem kr7 (h : K .ret t) : KScope K .ret t := h
theorem ke7 {i : Nat} (h : K (.exit i) t) : KScope K (.exit i) t := h
theorem w_block {id : Nat} {x : AC} (h : AW P x (KBlock id K) s) : AW P (.block id x) K s := aw_block h
end
section
variable {P : Program} {K : Exit → St → Prop} {s t : St} {y : AC}
theorem kn1 (h : AW P y K t) : KSeq P y K .normal t := h
theorem kr1 (h : K .ret t) : KSeq P y K .ret t := h
theorem ke1 {i : Nat} (h : K (.exit i) t) : KSeq P y K (.exit i) t := h
theorem kn2 {id : Nat} (h : K .normal t) : KBlock id K .normal t := h
theorem kr2 {id : Nat} (h : K .ret t) : KBlock id K .ret t := h
theorem kx2 {id : Nat} (h : K .normal t) : KBlock id K (.exit id) t := by
 show if id = id then _ else _
 rw [if_pos rfl]; exact h
theorem ke2 {id i : Nat} (hn : Nat.beq i id = false) (h : K (.exit i) t) : KBlock id K (.exit i) t := by
 show if i = id then _ else _
 rw [if_neg (fun e => by subst e; simp at hn)]; exact h
theorem aw_regk {aos : List AO} (h : ∀ κ : St → Prop, (∀ t, κ t = K .normal t) → RStep P aos s κ) : AW P (.reg aos) K s := aw_reg (h _ fun _ => rfl)
end
section
variable {P : Program} {s : St} {o : AO} {l : List AO} {K : St → Prop} {dst : Option Nat}
def GC (P : Program) (s : St) (o : AO) (l : List AO) (K : St → Prop) : Prop := GStep P s o fun s' => RStep P l s' K
def OC (P : Program) (s : St) (ao : AOp) (dst : Option Nat) (l : List AO) (K : St → Prop) : Prop := OStep P s ao dst fun s' => RStep P l s' K
def CallC (P : Program) (s : St) (f : FuncId) (as : List AV) (dst : Option Nat) (l : List AO) (K : St → Prop) : Prop := CallStep P s f as fun u => RStep P l (s.next dst u) K
def GkC (v : AV) (b : Bool) (P : Program) (s : St) (ao : AOp) (dst : Option Nat) (l : List AO) (K : St → Prop) : Prop := Gk v b (OStep P s ao dst fun s' => RStep P l s' K) (RStep P l (s.next dst skipOut) K)
def SkC (r : Option St) (P : Program) (dst : Option Nat) (l : List AO) (K : St → Prop) : Prop := Sk r fun s' => RStep P l (s'.put dst .nov) K
def AkC (r : Option (AV × List (TypeId × Nat))) (P : Program) (s : St) (dst : Option Nat) (l : List AO) (K : St → Prop) : Prop := Ak r fun p => RStep P l ({ s with fr := p.2 }.put dst p.1) K
def QC (r : Option (AV × Option (TypeId × List AV))) (P : Program) (s : St) (dst : Option Nat) (l : List AO) (K : St → Prop) : Prop := Qk r fun u => RStep P l (s.next dst u) K
def CvC (v : AV) (P : Program) (s : St) (args : List AX) (dst : Option Nat) (l : List AO) (K : St → Prop) : Prop :=
 match v with
 | .fn f bs => CallStep P s f (bs ++ args.map fun x => imm1 (s.ν x)) fun u => RStep P l (s.next dst u) K
 | _ => False
def CallSC (P : Program) (s : St) (f : FuncId) (as : List AV) (dst : Option Nat) (l : List AO) (K : St → Prop) : Prop := CallS P s f as fun r B F => RStep P l ({ s with box := B, fr := F }.put dst r) K
def CvSC (v : AV) (P : Program) (s : St) (args : List AX) (dst : Option Nat) (l : List AO) (K : St → Prop) : Prop :=
 match v with
 | .fn f bs => CallSC P s f (bs ++ args.map fun x => imm1 (s.ν x)) dst l K
 | .clo f cs => CallSC P s f ((args.map fun x => imm1 (s.ν x)) ++ cs) dst l K
 | _ => False
theorem rs_nil : RStep P [] s K = K s := rfl
theorem rs_cons : RStep P (o :: l) s K = GC P s o l K := rfl
theorem gc_none {ao : AOp} : GC P s ⟨dst, ao, none, []⟩ l K = OC P s ao dst l K := rfl
theorem gc_chk {ao : AOp} {c : Option Nat × AX × Nat} {cs : List (Option Nat × AX × Nat)} : GC P s ⟨dst, ao, none, c :: cs⟩ l K = OC P s ao dst (⟨none, .chk (c :: cs), none, []⟩ :: l) K := rfl
def EqK (r : Option (AV × Option (TypeId × List AV))) (v : AV) (k : Prop) : Prop := r = some (v, none) ∧ k
theorem eqk_same {v : AV} {k : Prop} : EqK (some (v, none)) v k = k := by simp [EqK]
theorem oc_chk_nil : OC P s (.chk []) dst l K = RStep P l s K := rfl
theorem oc_chk {n : Option Nat} {x : AX} {d : Nat} {cs : List (Option Nat × AX × Nat)} : OC P s (.chk ((n, x, d) :: cs)) dst l K = EqK (qop s.ν s.σ s.box.length (.ld n x)) (getT s.tm d) (OC P s (.chk cs) dst l K) := rfl
theorem gc_some {ao : AOp} {d : Nat} {b : Bool} : GC P s ⟨dst, ao, some (d, b), []⟩ l K = GkC (getT s.tm d) b P s ao dst l K := rfl
theorem gkc_nov {b : Bool} {ao : AOp} : GkC .nov b P s ao dst l K = RStep P l (s.next dst skipOut) K := rfl
def StL (s : St) (n : Nat) (a x : AX) (P : Program) (dst : Option Nat) (l : List AO) (K : St → Prop) : Prop := ∃ b, (∀ (M : Mem) (v : Value), Rep M v (s.ν x) → Rep M v b) ∧ SkC (stOp s n a (.val b)) P dst l K
theorem oc_st {n : Nat} {a x : AX} : OC P s (.st n a x) dst l K = StL s n a x P dst l K := rfl
theorem skc_some {s' : St} : SkC (some s') P dst l K = RStep P l (s'.put dst .nov) K := rfl
def NkC (r : Option (AV × List AV)) (e : TypeId) (P : Program) (s : St) (dst : Option Nat) (l : List AO) (K : St → Prop) : Prop := Nk r fun p => RStep P l ({ s with box := s.box ++ [(e, p.2)] }.put dst p.1) K
theorem oc_app {e : TypeId} {n b : Nat} {x y : AX} : OC P s (.app e n b x y) dst l K = (AkC (appOp s e n b x y) P s dst l K ∨ NkC (newOp s e n b x y) e P s dst l K) := rfl
def PrC (k : PK) (as : List AV) (P : Program) (s : St) (dst : Option Nat) (l : List AO) (K : St → Prop) : Prop := PStep k s.box s.fr as fun B F r => RStep P l ({ s with box := B, fr := F }.put dst r) K
theorem oc_prim {k : PK} {xs : List AX} : OC P s (.prim k xs) dst l K = PrC k (xs.map s.ν) P s dst l K := rfl
attribute [irreducible] PrC
theorem akc_some {p : AV × List (TypeId × Nat)} : AkC (some p) P s dst l K = RStep P l ({ s with fr := p.2 }.put dst p.1) K := rfl
theorem oc_call {f : FuncId} {args : List AX} : OC P s (.call f args) dst l K = CallC P s f (args.map fun x => imm1 (s.ν x)) dst l K := rfl
theorem oc_callv {x : AX} {args : List AX} : OC P s (.callv x args) dst l K = CvC (s.ν x) P s args dst l K := by
 unfold CvC OC OStep QStep
 cases h : s.ν x <;> simp only [h]
theorem oc_callS {f : FuncId} {args : List AX} : OC P s (.callS f args) dst l K = CallSC P s f (args.map fun x => imm1 (s.ν x)) dst l K := rfl
theorem oc_callvS {x : AX} {args : List AX} : OC P s (.callvS x args) dst l K = CvSC (s.ν x) P s args dst l K := by
 unfold CvSC OC OStep CallSC
 cases h : s.ν x <;> simp only [h]
theorem cvsc_fn {f : FuncId} {bs : List AV} {args : List AX} : CvSC (.fn f bs) P s args dst l K = CallSC P s f (bs ++ args.map fun x => imm1 (s.ν x)) dst l K := rfl
theorem cvsc_clo {f : FuncId} {cs : List AV} {args : List AX} : CvSC (.clo f cs) P s args dst l K = CallSC P s f ((args.map fun x => imm1 (s.ν x)) ++ cs) dst l K := rfl
theorem cvc_fn {f : FuncId} {bs : List AV} {args : List AX} : CvC (.fn f bs) P s args dst l K = CallC P s f (bs ++ args.map fun x => imm1 (s.ν x)) dst l K := rfl
theorem qc_some {p : AV × Option (TypeId × List AV)} : QC (some p) P s dst l K = RStep P l (s.next dst ⟨p.1, p.2, []⟩) K := rfl
theorem oc_mv (x : AX) : OC P s (.mv x) dst l K = QC (qop s.ν s.σ s.box.length (.mv x)) P s dst l K := rfl
theorem oc_pick (a b c : AX) : OC P s (.pick a b c) dst l K = QC (qop s.ν s.σ s.box.length (.pick a b c)) P s dst l K := rfl
theorem oc_box (T n : Nat) (x : AX) : OC P s (.box T n x) dst l K = QC (qop s.ν s.σ s.box.length (.box T n x)) P s dst l K := rfl
theorem oc_ld (n : Option Nat) (x : AX) : OC P s (.ld n x) dst l K = QC (qop s.ν s.σ s.box.length (.ld n x)) P s dst l K := rfl
theorem oc_off (n : Nat) (x : AX) : OC P s (.off n x) dst l K = QC (qop s.ν s.σ s.box.length (.off n x)) P s dst l K := rfl
theorem oc_idxA (n : Nat) (x y : AX) : OC P s (.idxA n x y) dst l K = QC (qop s.ν s.σ s.box.length (.idxA n x y)) P s dst l K := rfl
theorem oc_idxS (x y : AX) : OC P s (.idxS x y) dst l K = QC (qop s.ν s.σ s.box.length (.idxS x y)) P s dst l K := rfl
theorem oc_bin (o : BinOp) (x y : AX) : OC P s (.bin o x y) dst l K = QC (qop s.ν s.σ s.box.length (.bin o x y)) P s dst l K := rfl
theorem oc_eqB (o : Bool) (x y : AX) : OC P s (.eqB o x y) dst l K = QC (qop s.ν s.σ s.box.length (.eqB o x y)) P s dst l K := rfl
theorem oc_un (o : UnOp) (x : AX) : OC P s (.un o x) dst l K = QC (qop s.ν s.σ s.box.length (.un o x)) P s dst l K := rfl
theorem oc_conv (o : IntKind) (x : AX) : OC P s (.conv o x) dst l K = QC (qop s.ν s.σ s.box.length (.conv o x)) P s dst l K := rfl
theorem oc_slc (n : Nat) (x : AX) (a b c : Option AX) : OC P s (.slc n x a b c) dst l K = QC (qop s.ν s.σ s.box.length (.slc n x a b c)) P s dst l K := rfl
theorem oc_slcS (x : AX) (a b : Option AX) : OC P s (.slcS x a b) dst l K = QC (qop s.ν s.σ s.box.length (.slcS x a b)) P s dst l K := rfl
theorem oc_ext (x : AX) (n : Nat) : OC P s (.ext x n) dst l K = QC (qop s.ν s.σ s.box.length (.ext x n)) P s dst l K := rfl
theorem oc_len (x : AX) : OC P s (.len x) dst l K = QC (qop s.ν s.σ s.box.length (.len x)) P s dst l K := rfl
theorem oc_lenS (x : AX) : OC P s (.lenS x) dst l K = QC (qop s.ν s.σ s.box.length (.lenS x)) P s dst l K := rfl
theorem oc_mkfn (f : FuncId) (q : List AX) : OC P s (.mkfn f q) dst l K = QC (qop s.ν s.σ s.box.length (.mkfn f q)) P s dst l K := rfl
theorem oc_eqA (b : Bool) (n : Nat) (q : List (Nat × Nat)) (x y : AX) : OC P s (.eqA b n q x y) dst l K = QC (qop s.ν s.σ s.box.length (.eqA b n q x y)) P s dst l K := rfl
theorem oc_prt (n : Option Nat) (a b c : Nat) (x y : AX) : OC P s (.prt n a b c x y) dst l K = QC (qop s.ν s.σ s.box.length (.prt n a b c x y)) P s dst l K := rfl
theorem oc_b2s (x : AX) : OC P s (.b2s x) dst l K = QC (qop s.ν s.σ s.box.length (.b2s x)) P s dst l K := rfl
theorem oc_s2b (n : Nat) (x : AX) : OC P s (.s2b n x) dst l K = QC (qop s.ν s.σ s.box.length (.s2b n x)) P s dst l K := rfl
theorem oc_lit (e n : Nat) (ks : List Nat) (q : List AX) : OC P s (.lit e n ks q) dst l K = QC (qop s.ν s.σ s.box.length (.lit e n ks q)) P s dst l K := rfl
theorem oc_bld (z : List AV) (q : List (Nat × Nat × AX)) : OC P s (.bld z q) dst l K = QC (qop s.ν s.σ s.box.length (.bld z q)) P s dst l K := rfl
theorem oc_mx (x y : AX) : OC P s (.mx x y) dst l K = QC (qop s.ν s.σ s.box.length (.mx x y)) P s dst l K := rfl
theorem oc_mn (x y : AX) : OC P s (.mn x y) dst l K = QC (qop s.ν s.σ s.box.length (.mn x y)) P s dst l K := rfl
theorem oc_mkclo (f : FuncId) (q : List AX) : OC P s (.mkclo f q) dst l K = QC (qop s.ν s.σ s.box.length (.mkclo f q)) P s dst l K := rfl
theorem oc_mkif (t : TypeId) (x : AX) : OC P s (.mkif t x) dst l K = QC (qop s.ν s.σ s.box.length (.mkif t x)) P s dst l K := rfl
theorem oc_tas (t : TypeId) (z : AV) (b : Bool) (x : AX) : OC P s (.tas t z b x) dst l K = QC (qop s.ν s.σ s.box.length (.tas t z b x)) P s dst l K := rfl
theorem oc_isNil (b : Bool) (x : AX) : OC P s (.isNil b x) dst l K = QC (qop s.ν s.σ s.box.length (.isNil b x)) P s dst l K := rfl
theorem oc_nilc (x : AX) : OC P s (.nilc x) dst l K = QC (qop s.ν s.σ s.box.length (.nilc x)) P s dst l K := rfl
theorem ibeq (a b : Int) : (a == b) = decide (a = b) := by
 by_cases h : a = b <;> simp [h]
theorem ibne (a b : Int) : (a != b) = decide (¬ a = b) := by
 by_cases h : a = b <;> simp [h]
theorem bnot (p : Prop) [Decidable p] : (!decide p) = decide (¬ p) := by
 by_cases h : p <;> simp [h]
theorem gkc_fork {p : Prop} {_ : Decidable p} {b : Bool} {ao : AOp} (h1 : p → GkC (.bool true) b P s ao dst l K) (h2 : ¬ p → GkC (.bool false) b P s ao dst l K) : GkC (.bool (decide p)) b P s ao dst l K := by
 by_cases h : p
 · rw [decide_eq_true h]; exact h1 h
 · rw [decide_eq_false h]; exact h2 h
def CondC (v : AV) (P : Program) (y z : AC) (K : Exit → St → Prop) (s : St) : Prop :=
 match v with
 | .bool true => AW P y K s
 | .bool false => AW P z K s
 | _ => False
theorem aw_condc {K : Exit → St → Prop} {x : AX} {y z : AC} (h : CondC (s.ν x) P y z K s) : AW P (.cond x y z) K s := by
 generalize hv : s.ν x = v at h
 unfold CondC at h
 split at h
 · exact aw_cond hv (fun _ => h) (fun h => by cases h)
 · exact aw_cond hv (fun h => by cases h) (fun _ => h)
 · exact h.elim
theorem aw_cond2 {K : Exit → St → Prop} {x : AX} {y z : AC} {v : AV} (hv : s.ν x = v) (h : CondC v P y z K s) : AW P (.cond x y z) K s := aw_condc (hv ▸ h)
theorem condc_t {K : Exit → St → Prop} {y z : AC} (h : AW P y K s) : CondC (.bool true) P y z K s := h
theorem condc_f {K : Exit → St → Prop} {y z : AC} (h : AW P z K s) : CondC (.bool false) P y z K s := h
theorem condc_true {K : Exit → St → Prop} {y z : AC} : CondC (.bool true) P y z K s = AW P y K s := rfl
theorem condc_false {K : Exit → St → Prop} {y z : AC} : CondC (.bool false) P y z K s = AW P z K s := rfl
theorem condc_fork {p : Prop} {_ : Decidable p} {K : Exit → St → Prop} {y z : AC} (h1 : p → AW P y K s) (h2 : ¬ p → AW P z K s) : CondC (.bool (decide p)) P y z K s := by
 by_cases h : p
 · rw [decide_eq_true h]; exact h1 h
 · rw [decide_eq_false h]; exact h2 h
theorem condc_bool {t : Bool} {K : Exit → St → Prop} {y z : AC} (h1 : t = true → AW P y K s) (h2 : t = false → AW P z K s) : CondC (.bool t) P y z K s := by
 cases t
 · exact h2 rfl
 · exact h1 rfl
theorem gkc_split {t b : Bool} {ao : AOp} (h1 : t = true → GkC (.bool true) b P s ao dst l K) (h2 : t = false → GkC (.bool false) b P s ao dst l K) : GkC (.bool t) b P s ao dst l K := by
 cases t
 · exact h2 rfl
 · exact h1 rfl
theorem gkc_tt {ao : AOp} : GkC (.bool true) true P s ao dst l K = OC P s ao dst l K := rfl
theorem gkc_tf {ao : AOp} : GkC (.bool true) false P s ao dst l K = RStep P l (s.next dst skipOut) K := rfl
theorem gkc_ft {ao : AOp} : GkC (.bool false) true P s ao dst l K = RStep P l (s.next dst skipOut) K := rfl
theorem gkc_ff {ao : AOp} : GkC (.bool false) false P s ao dst l K = OC P s ao dst l K := rfl
theorem callc {f : FuncId} {as : List AV} {r : AV} {rfr : List (TypeId × Nat)} (h : ACt P f as r rfr) (hp : purL as = true) (hK : RStep P l (s.next dst ⟨sh s.fr.length r, none, rfr⟩) K) : CallC P s f as dst l K :=
 ⟨hp, r, rfr, h, hK⟩
theorem callsc {f : FuncId} {as : List AV} {r : AV} {rfr : List (TypeId × Nat)} (h : ACt P f as r rfr) (hp : purL as = true) (hK : RStep P l (s.next dst ⟨sh s.fr.length r, none, rfr⟩) K) : CallSC P s f as dst l K :=
 ⟨_, acs_act h hp, fun r' B F ⟨e1, e2, e3⟩ => by
   subst e1 e2 e3
   have e : s.next dst ⟨sh s.fr.length r, none, rfr⟩ = { s with box := s.box, fr := s.fr ++ rfr }.put dst (sh s.fr.length r) := by
     simp [St.next, St.put]
   rw [e] at hK
   exact hK⟩
theorem callss {f : FuncId} {as : List AV} {Q : AV → List (TypeId × List AV) → List (TypeId × Nat) → Prop} (h : ACs P f as s.box s.fr Q) (hK : ∀ r B F, Q r B F → RStep P l ({ s with box := B, fr := F }.put dst r) K) : CallSC P s f as dst l K :=
 ⟨Q, h, hK⟩
end
attribute [irreducible] KScope KSeq KBlock KLoop KUnr AL CondC GC OC CallC CallSC CvSC GkC SkC AkC QC CvC EqK
end Go.Proofs.YtibploaibljcmaaGreatDoor
