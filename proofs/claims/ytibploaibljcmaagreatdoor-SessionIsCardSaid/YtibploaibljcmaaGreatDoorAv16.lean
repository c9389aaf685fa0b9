import Derived.Test.YtibploaibljcmaaGreatDoorAv15b
namespace Go.Proofs.YtibploaibljcmaaGreatDoor
open Go.RowKit
set_option linter.unusedVariables false
set_option linter.unusedSimpArgs false
abbrev Calld := FuncId → List AV → Option (AV × List (TypeId × Nat))
abbrev CalldS := FuncId → List AV → List (TypeId × List AV) → List (TypeId × Nat) → Option (AV × List (TypeId × List AV) × List (TypeId × Nat))
def execQ (call : Calld) (s : St) (ao : AOp) : Option Out :=
 match ao with
 | .call f args => if purL (args.map fun x => imm1 (s.ν x)) then (call f (args.map fun x => imm1 (s.ν x))).map fun p => ⟨sh s.fr.length p.1, none, p.2⟩ else none
 | .callv x args =>
   match s.ν x with
   | .fn f bs => if purL (bs ++ args.map fun x => imm1 (s.ν x)) then (call f (bs ++ args.map fun x => imm1 (s.ν x))).map fun p => ⟨sh s.fr.length p.1, none, p.2⟩ else none
   | _ => none
 | ao => (qop s.ν s.σ s.box.length ao).map fun p => ⟨p.1, p.2, []⟩
def execS (call : Calld) (callS : CalldS) (s : St) (f : FuncId) (as : List AV) (dst : Option Nat) : Option St :=
 match (if purL as then call f as else none) with
 | some p => some (s.next dst ⟨sh s.fr.length p.1, none, p.2⟩)
 | none => (callS f as s.box s.fr).map fun p => { s with box := p.2.1, fr := p.2.2 }.put dst p.1
def execO (call : Calld) (callS : CalldS) (s : St) (ao : AOp) (dst : Option Nat) : Option St :=
 match ao with
 | .st n a x => (stOp s n a x).map fun s' => s'.put dst .nov
 | .app e sz by_ x y => (appOp s e sz by_ x y).map fun p => { s with fr := p.2 }.put dst p.1
 | .callS f args => execS call callS s f (args.map fun x => imm1 (s.ν x)) dst
 | .callvS x args =>
   match s.ν x with
   | .fn f bs => execS call callS s f (bs ++ args.map fun x => imm1 (s.ν x)) dst
   | .clo f cs => execS call callS s f ((args.map fun x => imm1 (s.ν x)) ++ cs) dst
   | _ => none
 | .prim k xs => (pout k s.box (xs.map s.ν)).map fun p => { s with box := p.1 }.put dst p.2
 | ao => (execQ call s ao).map fun u => s.next dst u
mutual
def avEq : AV → AV → Bool
 | .und, .und => true
 | .nov, .nov => true
 | .bool a, .bool b => a == b
 | .int k a, .int k' b => decide (k = k') && decide (a = b)
 | .str a, .str b => decide (a.data.toList = b.data.toList)
 | .slice t n xs, .slice t' n' ys => (match t, t' with | .imm, .imm => true | .full, .full => true | .app k, .app k' => Nat.beq k k' | _, _ => false) && Nat.beq n n' && avEqL xs ys
 | .agg xs, .agg ys => avEqL xs ys
 | .tup xs, .tup ys => avEqL xs ys
 | .fn f xs, .fn g ys => Nat.beq f g && avEqL xs ys
 | .clo f xs, .clo g ys => Nat.beq f g && avEqL xs ys
 | .nilFn, .nilFn => true
 | .ptr l o, .ptr l' o' => Nat.beq l l' && Nat.beq o o'
 | .bsl l o n z q, .bsl l' o' n' z' q' => Nat.beq l l' && Nat.beq o o' && Nat.beq n n' && Nat.beq z z' && Nat.beq q q'
 | .mp l, .mp l' => Nat.beq l l'
 | .iface t v, .iface t' v' => Nat.beq t t' && avEq v v'
 | .nilIface, .nilIface => true
 | _, _ => false
def avEqL : List AV → List AV → Bool
 | [], [] => true
 | a :: as, b :: bs => avEq a b && avEqL as bs
 | _, _ => false
end
mutual
theorem avEq_ok : ∀ {a b : AV}, avEq a b = true → a = b
 | .und, b, h => by cases b <;> simp_all [avEq]
 | .nov, b, h => by cases b <;> simp_all [avEq]
 | .bool a, b, h => by cases b <;> simp_all [avEq]
 | .int k a, b, h => by cases b <;> simp_all [avEq]
 | .str a, b, h => by
   cases b <;> simp [avEq] at h
   rename_i b
   have : a.data = b.data := h
   congr 1
   exact ByteArray.ext this
 | .slice t n xs, b, h => by
   cases b <;> simp [avEq] at h
   rename_i t' n' ys
   obtain ⟨⟨h1, h2⟩, h3⟩ := h
   rw [h2, avEqL_ok h3]
   congr 1
   split at h1 <;> simp_all
 | .agg xs, b, h => by
   cases b <;> simp [avEq] at h
   rw [avEqL_ok h]
 | .tup xs, b, h => by
   cases b <;> simp [avEq] at h
   rw [avEqL_ok h]
 | .fn f xs, b, h => by
   cases b <;> simp [avEq] at h
   rw [h.1, avEqL_ok h.2]
 | .clo f xs, b, h => by
   cases b <;> simp [avEq] at h
   rw [h.1, avEqL_ok h.2]
 | .nilFn, b, h => by cases b <;> simp_all [avEq]
 | .ptr l o, b, h => by cases b <;> simp_all [avEq]
 | .bsl l o n z q, b, h => by cases b <;> simp_all [avEq]
 | .mp l, b, h => by cases b <;> simp_all [avEq]
 | .cptr xs i o, b, h => by cases b <;> simp [avEq] at h
 | .iface t v, b, h => by
   cases b <;> simp [avEq] at h
   rw [h.1, avEq_ok h.2]
 | .nilIface, b, h => by cases b <;> simp_all [avEq]
theorem avEqL_ok : ∀ {as bs : List AV}, avEqL as bs = true → as = bs
 | [], [], _ => rfl
 | a :: as, b :: bs, h => by
   simp only [avEqL, Bool.and_eq_true] at h
   rw [avEq_ok h.1, avEqL_ok h.2]
 | [], _ :: _, h => by simp [avEqL] at h
 | _ :: _, [], h => by simp [avEqL] at h
end
def chkB (s : St) : List (Option Nat × AX × Nat) → Bool
 | [] => true
 | c :: l => (match qop s.ν s.σ s.box.length (.ld c.1 c.2.1) with | some (v, none) => avEq v (s.get c.2.2) | _ => false) && chkB s l
theorem chkB_ok {s : St} : ∀ {l : List (Option Nat × AX × Nat)}, chkB s l = true → ∀ {k : Prop}, k → Chk s l k
 | [], _, k, hk => hk
 | c :: l, h, k, hk => by
   simp only [chkB, Bool.and_eq_true] at h
   refine ⟨?_, chkB_ok h.2 hk⟩
   have h1 := h.1
   split at h1
   · rename_i v hv
     rw [hv, avEq_ok h1]
   · cases h1
def execG0 (call : Calld) (callS : CalldS) (s : St) (o : AO) : Option St :=
 match o.guard with
 | none => execO call callS s o.op o.dst
 | some (d, b) =>
   match s.get d with
   | .bool t => if t = b then execO call callS s o.op o.dst else some (s.next o.dst skipOut)
   | .nov => some (s.next o.dst skipOut)
   | _ => none
def execG (call : Calld) (callS : CalldS) (s : St) (o : AO) : Option St :=
 match execG0 call callS s o with
 | some t => if chkB t o.chk then some t else none
 | none => none
def execR (call : Calld) (callS : CalldS) : List AO → St → Option St
 | [], s => some s
 | o :: l, s =>
   match execG call callS s o with
   | some s' => execR call callS l s'
   | none => none
def iterC (f : St → Option (Exit × St)) : Nat → St → Option (Exit × St)
 | 0, _ => none
 | n + 1, s =>
   match f s with
   | some (.normal, t) => iterC f n t
   | some (e, t) => some (e, t)
   | none => none
def execC (call : Calld) (callS : CalldS) (n : Nat) : AC → St → Option (Exit × St)
 | .skip, s => some (.normal, s)
 | .reg aos, s =>
   match execR call callS aos s with
   | some t => some (.normal, t)
   | none => none
 | .seq x y, s =>
   match execC call callS n x s with
   | some (.normal, t) => execC call callS n y t
   | some (e, t) => some (e, t)
   | none => none
 | .cond x y z, s =>
   match s.ν x with
   | .bool true => execC call callS n y s
   | .bool false => execC call callS n z s
   | _ => none
 | .block id x, s =>
   match execC call callS n x s with
   | some (.exit i, t) => if i = id then some (.normal, t) else some (.exit i, t)
   | some (e, t) => some (e, t)
   | none => none
 | .loop x, s => iterC (execC call callS n x) n s
 | .exit id, s => some (.exit id, s)
 | .ret, s => some (.ret, s)
 | .label _, s => some (.normal, s)
 | .scope x, s =>
   match execC call callS n x s with
   | some (.goto _, _) => none
   | some (e, t) => some (e, t)
   | none => none
theorem aw_iter {P : Program} {K : Exit → St → Prop} {x : AC} {f : St → Option (Exit × St)} (hf : ∀ s e t, f s = some (e, t) → ∀ K : Exit → St → Prop, K e t → AW P x K s) {n : Nat} {s : St} {e : Exit} {t : St} (hn : iterC f n s = some (e, t)) (hK : K e t) : AW P (.loop x) K s := fun X c hX hc a w M hs => by
 cases c <;> simp only [prepCode, Option.bind_eq_bind, Option.bind_eq_some_iff, Option.pure_def, Option.some.injEq, reduceCtorEq, and_false, exists_false] at hc
 case region =>
   obtain ⟨_, e, _⟩ := prepReg_reg hc
   cases e
 case loop c1 =>
   obtain ⟨x', h1, e⟩ := hc
   injection e with e1
   subst e1
   intro b k cs
   have key : ∀ n s, iterC f n s = some (e, t) → ∀ a w M, StR X s a w M →
       ∃ e a' w', Post X K e a' w' ∧ Arrives P (lone (b.at a (.code c1 :: .inLoop c1 :: k)) cs w) b k cs e a' w' := by
     intro n
     induction n with
     | zero => intro s h; cases h
     | succ n ih =>
       intro s h a w M hI
       unfold iterC at h
       split at h
       · rename_i t' h2
         obtain ⟨e, a₁, w₁, ⟨t, M₁, hq, hst⟩, harr⟩ := hf _ _ _ h2 (fun e t => e = .normal ∧ t = t') ⟨rfl, rfl⟩ X c1 hX h1 a w M hI b (.inLoop c1 :: k) cs
         obtain ⟨rfl, rfl⟩ := hq
         obtain ⟨e₂, a₂, w₂, hq₂, harr₂⟩ := ih _ h a₁ w₁ M₁ hst
         exact ⟨e₂, a₂, w₂, hq₂, .of_steps (Steps.trans harr (.one step_inLoop)) harr₂⟩
       · rename_i e' t' hne h2
         simp only [Option.some.injEq, Prod.mk.injEq] at h
         obtain ⟨rfl, rfl⟩ := h
         obtain ⟨e, a₁, w₁, ⟨t, M₁, hq, hst⟩, harr⟩ := hf _ _ _ h2 (fun e t => e = e' ∧ t = t') ⟨rfl, rfl⟩ X c1 hX h1 a w M hI b (.inLoop c1 :: k) cs
         obtain ⟨rfl, rfl⟩ := hq
         cases e with
         | normal => exact (hne rfl).elim
         | exit id => exact ⟨_, a₁, w₁, ⟨t, M₁, hK, hst⟩, .pass (x := .inLoop c1) rfl (fun _ _ => .inl (by simp)) harr⟩
         | goto l => exact ⟨_, a₁, w₁, ⟨t, M₁, hK, hst⟩, .pass (x := .inLoop c1) rfl (fun _ _ => .inl (by simp)) harr⟩
         | ret => exact ⟨_, a₁, w₁, ⟨t, M₁, hK, hst⟩, .pass (x := .inLoop c1) rfl (fun _ _ => .inl (by simp)) harr⟩
         | panic ch => exact ⟨_, a₁, w₁, ⟨t, M₁, hK, hst⟩, .pass (x := .inLoop c1) rfl (fun _ _ => .inl (by simp)) harr⟩
         | outgrown => exact ⟨_, a₁, w₁, ⟨t, M₁, hK, hst⟩, .pass (x := .inLoop c1) rfl (fun _ _ => .inl (by simp)) harr⟩
       · cases h
   obtain ⟨e, a', w', hq, harr⟩ := key _ s hn a w M hs
   exact ⟨e, a', w', hq, .of_steps (.one step_loop) harr⟩
section
variable {P : Program} {call : Calld} {callS : CalldS} (hc : ∀ f as r rfr, call f as = some (r, rfr) → ACt P f as r rfr) (hcs : ∀ f as B F r B' F', callS f as B F = some (r, B', F') → ACs P f as B F fun r1 B1 F1 => r1 = r ∧ B1 = B' ∧ F1 = F')
include hc
theorem execQ_ok {s : St} {ao : AOp} {u : Out} (h : execQ call s ao = some u) {K : Out → Prop} (hK : K u) : QStep P s ao K := by
 unfold execQ at h
 split at h
 · rename_i f args
   split at h
   · rename_i hp
     obtain ⟨p, h1, h2⟩ := Option.map_eq_some_iff.1 h
     subst h2
     exact ⟨hp, p.1, p.2, hc _ _ _ _ h1, hK⟩
   · cases h
 · rename_i x args
   unfold QStep
   split at h
   · rename_i f bs hx
     simp only [hx]
     split at h
     · rename_i hp
       obtain ⟨p, h1, h2⟩ := Option.map_eq_some_iff.1 h
       subst h2
       exact ⟨hp, p.1, p.2, hc _ _ _ _ h1, hK⟩
     · cases h
   · cases h
 · rename_i h1 h2
   obtain ⟨p, h3, h4⟩ := Option.map_eq_some_iff.1 h
   subst h4
   unfold QStep
   split
   · exact absurd rfl (h1 _ _)
   · exact absurd rfl (h2 _ _)
   · rw [h3]; exact hK
include hcs
theorem execS_ok {s t : St} {f : FuncId} {as : List AV} {dst : Option Nat} (h : execS call callS s f as dst = some t) {K : St → Prop} (hK : K t) : CallS P s f as fun r B F => K ({ s with box := B, fr := F }.put dst r) := by
 unfold execS at h
 split at h
 · rename_i p hp
   split at hp
   · rename_i hpu
     injection h with h
     subst h
     refine ⟨_, acs_act (hc _ _ _ _ hp) hpu, fun r' B F ⟨e1, e2, e3⟩ => ?_⟩
     subst e1 e2 e3
     have e : s.next dst ⟨sh s.fr.length p.1, none, p.2⟩ = { s with box := s.box, fr := s.fr ++ p.2 }.put dst (sh s.fr.length p.1) := by
       simp [St.next, St.put]
     rw [e] at hK
     exact hK
   · cases hp
 · obtain ⟨p, h1, h2⟩ := Option.map_eq_some_iff.1 h
   subst h2
   refine ⟨_, hcs _ _ _ _ _ _ _ h1, fun r' B F ⟨e1, e2, e3⟩ => ?_⟩
   subst e1 e2 e3
   exact hK
theorem execO_ok {s t : St} {ao : AOp} {dst : Option Nat} (h : execO call callS s ao dst = some t) {K : St → Prop} (hK : K t) : OStep P s ao dst K := by
 unfold execO at h
 split at h
 · obtain ⟨p, h1, h2⟩ := Option.map_eq_some_iff.1 h
   subst h2
   refine ⟨_, fun _ _ k => k, ?_⟩
   show Sk (stOp _ _ _ _) _
   rename_i x
   show Sk (stOp s _ _ x) _
   rw [h1]; exact hK
 · obtain ⟨p, h1, h2⟩ := Option.map_eq_some_iff.1 h
   subst h2
   refine .inl ?_
   show Ak _ _
   rw [h1]; exact hK
 · exact execS_ok hc hcs h hK
 · unfold OStep
   split at h
   · rename_i e
     simp only [e]
     exact execS_ok hc hcs h hK
   · rename_i e
     simp only [e]
     exact execS_ok hc hcs h hK
   · cases h
 · rename_i k xs
   obtain ⟨p, h1, h2⟩ := Option.map_eq_some_iff.1 h
   subst h2
   refine ⟨_, fun _ _ h => h, ?_⟩
   rw [h1]
   exact hK
 · rename_i h1 h2 h1' h2' h3'
   obtain ⟨p, h3, h4⟩ := Option.map_eq_some_iff.1 h
   subst h4
   unfold OStep
   split
   · exact absurd rfl (h1 _ _ _)
   · exact absurd rfl (h2 _ _ _ _ _)
   · exact absurd rfl (h1' _ _)
   · exact absurd rfl (h2' _ _)
   · rename_i cs
     simp [execQ, qop] at h3
   · exact absurd rfl (h3' _ _)
   · exact execQ_ok (K := fun u => K (s.next dst u)) hc h3 hK
theorem execG0_ok {s t : St} {o : AO} (h : execG0 call callS s o = some t) {K : St → Prop} (hK : K t) : GStep0 P s o K := by
 unfold execG0 at h
 unfold GStep0
 split at h
 · rename_i e; rw [e]; exact execO_ok hc hcs h hK
 · rename_i d b e
   rw [e]
   simp only
   split at h
   · rename_i t' e2
     rw [e2]
     unfold Gk
     simp only
     split at h
     · rename_i h3; rw [if_pos h3]; exact execO_ok hc hcs h hK
     · rename_i h3; rw [if_neg h3]; injection h with h; subst h; exact hK
   · rename_i e2
     rw [e2]
     injection h with h; subst h; exact hK
   · cases h
theorem execG_ok {s t : St} {o : AO} (h : execG call callS s o = some t) {K : St → Prop} (hK : K t) : GStep P s o K := by
 unfold execG at h
 split at h
 · rename_i t' h1
   split at h
   · rename_i h2
     injection h with h
     subst h
     exact execG0_ok hc hcs (K := fun s' => Chk s' o.chk (K s')) h1 (chkB_ok h2 hK)
   · cases h
 · cases h
theorem execR_ok : ∀ {l : List AO} {s t : St}, execR call callS l s = some t → ∀ {K : St → Prop}, K t → RStep P l s K
 | [], s, t, h, K, hK => by injection h with h; subst h; exact hK
 | o :: l, s, t, h, K, hK => by
   unfold execR at h
   split at h
   · rename_i s' h1
     exact execG_ok hc hcs h1 (execR_ok h hK)
   · cases h
theorem execC_ok {n : Nat} : ∀ (ac : AC) {s t : St} {e : Exit}, execC call callS n ac s = some (e, t) → ∀ {K : Exit → St → Prop}, K e t → AW P ac K s
 | .skip, s, t, e, h, K, hK => by
   simp only [execC, Option.some.injEq, Prod.mk.injEq] at h
   obtain ⟨rfl, rfl⟩ := h
   exact aw_skip hK
 | .reg aos, s, t, e, h, K, hK => by
   unfold execC at h
   split at h
   · rename_i t' h1
     simp only [Option.some.injEq, Prod.mk.injEq] at h
     obtain ⟨rfl, rfl⟩ := h
     exact aw_reg (execR_ok hc hcs h1 hK)
   · cases h
 | .seq x y, s, t, e, h, K, hK => by
   unfold execC at h
   split at h
   · rename_i t' h1
     exact aw_seq (execC_ok x h1 (execC_ok y h hK))
   · rename_i e' t' h2 h1
     simp only [Option.some.injEq, Prod.mk.injEq] at h
     obtain ⟨rfl, rfl⟩ := h
     refine aw_seq (execC_ok x h1 ?_)
     split
     · exact (h2 rfl).elim
     · exact hK
   · cases h
 | .cond x y z, s, t, e, h, K, hK => by
   unfold execC at h
   split at h
   · rename_i h1
     exact aw_cond h1 (fun _ => execC_ok y h hK) (fun h => by cases h)
   · rename_i h1
     exact aw_cond h1 (fun h => by cases h) (fun _ => execC_ok z h hK)
   · cases h
 | .block id x, s, t, e, h, K, hK => by
   unfold execC at h
   split at h
   · rename_i i t' h1
     refine aw_block (execC_ok x h1 ?_)
     show if i = id then _ else _
     split at h
     · rename_i h2
       simp only [Option.some.injEq, Prod.mk.injEq] at h
       obtain ⟨rfl, rfl⟩ := h
       rw [if_pos h2]; exact hK
     · rename_i h2
       simp only [Option.some.injEq, Prod.mk.injEq] at h
       obtain ⟨rfl, rfl⟩ := h
       rw [if_neg h2]; exact hK
   · rename_i e' t' h2 h1
     simp only [Option.some.injEq, Prod.mk.injEq] at h
     obtain ⟨rfl, rfl⟩ := h
     refine aw_block (execC_ok x h1 ?_)
     split
     · exact (h2 _ rfl).elim
     · exact hK
   · cases h
 | .loop x, s, t, e, h, K, hK => by
   unfold execC at h
   exact aw_iter (fun s e t h K hK => execC_ok x h hK) h hK
 | .exit id, s, t, e, h, K, hK => by
   simp only [execC, Option.some.injEq, Prod.mk.injEq] at h
   obtain ⟨rfl, rfl⟩ := h
   exact aw_exit hK
 | .ret, s, t, e, h, K, hK => by
   simp only [execC, Option.some.injEq, Prod.mk.injEq] at h
   obtain ⟨rfl, rfl⟩ := h
   exact aw_ret hK
 | .label _, s, t, e, h, K, hK => by
   simp only [execC, Option.some.injEq, Prod.mk.injEq] at h
   obtain ⟨rfl, rfl⟩ := h
   exact aw_label hK
 | .scope x, s, t, e, h, K, hK => by
   unfold execC at h
   split at h
   · cases h
   · rename_i e' t' h2 h1
     simp only [Option.some.injEq, Prod.mk.injEq] at h
     obtain ⟨rfl, rfl⟩ := h
     refine aw_scope (execC_ok x h1 ?_)
     split
     · exact (h2 _ rfl).elim
     · exact hK
   · cases h
end
def retV (ks : List Nat) : AV → Option (AV × List Nat)
 | .slice (.app k) sz xs =>
   if purL xs then
     match ks.findIdx? (· == k) with
     | some i => some (.slice (.app i) sz xs, ks)
     | none => some (.slice (.app ks.length) sz xs, ks ++ [k])
   else none
 | a => if pur a then some (a, ks) else none
def retVs : List Nat → List AV → Option (List AV × List Nat)
 | ks, [] => some ([], ks)
 | ks, a :: as =>
   match retV ks a with
   | some (b, ks') =>
     match retVs ks' as with
     | some (bs, ks'') => some (b :: bs, ks'')
     | none => none
   | none => none
def retF (fr : List (TypeId × Nat)) : List Nat → Option (List (TypeId × Nat))
 | [] => some []
 | k :: ks =>
   match fr[k]?, retF fr ks with
   | some p, some ps => some (p :: ps)
   | _, _ => none
def retC (res : List RV) (e : Exit) (s : St) : Option (AV × List (TypeId × Nat)) :=
 match e with
 | .normal | .ret =>
   match resL s res with
   | some as =>
     match retVs [] as with
     | some (bs, ks) =>
       match retF s.fr ks with
       | some fr => if (ks.all fun k => decide (k < s.fr.length)) then some (one? bs, fr) else none
       | none => none
     | none => none
   | none => none
 | _ => none
theorem RetA.mono {fr : List (TypeId × Nat)} {ks ls : List Nat} {a b : AV} (h : RetA fr ks a b) : RetA fr (ks ++ ls) a b := by
 cases h with
 | same _ h => exact .same _ h
 | imm t sz xs h => exact .imm t sz xs h
 | le a b h hp => exact .le a b h hp
 | app k i sz xs h hk hf => exact .app k i sz xs h (by rw [List.getElem?_append_left (List.getElem?_eq_some_iff.1 hk).1]; exact hk) hf
theorem retV_ok {fr : List (TypeId × Nat)} {ks ks' : List Nat} {a b : AV} (h : retV ks a = some (b, ks')) (hd : ks.Nodup) (hf : ∀ k ∈ ks', k < fr.length) : RetA fr ks' a b ∧ ks'.Nodup ∧ ∃ ls, ks' = ks ++ ls := by
 unfold retV at h
 split at h
 · rename_i k sz xs
   split at h
   · rename_i hp
     split at h
     · rename_i i hi
       simp only [Option.some.injEq, Prod.mk.injEq] at h
       obtain ⟨rfl, rfl⟩ := h
       obtain ⟨h1, h2⟩ := List.findIdx?_eq_some_iff_getElem.1 hi
       have h3 : ks[i] = k := by have := h2.1; simpa using this
       exact ⟨.app k i sz xs hp (by rw [List.getElem?_eq_getElem h1, h3]) (hf k (h3 ▸ List.getElem_mem h1)), hd, [], by simp⟩
     · rename_i hi
       simp only [Option.some.injEq, Prod.mk.injEq] at h
       obtain ⟨rfl, rfl⟩ := h
       have hk : k ∉ ks := fun hm => by
         have := List.findIdx?_eq_none_iff.1 hi k hm
         simp at this
       refine ⟨.app k ks.length sz xs hp (by simp) (hf k (by simp)), ?_, [k], rfl⟩
       rw [List.nodup_append]
       exact ⟨hd, by simp, fun a ha b hb => by simp at hb; subst hb; exact fun e => hk (e ▸ ha)⟩
   · cases h
 · split at h
   · rename_i hp
     simp only [Option.some.injEq, Prod.mk.injEq] at h
     obtain ⟨rfl, rfl⟩ := h
     exact ⟨.same _ hp, hd, [], by simp⟩
   · cases h
theorem retVs_ok {fr : List (TypeId × Nat)} : ∀ {as bs : List AV} {ks ks' : List Nat}, retVs ks as = some (bs, ks') → ks.Nodup → (∀ k ∈ ks', k < fr.length) → RetL fr ks' as bs ∧ ks'.Nodup ∧ ∃ ls, ks' = ks ++ ls
 | [], bs, ks, ks', h, hd, hf => by
   simp only [retVs, Option.some.injEq, Prod.mk.injEq] at h
   obtain ⟨rfl, rfl⟩ := h
   exact ⟨trivial, hd, [], by simp⟩
 | a :: as, bs, ks, ks', h, hd, hf => by
   unfold retVs at h
   split at h
   · rename_i b k1 h1
     split at h
     · rename_i bs' k2 h2
       simp only [Option.some.injEq, Prod.mk.injEq] at h
       obtain ⟨rfl, rfl⟩ := h
       have hsub : ∃ ls, k2 = k1 ++ ls := by
         clear hf hd h1
         induction as generalizing k1 bs' with
         | nil =>
           simp only [retVs, Option.some.injEq, Prod.mk.injEq] at h2
           exact ⟨[], by simp [h2.2]⟩
         | cons a as ih =>
           unfold retVs at h2
           split at h2
           · rename_i b' k3 h3
             split at h2
             · rename_i bs'' k4 h4
               simp only [Option.some.injEq, Prod.mk.injEq] at h2
               obtain ⟨_, rfl⟩ := h2
               obtain ⟨ls, rfl⟩ := ih _ _ h4
               have : ∃ ls, k3 = k1 ++ ls := by
                 unfold retV at h3
                 split at h3 <;> (try split at h3) <;> (try split at h3) <;> simp only [Option.some.injEq, Prod.mk.injEq, reduceCtorEq] at h3
                 all_goals first | exact ⟨_, h3.2.symm⟩ | exact ⟨[], by rw [← h3.2]; simp⟩
               obtain ⟨l2, rfl⟩ := this
               exact ⟨l2 ++ ls, by simp⟩
             · cases h2
           · cases h2
       obtain ⟨ls, hls⟩ := hsub
       obtain ⟨q1, q2, l1, q3⟩ := retV_ok (fr := fr) h1 hd (fun k hk => hf k (by rw [hls]; simp [hk]))
       obtain ⟨r1, r2, l2, r3⟩ := retVs_ok h2 q2 hf
       refine ⟨⟨?_, r1⟩, r2, l1 ++ l2, by rw [r3, q3]; simp⟩
       rw [r3]
       exact q1.mono
     · cases h
   · cases h
theorem retF_ok {fr : List (TypeId × Nat)} : ∀ {ks : List Nat} {ps : List (TypeId × Nat)}, retF fr ks = some ps → ks.map (fun k => fr[k]?) = ps.map some
 | [], ps, h => by injection h with h; subst h; rfl
 | k :: ks, ps, h => by
   unfold retF at h
   split at h
   · rename_i p qs h1 h2
     injection h with h
     subst h
     simp [h1, retF_ok h2]
   · cases h
theorem retC_ok {res : List RV} {e : Exit} {s : St} {r : AV} {rfr : List (TypeId × Nat)} (h : retC res e s = some (r, rfr)) : RetOk res r rfr e s := by
 have key : (match resL s res with
   | some as =>
     match retVs [] as with
     | some (bs, ks) =>
       match retF s.fr ks with
       | some fr => if (ks.all fun k => decide (k < s.fr.length)) then some (one? bs, fr) else none
       | none => none
     | none => none
   | none => none) = some (r, rfr) → ∃ as bs ks, resL s res = some as ∧ RetL s.fr ks as bs ∧ r = one? bs ∧ ks.Nodup ∧ ks.map (fun k => s.fr[k]?) = rfr.map some := by
   intro h
   split at h
   · rename_i as h1
     split at h
     · rename_i bs ks h2
       split at h
       · rename_i fr h3
         split at h
         · rename_i h4
           simp only [Option.some.injEq, Prod.mk.injEq] at h
           obtain ⟨rfl, rfl⟩ := h
           obtain ⟨q1, q2, _⟩ := retVs_ok (fr := s.fr) h2 List.nodup_nil (fun k hk => by have := List.all_eq_true.1 h4 k hk; simpa using this)
           exact ⟨as, bs, ks, h1, q1, rfl, q2, retF_ok h3⟩
         · cases h
       · cases h
     · cases h
   · cases h
 cases e <;> first | exact ⟨trivial, key h⟩ | cases h
abbrev Tab := List (FuncId × AF)
def Tab.Ok (P : Program) : Tab → Prop
 | [] => True
 | p :: T => (prepFunc P p.1 = some p.2 ∧ hasBody P p.1 = true) ∧ Tab.Ok P T
def Tab.get : Tab → FuncId → Option AF
 | [], _ => none
 | p :: T, f => if Nat.beq p.1 f then some p.2 else Tab.get T f
theorem Tab.get_ok {P : Program} : ∀ {T : Tab}, T.Ok P → ∀ {f : FuncId} {c : AF}, T.get f = some c → prepFunc P f = some c ∧ hasBody P f = true
 | [], _, f, c, h => by cases h
 | p :: T, hT, f, c, h => by
   unfold Tab.get at h
   split at h
   · rename_i e
     injection h with h
     subst h
     have := Nat.eq_of_beq_eq_true e
     subst this
     exact hT.1
   · exact Tab.get_ok hT.2 h
abbrev Orc := List (FuncId × (List AV → Option (AV × List (TypeId × Nat))))
def Orc.Ok (P : Program) : Orc → Prop
 | [] => True
 | p :: O => (∀ as r rfr, p.2 as = some (r, rfr) → ACt P p.1 as r rfr) ∧ Orc.Ok P O
def Orc.get : Orc → FuncId → List AV → Option (AV × List (TypeId × Nat))
 | [], _, _ => none
 | p :: O, f, as => if Nat.beq p.1 f then p.2 as else Orc.get O f as
theorem Orc.get_ok {P : Program} : ∀ {O : Orc}, O.Ok P → ∀ {f : FuncId} {as : List AV} {r : AV} {rfr : List (TypeId × Nat)}, O.get f as = some (r, rfr) → ACt P f as r rfr
 | [], _, f, as, r, rfr, h => by cases h
 | p :: O, hO, f, as, r, rfr, h => by
   unfold Orc.get at h
   split at h
   · rename_i e
     have := Nat.eq_of_beq_eq_true e
     subst this
     exact hO.1 _ _ _ h
   · exact Orc.get_ok hO.2 h
def retS (res : List RV) (e : Exit) (s : St) : Option (AV × List (TypeId × List AV) × List (TypeId × Nat)) :=
 match e with
 | .normal | .ret =>
   match resL s res with
   | some as => some (one? as, s.box, s.fr)
   | none => none
 | _ => none
theorem retS_ok {res : List RV} {e : Exit} {s : St} {r : AV} {B : List (TypeId × List AV)} {F : List (TypeId × Nat)} (h : retS res e s = some (r, B, F)) : RetS res (fun r1 B1 F1 => r1 = r ∧ B1 = B ∧ F1 = F) e s := by
 have key : (match resL s res with
   | some as => some (one? as, s.box, s.fr)
   | none => none) = some (r, B, F) → ∃ as, resL s res = some as ∧ (one? as = r ∧ s.box = B ∧ s.fr = F) := by
   intro h
   split at h
   · rename_i as h1
     simp only [Option.some.injEq, Prod.mk.injEq] at h
     exact ⟨as, h1, h⟩
   · cases h
 cases e <;> first | exact ⟨trivial, key h⟩ | cases h
def execF (T : Tab) (O : Orc) (n : Nat) : Nat → Calld × CalldS
 | 0 => (fun _ _ => none, fun _ _ _ _ => none)
 | d + 1 => (fun f as =>
   match O.get f as with
   | some p => some p
   | none =>
     match T.get f with
     | some c =>
       if as.length ≤ c.n then
         match execC (execF T O n d).1 (execF T O n d).2 n c.body { n := c.n, tm := argsTm 0 as, box := [], fr := [] } with
         | some (e, s) => retC c.res e s
         | none => none
       else none
     | none => none,
   fun f as B F =>
   match T.get f with
   | some c =>
     if as.length ≤ c.n then
       match execC (execF T O n d).1 (execF T O n d).2 n c.body { n := c.n, tm := argsTm 0 as, box := B, fr := F, p := (B.length, F.length) } with
       | some (e, s) => retS c.res e s
       | none => none
     else none
   | none => none)
theorem execF_oks {P : Program} {T : Tab} (hT : T.Ok P) {O : Orc} (hO : O.Ok P) {n : Nat} : ∀ d : Nat, (∀ f as r rfr, (execF T O n d).1 f as = some (r, rfr) → ACt P f as r rfr) ∧ ∀ f as B F r B' F', (execF T O n d).2 f as B F = some (r, B', F') → ACs P f as B F fun r1 B1 F1 => r1 = r ∧ B1 = B' ∧ F1 = F'
 | 0 => by
   constructor
   · intro f as r rfr h
     cases h
   · intro f as B F r B' F' h
     cases h
 | d + 1 => by
   obtain ⟨ih1, ih2⟩ := execF_oks hT hO (n := n) d
   constructor
   · intro f as r rfr h
     unfold execF at h
     simp only at h
     split at h
     · rename_i p hp
       injection h with h
       subst h
       exact Orc.get_ok hO hp
     · split at h
       · rename_i c hc
         split at h
         · rename_i hl
           split at h
           · rename_i e s h1
             exact act_of (Tab.get_ok hT hc) hl (execC_ok ih1 ih2 c.body h1 (retC_ok h))
           · cases h
         · cases h
       · cases h
   · intro f as B F r B' F' h
     unfold execF at h
     simp only at h
     split at h
     · rename_i c hc
       split at h
       · rename_i hl
         split at h
         · rename_i e s h1
           exact acs_of (Tab.get_ok hT hc) hl (execC_ok ih1 ih2 c.body h1 (retS_ok h))
         · cases h
       · cases h
     · cases h
theorem execF_ok {P : Program} {T : Tab} (hT : T.Ok P) {O : Orc} (hO : O.Ok P) {n d : Nat} {f : FuncId} {as : List AV} {r : AV} {rfr : List (TypeId × Nat)} (h : (execF T O n d).1 f as = some (r, rfr)) : ACt P f as r rfr :=
 (execF_oks hT hO d).1 f as r rfr h
end Go.Proofs.YtibploaibljcmaaGreatDoor
