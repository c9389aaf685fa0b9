import Derived.Test.YtibploaibljcmaaGreatDoorAvE
namespace Go.Proofs.YtibploaibljcmaaGreatDoor
open Go.RowKit
set_option linter.unusedVariables false
set_option linter.unusedSimpArgs false
set_option maxHeartbeats 1000000
theorem TagOk.imm {M : Mem} {A : Option Addr} {n c : Nat} : TagOk M .imm A n c := trivial
theorem rep_imm0 {M : Mem} {v : Value} {a : AV} (h : Rep M v a) : Rep M v (imm0 a) := by
 unfold imm0
 split
 · cases h with
   | slice t A n c sz' vs xs' hl hn hc hm hs hA hr ht => exact .slice .imm A n c _ vs _ hl hn hc hm hs hA hr trivial
 · exact h
theorem rep_imm1 {M : Mem} {v : Value} {a : AV} (h : Rep M v a) : Rep M v (imm1 a) := by
 unfold imm1
 split
 · cases h with
   | agg vs cs hl h1 hr => exact .agg vs _ (by simpa using hl) h1 (fun i h1 h2 => by
       rw [List.getElem_map]
       exact rep_imm0 (hr i h1 (by simpa using h2)))
 · exact rep_imm0 h
theorem rep_can1 {M : Mem} (k : Nat) {v : Value} {a : AV} (h : Rep M v a) : Rep M v (can1 k a) := by
 cases h with
 | slice t A n c sz vs xs hl hn hc hm hs hA hr ht =>
   show Rep M _ (if k ≠ 0 ∧ (sz = k ∨ xs.length = 0) then .slice .imm k xs else .slice t sz xs)
   by_cases hk : k ≠ 0 ∧ (sz = k ∨ xs.length = 0)
   · rw [if_pos hk]
     have h := rep_sz (.slice t A n c sz vs xs hl hn hc hm hs hA hr ht) hk.2
     cases h with
     | slice _ _ _ _ _ vs _ hl hn hc hm hs hA hr ht => exact .slice .imm A n c k vs xs hl hn hc hm hs hA hr trivial
   · rw [if_neg hk]
     exact .slice t A n c sz vs xs hl hn hc hm hs hA hr ht
 | und v => exact .und v
 | nov => exact .nov
 | bool b => exact .bool b
 | int k n => exact .int k n
 | str s => exact .str s
 | agg vs cs hl h1 hr => exact .agg vs cs hl h1 hr
 | tup vs cs hl hr => exact .tup vs cs hl hr
 | fn f vs bs hl hr => exact .fn f vs bs hl hr
 | clo f vs cs hl hr => exact .clo f vs cs hl hr
 | nilFn => exact .nilFn
 | ptr l off g hg => exact .ptr l off g hg
 | cptr b o i off sz vs xs hl hs hK hr => exact .cptr b o i off sz vs xs hl hs hK hr
 | bsl l off n sz q g c hg hn hm hq => exact .bsl l off n sz q g c hg hn hm hq
 | mp l g hg => exact .mp l g hg
 | iface t v a hr => exact .iface t v a hr
 | nilIface => exact .nilIface
theorem reps_canC {M : Mem} : ∀ (ks : List Nat) {vs : List Value} {as : List AV}, Reps M vs as → Reps M vs (canC ks as)
 | [], _, _, h => h
 | _ :: _, [], [], h => h
 | _ :: _, [], _ :: _, h => absurd h.1 (by simp)
 | _ :: _, _ :: _, [], h => absurd h.1 (by simp)
 | k :: ks, v :: vs, a :: as, h => by
   obtain ⟨h1, h2⟩ := reps_uncons h
   exact reps_cons (rep_can1 k h1) (reps_canC ks h2)
theorem rep_canA {M : Mem} (ks : List Nat) {v : Value} {a : AV} (h : Rep M v a) : Rep M v (canA ks a) := by
 cases h with
 | agg vs cs hl h1 hr =>
   have := reps_canC ks (M := M) ⟨hl, hr⟩
   exact .agg vs _ this.1 h1 this.2
 | slice t A n c sz vs xs hl hn hc hm hs hA hr ht => exact rep_can1 _ (.slice t A n c sz vs xs hl hn hc hm hs hA hr ht)
 | und v => exact .und v
 | nov => exact .nov
 | bool b => exact .bool b
 | int k n => exact .int k n
 | str s => exact .str s
 | tup vs cs hl hr => exact .tup vs cs hl hr
 | fn f vs bs hl hr => exact .fn f vs bs hl hr
 | clo f vs cs hl hr => exact .clo f vs cs hl hr
 | nilFn => exact .nilFn
 | ptr l off g hg => exact .ptr l off g hg
 | cptr b o i off sz vs xs hl hs hK hr => exact .cptr b o i off sz vs xs hl hs hK hr
 | bsl l off n sz q g c hg hn hm hq => exact .bsl l off n sz q g c hg hn hm hq
 | mp l g hg => exact .mp l g hg
 | iface t v a hr => exact .iface t v a hr
 | nilIface => exact .nilIface
theorem axsOf_rep {M : Mem} {ρ : Operand → Value} {ν : AX → AV} : ∀ {xs : List Operand} {as : List AX}, xs.mapM axOf = some as → (∀ x ∈ xs, ∀ ax, axOf x = some ax → Rep M (ρ x) (ν ax)) → Reps M (xs.map ρ) (as.map ν)
 | [], as, h, _ => by
   simp at h
   subst h
   exact reps_nil
 | x :: xs, as, h, k => by
   rw [List.mapM_cons] at h
   cases hx : axOf x with
   | none => simp [hx] at h
   | some a =>
     cases hxs : xs.mapM axOf with
     | none => simp [hx, hxs] at h
     | some as' =>
       simp [hx, hxs] at h
       subst h
       exact reps_cons (k x (by simp) a hx) (axsOf_rep hxs fun y hy => k y (by simp [hy]))
theorem zip_of_map {α β γ : Type} (f : β → γ) : ∀ (l : List (α × β)), l.map (fun p => (p.1, f p.2)) = (l.map (·.1)).zip (l.map fun p => f p.2)
 | [] => rfl
 | p :: l => by simp [zip_of_map f l]
theorem orep_of {M : Mem} {ρ : Operand → Value} {ν : AX → AV} {x : Option Operand} {a : Option AX} (h : axo x = some a) (k : ∀ y, x = some y → ∀ ax, axOf y = some ax → Rep M (ρ y) (ν ax)) : ORep M (x.map ρ) (a.map ν) := by
 cases x with
 | none =>
   simp [axo] at h
   subst h
   trivial
 | some y =>
   simp only [axo] at h
   cases hy : axOf y with
   | none => simp [hy] at h
   | some b =>
     simp [hy] at h
     subst h
     exact k y rfl b hy
section
variable {X : Cx} {M : Mem} {σ σt : Nat → Option (TypeId × List AV)} {w : World}
theorem rep_lit {e : TypeId} {sz : Nat} (ks : List Nat) (h : MR X M σ w) (h0 : sz ≠ 0) {vs : List Value} {as : List AV} (hr : Reps M vs as) (hc : ∀ a ∈ as, (cellsOf a).map List.length = some sz) (hmax : vs.length * sz ≤ 16777216) :
   (∀ v ∈ vs, ElemOk sz v) ∧ ∃ M', QOk X M σ w 0 none (.slice .full sz (as.map fun a => canA ks (imm1 a))) (.slice (some ⟨w.heap.size, 0, none⟩) vs.length vs.length) (w.alloc (.cells (flat vs).toArray e)) M' := by
 have hs : ∀ v ∈ vs, ElemOk sz v := by
   intro v hv
   obtain ⟨i, hi, rfl⟩ := List.getElem_of_mem hv
   have h2 : i < as.length := by rw [← hr.1]; exact hi
   have := hc as[i] (List.getElem_mem h2)
   cases hca : cellsOf as[i] with
   | none => simp [hca] at this
   | some cs =>
     obtain ⟨k1, k2⟩ := rep_cells (hr.2 i hi h2) hca
     simp [hca] at this
     exact ⟨by rw [← Array.length_toList, k1.1]; exact this, k2⟩
 refine ⟨hs, ?_⟩
 obtain ⟨M', g1, g2, g3, g4, g5, g6⟩ := h.addRow (flat vs).toArray e (0, 0)
 refine ⟨M', g1, g2, ?_, bnew w _, g3, g4, fun l _ => by rw [g5], fun _ => g5, fun e => absurd rfl e⟩
 have hlen := flat_length vs hs
 have hvl : vs.length ≤ maxLen := by
   have : vs.length ≤ vs.length * sz := Nat.le_mul_of_pos_right _ (by omega)
   unfold maxLen
   omega
 have hr' := hr.mono g1
 refine .slice .full _ _ _ sz vs _ (by simpa using hr.1) (by simpa using hr.1) (Nat.le_refl _) hvl hs (.inr ⟨_, _, rfl, fun j hj => ?_⟩) (fun i h1 h2 => by
   rw [List.getElem_map]
   exact rep_canA ks (rep_imm1 (hr'.2 i h1 (by simpa using h2)))) rfl
 rw [Nat.zero_add]
 refine g6 j _ ?_
 simp
theorem qok_any {nl nl' : Nat} {a : AV} {v : Value} {w' : World} {M' : Mem} (h : QOk X M σ w nl none a v w' M') : QOk X M σ w nl' none a v w' M' :=
 ⟨h.le, h.mr, h.rep, h.bel, h.fr, h.β, fun l _ => by rw [h.μ0 rfl], h.μ0, fun e => absurd rfl e⟩
theorem run_lit {P : Program} (t e : TypeId) (len : Nat) (parts : Array (Nat × Value)) (cells : Array Value) (ie : TypeInfo) (z : Value)
   (hu : P.underlying t = some (.slice e)) (hie : P.info? e = some ie) (hz : ie.zero = some z) (hsm : ¬ len * ie.size > 2 ^ 24)
   (h : ∀ C : Array Value, C.size = len * ie.size → Instr.fill (fun i => some (i * ie.size, ie.size)) C parts.toList = some cells) :
   (Instr.buildSlice t len parts).run P w = .ok (.slice (some ⟨w.heap.size, 0, none⟩) len len) (w.alloc (.cells cells e)) := by
 by_cases hpos : len * ie.size = 0
 · have := h (Array.map (fun _ => default) (Array.range 0)) (by simp [hpos])
   simp [Instr.buildSlice, run_underlying hu w, sizeOf, typeInfo, hie, hpos, this, newRow]
 · have := h ((Array.range (len * ie.size)).map (z.cells[· % z.cells.size]!)) (by simp)
   simp [Instr.buildSlice, run_underlying hu w, sizeOf, typeInfo, zeroValue, hie, hz, hsm, hpos, this, newRow]
theorem run_eq_nil1 {P : Program} {w : World} {t : TypeId} {ms : Array (String × TypeId)} (ht : P.underlying t = some (.interface ms)) (t' : TypeId) (v : Value) : (Op.equal t (.iface t' v) .nilIface).run P w = .ok false w := by
 unfold Op.equal
 rw [show Op.maxDepth = 9999 + 1 from rfl, Op.equalIn]
 rw [Sem.run_bind, run_underlying ht w]
 rfl
theorem run_eq_nil2 {P : Program} {w : World} {t : TypeId} {ms : Array (String × TypeId)} (ht : P.underlying t = some (.interface ms)) : (Op.equal t .nilIface .nilIface).run P w = .ok true w := by
 unfold Op.equal
 rw [show Op.maxDepth = 9999 + 1 from rfl, Op.equalIn]
 rw [Sem.run_bind, run_underlying ht w]
 rfl
theorem run_nil1 {P : Program} {w : World} {t : TypeId} {ms : Array (String × TypeId)} (ht : P.underlying t = some (.interface ms)) (t' : TypeId) (v : Value) (x y : Operand) (neg : Bool) :
   (do eqGuard (if neg then .neq else .eql) t x y (.iface t' v) .nilIface; binOp (if neg then .neq else .eql) t (.iface t' v) .nilIface : Sem Value).run P w = .ok (.bool neg) w := by
 cases neg
 · show (do pure (); (do pure (.bool (← Op.equal t (.iface t' v) .nilIface)) : Sem Value) : Sem Value).run P w = _
   rw [Sem.run_bind, run_eq_nil1 ht]
   rfl
 · show (do pure (); (do pure (.bool (!(← Op.equal t (.iface t' v) .nilIface))) : Sem Value) : Sem Value).run P w = _
   rw [Sem.run_bind, run_eq_nil1 ht]
   rfl
theorem run_nil2 {P : Program} {w : World} {t : TypeId} {ms : Array (String × TypeId)} (ht : P.underlying t = some (.interface ms)) (x : Operand) (neg : Bool) :
   (do eqGuard (if neg then .neq else .eql) t x (.const .nilIface) .nilIface .nilIface; binOp (if neg then .neq else .eql) t .nilIface .nilIface : Sem Value).run P w = .ok (.bool (!neg)) w := by
 have hg : ∀ op : BinOp, (eqGuard op t x (.const .nilIface) .nilIface .nilIface).run P w = .ok () w := fun op => by
   unfold eqGuard
   cases op <;> cases x <;> rfl
 rw [Sem.run_bind, hg, Result.andThen_ok]
 cases neg
 · show (do pure (.bool (← Op.equal t .nilIface .nilIface)) : Sem Value).run P w = _
   rw [Sem.run_bind, run_eq_nil2 ht]
   rfl
 · show (do pure (.bool (!(← Op.equal t .nilIface .nilIface))) : Sem Value).run P w = _
   rw [Sem.run_bind, run_eq_nil2 ht]
   rfl
theorem qop_ok {ρ : Operand → Value} {o : Oper} {ao : AOp} {ν : AX → AV} {nl : Nat} {a : AV} {nb : Option (TypeId × List AV)} (hprep : prep X.P o = some ao) (h : MR X M σ w) (hσ : ∀ l b, σt l = some b → σ l = some b)
   (hc : ∀ v, ρ (.const v) = v) (hfn : ∀ f, ρ (.func f) = .func (.func f) #[] #[]) (hcν : ∀ b, ν (.val b) = b)
   (hν : ∀ x ∈ o.op.operands.toList, ∀ ax, axOf x = some ax → Rep M (ρ x) (ν ax)) (hq : qop ν σt nl ao = some (a, nb)) (hnl : nb ≠ none → M.μ nl = none) (hnb : ∀ b, nb = some b → σ nl = some b) :
   ∃ v w' M', (execOp ρ o).run X.P w = .ok (.value v) w' ∧ QOk X M σ w nl nb a v w' M' := by
 have pure_ : ∀ v, Rep M v a → nb = none → (execOp ρ o).run X.P w = .ok (.value v) w → ∃ v w' M', (execOp ρ o).run X.P w = .ok (.value v) w' ∧ QOk X M σ w nl nb a v w' M' := fun v hr he hx => ⟨v, w, M, hx, by subst he; exact qok_same h hr⟩
 unfold prep at hprep
 split at hprep
 case h_1 x heq =>
   obtain ⟨ax, hax, rfl⟩ := Option.map_eq_some_iff.1 hprep
   simp only [qop, Option.some.injEq, Prod.mk.injEq] at hq
   obtain ⟨rfl, rfl⟩ := hq
   exact pure_ _ (hν x (by simp [heq, Op.operands]) ax hax) rfl (by simp [execOp, heq])
 case h_2 x heq =>
   obtain ⟨ax, hax, rfl⟩ := Option.map_eq_some_iff.1 hprep
   simp only [qop, Option.some.injEq, Prod.mk.injEq] at hq
   obtain ⟨rfl, rfl⟩ := hq
   exact pure_ _ (hν x (by simp [heq, Op.operands]) ax hax) rfl (by simp [execOp, heq])
 case h_3 c x y heq =>
   simp only [Option.bind_eq_bind, Option.bind_eq_some_iff, Option.pure_def, Option.some.injEq] at hprep
   obtain ⟨c', hc', x', hx', y', hy', rfl⟩ := hprep
   have rc := hν c (by simp [heq, Op.operands]) c' hc'
   have rx := hν x (by simp [heq, Op.operands]) x' hx'
   have ry := hν y (by simp [heq, Op.operands]) y' hy'
   simp only [qop] at hq
   split at hq
   rotate_left
   · cases hq
   rename_i t ht
   rw [ht] at rc
   have rc := rep_bool rc
   simp only [Option.some.injEq, Prod.mk.injEq] at hq
   obtain ⟨rfl, rfl⟩ := hq
   refine pure_ (if t then ρ x else ρ y) ?_ rfl ?_
   · cases t
     · exact ry
     · exact rx
   · simp [execOp, heq, rc, asBool]
 case h_4 T heq =>
   simp only [Option.bind_eq_bind, Option.bind_eq_some_iff] at hprep
   obtain ⟨i, hi, z, hz, av, hav, hprep⟩ := hprep
   split at hprep
   rotate_left
   · cases hprep
   rename_i hsz
   injection hprep with hprep
   subst hprep
   simp only [qop, hcν] at hq
   split at hq
   rotate_left
   · cases hq
   rename_i cs hcs
   split at hq
   rotate_left
   · cases hq
   rename_i hcl
   simp only [Option.some.injEq, Prod.mk.injEq] at hq
   obtain ⟨rfl, rfl⟩ := hq
   obtain ⟨k1, k2⟩ := rep_cells (avOf_rep (M := M) hav) hcs
   obtain ⟨M', g1, g2, g3, g4, g5, g6⟩ := h.addBox (hnl (by simp)) (hnb _ rfl) [] k1 hcl.2 k2
   refine ⟨.pointer (some ⟨w.heap.size, 0, none⟩), _, M', ?_, g1, g2, .ptr nl 0 _ g6, bnew w _, g3, g4, g5, (fun e => by cases e), (fun _ => by rw [g6]; simp)⟩
   simp [execOp, heq, Instr.alloc, zeroValue, typeInfo, hi, hz, newVar, newRow]
 case h_5 T x heq =>
   simp only [Option.bind_eq_bind, Option.bind_eq_some_iff, Option.pure_def, Option.some.injEq] at hprep
   obtain ⟨i, hi, x', hx', rfl⟩ := hprep
   simp only [qop] at hq
   split at hq
   rotate_left
   · cases hq
   rename_i cs hcs
   split at hq
   rotate_left
   · cases hq
   rename_i hcl
   simp only [Option.some.injEq, Prod.mk.injEq] at hq
   obtain ⟨rfl, rfl⟩ := hq
   obtain ⟨k1, k2⟩ := rep_cells (hν x (by simp [heq, Op.operands]) x' hx') hcs
   obtain ⟨M', g1, g2, g3, g4, g5, g6⟩ := h.addBox (hnl (by simp)) (hnb _ rfl) [] k1 hcl.2 k2
   refine ⟨.pointer (some ⟨w.heap.size, 0, none⟩), _, M', ?_, g1, g2, .ptr nl 0 _ g6, bnew w _, g3, g4, g5, (fun e => by cases e), (fun _ => by rw [g6]; simp)⟩
   simp [execOp, heq, Instr.box, newVar, newRow]
 case h_6 t x heq =>
   simp only [Option.bind_eq_bind, Option.bind_eq_some_iff, Option.pure_def, Option.some.injEq] at hprep
   obtain ⟨n, hn, x', hx', rfl⟩ := hprep
   simp only [qop] at hq
   have hnb0 : nb = none := by
     split at hq
     · split at hq
       · split at hq
         · obtain ⟨_, _, e⟩ := Option.map_eq_some_iff.1 hq
           injection e with _ e
           exact e.symm
         · cases hq
       · cases hq
     · split at hq
       · split at hq
         · obtain ⟨_, _, e⟩ := Option.map_eq_some_iff.1 hq
           injection e with _ e
           exact e.symm
         · cases hq
       · cases hq
     · cases hq
   subst hnb0
   obtain ⟨u, hu, hr⟩ := run_ld h hσ hn (hν x (by simp [heq, Op.operands]) x' hx') hq
   exact pure_ u hr rfl (by simp [execOp, heq, hu])
 case h_7 t a' x heq =>
   simp only [Option.bind_eq_bind, Option.bind_eq_some_iff, Option.pure_def, Option.some.injEq] at hprep
   obtain ⟨i, hi, y, hy, x', hx', rfl⟩ := hprep
   simp [qop] at hq
 case h_8 s x f heq =>
   split at hprep
   rotate_left
   · cases hprep
   rename_i fs hs
   split at hprep
   rotate_left
   · cases hprep
   rename_i fd hf
   simp only [Option.bind_eq_bind, Option.bind_eq_some_iff, Option.pure_def] at hprep
   obtain ⟨i, hi, hprep⟩ := hprep
   split at hprep
   · cases hprep
   rename_i h0
   simp only [Option.bind_eq_some_iff, Option.some.injEq] at hprep
   obtain ⟨x', hx', rfl⟩ := hprep
   simp only [qop] at hq
   have hnb0 : nb = none := by
     split at hq <;> simp at hq
     · exact hq.2.symm
     · exact hq.2.symm
   subst hnb0
   obtain ⟨u, hu, hr⟩ := run_off h hs hf hi h0 (hν x (by simp [heq, Op.operands]) x' hx') hq
   exact pure_ u hr rfl (by simp [execOp, heq, hu])
 case h_9 t x ix heq =>
   split at hprep
   · rename_i e ht
     simp only [Option.bind_eq_bind, Option.bind_eq_some_iff, Option.pure_def] at hprep
     obtain ⟨i, hi, hprep⟩ := hprep
     split at hprep
     · cases hprep
     rename_i h0
     simp only [Option.bind_eq_some_iff, Option.some.injEq] at hprep
     obtain ⟨x', hx', y', hy', rfl⟩ := hprep
     have rx := hν x (by simp [heq, Op.operands]) x' hx'
     have ry := hν ix (by simp [heq, Op.operands]) y' hy'
     simp only [qop] at hq
     split at hq
     rotate_left
     · rename_i l off m sz' _ kd n e1 e2
       rw [e1] at rx
       rw [e2] at ry
       split at hq
       rotate_left
       · cases hq
       rename_i hcnd
       obtain ⟨rfl, hcnd⟩ := hcnd
       simp only [Option.some.injEq, Prod.mk.injEq] at hq
       obtain ⟨rfl, rfl⟩ := hq
       have hry := rep_int ry
       generalize hu : ρ x = u at rx
       cases rx with
       | bsl _ _ _ _ _ g c hg hn hm _ =>
         have hs' : (sizeOf e).run X.P w = .ok i.size w := by simp [sizeOf, typeInfo, hi]
         have hp : (Instr.indexAt t (.slice (some ⟨g, off * i.size, none⟩) m c) (.int kd n)).run X.P w = .ok (.pointer (some ⟨g, (off + n.toNat) * i.size, none⟩)) w := by
           rw [run_indexAt_slice w t _ _ _ _ _ (by rw [elem_of ht]; exact ht), if_pos ⟨hcnd.1, by omega⟩, elem_of ht, hs', Result.andThen_ok, Addr.add_lit, Nat.add_mul]
         exact pure_ _ (.ptr l _ g hg) rfl (by simp [execOp, heq, hu, hry, hp])
     · cases hq
     rename_i tg sz' xs kd n e1 e2
     rw [e1] at rx
     rw [e2] at ry
     split at hq
     rotate_left
     · cases hq
     rename_i hcnd
     obtain ⟨rfl, hcnd⟩ := hcnd
     obtain ⟨q, hq1, hq⟩ := Option.map_eq_some_iff.1 hq
     simp only [Prod.mk.injEq] at hq
     obtain ⟨rfl, rfl⟩ := hq
     obtain ⟨p, hp, hr⟩ := run_idxA h ht hi h0 rx ry ⟨hcnd, by have := (List.getElem?_eq_some_iff.1 hq1).1; omega⟩
     have hr := rep_one hr hq1
     exact pure_ p hr rfl (by simp [execOp, heq, hp])
   · rename_i n e ht
     split at hprep
     rotate_left
     · cases hprep
     rename_i kd z
     simp only [Option.bind_eq_bind, Option.bind_eq_some_iff, Option.pure_def] at hprep
     obtain ⟨i, hi, hprep⟩ := hprep
     split at hprep
     rotate_left
     · cases hprep
     rename_i hz
     simp only [Option.bind_eq_some_iff, Option.some.injEq] at hprep
     obtain ⟨x', hx', rfl⟩ := hprep
     simp only [qop] at hq
     have hnb0 : nb = none := by
       split at hq <;> simp at hq
       · exact hq.2.symm
       · exact hq.2.symm
     subst hnb0
     obtain ⟨u, hu, hr⟩ := run_offA (kd := kd) h ht hi hz (hν x (by simp [heq, Op.operands]) x' hx') hq
     exact pure_ u hr rfl (by
       have : ρ (.const (.int kd z)) = .int kd z := hc _
       simp [execOp, heq, this, hu])
   · cases hprep
 case h_10 t x ix heq =>
   split at hprep
   · rename_i ht
     simp only [Option.bind_eq_bind, Option.bind_eq_some_iff, Option.pure_def, Option.some.injEq] at hprep
     obtain ⟨x', hx', y', hy', rfl⟩ := hprep
     have rx := hν x (by simp [heq, Op.operands]) x' hx'
     have ry := hν ix (by simp [heq, Op.operands]) y' hy'
     simp only [qop] at hq
     split at hq
     rotate_left
     · cases hq
     rename_i s kd n e1 e2
     rw [e1] at rx
     rw [e2] at ry
     split at hq
     rotate_left
     · cases hq
     rename_i hcnd
     simp only [Option.some.injEq, Prod.mk.injEq] at hq
     obtain ⟨rfl, rfl⟩ := hq
     refine pure_ _ (.int _ _) rfl ?_
     simp only [execOp, heq, rep_str rx, rep_int ry, Sem.run_bind]
     rw [run_index_string w t _ _ _ ht, dif_pos hcnd]
     rfl
   · rename_i n e ht
     simp only [Option.bind_eq_bind, Option.bind_eq_some_iff, Option.pure_def, Option.some.injEq] at hprep
     obtain ⟨i, hi, sz, hsz, x', hx', y', hy', rfl⟩ := hprep
     have rx := hν x (by simp [heq, Op.operands]) x' hx'
     have ry := hν ix (by simp [heq, Op.operands]) y' hy'
     simp only [qop] at hq
     split at hq
     rotate_left
     · cases hq
     rename_i cs kd j e1 e2
     rw [e1] at rx
     rw [e2] at ry
     split at hq
     rotate_left
     · cases hq
     rename_i hcnd
     obtain ⟨b, hb, he⟩ := Option.map_eq_some_iff.1 hq
     injection he with e3 e4
     subst e3 e4
     obtain ⟨us, v, hus, hrun, hr⟩ := ld_part (w := w) hsz rx hb
     refine pure_ v hr rfl ?_
     simp only [execOp, heq, hus, rep_int ry, Sem.run_bind]
     have : (Instr.index t (.agg us) (.int kd j)).run X.P w = .ok v w := by
       rw [← hrun]
       simp [Instr.index, asIntOf, run_underlying ht, hcnd, sizeOf, typeInfo, hi, Sem.run_bind]
     rw [this]
     rfl
   · cases hprep
 case h_11 op t x y yt heq =>
   have nums : ∀ x' y', axOf x = some x' → axOf y = some y' → ao = .bin op x' y' → ∃ v w' M', (execOp ρ o).run X.P w = .ok (.value v) w' ∧ QOk X M σ w nl nb a v w' M' := fun x' y' hx' hy' hao => by
     subst hao
     have rx := hν x (by simp [heq, Op.operands]) x' hx'
     have ry := hν y (by simp [heq, Op.operands]) y' hy'
     simp only [qop] at hq
     obtain ⟨a', ha', he⟩ := Option.map_eq_some_iff.1 hq
     injection he with e1 e2
     subst e1 e2
     obtain ⟨r, hr, hrep⟩ := run_bin (X := X) (w := w) (t := t) (x := x) (y := y) rx ry ha'
     refine pure_ r hrep rfl ?_
     simp only [execOp, heq]
     rw [Sem.run_bind, hr]
     rfl
   split at hprep
   · simp only [Option.bind_eq_bind, Option.bind_eq_some_iff, Option.pure_def, Option.some.injEq] at hprep
     obtain ⟨x', hx', y', hy', e⟩ := hprep
     exact nums x' y' hx' hy' e.symm
   · simp only [Option.bind_eq_bind, Option.bind_eq_some_iff, Option.pure_def, Option.some.injEq] at hprep
     obtain ⟨x', hx', y', hy', e⟩ := hprep
     exact nums x' y' hx' hy' e.symm
   · split at hprep
     rotate_right
     · cases hprep
     all_goals
       have ht : X.P.underlying t = some .bool := by assumption
       simp only [Option.bind_eq_bind, Option.bind_eq_some_iff, Option.pure_def, Option.some.injEq] at hprep
       obtain ⟨x', hx', y', hy', rfl⟩ := hprep
       have rx := hν x (by simp [heq, Op.operands]) x' hx'
       have ry := hν y (by simp [heq, Op.operands]) y' hy'
       simp only [qop] at hq
       split at hq
       rotate_left
       · cases hq
       rename_i p q e1 e2
       rw [e1] at rx
       rw [e2] at ry
       simp only [Option.some.injEq, Prod.mk.injEq] at hq
       obtain ⟨rfl, rfl⟩ := hq
       refine pure_ _ (.bool _) rfl ?_
       simp only [execOp, heq, rep_bool rx, rep_bool ry]
       first
         | (rw [Sem.run_bind, Sem.run_bind, show (eqGuard .eql t x y (.bool _) (.bool _)).run X.P w = .ok () w by simp [eqGuard], Result.andThen_ok, run_eql_bool w t _ _ ht]; rfl)
         | (rw [Sem.run_bind, Sem.run_bind, show (eqGuard .neq t x y (.bool _) (.bool _)).run X.P w = .ok () w by simp [eqGuard], Result.andThen_ok, run_neq_bool w t _ _ ht]; rfl)
   · rename_i fs ht
     have structs : ∀ neg i L x' y', X.P.info? t = some i → leaves X.P 8 t 0 = some L → X.P.eqGuardType X.P.depth t = false → op = (if neg then .neq else .eql) → axOf x = some x' → axOf y = some y' → ao = .eqA neg i.size L x' y' → ∃ v w' M', (execOp ρ o).run X.P w = .ok (.value v) w' ∧ QOk X M σ w nl nb a v w' M' := fun neg i L x' y' hi hL hg hop hx' hy' hao => by
       subst hao
       have rx := hν x (by simp [heq, Op.operands]) x' hx'
       have ry := hν y (by simp [heq, Op.operands]) y' hy'
       simp only [qop] at hq
       split at hq
       rotate_left
       · cases hq
       rename_i xs ys e1 e2
       rw [e1] at rx
       rw [e2] at ry
       split at hq
       rotate_left
       · cases hq
       rename_i hc
       obtain ⟨r, hr, he⟩ := Option.map_eq_some_iff.1 hq
       injection he with e3 e4
       subst e3 e4
       have hrun := run_eqA (X := X) (w := w) (x := x) (y := y) (neg := neg) ht hL hg rx ry hi hc.1 hc.2 hr
       refine pure_ _ (.bool _) rfl ?_
       simp only [execOp, heq, hop]
       rw [Sem.run_bind, hrun]
       rfl
     split at hprep
     · rename_i i L hi hL hg
       simp only [Option.bind_eq_bind, Option.bind_eq_some_iff, Option.pure_def, Option.some.injEq] at hprep
       obtain ⟨x', hx', y', hy', e⟩ := hprep
       exact structs false i L x' y' hi hL hg rfl hx' hy' e.symm
     · rename_i i L hi hL hg
       simp only [Option.bind_eq_bind, Option.bind_eq_some_iff, Option.pure_def, Option.some.injEq] at hprep
       obtain ⟨x', hx', y', hy', e⟩ := hprep
       exact structs true i L x' y' hi hL hg rfl hx' hy' e.symm
     · cases hprep
   · rename_i ms ht
     have nils : ∀ neg x', y = .const .nilIface → axOf x = some x' → op = (if neg then .neq else .eql) → ao = .isNil neg x' → ∃ v w' M', (execOp ρ o).run X.P w = .ok (.value v) w' ∧ QOk X M σ w nl nb a v w' M' := fun neg x' hy hx' hop hao => by
       subst hao
       have rx := hν x (by simp [heq, Op.operands]) x' hx'
       have hyv : ρ y = .nilIface := by rw [hy, hc]
       simp only [qop] at hq
       split at hq
       · rename_i ti bb e1
         rw [e1] at rx
         simp only [Option.some.injEq, Prod.mk.injEq] at hq
         obtain ⟨rfl, rfl⟩ := hq
         refine pure_ _ (.bool _) rfl ?_
         generalize hu : ρ x = u at rx
         cases rx with
         | iface _ v _ hb =>
           have := run_nil1 (w := w) ht ti v x y neg
           rw [← hop, ← hu, ← hyv] at this
           simp only [execOp, heq]
           rw [Sem.run_bind, this]
           rfl
       · rename_i e1
         rw [e1] at rx
         simp only [Option.some.injEq, Prod.mk.injEq] at hq
         obtain ⟨rfl, rfl⟩ := hq
         refine pure_ _ (.bool _) rfl ?_
         generalize hu : ρ x = u at rx
         cases rx with
         | nilIface =>
           have := run_nil2 (w := w) ht x neg
           rw [← hop, ← hy] at this
           simp only [execOp, heq]
           rw [hu, hyv, Sem.run_bind, this]
           rfl
       · cases hq
     split at hprep
     · obtain ⟨x', hx', rfl⟩ := Option.map_eq_some_iff.1 hprep
       exact nils false x' rfl hx' rfl rfl
     · obtain ⟨x', hx', rfl⟩ := Option.map_eq_some_iff.1 hprep
       exact nils true x' rfl hx' rfl rfl
     · cases hprep
   · cases hprep
 case h_12 op t x heq =>
   simp only [Option.bind_eq_bind, Option.bind_eq_some_iff, Option.pure_def, Option.some.injEq] at hprep
   obtain ⟨x', hx', rfl⟩ := hprep
   have rx := hν x (by simp [heq, Op.operands]) x' hx'
   simp only [qop] at hq
   obtain ⟨a', ha', he⟩ := Option.map_eq_some_iff.1 hq
   injection he with e1 e2
   subst e1 e2
   unfold unAV at ha'
   split at ha'
   · rename_i e1
     rw [e1] at rx
     injection ha' with ha'
     subst ha'
     exact pure_ _ (.int _ _) rfl (by simp [execOp, heq, rep_int rx, Op.unary, Op.intArith])
   · rename_i e1
     rw [e1] at rx
     injection ha' with ha'
     subst ha'
     exact pure_ _ (.int _ _) rfl (by simp only [execOp, heq, rep_int rx, Op.unary, Op.intBits]; rfl)
   · rename_i e1
     rw [e1] at rx
     injection ha' with ha'
     subst ha'
     exact pure_ _ (.bool _) rfl (by simp [execOp, heq, rep_bool rx, Op.unary])
   · cases ha'
 case h_13 s d x heq =>
   split at hprep
   · rename_i ks kd hs hd
     simp only [Option.bind_eq_bind, Option.bind_eq_some_iff, Option.pure_def, Option.some.injEq] at hprep
     obtain ⟨x', hx', rfl⟩ := hprep
     have rx := hν x (by simp [heq, Op.operands]) x' hx'
     simp only [qop] at hq
     split at hq
     rotate_left
     · cases hq
     rename_i kk n e1
     rw [e1] at rx
     simp only [Option.some.injEq, Prod.mk.injEq] at hq
     obtain ⟨rfl, rfl⟩ := hq
     refine pure_ _ (.int _ _) rfl ?_
     have hk : X.P.intKind d = kd := by simp [Program.intKind, hd]
     have := run_convert_int (P := X.P) w s d kk n (by rw [hs]; rfl) (by rw [hk]; exact hd)
     rw [hk] at this
     simp only [execOp, heq, rep_int rx]
     rw [Sem.run_bind, this]
     rfl
   · rename_i e hs hd
     split at hprep
     rotate_left
     · cases hprep
     rename_i he
     obtain ⟨x', hx', rfl⟩ := Option.map_eq_some_iff.1 hprep
     have rx := hν x (by simp [heq, Op.operands]) x' hx'
     simp only [qop] at hq
     split at hq
     rotate_left
     · cases hq
     rename_i tg sz xs e1
     rw [e1] at rx
     split at hq
     rotate_left
     · cases hq
     rename_i hc
     obtain ⟨l, hl, he'⟩ := Option.map_eq_some_iff.1 hq
     injection he' with e3 e4
     subst e3 e4
     have hrun := run_b2s h hs he hd rx hc hl
     refine pure_ _ (.str _) rfl ?_
     simp only [execOp, heq]
     rw [Sem.run_bind, hrun]
     rfl
   · rename_i e hs hd
     split at hprep
     rotate_left
     · cases hprep
     rename_i he
     obtain ⟨x', hx', rfl⟩ := Option.map_eq_some_iff.1 hprep
     have rx := hν x (by simp [heq, Op.operands]) x' hx'
     simp only [qop] at hq
     split at hq
     rotate_left
     · cases hq
     rename_i s' e1
     rw [e1] at rx
     split at hq
     rotate_left
     · cases hq
     rename_i hc
     simp only [Option.some.injEq, Prod.mk.injEq] at hq
     obtain ⟨rfl, rfl⟩ := hq
     have hrun := run_bytes_of_string (P := X.P) w s d e s' hs hd he
     have hmd : MR X M σ w.drew := ⟨h.kap, h.old, ⟨h.bel.os, h.bel.tape, h.bel.output, h.bel.size, h.bel.block⟩, h.hb, h.box, h.inj, h.tok, h.tinj, h.prot⟩
     obtain ⟨M', g1, g2, g3, g4, g5, g6⟩ := hmd.addRow (bytesRow s' (grownCap w s'.size 0 e)) e ((bytesRow s' (grownCap w s'.size 0 e)).size, (bytesRow s' (grownCap w s'.size 0 e)).size + 1)
     have hge := grownCap_ge w s'.size 0 e
     have hmx := grownCap_le_maxLen w s'.size 0 e (by unfold maxLen; omega)
     clear hc
     refine ⟨_, _, M', by simp only [execOp, heq, rep_str rx]; rw [Sem.run_bind, hrun]; rfl, g1, g2, ?_, ⟨rfl, rfl, rfl, by simp, fun k hk => heap_alloc_old w.drew _ hk⟩, g3, g4, fun l _ => by rw [g5], fun _ => g5, fun e => absurd rfl e⟩
     have hfl : flat (s'.data.toList.map fun b => Value.int .u8 (b.toNat : Int)) = s'.data.toList.map fun b => Value.int .u8 (b.toNat : Int) := by
       generalize s'.data.toList = l
       induction l with
       | nil => rfl
       | cons b l ih =>
         rw [List.map_cons, flat_cons, ih]
         rfl
     have hsz : s'.data.toList.length = s'.size := by rw [Array.length_toList]; rfl
     refine .slice .imm _ _ _ 1 (s'.data.toList.map fun b => Value.int .u8 (b.toNat : Int)) _ (by simp) (by rw [List.length_map]; exact hsz.symm) hge hmx (fun v hv => ?_) (.inr ⟨_, _, rfl, fun j hj => ?_⟩) (fun i h1 h2 => ?_) trivial
     · obtain ⟨b, _, rfl⟩ := List.mem_map.1 hv
       exact ⟨rfl, fun u hu => by
         have : u = .int .u8 (b.toNat : Int) := by simpa [Value.cells] using hu
         subst this
         rfl⟩
     · rw [Nat.zero_add]
       have hg := g6 j ((flat (s'.data.toList.map fun b => Value.int .u8 (b.toNat : Int)))[j]) (by
         simp only [hfl]
         have hj' : j < s'.data.size := by
           rw [hfl] at hj
           simpa using hj
         have hj2 : j < s'.data.toList.length := by simpa using hj'
         unfold bytesRow
         rw [Array.getElem?_append_left (by simpa using hj'), Array.getElem?_map, ← Array.getElem?_toList, List.getElem?_eq_getElem hj2]
         simp)
       exact hg
     · simp only [List.getElem_map]
       exact .int _ _
   · cases hprep
 case h_14 t x lo hi mx heq =>
   have rx : ∀ x', axOf x = some x' → Rep M (ρ x) (ν x') := fun x' hx' => hν x (by simp [heq, Op.operands]) x' hx'
   have rlo : ∀ lo', axo lo = some lo' → ORep M (lo.map ρ) (lo'.map ν) := fun lo' hlo => orep_of hlo fun y hy ax hax => hν y (by simp [heq, Op.operands, hy]) ax hax
   have rhi : ∀ lo', axo hi = some lo' → ORep M (hi.map ρ) (lo'.map ν) := fun lo' hlo => orep_of hlo fun y hy ax hax => hν y (by simp [heq, Op.operands, hy]) ax hax
   have rmx : ∀ lo', axo mx = some lo' → ORep M (mx.map ρ) (lo'.map ν) := fun lo' hlo => orep_of hlo fun y hy ax hax => hν y (by simp [heq, Op.operands, hy]) ax hax
   split at hprep
   · rename_i e ht
     simp only [Option.bind_eq_bind, Option.bind_eq_some_iff, Option.pure_def] at hprep
     obtain ⟨i, hi', hprep⟩ := hprep
     split at hprep
     · cases hprep
     rename_i hm
     simp only [Option.bind_eq_some_iff, Option.some.injEq] at hprep
     obtain ⟨x', hx', lo', hlo', hi'', hhi', mx', hmx', rfl⟩ := hprep
     simp only [qop] at hq
     obtain ⟨a', ha', he⟩ := Option.map_eq_some_iff.1 hq
     injection he with e1 e2
     subst e1 e2
     obtain ⟨u, hu, hr⟩ := run_cut (X := X) (w := w) ht hi' (rx x' hx') (rlo _ hlo') (rhi _ hhi') (rmx _ hmx') (fun e => by
       cases mx <;> cases hi <;> simp_all) ha'
     exact pure_ u hr rfl (by simp [execOp, heq, hu])
   · rename_i ht
     split at hprep
     · cases hprep
     rename_i hm
     simp only [Option.bind_eq_bind, Option.bind_eq_some_iff, Option.pure_def, Option.some.injEq] at hprep
     obtain ⟨x', hx', lo', hlo', hi'', hhi', rfl⟩ := hprep
     simp only [qop] at hq
     obtain ⟨a', ha', he⟩ := Option.map_eq_some_iff.1 hq
     injection he with e1 e2
     subst e1 e2
     obtain ⟨u, hu, hr⟩ := run_cutStr (X := X) (w := w) ht (rx x' hx') (rlo _ hlo') (rhi _ hhi') ha'
     obtain rfl : mx = none := by cases mx <;> simp_all
     exact pure_ u hr rfl (by simp [execOp, heq, hu])
   · cases hprep
 case h_15 x i heq =>
   simp only [Option.bind_eq_bind, Option.bind_eq_some_iff, Option.pure_def, Option.some.injEq] at hprep
   obtain ⟨x', hx', rfl⟩ := hprep
   have rx := hν x (by simp [heq, Op.operands]) x' hx'
   simp only [qop] at hq
   split at hq
   rotate_left
   · cases hq
   rename_i vs e1
   rw [e1] at rx
   obtain ⟨a', ha', he⟩ := Option.map_eq_some_iff.1 hq
   injection he with e1 e2
   subst e1 e2
   obtain ⟨us, hus, hr⟩ : ∃ us : List Value, ρ x = .tuple us.toArray ∧ Reps M us vs := by
     generalize ρ x = u at rx
     cases rx with
     | tup us _ hl hr => exact ⟨us, rfl, hl, hr⟩
   obtain ⟨u, hu, hru⟩ := reps_get hr ha'
   exact pure_ u hru rfl (by simp [execOp, heq, hus, Instr.extract, hu])
 case h_16 f first captured heq =>
   split at hprep
   rotate_left
   · split at hprep
     rotate_left
     · cases hprep
     rename_i hsz
     obtain ⟨bs, hbs, rfl⟩ := Option.map_eq_some_iff.1 hprep
     simp only [qop, Option.some.injEq, Prod.mk.injEq] at hq
     obtain ⟨rfl, rfl⟩ := hq
     have h2 : first = #[] := Array.eq_empty_of_size_eq_zero hsz
     have hreps := axsOf_rep (M := M) (ρ := ρ) (ν := ν) hbs (fun x hx ax hax => hν x (by
       simp only [heq, Op.operands, Array.toList_append]
       exact List.mem_append_right _ hx) ax hax)
     have hr : Rep M (.func (.func f) #[] (captured.toList.map ρ).toArray) (.clo f (bs.map fun x => imm1 (ν x))) := by
       refine .clo f _ _ (by simpa using hreps.1) (fun i h1 h2 => ?_)
       have := rep_imm1 (hreps.2 i h1 (by simpa using h2))
       simpa using this
     refine pure_ _ hr rfl ?_
     have hm : (captured.toList.map ρ).toArray = captured.map ρ := by
       rw [← Array.toList_map]
     rw [hm]
     simp [execOp, heq, Instr.makeFunc, h2]
   rename_i hsz
   obtain ⟨bs, hbs, rfl⟩ := Option.map_eq_some_iff.1 hprep
   simp only [qop, Option.some.injEq, Prod.mk.injEq] at hq
   obtain ⟨rfl, rfl⟩ := hq
   have h2 : captured = #[] := Array.eq_empty_of_size_eq_zero hsz
   have hreps := axsOf_rep (M := M) (ρ := ρ) (ν := ν) hbs (fun x hx ax hax => hν x (by
     simp only [heq, Op.operands, Array.toList_append]
     exact List.mem_append_left _ hx) ax hax)
   have hr : Rep M (.func (.func f) (first.toList.map ρ).toArray #[]) (.fn f (bs.map fun x => imm1 (ν x))) := by
     refine .fn f _ _ (by simpa using hreps.1) (fun i h1 h2 => ?_)
     have := rep_imm1 (hreps.2 i h1 (by simpa using h2))
     simpa using this
   refine pure_ _ hr rfl ?_
   have hm : (first.toList.map ρ).toArray = first.map ρ := by
     rw [← Array.toList_map]
   rw [hm]
   simp [execOp, heq, Instr.makeFunc, h2]
 case h_17 t n parts heq =>
   split at hprep
   rotate_left
   · cases hprep
   rename_i e ht
   simp only [Option.bind_eq_bind, Option.bind_eq_some_iff, Option.pure_def] at hprep
   obtain ⟨i, hi, z, hz, hprep⟩ := hprep
   split at hprep
   rotate_left
   · cases hprep
   rename_i hcnd
   obtain ⟨c1, c2, c3, c4⟩ := hcnd
   simp only [Option.bind_eq_some_iff, Option.some.injEq] at hprep
   obtain ⟨qs, hqs, rfl⟩ := hprep
   simp only [qop] at hq
   split at hq
   rotate_left
   · cases hq
   rename_i hall
   simp only [Option.some.injEq, Prod.mk.injEq] at hq
   obtain ⟨rfl, rfl⟩ := hq
   have hreps := axsOf_rep (M := M) (ρ := ρ) (ν := ν) hqs (fun x hx ax hax => hν x (by simpa [heq, Op.operands] using hx) ax hax)
   have hlen : ((parts.toList.map (·.2)).map ρ).length = n := by
     have := congrArg List.length c1
     simpa using this
   obtain ⟨k1, M', k2⟩ := rep_lit (e := e) (cellKinds X.P 8 e) h c2 hreps (fun a ha => by
     obtain ⟨x, hx, rfl⟩ := List.mem_map.1 ha
     have := List.all_eq_true.1 hall x hx
     simpa using this) (by rw [hlen]; exact c3)
   refine ⟨.slice (some ⟨w.heap.size, 0, none⟩) ((parts.toList.map (·.2)).map ρ).length ((parts.toList.map (·.2)).map ρ).length, _, M', ?_, by
     have := qok_any (nl' := nl) k2
     rwa [List.map_map] at this⟩
   have hfill : ∀ cells : Array Value, cells.size = n * i.size → Instr.fill (fun j => some (j * i.size, i.size)) cells (parts.map fun p => (p.1, ρ p.2)).toList = some (flat ((parts.toList.map (·.2)).map ρ)).toArray := fun cells hc => by
     have := lit_fill i.size ((parts.toList.map (·.2)).map ρ) 0 [] cells.toList cells rfl (by simp) (by rw [hlen]; simpa using hc) (fun v hv => (k1 v hv).1)
     rw [List.nil_append, hlen, ← List.range_eq_range', ← c1] at this
     rw [Array.toList_map, zip_of_map ρ, ← this, List.map_map]
     rfl
   simp only [execOp, heq, Sem.run_bind]
   have hrun : (Instr.buildSlice t n (parts.map fun p => (p.1, ρ p.2))).run X.P w = .ok (.slice (some ⟨w.heap.size, 0, none⟩) n n) (w.alloc (.cells (flat ((parts.toList.map (·.2)).map ρ)).toArray e)) := by
     exact run_lit t e n _ _ i z ht hi hz (by omega) hfill
   rw [hlen]
   show (Sem.run X.P (Instr.buildSlice t n (parts.map fun p => (p.1, ρ p.2))) w).andThen _ = _
   rw [hrun]
   rfl
 case h_18 t parts heq =>
   split at hprep
   · rename_i fs ht
     simp only [Option.bind_eq_bind, Option.bind_eq_some_iff, Option.pure_def] at hprep
     obtain ⟨it, hit, z, hz, av, hav, hprep⟩ := hprep
     split at hprep
     rotate_left
     · cases hprep
     rename_i za
     simp only [Option.bind_eq_some_iff, Option.some.injEq] at hprep
     obtain ⟨places, hpl, qs, hqs, rfl⟩ := hprep
     simp only [qop] at hq
     obtain ⟨ds, hds, he⟩ := Option.map_eq_some_iff.1 hq
     injection he with e1 e2
     subst e1 e2
     obtain ⟨k1, k2⟩ := rep_cells (avOf_rep (M := M) hav) rfl
     obtain ⟨out, g1, g2, g3⟩ := bld_fill (M := M) (ρ := ρ) (ν := ν) parts.toList qs z.cells za ds hqs (fun p hp ax hax => hν p.2 (by
       simp only [heq, Op.operands, List.toList_toArray]
       exact List.mem_map.2 ⟨p, hp, rfl⟩) ax hax) k1 k2 hds
     have hb : X.P.built t (parts.map fun p => (p.1, ρ p.2)).toList = some out := by
       unfold Program.built
       rw [hit, ht]
       simp only [hz, hpl]
       rw [Array.toList_map]
       exact g1
     refine pure_ (.agg out) ?_ rfl ?_
     · have := Rep.agg (M := M) out.toList ds g2.1 g3 g2.2
       simpa using this
     · simp only [execOp, heq, Sem.run_bind]
       show (Sem.run X.P (Instr.build t (parts.map fun p => (p.1, ρ p.2))) w).andThen _ = _
       rw [run_build w t _ out hb]
       rfl
   · rename_i n e ht
     simp only [Option.bind_eq_bind, Option.bind_eq_some_iff, Option.pure_def] at hprep
     obtain ⟨ie, hie, it, hit, z, hz, av, hav, hprep⟩ := hprep
     split at hprep
     rotate_left
     · cases hprep
     rename_i za
     simp only [Option.bind_eq_some_iff, Option.some.injEq] at hprep
     obtain ⟨qs, hqs, rfl⟩ := hprep
     simp only [qop] at hq
     obtain ⟨ds, hds, he⟩ := Option.map_eq_some_iff.1 hq
     injection he with e1 e2
     subst e1 e2
     obtain ⟨k1, k2⟩ := rep_cells (avOf_rep (M := M) hav) rfl
     obtain ⟨out, g1, g2, g3⟩ := bld_fill (M := M) (ρ := ρ) (ν := ν) parts.toList qs z.cells za ds hqs (fun p hp ax hax => hν p.2 (by
       simp only [heq, Op.operands, List.toList_toArray]
       exact List.mem_map.2 ⟨p, hp, rfl⟩) ax hax) k1 k2 hds
     have hb : X.P.built t (parts.map fun p => (p.1, ρ p.2)).toList = some out := by
       unfold Program.built
       rw [hit, ht]
       simp only [hz, hie]
       rw [Array.toList_map]
       refine fill_imp (fun j q hj => ?_) g1
       simp only [List.getElem?_toArray, List.getElem?_map, Option.map_eq_some_iff] at hj
       obtain ⟨j', hj', rfl⟩ := hj
       have : j' = j := by
         have := List.getElem?_eq_some_iff.1 hj'
         obtain ⟨h1, h2⟩ := this
         simpa using h2.symm
       rw [this]
     refine pure_ (.agg out) ?_ rfl ?_
     · have := Rep.agg (M := M) out.toList ds g2.1 g3 g2.2
       simpa using this
     · simp only [execOp, heq, Sem.run_bind]
       show (Sem.run X.P (Instr.build t (parts.map fun p => (p.1, ρ p.2))) w).andThen _ = _
       rw [run_build w t _ out hb]
       rfl
   · cases hprep
 case h_19 c heq =>
   unfold prepCall at hprep
   split at hprep
   · rename_i b hb
     split at hprep
     · rename_i x t hx ht
       have hxa : c.args = #[x] := by rw [← Array.toArray_toList (xs := c.args), hx]
       have hta : c.argTypes = #[t] := by rw [← Array.toArray_toList (xs := c.argTypes), ht]
       split at hprep
       · rename_i e hue
         obtain ⟨x', hx', rfl⟩ := Option.map_eq_some_iff.1 hprep
         have rx := hν x (by simp [heq, Op.operands, Call.operands, hb, hxa]) x' hx'
         simp only [qop] at hq
         split at hq
         rotate_left
         · rename_i l off n sz e1
           rw [e1] at rx
           simp only [Option.some.injEq, Prod.mk.injEq] at hq
           obtain ⟨rfl, rfl⟩ := hq
           refine pure_ _ (.int _ _) rfl ?_
           generalize hu : ρ x = u at rx
           cases rx with
           | bsl _ _ _ _ g c' hg hn hm =>
             simp [execOp, heq, resolve, hb, hxa, hta, invoke, builtin, hu, Builtin.len_, run_underlying hue w, goInt]
         · cases hq
         rename_i tg sz xs e1
         rw [e1] at rx
         simp only [Option.some.injEq, Prod.mk.injEq] at hq
         obtain ⟨rfl, rfl⟩ := hq
         refine pure_ _ (.int _ _) rfl ?_
         generalize hu : ρ x = u at rx
         cases rx with
         | slice _ A n c' _ vs _ hl hn hc' hm hs hA hr htg =>
           subst hn
           simp [execOp, heq, resolve, hb, hxa, hta, invoke, builtin, hu, Builtin.len_, run_underlying hue w, goInt]
       · rename_i hue
         obtain ⟨x', hx', rfl⟩ := Option.map_eq_some_iff.1 hprep
         have rx := hν x (by simp [heq, Op.operands, Call.operands, hb, hxa]) x' hx'
         simp only [qop] at hq
         split at hq
         rotate_left
         · cases hq
         rename_i s e1
         rw [e1] at rx
         simp only [Option.some.injEq, Prod.mk.injEq] at hq
         obtain ⟨rfl, rfl⟩ := hq
         refine pure_ _ (.int _ _) rfl ?_
         simp [execOp, heq, resolve, hb, hxa, hta, invoke, builtin, rep_str rx, Builtin.len_, run_underlying hue w, goInt]
       · cases hprep
     · split at hprep
       rotate_left
       · cases hprep
       simp only [Option.bind_eq_bind, Option.bind_eq_some_iff, Option.pure_def] at hprep
       obtain ⟨i, hi, z, hz, hprep⟩ := hprep
       split at hprep
       rotate_left
       · cases hprep
       simp only [Option.bind_eq_some_iff, Option.some.injEq] at hprep
       obtain ⟨x', hx', y', hy', rfl⟩ := hprep
       simp [qop] at hq
     · rename_i x y hxy
       have hxa : c.args = #[x, y] := by rw [← Array.toArray_toList (xs := c.args), hxy]
       simp only [Option.bind_eq_bind, Option.bind_eq_some_iff, Option.pure_def, Option.some.injEq] at hprep
       obtain ⟨x', hx', y', hy', rfl⟩ := hprep
       have rx := hν x (by simp [heq, Op.operands, Call.operands, hb, hxa]) x' hx'
       have ry := hν y (by simp [heq, Op.operands, Call.operands, hb, hxa]) y' hy'
       simp only [qop] at hq
       split at hq
       rotate_left
       · cases hq
       rename_i k a k' b e1 e2
       rw [e1] at rx
       rw [e2] at ry
       simp only [Option.some.injEq, Prod.mk.injEq] at hq
       obtain ⟨rfl, rfl⟩ := hq
       refine pure_ _ (.int _ _) rfl ?_
       simp [execOp, heq, resolve, hb, hxa, invoke, builtin, rep_int rx, rep_int ry, Builtin.max_, Builtin.max2]
     · rename_i x y hxy
       have hxa : c.args = #[x, y] := by rw [← Array.toArray_toList (xs := c.args), hxy]
       simp only [Option.bind_eq_bind, Option.bind_eq_some_iff, Option.pure_def, Option.some.injEq] at hprep
       obtain ⟨x', hx', y', hy', rfl⟩ := hprep
       have rx := hν x (by simp [heq, Op.operands, Call.operands, hb, hxa]) x' hx'
       have ry := hν y (by simp [heq, Op.operands, Call.operands, hb, hxa]) y' hy'
       simp only [qop] at hq
       split at hq
       rotate_left
       · cases hq
       rename_i k a k' b e1 e2
       rw [e1] at rx
       rw [e2] at ry
       simp only [Option.some.injEq, Prod.mk.injEq] at hq
       obtain ⟨rfl, rfl⟩ := hq
       refine pure_ _ (.int _ _) rfl ?_
       simp [execOp, heq, resolve, hb, hxa, invoke, builtin, rep_int rx, rep_int ry, Builtin.min_, Builtin.min2]
     · cases hprep
   · simp only [Option.bind_eq_bind, Option.bind_eq_some_iff, Option.pure_def] at hprep
     obtain ⟨fn, hf, hprep⟩ := hprep
     split at hprep
     rotate_left
     · cases hprep
     simp only [Option.bind_eq_some_iff, Option.some.injEq] at hprep
     obtain ⟨as, has, rfl⟩ := hprep
     simp [qop] at hq
   · simp only [Option.bind_eq_bind, Option.bind_eq_some_iff, Option.pure_def, Option.some.injEq] at hprep
     obtain ⟨as, has, rfl⟩ := hprep
     simp [qop] at hq
   · cases hprep
 case h_20 t x heq =>
   have key : ∀ d, X.P.underlying t = some d → (∀ ms, d ≠ .interface ms) → (axOf x).map (.mkif t) = some ao → ∃ v w' M', (execOp ρ o).run X.P w = .ok (.value v) w' ∧ QOk X M σ w nl nb a v w' M' := fun d hd hne hp => by
     obtain ⟨x', hx', rfl⟩ := Option.map_eq_some_iff.1 hp
     have rx := hν x (by simp [heq, Op.operands]) x' hx'
     simp only [qop, Option.some.injEq, Prod.mk.injEq] at hq
     obtain ⟨rfl, rfl⟩ := hq
     refine pure_ _ (.iface t _ _ (rep_imm1 rx)) rfl ?_
     cases d <;> first
       | exact absurd rfl (hne _)
       | simp [execOp, heq, Instr.makeInterface, run_underlying hd w]
   split at hprep
   · cases hprep
   · rename_i d hd
     exact key _ hd (fun ms e => by subst e; simp_all) hprep
   · cases hprep
 case h_21 x xT t ok heq =>
   have key : ∀ d, X.P.underlying t = some d → (∀ ms, d ≠ .interface ms) → (do let z ← (← X.P.info? t).zero; return AOp.tas t (← avOf z) ok (← axOf x)) = some ao → ∃ v w' M', (execOp ρ o).run X.P w = .ok (.value v) w' ∧ QOk X M σ w nl nb a v w' M' := fun d hd hne hp => by
     simp only [Option.bind_eq_bind, Option.bind_eq_some_iff, Option.pure_def, Option.some.injEq] at hp
     obtain ⟨ti, hz, i, hi, za, hza, x', hx', rfl⟩ := hp
     have rx := hν x (by simp [heq, Op.operands]) x' hx'
     have rz := avOf_rep (M := M) hza
     have hzero : (zeroValue t).run X.P w = .ok i w := by simp [zeroValue, typeInfo, hz, hi]
     have pair : ∀ v b' (b : Bool), Rep M v b' → Rep M (.tuple #[v, .bool b]) (.tup [b', .bool b]) := fun v b' b hr => by
       have := Rep.tup (M := M) [v, .bool b] [b', .bool b] rfl (reps_cons hr (reps_cons (.bool b) reps_nil)).2
       simpa using this
     simp only [qop] at hq
     split at hq
     · rename_i t' b e1
       rw [e1] at rx
       generalize hu : ρ x = u at rx
       cases rx with
       | iface _ v _ hb =>
         split at hq
         · rename_i ht
           subst ht
           simp only [Option.some.injEq, Prod.mk.injEq] at hq
           obtain ⟨rfl, rfl⟩ := hq
           cases ok with
           | true =>
             refine pure_ _ (pair v b true hb) rfl ?_
             cases d <;> first
               | exact absurd rfl (hne _)
               | simp [execOp, heq, hu, Instr.typeAssert, run_underlying hd w]
           | false =>
             refine pure_ v hb rfl ?_
             cases d <;> first
               | exact absurd rfl (hne _)
               | simp [execOp, heq, hu, Instr.typeAssert, run_underlying hd w]
         · rename_i ht
           split at hq
           rotate_left
           · cases hq
           rename_i hok
           subst hok
           simp only [Option.some.injEq, Prod.mk.injEq] at hq
           obtain ⟨rfl, rfl⟩ := hq
           refine pure_ _ (pair _ _ false rz) rfl ?_
           cases d <;> first
             | exact absurd rfl (hne _)
             | simp [execOp, heq, hu, Instr.typeAssert, run_underlying hd w, ht, hzero]
     · rename_i e1
       rw [e1] at rx
       generalize hu : ρ x = u at rx
       cases rx with
       | nilIface =>
         split at hq
         rotate_left
         · cases hq
         rename_i hok
         subst hok
         simp only [Option.some.injEq, Prod.mk.injEq] at hq
         obtain ⟨rfl, rfl⟩ := hq
         refine pure_ _ (pair _ _ false rz) rfl ?_
         cases d <;> first
           | exact absurd rfl (hne _)
           | simp [execOp, heq, hu, Instr.typeAssert, run_underlying hd w, hzero]
     · cases hq
   split at hprep
   · cases hprep
   · rename_i d hd
     exact key _ hd (fun ms e => by subst e; simp_all) hprep
   · cases hprep
 case h_22 x heq =>
   obtain ⟨x', hx', rfl⟩ := Option.map_eq_some_iff.1 hprep
   have rx := hν x (by simp [heq, Op.operands]) x' hx'
   simp only [qop] at hq
   split at hq
   all_goals first
     | (cases hq; done)
     | (rename_i e1
        have rx2 := rx
        rw [e1] at rx
        simp only [Option.some.injEq, Prod.mk.injEq] at hq
        obtain ⟨rfl, rfl⟩ := hq
        generalize hu : ρ x = u at rx
        have rx3 := rx
        cases rx <;> exact pure_ _ rx3 rfl (by simp [execOp, heq, hu]))
 case h_23 t x f heq =>
   split at hprep
   rotate_left
   · cases hprep
   rename_i fs ht
   split at hprep
   rotate_left
   · cases hprep
   rename_i fd hfd
   simp only [Option.bind_eq_bind, Option.bind_eq_some_iff, Option.pure_def, Option.some.injEq] at hprep
   obtain ⟨sz, hsz, x', hx', rfl⟩ := hprep
   have rx := hν x (by simp [heq, Op.operands]) x' hx'
   simp only [qop] at hq
   split at hq
   rotate_left
   · cases hq
   rename_i cs kd j e1 e2
   rw [e1] at rx
   split at hq
   rotate_left
   · cases hq
   rename_i hcnd
   obtain ⟨b, hb, he⟩ := Option.map_eq_some_iff.1 hq
   injection he with e3 e4
   subst e3 e4
   rw [Nat.mul_zero, Nat.zero_add] at hb
   obtain ⟨us, v, hus, hrun, hr⟩ := ld_part (w := w) hsz rx hb
   refine pure_ v hr rfl ?_
   simp only [execOp, heq, hus, Sem.run_bind]
   have : (Instr.field t (.agg us) f).run X.P w = .ok v w := by
     rw [← hrun]
     simp [Instr.field, asAgg, run_underlying ht, hfd, Sem.run_bind]
   rw [this]
   rfl
 case h_24 => cases hprep
end
end Go.Proofs.YtibploaibljcmaaGreatDoor
