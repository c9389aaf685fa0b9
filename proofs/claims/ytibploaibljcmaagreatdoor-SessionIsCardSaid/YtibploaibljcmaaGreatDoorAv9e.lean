import Derived.Test.YtibploaibljcmaaGreatDoorAv9d
namespace Go.Proofs.YtibploaibljcmaaGreatDoor
open Go.RowKit
set_option linter.unusedVariables false
set_option linter.unusedSimpArgs false
set_option maxHeartbeats 2000000
section
variable {X : Cx}
theorem prim_ok {s : St} {a : Act} {w : World} {M : Mem} (h : StR X s a w M) {o : Oper} {k : PK} {xs : List AX} (hp : prepPrim X.P o = some (k, xs)) (hν : ∀ x ∈ o.op.operands.toList, ∀ ax, axOf x = some ax → Rep M (a.eval x) (s.ν ax))
   {Q : List (TypeId × List AV) → List (TypeId × Nat) → AV → Prop} (hq : PStep k s.box s.fr (xs.map s.ν) Q) : Behind X s a Q (execOp a.eval o) w := by
 obtain ⟨as', hw, hq⟩ := hq
 have one : ∀ {x : Operand} {ax : AX}, x ∈ o.op.operands.toList → axOf x = some ax → Rep M (a.eval x) (s.ν ax) := fun hx hax => hν _ hx _ hax
 have upd : ∀ {t : TypeId} {m k1 x1 : Operand}, prepSet X.P t m k1 x1 = some (k, xs) → m ∈ o.op.operands.toList → k1 ∈ o.op.operands.toList → x1 ∈ o.op.operands.toList →
     Behind X s a Q (do Instr.mapUpdate t (a.eval m) (a.eval k1) (a.eval x1); pure .skip) w := fun {t m k1 x1} hps hm hk hx => by
   unfold prepSet at hps
   split at hps
   rotate_left
   · cases hps
   rename_i kt et ht
   simp only [Option.bind_eq_bind, Option.bind_eq_some_iff, Option.pure_def, Option.some.injEq, Prod.mk.injEq] at hps
   obtain ⟨K, hK, am, ham, ak, hak, ax, hax, rfl, rfl⟩ := hps
   exact set_behind h ht hK (hw M _ (reps_cons (one hm ham) (reps_cons (one hk hak) (reps_cons (one hx hax) reps_nil)))) hq
 unfold prepPrim at hp
 split at hp
 · -- a new map
   rename_i t heq
   injection hp with hp
   injection hp with e1 e2
   subst e1 e2
   have hx := hw M [] reps_nil
   have hx0 : as' = [] := List.eq_nil_of_length_eq_zero (by rw [← hx.1]; rfl)
   subst hx0
   obtain ⟨M', g1, g2, g3⟩ := h.addObj (T := t + 1099511627776) (cs := []) (vs := []) (us := []) (ob := .map #[] 0) reps_nil (fun w' hw' => .inr ⟨Nat.le_add_left _ _, [], 0, hw', rfl, by simp, by simp⟩)
   refine ⟨.value (.map (some w.heap.size)), _, _, s.fr, _, M', ?_, hq, .inr ⟨_, rfl, .mp _ _ g3⟩, g2⟩
   simp [execOp, heq, Instr.makeMap]
 · rename_i t m k1 ok heq
   split at hp
   rotate_left
   · cases hp
   rename_i kt et ht
   simp only [Option.bind_eq_bind, Option.bind_eq_some_iff, Option.pure_def, Option.some.injEq, Prod.mk.injEq] at hp
   obtain ⟨K, hK, ti, hi, z, hz, az, haz, am, ham, ak, hak, rfl, rfl⟩ := hp
   have := get_behind (ok := ok) h ht hK hi hz haz (hw M _ (reps_cons (one (by simp [heq, Op.operands]) ham) (reps_cons (one (by simp [heq, Op.operands]) hak) reps_nil))) hq
   simpa only [execOp, heq] using this
 · rename_i t m k1 x1 heq
   have := upd hp (by simp [heq, Op.operands]) (by simp [heq, Op.operands]) (by simp [heq, Op.operands])
   simpa only [execOp, heq] using this
 · rename_i t m k1 x1 heq
   have := upd hp (by simp [heq, Op.operands]) (by simp [heq, Op.operands]) (by simp [heq, Op.operands])
   simpa only [execOp, heq] using this
 · rename_i t n c heq
   split at hp
   rotate_left
   · cases hp
   rename_i e ht
   simp only [Option.bind_eq_bind, Option.bind_eq_some_iff, Option.pure_def] at hp
   obtain ⟨i, hi, z, hz, za, hza, hp⟩ := hp
   split at hp
   rotate_left
   · cases hp
   rename_i hc
   simp only [Option.bind_eq_some_iff, Option.some.injEq, Prod.mk.injEq] at hp
   obtain ⟨an, han, ac, hac, rfl, rfl⟩ := hp
   have := make_behind h ht hi hz hza hc.1 (hw M _ (reps_cons (one (by simp [heq, Op.operands]) han) (reps_cons (one (by simp [heq, Op.operands]) hac) reps_nil))) hq
   simpa only [execOp, heq] using this
 · rename_i c heq
   split at hp
   · rename_i x t hb hxs hts
     split at hp
     rotate_left
     · cases hp
     rename_i kt et ht
     simp only [Option.bind_eq_bind, Option.bind_eq_some_iff, Option.pure_def, Option.some.injEq, Prod.mk.injEq] at hp
     obtain ⟨ax, hax, rfl, rfl⟩ := hp
     have hxa : c.args = #[x] := by rw [← Array.toArray_toList (xs := c.args), hxs]
     have hta : c.argTypes = #[t] := by rw [← Array.toArray_toList (xs := c.argTypes), hts]
     have := len_behind (ty := o.type) h ht (hw M _ (reps_cons (one (by simp [heq, Op.operands, Call.operands, hb, hxa]) hax) reps_nil)) hq
     simpa [execOp, heq, resolve, hb, hxa, hta, invoke, builtin] using this
   · rename_i m k1 t ts hb hxs hts
     split at hp
     rotate_left
     · cases hp
     rename_i kt et ht
     simp only [Option.bind_eq_bind, Option.bind_eq_some_iff, Option.pure_def, Option.some.injEq, Prod.mk.injEq] at hp
     obtain ⟨K, hK, am, ham, ak, hak, rfl, rfl⟩ := hp
     have hxa : c.args = #[m, k1] := by rw [← Array.toArray_toList (xs := c.args), hxs]
     have hta : c.argTypes = (t :: ts).toArray := by rw [← Array.toArray_toList (xs := c.argTypes), hts]
     have := del_behind (ty := o.type) (ts := ts) h ht hK (hw M _ (reps_cons (one (by simp [heq, Op.operands, Call.operands, hb, hxa]) ham) (reps_cons (one (by simp [heq, Op.operands, Call.operands, hb, hxa]) hak) reps_nil))) hq
     simpa [execOp, heq, resolve, hb, hxa, hta, invoke, builtin] using this
   · rename_i x y t ts hb hxs hts
     split at hp
     rotate_left
     · cases hp
     rename_i e ht
     simp only [Option.bind_eq_bind, Option.bind_eq_some_iff, Option.pure_def, Option.some.injEq, Prod.mk.injEq] at hp
     obtain ⟨i, hi, ax, hax, ay, hay, rfl, rfl⟩ := hp
     have hxa : c.args = #[x, y] := by rw [← Array.toArray_toList (xs := c.args), hxs]
     have hta : c.argTypes = (t :: ts).toArray := by rw [← Array.toArray_toList (xs := c.argTypes), hts]
     have := copy_behind (t' := t) (ty := o.type) h ht hi (hw M _ (reps_cons (one (by simp [heq, Op.operands, Call.operands, hb, hxa]) hax) (reps_cons (one (by simp [heq, Op.operands, Call.operands, hb, hxa]) hay) reps_nil))) hq
     have e : (Builtin.copy_ (t :: ts).toArray o.type #[a.eval x, a.eval y]) = Builtin.copy_ #[t, t] o.type #[a.eval x, a.eval y] := by
       unfold Builtin.copy_
       simp
     rw [← e] at this
     simpa [execOp, heq, resolve, hb, hxa, hta, invoke, builtin] using this
   · cases hp
 · cases hp
end
end Go.Proofs.YtibploaibljcmaaGreatDoor
