/- Running a function on plain values that are known: by the kernel. -/
import Derived.Test.YtmlhbmlppgoklacAv15b
namespace Go.Proofs.Ytmlhbmlppgoklac
open Go.RowKit
set_option linter.unusedVariables false
set_option linter.unusedSimpArgs false

abbrev Calld := FuncId → List AV → Option (AV × List (TypeId × Nat))
def execQ (call : Calld) (s : St) (ao : AOp) : Option Out :=
  match ao with
  | .call f args => if purL (args.map fun x => imm1 (s.ν x)) then (call f (args.map fun x => imm1 (s.ν x))).map fun p => ⟨sh s.fr.length p.1, none, p.2⟩ else none
  | .callv x args =>
    match s.ν x with
    | .fn f bs => if purL (bs ++ args.map fun x => imm1 (s.ν x)) then (call f (bs ++ args.map fun x => imm1 (s.ν x))).map fun p => ⟨sh s.fr.length p.1, none, p.2⟩ else none
    | _ => none
  | ao => (qop s.ν s.σ s.box.length ao).map fun p => ⟨p.1, p.2, []⟩
def execO (call : Calld) (s : St) (ao : AOp) (dst : Option Nat) : Option St :=
  match ao with
  | .st n a x => (stOp s n a x).map fun s' => s'.put dst .nov
  | .app e sz by_ x y => (appOp s e sz by_ x y).map fun p => { s with fr := p.2 }.put dst p.1
  | ao => (execQ call s ao).map fun u => s.next dst u
def execG (call : Calld) (s : St) (o : AO) : Option St :=
  match o.guard with
  | none => execO call s o.op o.dst
  | some (d, b) =>
    match s.get d with
    | .bool t => if t = b then execO call s o.op o.dst else some (s.next o.dst skipOut)
    | .nov => some (s.next o.dst skipOut)
    | _ => none
def execR (call : Calld) : List AO → St → Option St
  | [], s => some s
  | o :: l, s =>
    match execG call s o with
    | some s' => execR call l s'
    | none => none
def iterC (f : St → Option (Exit × St)) : Nat → St → Option (Exit × St)
  | 0, _ => none
  | n + 1, s =>
    match f s with
    | some (.normal, t) => iterC f n t
    | some (e, t) => some (e, t)
    | none => none
def execC (call : Calld) (n : Nat) : AC → St → Option (Exit × St)
  | .skip, s => some (.normal, s)
  | .reg aos, s =>
    match execR call aos s with
    | some t => some (.normal, t)
    | none => none
  | .seq x y, s =>
    match execC call n x s with
    | some (.normal, t) => execC call n y t
    | some (e, t) => some (e, t)
    | none => none
  | .cond x y z, s =>
    match s.ν x with
    | .bool true => execC call n y s
    | .bool false => execC call n z s
    | _ => none
  | .block id x, s =>
    match execC call n x s with
    | some (.exit i, t) => if i = id then some (.normal, t) else some (.exit i, t)
    | some (e, t) => some (e, t)
    | none => none
  | .loop x, s => iterC (execC call n x) n s
  | .exit id, s => some (.exit id, s)
  | .ret, s => some (.ret, s)
  | .label _, s => some (.normal, s)

theorem aw_iter {P : Program} {K : Exit → St → Prop} {x : AC} {f : St → Option (Exit × St)} (hf : ∀ s e t, f s = some (e, t) → ∀ K : Exit → St → Prop, K e t → AW P x K s) {n : Nat} {s : St} {e : Exit} {t : St} (hn : iterC f n s = some (e, t)) (hK : K e t) : AW P (.loop x) K s := fun X c hX hc a w M hs => by
  cases c <;> simp only [prepCode, Option.bind_eq_bind, Option.bind_eq_some_iff, Option.pure_def, Option.some.injEq, reduceCtorEq, and_false, exists_false] at hc
  case region =>
    obtain ⟨_, e, _⟩ := prepReg_reg hc
    cases e
  case loop c1 =>
    obtain ⟨x', h1, e⟩ := hc
    injection e with e1
    subst e1
    intro b k cs
    have key : ∀ n s, iterC f n s = some (e, t) → ∀ a w M, StR X s a w M →
        ∃ e a' w', Post X K e a' w' ∧ Arrives P (lone (b.at a (.code c1 :: .inLoop c1 :: k)) cs w) b k cs e a' w' := by
      intro n
      induction n with
      | zero => intro s h; cases h
      | succ n ih =>
        intro s h a w M hI
        unfold iterC at h
        split at h
        · rename_i t' h2
          obtain ⟨e, a₁, w₁, ⟨t, M₁, hq, hst⟩, harr⟩ := hf _ _ _ h2 (fun e t => e = .normal ∧ t = t') ⟨rfl, rfl⟩ X c1 hX h1 a w M hI b (.inLoop c1 :: k) cs
          obtain ⟨rfl, rfl⟩ := hq
          obtain ⟨e₂, a₂, w₂, hq₂, harr₂⟩ := ih _ h a₁ w₁ M₁ hst
          exact ⟨e₂, a₂, w₂, hq₂, .of_steps (Steps.trans harr (.one step_inLoop)) harr₂⟩
        · rename_i e' t' hne h2
          simp only [Option.some.injEq, Prod.mk.injEq] at h
          obtain ⟨rfl, rfl⟩ := h
          obtain ⟨e, a₁, w₁, ⟨t, M₁, hq, hst⟩, harr⟩ := hf _ _ _ h2 (fun e t => e = e' ∧ t = t') ⟨rfl, rfl⟩ X c1 hX h1 a w M hI b (.inLoop c1 :: k) cs
          obtain ⟨rfl, rfl⟩ := hq
          cases e with
          | normal => exact (hne rfl).elim
          | exit id => exact ⟨_, a₁, w₁, ⟨t, M₁, hK, hst⟩, .pass (x := .inLoop c1) rfl (fun _ _ => .inl (by simp)) harr⟩
          | goto l => exact ⟨_, a₁, w₁, ⟨t, M₁, hK, hst⟩, .pass (x := .inLoop c1) rfl (fun _ _ => .inl (by simp)) harr⟩
          | ret => exact ⟨_, a₁, w₁, ⟨t, M₁, hK, hst⟩, .pass (x := .inLoop c1) rfl (fun _ _ => .inl (by simp)) harr⟩
          | panic ch => exact ⟨_, a₁, w₁, ⟨t, M₁, hK, hst⟩, .pass (x := .inLoop c1) rfl (fun _ _ => .inl (by simp)) harr⟩
          | outgrown => exact ⟨_, a₁, w₁, ⟨t, M₁, hK, hst⟩, .pass (x := .inLoop c1) rfl (fun _ _ => .inl (by simp)) harr⟩
        · cases h
    obtain ⟨e, a', w', hq, harr⟩ := key _ s hn a w M hs
    exact ⟨e, a', w', hq, .of_steps (.one step_loop) harr⟩
theorem Sk_map {P : Prop} {r : Option St} {g : St → St} {t : St} {K : St → Prop} (h : r.map g = some t) (hK : K t) : Sk r fun s' => K (g s') := by
  cases r with
  | none => cases h
  | some p => simp only [Option.map_some, Option.some.injEq] at h; subst h; exact hK
section
variable {P : Program} {call : Calld} (hc : ∀ f as r rfr, call f as = some (r, rfr) → ACt P f as r rfr)
include hc
theorem execQ_ok {s : St} {ao : AOp} {u : Out} (h : execQ call s ao = some u) {K : Out → Prop} (hK : K u) : QStep P s ao K := by
  unfold execQ at h
  split at h
  · rename_i f args
    split at h
    · rename_i hp
      obtain ⟨p, h1, h2⟩ := Option.map_eq_some_iff.1 h
      subst h2
      exact ⟨hp, p.1, p.2, hc _ _ _ _ h1, hK⟩
    · cases h
  · rename_i x args
    unfold QStep
    split at h
    · rename_i f bs hx
      simp only [hx]
      split at h
      · rename_i hp
        obtain ⟨p, h1, h2⟩ := Option.map_eq_some_iff.1 h
        subst h2
        exact ⟨hp, p.1, p.2, hc _ _ _ _ h1, hK⟩
      · cases h
    · cases h
  · rename_i h1 h2
    obtain ⟨p, h3, h4⟩ := Option.map_eq_some_iff.1 h
    subst h4
    unfold QStep
    split
    · exact absurd rfl (h1 _ _)
    · exact absurd rfl (h2 _ _)
    · rw [h3]; exact hK
theorem execO_ok {s t : St} {ao : AOp} {dst : Option Nat} (h : execO call s ao dst = some t) {K : St → Prop} (hK : K t) : OStep P s ao dst K := by
  unfold execO at h
  split at h
  · obtain ⟨p, h1, h2⟩ := Option.map_eq_some_iff.1 h
    subst h2
    show Sk _ _
    rw [h1]; exact hK
  · obtain ⟨p, h1, h2⟩ := Option.map_eq_some_iff.1 h
    subst h2
    show Ak _ _
    rw [h1]; exact hK
  · rename_i h1 h2
    obtain ⟨p, h3, h4⟩ := Option.map_eq_some_iff.1 h
    subst h4
    unfold OStep
    split
    · exact absurd rfl (h1 _ _ _)
    · exact absurd rfl (h2 _ _ _ _ _)
    · exact execQ_ok hc h3 hK
theorem execG_ok {s t : St} {o : AO} (h : execG call s o = some t) {K : St → Prop} (hK : K t) : GStep P s o K := by
  unfold execG at h
  unfold GStep
  split at h
  · rename_i e; rw [e]; exact execO_ok hc h hK
  · rename_i d b e
    rw [e]
    simp only
    split at h
    · rename_i t' e2
      rw [e2]
      unfold Gk
      simp only
      split at h
      · rename_i h3; rw [if_pos h3]; exact execO_ok hc h hK
      · rename_i h3; rw [if_neg h3]; injection h with h; subst h; exact hK
    · rename_i e2
      rw [e2]
      injection h with h; subst h; exact hK
    · cases h
theorem execR_ok : ∀ {l : List AO} {s t : St}, execR call l s = some t → ∀ {K : St → Prop}, K t → RStep P l s K
  | [], s, t, h, K, hK => by injection h with h; subst h; exact hK
  | o :: l, s, t, h, K, hK => by
    unfold execR at h
    split at h
    · rename_i s' h1
      exact execG_ok hc h1 (execR_ok h hK)
    · cases h
theorem execC_ok {n : Nat} : ∀ (ac : AC) {s t : St} {e : Exit}, execC call n ac s = some (e, t) → ∀ {K : Exit → St → Prop}, K e t → AW P ac K s
  | .skip, s, t, e, h, K, hK => by
    simp only [execC, Option.some.injEq, Prod.mk.injEq] at h
    obtain ⟨rfl, rfl⟩ := h
    exact aw_skip hK
  | .reg aos, s, t, e, h, K, hK => by
    unfold execC at h
    split at h
    · rename_i t' h1
      simp only [Option.some.injEq, Prod.mk.injEq] at h
      obtain ⟨rfl, rfl⟩ := h
      exact aw_reg (execR_ok hc h1 hK)
    · cases h
  | .seq x y, s, t, e, h, K, hK => by
    unfold execC at h
    split at h
    · rename_i t' h1
      exact aw_seq (execC_ok x h1 (execC_ok y h hK))
    · rename_i e' t' h2 h1
      simp only [Option.some.injEq, Prod.mk.injEq] at h
      obtain ⟨rfl, rfl⟩ := h
      refine aw_seq (execC_ok x h1 ?_)
      split
      · exact (h2 rfl).elim
      · exact hK
    · cases h
  | .cond x y z, s, t, e, h, K, hK => by
    unfold execC at h
    split at h
    · rename_i h1
      exact aw_cond h1 (fun _ => execC_ok y h hK) (fun h => by cases h)
    · rename_i h1
      exact aw_cond h1 (fun h => by cases h) (fun _ => execC_ok z h hK)
    · cases h
  | .block id x, s, t, e, h, K, hK => by
    unfold execC at h
    split at h
    · rename_i i t' h1
      refine aw_block (execC_ok x h1 ?_)
      show if i = id then _ else _
      split at h
      · rename_i h2
        simp only [Option.some.injEq, Prod.mk.injEq] at h
        obtain ⟨rfl, rfl⟩ := h
        rw [if_pos h2]; exact hK
      · rename_i h2
        simp only [Option.some.injEq, Prod.mk.injEq] at h
        obtain ⟨rfl, rfl⟩ := h
        rw [if_neg h2]; exact hK
    · rename_i e' t' h2 h1
      simp only [Option.some.injEq, Prod.mk.injEq] at h
      obtain ⟨rfl, rfl⟩ := h
      refine aw_block (execC_ok x h1 ?_)
      split
      · exact (h2 _ rfl).elim
      · exact hK
    · cases h
  | .loop x, s, t, e, h, K, hK => by
    unfold execC at h
    exact aw_iter (fun s e t h K hK => execC_ok x h hK) h hK
  | .exit id, s, t, e, h, K, hK => by
    simp only [execC, Option.some.injEq, Prod.mk.injEq] at h
    obtain ⟨rfl, rfl⟩ := h
    exact aw_exit hK
  | .ret, s, t, e, h, K, hK => by
    simp only [execC, Option.some.injEq, Prod.mk.injEq] at h
    obtain ⟨rfl, rfl⟩ := h
    exact aw_ret hK
  | .label _, s, t, e, h, K, hK => by
    simp only [execC, Option.some.injEq, Prod.mk.injEq] at h
    obtain ⟨rfl, rfl⟩ := h
    exact aw_label hK
end

def retV (ks : List Nat) : AV → Option (AV × List Nat)
  | .slice (.app k) sz xs =>
    if purL xs then
      match ks.findIdx? (· == k) with
      | some i => some (.slice (.app i) sz xs, ks)
      | none => some (.slice (.app ks.length) sz xs, ks ++ [k])
    else none
  | .slice .full sz xs => if purL xs then some (.slice .imm sz xs, ks) else none
  | a => if pur a then some (a, ks) else none
def retVs : List Nat → List AV → Option (List AV × List Nat)
  | ks, [] => some ([], ks)
  | ks, a :: as =>
    match retV ks a with
    | some (b, ks') =>
      match retVs ks' as with
      | some (bs, ks'') => some (b :: bs, ks'')
      | none => none
    | none => none
def retF (fr : List (TypeId × Nat)) : List Nat → Option (List (TypeId × Nat))
  | [] => some []
  | k :: ks =>
    match fr[k]?, retF fr ks with
    | some p, some ps => some (p :: ps)
    | _, _ => none
def retC (res : List RV) (e : Exit) (s : St) : Option (AV × List (TypeId × Nat)) :=
  match e with
  | .normal | .ret =>
    match resL s res with
    | some as =>
      match retVs [] as with
      | some (bs, ks) =>
        match retF s.fr ks with
        | some fr => if (ks.all fun k => decide (k < s.fr.length)) then some (one? bs, fr) else none
        | none => none
      | none => none
    | none => none
  | _ => none
theorem RetA.mono {fr : List (TypeId × Nat)} {ks ls : List Nat} {a b : AV} (h : RetA fr ks a b) : RetA fr (ks ++ ls) a b := by
  cases h with
  | same _ h => exact .same _ h
  | imm t sz xs h => exact .imm t sz xs h
  | app k i sz xs h hk hf => exact .app k i sz xs h (by rw [List.getElem?_append_left (List.getElem?_eq_some_iff.1 hk).1]; exact hk) hf
theorem retV_ok {fr : List (TypeId × Nat)} {ks ks' : List Nat} {a b : AV} (h : retV ks a = some (b, ks')) (hd : ks.Nodup) (hf : ∀ k ∈ ks', k < fr.length) : RetA fr ks' a b ∧ ks'.Nodup ∧ ∃ ls, ks' = ks ++ ls := by
  unfold retV at h
  split at h
  · rename_i k sz xs
    split at h
    · rename_i hp
      split at h
      · rename_i i hi
        simp only [Option.some.injEq, Prod.mk.injEq] at h
        obtain ⟨rfl, rfl⟩ := h
        obtain ⟨h1, h2⟩ := List.findIdx?_eq_some_iff_getElem.1 hi
        have h3 : ks[i] = k := by have := h2.1; simpa using this
        exact ⟨.app k i sz xs hp (by rw [List.getElem?_eq_getElem h1, h3]) (hf k (h3 ▸ List.getElem_mem h1)), hd, [], by simp⟩
      · rename_i hi
        simp only [Option.some.injEq, Prod.mk.injEq] at h
        obtain ⟨rfl, rfl⟩ := h
        have hk : k ∉ ks := fun hm => by
          have := List.findIdx?_eq_none_iff.1 hi k hm
          simp at this
        refine ⟨.app k ks.length sz xs hp (by simp) (hf k (by simp)), ?_, [k], rfl⟩
        rw [List.nodup_append]
        exact ⟨hd, by simp, fun a ha b hb => by simp at hb; subst hb; exact fun e => hk (e ▸ ha)⟩
    · cases h
  · split at h
    · rename_i hp
      simp only [Option.some.injEq, Prod.mk.injEq] at h
      obtain ⟨rfl, rfl⟩ := h
      exact ⟨.imm _ _ _ hp, hd, [], by simp⟩
    · cases h
  · split at h
    · rename_i hp
      simp only [Option.some.injEq, Prod.mk.injEq] at h
      obtain ⟨rfl, rfl⟩ := h
      exact ⟨.same _ hp, hd, [], by simp⟩
    · cases h
theorem retVs_ok {fr : List (TypeId × Nat)} : ∀ {as bs : List AV} {ks ks' : List Nat}, retVs ks as = some (bs, ks') → ks.Nodup → (∀ k ∈ ks', k < fr.length) → RetL fr ks' as bs ∧ ks'.Nodup ∧ ∃ ls, ks' = ks ++ ls
  | [], bs, ks, ks', h, hd, hf => by
    simp only [retVs, Option.some.injEq, Prod.mk.injEq] at h
    obtain ⟨rfl, rfl⟩ := h
    exact ⟨trivial, hd, [], by simp⟩
  | a :: as, bs, ks, ks', h, hd, hf => by
    unfold retVs at h
    split at h
    · rename_i b k1 h1
      split at h
      · rename_i bs' k2 h2
        simp only [Option.some.injEq, Prod.mk.injEq] at h
        obtain ⟨rfl, rfl⟩ := h
        have hsub : ∃ ls, k2 = k1 ++ ls := by
          clear hf hd h1
          induction as generalizing k1 bs' with
          | nil =>
            simp only [retVs, Option.some.injEq, Prod.mk.injEq] at h2
            exact ⟨[], by simp [h2.2]⟩
          | cons a as ih =>
            unfold retVs at h2
            split at h2
            · rename_i b' k3 h3
              split at h2
              · rename_i bs'' k4 h4
                simp only [Option.some.injEq, Prod.mk.injEq] at h2
                obtain ⟨_, rfl⟩ := h2
                obtain ⟨ls, rfl⟩ := ih _ _ h4
                have : ∃ ls, k3 = k1 ++ ls := by
                  unfold retV at h3
                  split at h3 <;> (try split at h3) <;> (try split at h3) <;> simp only [Option.some.injEq, Prod.mk.injEq, reduceCtorEq] at h3
                  all_goals first | exact ⟨_, h3.2.symm⟩ | exact ⟨[], by rw [← h3.2]; simp⟩
                obtain ⟨l2, rfl⟩ := this
                exact ⟨l2 ++ ls, by simp⟩
              · cases h2
            · cases h2
        obtain ⟨ls, hls⟩ := hsub
        obtain ⟨q1, q2, l1, q3⟩ := retV_ok (fr := fr) h1 hd (fun k hk => hf k (by rw [hls]; simp [hk]))
        obtain ⟨r1, r2, l2, r3⟩ := retVs_ok h2 q2 hf
        refine ⟨⟨?_, r1⟩, r2, l1 ++ l2, by rw [r3, q3]; simp⟩
        rw [r3]
        exact q1.mono
      · cases h
    · cases h
theorem retF_ok {fr : List (TypeId × Nat)} : ∀ {ks : List Nat} {ps : List (TypeId × Nat)}, retF fr ks = some ps → ks.map (fun k => fr[k]?) = ps.map some
  | [], ps, h => by injection h with h; subst h; rfl
  | k :: ks, ps, h => by
    unfold retF at h
    split at h
    · rename_i p qs h1 h2
      injection h with h
      subst h
      simp [h1, retF_ok h2]
    · cases h
theorem retC_ok {res : List RV} {e : Exit} {s : St} {r : AV} {rfr : List (TypeId × Nat)} (h : retC res e s = some (r, rfr)) : RetOk res r rfr e s := by
  have key : (match resL s res with
    | some as =>
      match retVs [] as with
      | some (bs, ks) =>
        match retF s.fr ks with
        | some fr => if (ks.all fun k => decide (k < s.fr.length)) then some (one? bs, fr) else none
        | none => none
      | none => none
    | none => none) = some (r, rfr) → ∃ as bs ks, resL s res = some as ∧ RetL s.fr ks as bs ∧ r = one? bs ∧ ks.Nodup ∧ ks.map (fun k => s.fr[k]?) = rfr.map some := by
    intro h
    split at h
    · rename_i as h1
      split at h
      · rename_i bs ks h2
        split at h
        · rename_i fr h3
          split at h
          · rename_i h4
            simp only [Option.some.injEq, Prod.mk.injEq] at h
            obtain ⟨rfl, rfl⟩ := h
            obtain ⟨q1, q2, _⟩ := retVs_ok (fr := s.fr) h2 List.nodup_nil (fun k hk => by have := List.all_eq_true.1 h4 k hk; simpa using this)
            exact ⟨as, bs, ks, h1, q1, rfl, q2, retF_ok h3⟩
          · cases h
        · cases h
      · cases h
    · cases h
  cases e <;> first | exact ⟨trivial, key h⟩ | cases h

abbrev Tab := List (FuncId × AF)
def Tab.Ok (P : Program) : Tab → Prop
  | [] => True
  | p :: T => (prepFunc P p.1 = some p.2 ∧ hasBody P p.1 = true) ∧ Tab.Ok P T
def Tab.get : Tab → FuncId → Option AF
  | [], _ => none
  | p :: T, f => if Nat.beq p.1 f then some p.2 else Tab.get T f
theorem Tab.get_ok {P : Program} : ∀ {T : Tab}, T.Ok P → ∀ {f : FuncId} {c : AF}, T.get f = some c → prepFunc P f = some c ∧ hasBody P f = true
  | [], _, f, c, h => by cases h
  | p :: T, hT, f, c, h => by
    unfold Tab.get at h
    split at h
    · rename_i e
      injection h with h
      subst h
      have := Nat.eq_of_beq_eq_true e
      subst this
      exact hT.1
    · exact Tab.get_ok hT.2 h
def execF (T : Tab) (n : Nat) : Nat → Calld
  | 0, _, _ => none
  | d + 1, f, as =>
    match T.get f with
    | some c =>
      if as.length ≤ c.n then
        match execC (execF T n d) n c.body ⟨c.n, argsTm 0 as, [], []⟩ with
        | some (e, s) => retC c.res e s
        | none => none
      else none
    | none => none
theorem execF_ok {P : Program} {T : Tab} (hT : T.Ok P) {n : Nat} : ∀ {d : Nat} {f : FuncId} {as : List AV} {r : AV} {rfr : List (TypeId × Nat)}, execF T n d f as = some (r, rfr) → ACt P f as r rfr
  | 0, f, as, r, rfr, h => by cases h
  | d + 1, f, as, r, rfr, h => by
    unfold execF at h
    split at h
    · rename_i c hc
      split at h
      · rename_i hl
        split at h
        · rename_i e s h1
          exact act_of (Tab.get_ok hT hc) hl (execC_ok (fun f as r rfr h => execF_ok hT h) c.body h1 (retC_ok h))
        · cases h
      · cases h
    · cases h
end Go.Proofs.Ytmlhbmlppgoklac
