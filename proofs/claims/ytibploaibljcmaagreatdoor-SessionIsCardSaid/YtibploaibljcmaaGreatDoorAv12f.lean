import Derived.Test.YtibploaibljcmaaGreatDoorAv12e
namespace Go.Proofs.YtibploaibljcmaaGreatDoor
open Go.RowKit
set_option linter.unusedVariables false
set_option linter.unusedSimpArgs false
set_option maxHeartbeats 1000000
theorem pinv_mid {X : Cx} {T : Tx} (hlen : T.us.length = T.pre.length) (hone : ∀ (i j : Nat) (o o' : AO), T.pre[i]? = some o → T.pre[j]? = some o' → j ≠ i → ∀ d, o.dst = some d → o'.dst ≠ some d) {L : Nat → Bool} (hL : ∀ (i : Nat) (u : Out), i < T.pre.length → T.us[i]? = some u → L i = true ∨ (u.nb = none ∧ u.nt = [])) {U : List Nat} (hU : ∀ t, t ∉ U → ∀ (i : Nat) (o : AO), T.pre[i]? = some o → o.dst = some t → L i = true)
   {a : Act} {w : World} {M : Mem} (h : PInv X T L a w M) : StR X ((T.at_ T.pre.length).hide U) a w M := by
 have boxes : ∀ i, i ≤ T.pre.length → ∀ l, l < (T.at_ i).box.length → M.μ l ≠ none := by
   intro i
   induction i with
   | zero => exact fun _ l hl => h.bx0 l hl
   | succ i ih =>
     intro hi l hl
     obtain ⟨o, u, h1, h2, h3⟩ := tx_succ hlen (i := i) (by omega)
     obtain ⟨e1, e2⟩ := tx_box_new hlen (i := i) (by omega) h2
     by_cases hlt : l < (T.at_ i).box.length
     · exact ih (by omega) l hlt
     · have hnb : u.nb ≠ none := fun hn => by
         rw [e1, hn] at hl
         simp at hl
         omega
       have : l = (T.at_ i).box.length := by
         rw [e1, List.length_append] at hl
         cases hn : u.nb with
         | none => exact absurd hn hnb
         | some b => rw [hn] at hl; simp at hl; omega
       rw [this]
       exact (h.bxd i u (by omega) h2 hnb).1 ((hL i u (by omega) h2).resolve_right fun q => hnb q.1)
 have marks : ∀ i, i ≤ T.pre.length → ∀ k, k < (T.at_ i).fr.length → M.fr k = (T.at_ i).fr[k]? := by
   intro i
   induction i with
   | zero => exact fun _ k hk => h.fr0 k hk
   | succ i ih =>
     intro hi k hk
     obtain ⟨o, u, h1, h2, h3⟩ := tx_succ hlen (i := i) (by omega)
     obtain ⟨e1, e2⟩ := tx_box_new hlen (i := i) (by omega) h2
     rw [e2] at hk ⊢
     by_cases hlt : k < (T.at_ i).fr.length
     · rw [List.getElem?_append_left hlt]
       exact ih (by omega) k hlt
     · rw [List.length_append] at hk
       rw [List.getElem?_append_right (by omega)]
       have := (h.frd i u (by omega) h2 (k - (T.at_ i).fr.length) (by omega)).1 ((hL i u (by omega) h2).resolve_right fun q => by rw [q.2] at hk; simp at hk; omega)
       rw [show (T.at_ i).fr.length + (k - (T.at_ i).fr.length) = k by omega] at this
       exact this
 refine ⟨h.mr, boxes _ (Nat.le_refl _), tau_ext (marks _ (Nat.le_refl _)) h.fro, h.defers, by show _ = (T.at_ T.pre.length).n; rw [h.size, tx_size hlen (Nat.le_refl _)], fun t => ?_, by show (∀ l, X.M1.μ l ≠ none → l < (T.at_ T.pre.length).p.1) ∧ ∀ k, X.M1.fr k ≠ none → k < (T.at_ T.pre.length).p.2; rw [tx_p hlen (Nat.le_refl _)]; exact h.pp⟩
 rw [hide_get]
 by_cases htU : t ∈ U
 · rw [if_pos htU]; exact .und _
 rw [if_neg htU]
 by_cases hw : ∃ (i : Nat) (o : AO), T.pre[i]? = some o ∧ o.dst = some t
 · obtain ⟨i, o, ho, hd⟩ := hw
   have hi : i < T.pre.length := (List.getElem?_eq_some_iff.1 ho).1
   obtain ⟨u, hu⟩ : ∃ u, T.us[i]? = some u := ⟨T.us[i], List.getElem?_eq_getElem (by omega)⟩
   by_cases ht : t < T.s.n
   · rw [tx_wrote hlen hi (Nat.le_refl _) ho hu hd ht (fun k hk o' ho' => hone i k o o' ho ho' hk t hd)]
     exact h.tm i o u t ho hu hd (hU t htU i o ho hd) ht
   · rw [tx_out hlen (Nat.le_refl _) (by omega)]
     exact h.ts t (.inl (by omega))
 · have hno : ∀ (i : Nat) (o : AO), T.pre[i]? = some o → o.dst ≠ some t := fun i o ho hd => hw ⟨i, o, ho, hd⟩
   rw [tx_keep hlen (k := 0) (Nat.zero_le _) (Nat.le_refl _) (fun j _ _ o ho => hno j o ho)]
   exact h.ts t (.inr fun i o ho hd => absurd hd (hno i o ho))
end Go.Proofs.YtibploaibljcmaaGreatDoor
