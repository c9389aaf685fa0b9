/- append, for a row of the call's own and for a full slice that came in alike: the new slice holds the old cells and behind them the new ones, and nothing below `base` has turned. -/
import Derived.Test.YtkdodhkiemfpeaaWords
import Derived.Deep.Upon
import Derived.Maps.AppendAt
import Derived.OwnWalk
namespace Go.Proofs.Ytkdodhkiemfpeaa
open Go.RowKit

theorem grownBy_any {w w' : World} {row : Option Nat} (h : w.grownBy w' none) : w.grownBy w' row := ⟨h.os, h.tape, h.output, h.size, fun k hk _ => h.block k hk (by simp)⟩
theorem below_of_grown {B : Nat} {w w' : World} {row : Option Nat} (h : w.grownBy w' row) (hB : B ≤ w.heap.size) (hr : ∀ k, row = some k → B ≤ k) : Below B w w' := (Below.refl B w).grown h hB hr
theorem Lies.at_add {w : World} {A : Option Addr} {xs : List Value} (h : Lies w A xs) (hx : 0 < xs.length) : ∃ a, A = some a ∧ ∀ j u, xs[j]? = some u → w.cell? (a.add j) = some u := by
  rcases h with rfl | ⟨b, o, hA, hc⟩
  · simp at hx
  · refine ⟨_, hA, fun j u hu => ?_⟩
    obtain ⟨hj, rfl⟩ := List.getElem?_eq_some_iff.1 hu
    rw [Addr.add_lit]
    exact hc j hj
theorem Lies.src {P : Program} {w : World} {A : Option Addr} {xs : List Value} (h : Lies w A xs) {size : Nat} (hsz : 0 < size) {tx e' : TypeId} (hk : P.underlying tx = some (.slice e')) (m c : Nat) (hl : xs.length = m * size)
    (h1 : ∀ u ∈ xs, u.oneCell' = true) : Src P size tx (.slice A m c) m xs w := by
  rcases Nat.eq_zero_or_pos m with h0 | h0
  · subst h0
    obtain rfl : xs = [] := List.eq_nil_of_length_eq_zero (by simpa using hl)
    cases A with
    | none => exact Src.ofNil w hk c
    | some a => exact Src.ofSlice w hk a 0 c [] (by simp) (fun j u hu => by simp at hu) (by simp)
  · have hp : 0 < xs.length := by rw [hl]; exact Nat.mul_pos h0 hsz
    obtain ⟨a, rfl, hc⟩ := h.at_add hp
    exact Src.ofSlice w hk a m c xs hl hc h1

theorem lies_alloc {w : World} {A : Option Addr} {xs : List Value} (h : Lies w A xs) (o : Obj) : Lies (w.alloc o) A xs := h.keep fun p hp => World.cell?_alloc_lt w o p hp
theorem Gr.alloc {base : Nat} {e : TypeId} {size : Nat} {w : World} {v : Value} {n : Nat} {xs : List Value} (h : Gr base e size w v n xs) (o : Obj) : Gr base e size (w.alloc o) v n xs :=
  h.imp (fun h => h.alloc o) fun ⟨h1, h2, A, h3, h4⟩ => ⟨h1, h2, A, h3, lies_alloc h4 o⟩
/-- An empty row, just made. -/
theorem own_empty (w : World) (e : TypeId) (size : Nat) {base : Nat} (hb : base ≤ w.heap.size) : (w.alloc (.cells #[] e)).ownsRow base e size (.slice (some ⟨w.heap.size, 0, none⟩) 0 0) 0 [] :=
  World.ownsRow_made w #[] 0 hb (Nat.zero_le _) (by simp)
/-- One new cell, in a block of its own. -/
theorem lies_new (w : World) (u : Value) (e : TypeId) : Lies (w.alloc (.cells #[u] e)) (some ⟨w.heap.size, 0, none⟩) [u] := by
  refine .inr ⟨_, _, rfl, fun j hj => ?_⟩
  obtain rfl : j = 0 := by simpa using hj
  rw [cell_of_row _ _ _ _ _ _ (heap_alloc_new w _)]
  rfl
/-- What append leaves: the slice (A', n + m, c') with the cells xs ++ news. -/
structure Grew (base : Nat) (e : TypeId) (size : Nat) (w : World) (v : Value) (n m : Nat) (xs news : List Value) (A' : Option Addr) (c' : Nat) (w' : World) : Prop where
  gr : Gr base e size w' (.slice A' (n + m) c') (n + m) (xs ++ news)
  own : 0 < m ∨ w.ownsRow base e size v n xs → w'.ownsRow base e size (.slice A' (n + m) c') (n + m) (xs ++ news)
  grown : w.grownBy w' v.ownBlock
  where_ : Value.ownBlock (.slice A' (n + m) c') = v.ownBlock ∨ Value.ownBlock (.slice A' (n + m) c') = some w.heap.size
  below : Below base w w'

theorem ownsRow_shape {w : World} {base : Nat} {e : TypeId} {size n : Nat} {v : Value} {xs : List Value} (h : w.ownsRow base e size v n xs) : ∃ A c, v = .slice A n c ∧ n ≤ c ∧ c ≤ maxLen := by
  rcases h.2 with ⟨rfl, rfl⟩ | ⟨g, cap, cur, rfl, _, _, h1, h2, _⟩
  · exact ⟨_, _, rfl, Nat.le_refl _, Nat.zero_le _⟩
  · exact ⟨_, _, rfl, h1, h2⟩

theorem run_append_gr {P : Program} (w : World) (base : Nat) (t ty e : TypeId) (i : TypeInfo) (z : Value) (size bytes : Nat) (ht : P.underlying t = some (.slice e)) (hi : P.info? e = some i) (hz : i.zero = some z)
    (hsize : i.size = size) (hby : i.bytes = bytes) (hzs : z.cells.size = size) (hsz : 0 < size)
    (v : Value) (n : Nat) (xs : List Value) (hgr : Gr base e size w v n xs)
    (A : Option Addr) (m c : Nat) (news : List Value) (hl : news.length = m * size) (hnews : Lies w A news) (h1 : ∀ u ∈ news, u.oneCell' = true)
    (h63 : n + m ≤ maxLen) (hbytes : (n + m) * bytes ≤ 140737488355328) (hbase : base ≤ w.heap.size) :
    ∃ A' c' w', (Builtin.append_ #[t, t] ty #[v, .slice A m c]).run P w = .ok (.slice A' (n + m) c') w' ∧ Grew base e size w v n m xs news A' c' w' := by
  subst hsize
  have hsrc := hnews.src (P := P) hsz ht m c hl h1
  rcases Nat.eq_zero_or_pos m with h0 | h0
  · subst h0
    obtain rfl : news = [] := List.eq_nil_of_length_eq_zero (by simpa using hl)
    obtain ⟨A0, c0, rfl, hle⟩ : ∃ A0 c0, v = .slice A0 n c0 ∧ n ≤ c0 := by
      rcases hgr with h | ⟨_, _, A0, rfl, _⟩
      · obtain ⟨A0, c0, h2, h3, _⟩ := ownsRow_shape h
        exact ⟨A0, c0, h2, h3⟩
      · exact ⟨A0, n, rfl, Nat.le_refl _⟩
    have hr := run_append_nothing (P := P) w t t ty e i ht hi A0 n c0 hle _ hsrc
    exact ⟨A0, c0, w, hr, by simpa using hgr, fun h => by simpa using h.resolve_left (by omega), World.grownBy.refl w _, .inl rfl, Below.refl _ _⟩
  · have hp : 0 < news.length := by rw [hl]; exact Nat.mul_pos h0 hsz
    obtain ⟨a, rfl, hc⟩ := hnews.at_add hp
    rcases hgr with hown | ⟨hxl, hnm, A0, rfl, hxs⟩
    · obtain ⟨v', w', hrun, h2, h3, _, h5⟩ := run_append_own_at (P := P) w base t ty e i z i.size bytes ht hi hz rfl hby hzs hsz v n xs hown a m c news hl hc h1 h63 hbytes hbase
      obtain ⟨A', c', rfl, _, _⟩ := ownsRow_shape h2
      exact ⟨A', c', w', hrun, .inl h2, fun _ => h2, h3, h5, below_of_grown h3 hbase (fun k hk => (hown.lt k hk).1)⟩
    · have hold : (Builtin.firstCells i.size n (.slice A0 n n)).run P w.drew = .ok xs.toArray w.drew := by
        rcases Nat.eq_zero_or_pos n with e0 | e0
        · subst e0
          obtain rfl : xs = [] := List.eq_nil_of_length_eq_zero (by simpa using hxl)
          cases A0 with
          | none => exact run_firstCells_none w.drew i.size 0 0 0
          | some a0 => exact run_firstCells_some w.drew i.size 0 a0 0 0 [] (by simp) (fun j u hu => by simp at hu)
        · obtain ⟨a0, rfl, hc0⟩ := hxs.at_add (by rw [hxl]; exact Nat.mul_pos e0 hsz)
          exact run_firstCells_some w.drew i.size n a0 n n xs hxl (by simpa using hc0)
      have hrun := run_append_grow_src (P := P) w t t ty e i z ht hi hz A0 n n xs hold _ m news hsrc (by omega) (by simp only [maxLen] at h63; omega) (growslice_fits (by omega) (by rw [hby]; exact hbytes))
      have hcm : grownCap w (n + m) n e ≤ maxLen := grownCap_le_maxLen w (n + m) n e h63
      have hge := grownCap_ge w (n + m) n e
      have hlen : (xs ++ news).length = (n + m) * i.size := by rw [List.length_append, hxl, hl, Nat.add_mul]
      have hown : (w.drew.alloc (.cells ((xs ++ news).toArray ++ Builtin.zeroCells z.cells (grownCap w (n + m) n e - (n + m))) e)).ownsRow base e i.size (.slice (some ⟨w.heap.size, 0, none⟩) (n + m) (grownCap w (n + m) n e)) (n + m) (xs ++ news) := by
        refine ⟨hlen, .inr ⟨w.heap.size, _, _, rfl, hbase, heap_alloc_new w.drew _, hge, hcm, ?_, ?_⟩⟩
        · simp only [Array.size_append, List.size_toArray, size_zeroCells, hzs, hlen, ← Nat.add_mul]
          congr 1
          omega
        · simp only [Array.toList_append]
          rw [← hlen]
          exact List.take_left
      have hg : w.grownBy (w.drew.alloc (.cells ((xs ++ news).toArray ++ Builtin.zeroCells z.cells (grownCap w (n + m) n e - (n + m))) e)) none :=
        ⟨rfl, rfl, rfl, by simp, fun k hk _ => heap_alloc_old w.drew _ hk⟩
      exact ⟨_, _, _, hrun, .inl hown, fun _ => hown, grownBy_any hg, .inr rfl, below_of_grown hg hbase (fun k hk => by cases hk)⟩

theorem wpList_append_gr {P : Program} (w : World) {ops : Array Oper} {rest : List Oper} {o : Oper} {a : Act} {Q : Exit → Act → World → Prop} (hgd : o.guard = none) (s x : Operand) (t : TypeId)
    (ho : o.op = .call { callee := .builtin .append, args := #[s, x], argTypes := #[t, t] })
    (base : Nat) (e : TypeId) (i : TypeInfo) (z : Value) (size bytes : Nat) (ht : P.underlying t = some (.slice e)) (hi : P.info? e = some i) (hz : i.zero = some z)
    (hsize : i.size = size) (hby : i.bytes = bytes) (hzs : z.cells.size = size) (hsz : 0 < size)
    (v : Value) (n : Nat) (xs : List Value) (hs : a.eval s = v) (hgr : Gr base e size w v n xs)
    (A : Option Addr) (m c : Nat) (news : List Value) (hx : a.eval x = .slice A m c) (hl : news.length = m * size) (hnews : Lies w A news)
    (hK : ∀ A' c' w', Grew base e size w v n m xs news A' c' w' → wpList P ops Q rest (a.put o.dst (.slice A' (n + m) c')) w') (h1 : ∀ u ∈ news, u.oneCell' = true)
    (h63 : n + m ≤ maxLen) (hbytes : (n + m) * bytes ≤ 140737488355328) (hbase : base ≤ w.heap.size) : wpList P ops Q (o :: rest) a w := by
  refine wpList_plain hgd fun K hK' => ?_
  obtain ⟨A', c', w', hrun, r'⟩ := run_append_gr (P := P) w base t o.type e i z size bytes ht hi hz hsize hby hzs hsz v n xs hgr A m c news hl hnews h1 h63 hbytes hbase
  unfold Oper.wp
  simp [execOp, ho, resolve, invoke, builtin, hs, hx, hrun, Result.andThen]
  exact hK' _ _ (hK A' c' w' r')

/-- The zero, the cells and the bytes of a type, off its row in the table. -/
theorem info_row {P : Program} {e : TypeId} {z : Value} {size bytes : Nat} (h : (P.info? e).map (fun i => (i.zero, i.size, i.bytes)) = some (some z, size, bytes)) :
    ∃ i, P.info? e = some i ∧ i.zero = some z ∧ i.size = size ∧ i.bytes = bytes := by
  cases h' : P.info? e with
  | none => rw [h'] at h; simp at h
  | some i => rw [h'] at h; simp at h; exact ⟨i, rfl, h.1, h.2.1, h.2.2⟩

theorem oneCell_bv (l : List UInt8) : ∀ u ∈ l.map bv, u.oneCell' = true := by
  intro u hu
  obtain ⟨x, _, rfl⟩ := List.mem_map.1 hu
  rfl
#print axioms wpList_append_gr
end Go.Proofs.Ytkdodhkiemfpeaa
