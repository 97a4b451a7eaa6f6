/- What the laws of messages share: lists of ints of one's own, boxes, marks, and lists held against each other. -/
import Derived.Test.YtpgngfdhnoonjaaL1
import Derived.ArgAppend
import Derived.Lib.SmallJoins
import Derived.Laws.OwnMore
import Derived.Laws.AppendOwnNone
namespace Go.Proofs.Ytpgngfdhnoonjaa.Wire
open Go.RowKit
set_option linter.unusedVariables false
/-- block g holds the list l at its head, and it lies at or beyond B -/
structure OwnS (B : Nat) (w : World) (g : Nat) (l : List Int) : Prop where
  lo : B ≤ g
  row : ∃ cur, w.heap[g]? = some (.cells cur 3 (0, 0)) ∧ cur.toList.take l.length = l.map (Value.int .i64)
theorem OwnS.lt {B : Nat} {w : World} {g : Nat} {l : List Int} (h : OwnS B w g l) : g < w.heap.size := by
  obtain ⟨cur, hc, _⟩ := h.row
  exact (Array.getElem?_eq_some_iff.1 hc).1
theorem OwnS.keep {B : Nat} {w w1 : World} {g : Nat} {l : List Int} (h : OwnS B w g l) (hb : Below w.heap.size w w1) : OwnS B w1 g l := by
  obtain ⟨cur, hc, ht⟩ := h.row
  exact ⟨h.lo, cur, (hb.block _ h.lt).trans hc, ht⟩
theorem OwnS.only {B : Nat} {w w1 : World} {g q : Nat} {l : List Int} (h : OwnS B w g l) (hb : Only q w w1) (hq : ¬ g = q) : OwnS B w1 g l := by
  obtain ⟨cur, hc, ht⟩ := h.row
  exact ⟨h.lo, cur, (hb.block _ hq).trans hc, ht⟩
theorem OwnS.size {B : Nat} {w : World} {g : Nat} {l : List Int} (h : OwnS B w g l) : ∃ cur, w.heap[g]? = some (.cells cur 3 (0, 0)) ∧ l.length ≤ cur.size ∧ ∀ i, i < l.length → cur[i]? = some (.int .i64 (l.getD i 0)) := by
  obtain ⟨cur, hc, ht⟩ := h.row
  have hl := congrArg List.length ht
  have hl2 : l.length ≤ cur.size := by
    simp only [List.length_take, List.length_map] at hl
    have : cur.toList.length = cur.size := Array.length_toList
    omega
  refine ⟨cur, hc, hl2, fun i hi => ?_⟩
  have := congrArg (·[i]?) ht
  simp only [List.getElem?_map] at this
  rw [List.getElem?_take_of_lt hi, Array.getElem?_toList] at this
  rw [this, List.getD_eq_getElem?_getD, List.getElem?_eq_getElem hi]
  rfl
theorem OwnS.at {B : Nat} {w : World} {g : Nat} {l : List Int} (h : OwnS B w g l) (i : Nat) (hi : i < l.length) : w.cell? ⟨g, i, none⟩ = some (.int .i64 (l.getD i 0)) ∧ w.frozen? ⟨g, i, none⟩ = false := by
  obtain ⟨cur, hc, hl, ht⟩ := h.size
  exact ⟨(cell_of_row w _ _ _ _ _ hc).trans (ht i hi), frozen_of_row w _ _ _ _ hc⟩
theorem OwnS.rowAt {B : Nat} {w : World} {g : Nat} {l : List Int} (h : OwnS B w g l) : RowAt w (some ⟨g, 0, none⟩) l :=
  .inr ⟨g, 0, rfl, h.lt, fun i hi => by rw [Nat.zero_add]; exact (h.at i hi).1⟩
theorem OwnS.put {B : Nat} {w : World} {g : Nat} {l : List Int} (h : OwnS B w g l) (i : Nat) (hi : i < l.length) (v : Int) : OwnS B (w.setCell ⟨g, i, none⟩ (.int .i64 v)) g (l.set i v) := by
  obtain ⟨cur, hc, ht⟩ := h.row
  refine ⟨h.lo, _, heap_setCell_same _ _ _ _ _ _ hc, ?_⟩
  rw [Array.toList_setIfInBounds, List.length_set, List.take_set, ht, List.map_set]
theorem OwnS.of_owns {B : Nat} {w : World} {g cap : Nat} {l : List Int} {n : Nat} (h : w.ownsRow B 3 1 (.slice (some ⟨g, 0, none⟩) n cap) n (l.map (Value.int .i64))) : OwnS B w g l ∧ l.length = n ∧ n ≤ cap := by
  obtain ⟨hl, h2⟩ := h
  rcases h2 with ⟨h2, _⟩ | ⟨g', cap', cur, hv, hb, hc, hn, _, _, ht⟩
  · cases h2
  · simp at hv
    obtain ⟨rfl, rfl⟩ := hv
    simp at hl
    exact ⟨⟨hb, cur, hc, by rw [hl]; simpa using ht⟩, hl, hn⟩
theorem OwnS.mono {B B' : Nat} {w : World} {g : Nat} {l : List Int} (h : OwnS B w g l) (hb : B' ≤ B) : OwnS B' w g l := ⟨Nat.le_trans hb h.lo, h.row⟩
theorem OwnZ.owns {w wr : World} {g : Nat} {l : List Int} (h : OwnZ w wr g l) : OwnS w.heap.size wr g l :=
  ⟨h.lo, _, h.row, by rw [List.take_of_length_le (by simp [zv])]; simp [zv]⟩

theorem OwnS.of_block {B : Nat} {w w1 : World} {g : Nat} {l : List Int} (h : OwnS B w g l) (hb : w1.heap[g]? = w.heap[g]?) : OwnS B w1 g l := by
  obtain ⟨cur, hc, ht⟩ := h.row
  exact ⟨h.lo, cur, hb.trans hc, ht⟩
theorem mrk_at' {k0 : Int} {zs : List Int} {n : Nat} (h : zs.length = n) : (mrk k0 zs n).length = n ∧ ∀ i, i < (mrk k0 zs n).length → (mrk k0 zs n).getD i 0 = k0 + (i : Int) := by
  subst h
  exact ⟨mrk_len (Nat.le_refl _), fun i hi => mrk_get (by rwa [mrk_len (Nat.le_refl _)] at hi)⟩
/-- a box that was laid in the world w is as it was -/
structure BxV (w wr : World) (cs : Array Value) (T : TypeId) : Prop where
  row : wr.heap[w.heap.size]? = some (.cells cs T (0, 0))
theorem BxV.lt {w wr : World} {cs : Array Value} {T : TypeId} (h : BxV w wr cs T) : w.heap.size < wr.heap.size := (Array.getElem?_eq_some_iff.1 h.row).1
theorem BxV.keep {w wr w1 : World} {cs : Array Value} {T : TypeId} (h : BxV w wr cs T) (hb : Below wr.heap.size wr w1) : BxV w w1 cs T :=
  ⟨(hb.block _ h.lt).trans h.row⟩
theorem bxV1 {w w1 : World} {cs : Array Value} {T : TypeId} (hb : Below (w.alloc (.cells cs T)).heap.size (w.alloc (.cells cs T)) w1) : BxV w w1 cs T := by
  have h0 : BxV w (w.alloc (.cells cs T)) cs T := ⟨heap_alloc_new _ _⟩
  exact h0.keep hb
theorem BxV.c2 {w wr : World} {x y : Value} {T : TypeId} (h : BxV w wr #[x, y] T) : wr.cell? ⟨w.heap.size, 0, none⟩ = some x ∧ wr.cell? ⟨w.heap.size, 1, none⟩ = some y :=
  ⟨(cell_of_row wr _ _ _ _ _ h.row).trans rfl, (cell_of_row wr _ _ _ _ _ h.row).trans rfl⟩
theorem BxV.c3 {w wr : World} {x y z : Value} {T : TypeId} (h : BxV w wr #[x, y, z] T) : wr.cell? ⟨w.heap.size, 0, none⟩ = some x ∧ wr.cell? ⟨w.heap.size, 1, none⟩ = some y ∧ wr.cell? ⟨w.heap.size, 2, none⟩ = some z :=
  ⟨(cell_of_row wr _ _ _ _ _ h.row).trans rfl, (cell_of_row wr _ _ _ _ _ h.row).trans rfl, (cell_of_row wr _ _ _ _ _ h.row).trans rfl⟩
theorem bxv6 {w w4 wr : World} {x y z x' y' z' : Value} {T T' : TypeId} (h : BxV w wr #[x, y, z] T) (k : BxV w4 wr #[x', y', z'] T') : wr.cell? ⟨w.heap.size, 0, none⟩ = some x ∧ wr.cell? ⟨w.heap.size, 1, none⟩ = some y ∧ wr.cell? ⟨w.heap.size, 2, none⟩ = some z ∧ wr.cell? ⟨w4.heap.size, 0, none⟩ = some x' ∧ wr.cell? ⟨w4.heap.size, 1, none⟩ = some y' ∧ wr.cell? ⟨w4.heap.size, 2, none⟩ = some z' :=
  ⟨h.c3.1, h.c3.2.1, h.c3.2.2, k.c3.1, k.c3.2.1, k.c3.2.2⟩
/-- nothing was changed but blocks from B to T; new ones may have come -/
structure Mk (B T : Nat) (w w' : World) : Prop where
  below : ∀ n w0, n ≤ B → Below n w0 w → Below n w0 w'
  block : ∀ k, k < w.heap.size → ¬ (B ≤ k ∧ k < T) → w'.heap[k]? = w.heap[k]?
  size : w.heap.size ≤ w'.heap.size
theorem Mk.refl (B T : Nat) (w : World) : Mk B T w w := ⟨fun _ _ _ h => h, fun _ _ _ => rfl, Nat.le_refl _⟩
theorem Mk.wide {B T B' T' : Nat} {w w' : World} (h : Mk B T w w') (hB : B' ≤ B) (hT : T ≤ T') : Mk B' T' w w' :=
  ⟨fun n w0 hn hb => h.below n w0 (by omega) hb, fun k hk hn => h.block k hk (by omega), h.size⟩
theorem mk_only {g : Nat} {w w' : World} (h : Only g w w') : Mk g (g + 1) w w' :=
  ⟨fun n w0 hn hb => hb.trans ⟨h.os, h.tape, h.output, by rw [h.size]; exact Nat.le_refl _, fun k hk => h.block k (by omega)⟩, fun k _ hk => h.block k (by omega), by rw [h.size]; exact Nat.le_refl _⟩
theorem BxV.mkd {w wr w1 : World} {cs : Array Value} {T0 : TypeId} {B T : Nat} (h : BxV w wr cs T0) (m : Mk B T wr w1) (hB : w.heap.size < B ∨ T ≤ w.heap.size) : BxV w w1 cs T0 :=
  ⟨(m.block _ h.lt (by omega)).trans h.row⟩
/-- a list of one's own among the blocks from B to T, or an empty one -/
def OwnLs (B T : Nat) (w : World) (a : Option Addr) (n : Nat) (l : List Int) : Prop := l.length = n ∧ (l = [] ∨ ∃ g, a = some ⟨g, 0, none⟩ ∧ g < T ∧ OwnS B w g l)
theorem OwnLs.rowAt {B T : Nat} {w : World} {a : Option Addr} {n : Nat} {l : List Int} (h : OwnLs B T w a n l) : RowAt w a l := by
  rcases h.2 with h | ⟨g, ha, _, os⟩
  · exact .inl h
  · rw [ha]; exact os.rowAt
theorem OwnLs.blocks {B T : Nat} {w w1 : World} {a : Option Addr} {n : Nat} {l : List Int} (h : OwnLs B T w a n l) (hb : ∀ k, B ≤ k → k < T → k < w.heap.size → w1.heap[k]? = w.heap[k]?) : OwnLs B T w1 a n l := by
  refine ⟨h.1, ?_⟩
  rcases h.2 with h | ⟨g, ha, ht, os⟩
  · exact .inl h
  · exact .inr ⟨g, ha, ht, os.of_block (hb g os.lo ht os.lt)⟩
theorem OwnLs.keep {B T : Nat} {w w1 : World} {a : Option Addr} {n : Nat} {l : List Int} (h : OwnLs B T w a n l) (hb : Below w.heap.size w w1) : OwnLs B T w1 a n l := h.blocks (fun k _ _ hk => hb.block k hk)
theorem OwnLs.mkd {B T B' T' : Nat} {w w1 : World} {a : Option Addr} {n : Nat} {l : List Int} (h : OwnLs B T w a n l) (m : Mk B' T' w w1) (hd : T ≤ B' ∨ T' ≤ B) : OwnLs B T w1 a n l := h.blocks (fun k h1 h2 hk => m.block k hk (by omega))
theorem mk_below {B T : Nat} {w w' : World} (h : Below w.heap.size w w') (hB : B ≤ w.heap.size) : Mk B T w w' :=
  ⟨fun n w0 hn hb => hb.trans (h.mono (by omega)), fun k hk _ => h.block k hk, h.size⟩
theorem bne_self_bool (b : Bool) : (b != b) = false := by cases b <;> rfl
/-- a list that a call has answered in memory of its own -/
theorem ownLs_of {B T : Nat} {w : World} {g n : Nat} {l : List Int} (h : OwnS B w g l) (ht : w.heap.size ≤ T) (hn : l.length = n) : OwnLs B T w (some ⟨g, 0, none⟩) n l := ⟨hn, .inr ⟨g, rfl, Nat.lt_of_lt_of_le h.lt ht, h⟩⟩
theorem ownLs_nil (B T : Nat) (w : World) (a : Option Addr) : OwnLs B T w a 0 [] := ⟨rfl, .inl rfl⟩
/-- a slice of ints or bytes that came in: nil, or a row of 'cap' cells of which the first 'len' are its elements -/
def IsRow (k : IntKind) (w : World) (a : Option Addr) (len cap : Nat) (zs : List Int) : Prop :=
  (a = none ∧ len = 0 ∧ cap = 0 ∧ zs = []) ∨
  ∃ x, a = some x ∧ len ≤ cap ∧ cap ≤ maxLen ∧ zs.length = cap ∧ (∀ i, i < zs.length → w.cell? (x.add i) = some (.int k (zs.getD i 0))) ∧ ∀ n ∈ zs, (Lit.int k n).wf = true
theorem add_none' (b o j : Nat) : (⟨b, o, none⟩ : Addr).add j = ⟨b, o + j, none⟩ := by unfold Addr.add; split <;> simp_all
theorem isRow_rowAt {w : World} {a : Option Addr} {len cap : Nat} {zs : List Int} (h : IsRow .i64 w a len cap zs) : ∃ ys : List Int, ys.length = len ∧ len ≤ maxLen ∧ RowAt w a ys := by
  rcases h with ⟨rfl, rfl, rfl, rfl⟩ | ⟨⟨b, off, spot⟩, rfl, hl, hm, hz, hc, _⟩
  · exact ⟨[], rfl, Nat.zero_le _, .inl rfl⟩
  · by_cases h0 : len = 0
    · subst h0; exact ⟨[], rfl, Nat.zero_le _, .inl rfl⟩
    · have hc0 := hc 0 (by omega)
      have hs : spot = none := by simpa [Addr.add] using World.cell?_spot hc0
      subst hs
      refine ⟨zs.take len, by simp; omega, by omega, .inr ⟨b, off, rfl, by simpa [add_none'] using block_lt_of_cell hc0, fun i hi => ?_⟩⟩
      have hi' : i < len := by simp at hi; omega
      have := hc i (by omega)
      rw [add_none'] at this
      rw [this]
      simp [List.getD_eq_getElem?_getD, hi']
end Go.Proofs.Ytpgngfdhnoonjaa.Wire
