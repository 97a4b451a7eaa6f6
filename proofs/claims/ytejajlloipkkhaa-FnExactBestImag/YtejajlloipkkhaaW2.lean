/- Peers under way: one peer's box is written meanwhile. -/
import Derived.Test.YtejajlloipkkhaaW1
import Derived.Deep.DeepCutAuto
namespace Go.Proofs.Ytejajlloipkkhaa
open Go.RowKit
set_option linter.unusedVariables false
/-- nothing is changed of what was there but block X -/
structure Away (X : Nat) (wc wi : World) : Prop where
  os : wi.os = wc.os
  tape : wi.tape = wc.tape
  output : wi.output = wc.output
  size : wc.heap.size ≤ wi.heap.size
  blk : ∀ k, k < wc.heap.size → ¬ k = X → wi.heap[k]? = wc.heap[k]?
theorem Away.refl (X : Nat) (w : World) : Away X w w := ⟨rfl, rfl, rfl, Nat.le_refl _, fun _ _ _ => rfl⟩
theorem Away.below {X n : Nat} {w wc wi : World} (h : Away X wc wi) (hb : Below n w wc) (hX : n ≤ X) (hn : n ≤ wc.heap.size) : Below n w wi :=
  ⟨h.os.trans hb.os, h.tape.trans hb.tape, h.output.trans hb.output, Nat.le_trans hb.size h.size, fun k hk => (h.blk k (by omega) (by omega)).trans (hb.block k hk)⟩
theorem Away.keep {X : Nat} {wc wi w1 : World} (h : Away X wc wi) (hb : Below wi.heap.size wi w1) : Away X wc w1 :=
  ⟨hb.os.trans h.os, hb.tape.trans h.tape, hb.output.trans h.output, Nat.le_trans h.size hb.size, fun k hk hx => (hb.block k (Nat.lt_of_lt_of_le hk h.size)).trans (h.blk k hk hx)⟩
theorem Away.grown {X : Nat} {wc wi w1 : World} {r : Option Nat} (h : Away X wc wi) (hg : wi.grownBy w1 r) (hr : ∀ k, r = some k → wc.heap.size ≤ k) : Away X wc w1 :=
  ⟨hg.os.trans h.os, hg.tape.trans h.tape, hg.output.trans h.output, Nat.le_trans h.size hg.size, fun k hk hx => (hg.block k (Nat.lt_of_lt_of_le hk h.size) (fun he => by have := hr k he.symm; omega)).trans (h.blk k hk hx)⟩
theorem Away.set {X : Nat} {wc wi : World} (h : Away X wc wi) (i : Nat) (v : Value) : Away X wc (wi.setCell ⟨X, i, none⟩ v) :=
  ⟨h.os, h.tape, h.output, by have := h.size; simp [World.setCell]; omega, fun k hk hx => (heap_setCell_other _ _ _ _ (by simpa using hx)).trans (h.blk k hk hx)⟩
theorem IdSt.away {w wc wi : World} {S0 : Array Value} {T0 : TypeId} {b d : Int} {vl : Value} {L : List (Pr × Value)} {X : Nat} (h : IdSt w wc S0 T0 b d vl L) (hA : Away X wc wi) (hX : w.heap.size + 3 ≤ X)
    (hx : ∃ cur, wc.heap[X]? = some (.cells cur 101 (0, 0))) (hne : ¬ vl.ownBlock = some X) : IdSt w wi S0 T0 b d vl L := by
  have hlt := h.lt
  obtain ⟨cx, hcx⟩ := hx
  have blk : ∀ k, k ≤ w.heap.size + 2 → wi.heap[k]? = wc.heap[k]? := fun k hk => hA.blk k (by omega) (by omega)
  refine ⟨hA.below h.bel (by omega) (by omega), Nat.lt_of_lt_of_le h.lt hA.size, (blk _ (by omega)).trans h.s, (blk _ (by omega)).trans h.r, (blk _ (by omega)).trans h.p, ?_, fun i hi => ?_, h.l.sep⟩
  · exact own_blocks h.l.own (fun k hk => hA.blk k (h.l.own.lt k hk).2 (fun he => hne (by rw [hk, he])))
  · obtain ⟨ab, cb, hv, hc, hm, ho⟩ := h.l.val i hi
    refine ⟨ab, cb, hv, hc, hm, ?_⟩
    rcases ho with ho | ⟨gb, ha, hl, os⟩
    · exact .inl ho
    · refine .inr ⟨gb, ha, Nat.lt_of_lt_of_le hl hA.size, os.of_block (hA.blk gb hl (fun he => ?_))⟩
      obtain ⟨cj, hcj, _⟩ := os.row
      rw [he, hcx] at hcj
      simp at hcj
theorem IdSt.grow2 {w wc w5 w6 : World} {S0 : Array Value} {T0 : TypeId} {b d : Int} {vl v6 : Value} {L : List (Pr × Value)} {e : Pr × Value} (h : IdSt w wc S0 T0 b d vl L) (h5 : IdSt w w5 S0 T0 b d vl L) (hg : w5.grownBy w6 vl.ownBlock)
    (ho : w6.ownsRow (w.heap.size + 3) 101 4 v6 (L.length + 1) (flatP L ++ [.int .i64 e.1.id, .int .i64 e.1.succ, .int .i64 e.1.point, e.2])) (hv : ValOk wc.heap.size w5.heap.size w5 e) :
    IdSt w (w6.setCell ⟨w.heap.size + 1 + 1, 2, none⟩ v6) S0 T0 b d v6 (L ++ [e]) := by
  have hlt := h.lt
  have hne : ∀ k, k ≤ w.heap.size + 2 → some k ≠ vl.ownBlock := fun k hk he => by
    have := (h5.l.own.lt k he.symm).1
    omega
  have hs5 := h5.lt
  have blk : ∀ k, k ≤ w.heap.size + 2 → w6.heap[k]? = w5.heap[k]? := fun k hk => hg.block k (by omega) (hne k hk)
  have hvB : ValOk (w.heap.size + 3) w5.heap.size w5 e := by
    obtain ⟨ab, cb, hv', hc, hm, ho'⟩ := hv
    refine ⟨ab, cb, hv', hc, hm, ?_⟩
    rcases ho' with ho' | ⟨gb, ha, hl, os⟩
    · exact .inl ho'
    · exact .inr ⟨gb, ha, hl, os.mono (by omega)⟩
  have l6 : ListP (w.heap.size + 3) w6 v6 (L ++ [e]) := h5.l.grow hg ho hvB (fun i hi hn he hq => by
    obtain ⟨ab, cb, hv', _, _, ho'⟩ := h.l.val i hi
    obtain ⟨ae, ce, hve, _, _, hoe⟩ := hv
    rcases ho' with ho' | ⟨gb, ha, hl, os⟩
    · exact hn ho'
    · rcases hoe with hoe | ⟨ge, hae, _, ose⟩
      · exact he hoe
      · rw [hv', ha, hve, hae] at hq
        simp [Value.ownBlock] at hq
        have := ose.lo
        omega)
  refine ⟨?_, ?_, ?_, ?_, ?_, l6.blocks (by simp [World.setCell]) (fun k hk _ => heap_setCell_other _ _ _ _ (by simp; omega))⟩
  · exact (h5.bel.grown hg (by have := h5.bel.size; omega) (fun k hk => by have := (h5.l.own.lt k hk).1; omega)).setCell (p := ⟨w.heap.size + 1 + 1, 2, none⟩) (by simp; omega) _
  · have := hg.size; simp [World.setCell]; omega
  · rw [heap_setCell_other _ _ _ _ (by simp; try omega), blk _ (by omega)]; exact h5.s
  · rw [heap_setCell_other _ _ _ _ (by simp), blk _ (by omega)]; exact h5.r
  · exact heap_setCell_same _ _ 2 _ _ _ ((blk _ (by omega)).trans h5.p)

theorem IdSt.q0 {w wr : World} {T0 : TypeId} {b d : Int} {vl : Value} {L : List (Pr × Value)} (h : IdSt w wr #[.int .i64 b, .int .i64 d] T0 b d vl L) : wr.cell? ⟨w.heap.size, 0, none⟩ = some (.int .i64 b) := (cell_of_row wr _ _ _ _ _ h.s).trans rfl
theorem IdSt.q1 {w wr : World} {T0 : TypeId} {b d : Int} {vl : Value} {L : List (Pr × Value)} (h : IdSt w wr #[.int .i64 b, .int .i64 d] T0 b d vl L) : wr.cell? ⟨w.heap.size, 1, none⟩ = some (.int .i64 d) := (cell_of_row wr _ _ _ _ _ h.s).trans rfl
theorem IdSt.qq {w wr : World} {T0 : TypeId} {b d : Int} {vl : Value} {L : List (Pr × Value)} (h : IdSt w wr #[.int .i64 b, .int .i64 d] T0 b d vl L) : wr.cell? ⟨w.heap.size, 0, none⟩ = some (.int .i64 b) ∧ wr.cell? ⟨w.heap.size, 1, none⟩ = some (.int .i64 d) := ⟨h.q0, h.q1⟩
theorem IdSt.qqA {w wr : World} {T0 : TypeId} {b d : Int} {vl : Value} {L : List (Pr × Value)} (h : IdSt w wr #[.int .i64 b, .int .i64 d] T0 b d vl L) (o : Obj) : (wr.alloc o).cell? ⟨w.heap.size, 0, none⟩ = some (.int .i64 b) ∧ (wr.alloc o).cell? ⟨w.heap.size, 1, none⟩ = some (.int .i64 d) :=
  (h.keep ((Below.refl _ _).alloc (Nat.le_refl _) _)).qq
theorem belA (w : World) (o : Obj) : Below w.heap.size w (w.alloc o) := (Below.refl _ _).alloc (Nat.le_refl _) _
theorem IdSt.qq4 {w wr : World} {T0 : TypeId} {b d : Int} {vl : Value} {L : List (Pr × Value)} (h : IdSt w wr #[.int .i64 b, .int .i64 d] T0 b d vl L) {X : Nat} (hX : w.heap.size < X) (v0 v1 v2 v3 : Value) :
    ((((wr.setCell ⟨X, 0, none⟩ v0).setCell ⟨X, 1, none⟩ v1).setCell ⟨X, 2, none⟩ v2).setCell ⟨X, 3, none⟩ v3).cell? ⟨w.heap.size, 0, none⟩ = some (.int .i64 b) ∧ ((((wr.setCell ⟨X, 0, none⟩ v0).setCell ⟨X, 1, none⟩ v1).setCell ⟨X, 2, none⟩ v2).setCell ⟨X, 3, none⟩ v3).cell? ⟨w.heap.size, 1, none⟩ = some (.int .i64 d) := by
  have e : (set4 wr X 0 v0 v1 v2 v3).heap[w.heap.size]? = wr.heap[w.heap.size]? := set4_block (by omega)
  exact ⟨(World.cell?_of_block (a := ⟨w.heap.size, 0, none⟩) e).trans h.q0, (World.cell?_of_block (a := ⟨w.heap.size, 1, none⟩) e).trans h.q1⟩
/-- a new peer's box lies at X -/
structure XSt (w wc : World) (S0 : Array Value) (T0 : TypeId) (b d : Int) (vl : Value) (L : List (Pr × Value)) (X : Nat) (x y z : Int) : Prop where
  st : IdSt w wc S0 T0 b d vl L
  lo : w.heap.size + 3 ≤ X
  hi : X < wc.heap.size
  blk : wc.heap[X]? = some (.cells #[.int .i64 x, .int .i64 y, .int .i64 z, .slice none 0 0] 101 (0, 0))
  ne : ¬ vl.ownBlock = some X
theorem xSt_new {w wr : World} {S0 : Array Value} {T0 : TypeId} {b d : Int} {vl : Value} {L : List (Pr × Value)} {x y z : Int} (h : IdSt w wr S0 T0 b d vl L) : XSt w (wr.alloc (.cells #[.int .i64 x, .int .i64 y, .int .i64 z, .slice none 0 0] 101)) S0 T0 b d vl L wr.heap.size x y z :=
  ⟨h.keep (belA _ _), by have := h.lt; omega, by simp, heap_alloc_new _ _, fun he => by have := (h.l.own.lt _ he).2; omega⟩
theorem XSt.keep {w wc w1 : World} {S0 : Array Value} {T0 : TypeId} {b d : Int} {vl : Value} {L : List (Pr × Value)} {X : Nat} {x y z : Int} (h : XSt w wc S0 T0 b d vl L X x y z) (hb : Below wc.heap.size wc w1) : XSt w w1 S0 T0 b d vl L X x y z :=
  ⟨h.st.keep hb, h.lo, Nat.lt_of_lt_of_le h.hi hb.size, (hb.block _ h.hi).trans h.blk, h.ne⟩
theorem XSt.put {w wc : World} {S0 : Array Value} {T0 : TypeId} {b d : Int} {vl : Value} {L : List (Pr × Value)} {X : Nat} {x y z : Int} (h : XSt w wc S0 T0 b d vl L X x y z) (x' y' z' : Int) : XSt w (set4 wc X 0 (.int .i64 x') (.int .i64 y') (.int .i64 z') (.slice none 0 0)) S0 T0 b d vl L X x' y' z' := by
  refine ⟨h.st.away (X := X) ((((Away.refl X wc).set 0 _).set 1 _).set 2 _ |>.set 3 _) h.lo ⟨_, h.blk⟩ h.ne, h.lo, by rw [set4_size]; exact h.hi, ?_, h.ne⟩
  exact heap_setCell_same _ _ 3 _ _ _ (heap_setCell_same _ _ 2 _ _ _ (heap_setCell_same _ _ 1 _ _ _ (heap_setCell_same _ _ 0 _ _ _ h.blk)))
theorem XSt.cells {w wc : World} {S0 : Array Value} {T0 : TypeId} {b d : Int} {vl : Value} {L : List (Pr × Value)} {X : Nat} {x y z : Int} (h : XSt w wc S0 T0 b d vl L X x y z) :
    wc.cell? ⟨X, 0, none⟩ = some (.int .i64 x) ∧ wc.cell? ⟨X, 1, none⟩ = some (.int .i64 y) ∧ wc.cell? ⟨X, 2, none⟩ = some (.int .i64 z) ∧ wc.cell? ⟨X, 3, none⟩ = some (.slice none 0 0) ∧ wc.frozen? ⟨X, 0, none⟩ = false ∧ wc.frozen? ⟨X, 1, none⟩ = false ∧ wc.frozen? ⟨X, 2, none⟩ = false ∧ wc.frozen? ⟨X, 3, none⟩ = false :=
  ⟨(cell_of_row wc _ _ _ _ _ h.blk).trans rfl, (cell_of_row wc _ _ _ _ _ h.blk).trans rfl, (cell_of_row wc _ _ _ _ _ h.blk).trans rfl, (cell_of_row wc _ _ _ _ _ h.blk).trans rfl, frozen_of_row wc _ _ _ _ h.blk, frozen_of_row wc _ _ _ _ h.blk, frozen_of_row wc _ _ _ _ h.blk, frozen_of_row wc _ _ _ _ h.blk⟩
end Go.Proofs.Ytejajlloipkkhaa
