/- What is drawn for DistOf and InArc: some space and some numbers. -/
import Derived.Test.YtpgngfdhnoonjaaC2
import Derived.Deep.RegionHeld
namespace Go.Proofs.Ytpgngfdhnoonjaa
open Go.RowKit
set_option linter.unusedVariables false

/-- a slice of bytes that came in -/
def RowB (w : World) (a : Option Addr) (zs : List Int) : Prop :=
  zs = [] ∨ ∃ b off, a = some ⟨b, off, none⟩ ∧ b < w.heap.size ∧ ∀ i, i < zs.length → w.cell? ⟨b, off + i, none⟩ = some (.int .u8 (zs.getD i 0)) ∧ 0 ≤ zs.getD i 0 ∧ zs.getD i 0 ≤ 255
theorem RowB.keep {w w1 : World} {a : Option Addr} {zs : List Int} (h : RowB w a zs) (hb : Below w.heap.size w w1) : RowB w1 a zs := by
  rcases h with h | ⟨b, off, ha, hl, hc⟩
  · exact .inl h
  · exact .inr ⟨b, off, ha, Nat.lt_of_lt_of_le hl hb.size, fun i hi => ⟨(hb.cell (p := ⟨b, off + i, none⟩) hl).trans (hc i hi).1, (hc i hi).2⟩⟩
/-- a new cursor over these bytes, in the block that was made last -/
theorem cur_new {w w1 : World} {a : Option Addr} {cap : Nat} {zs : List Int} (hr : RowB w a zs) (hl : zs.length ≤ 1048576) (hb : Below w.heap.size w w1) :
    CurAt (w1.alloc (.cells #[.slice a zs.length cap, .int .i64 0, .int .u64 0] 62)) w1.heap.size 0 a cap zs := by
  have hs := hb.size
  refine ⟨⟨0, 0, heap_alloc_new _ _, Nat.le_refl _, by decide⟩, ?_, hl⟩
  rcases hr with h | ⟨b, off, ha, hlt, hc⟩
  · exact .inl h
  · have hb2 : Below w.heap.size w (w1.alloc (.cells #[.slice a zs.length cap, .int .i64 0, .int .u64 0] 62)) := hb.alloc hs _
    exact .inr ⟨b, off, ha, Nat.lt_of_lt_of_le hlt hb2.size, by omega, fun i hi => ⟨(hb2.cell (p := ⟨b, off + i, none⟩) hlt).trans (hc i hi).1, (hc i hi).2⟩⟩
theorem CurAt.drew {w : World} {g n : Nat} {a : Option Addr} {cap : Nat} {zs : List Int} (h : CurAt w g n a cap zs) : CurAt w.drew g n a cap zs := h.keep ((Below.refl _ _).drew)

/-- what a drawing keeps: the result's block, the cursor's behind it, the space's variable -/
structure DrSt (w wr : World) (n q : Nat) (a : Option Addr) (cap : Nat) (zs : List Int) (b d : Int) : Prop where
  bel : Below w.heap.size w wr
  cur : CurAt wr (w.heap.size + 1) n a cap zs
  q0 : wr.cell? ⟨q, 0, none⟩ = some (.int .i64 b)
  q1 : wr.cell? ⟨q, 1, none⟩ = some (.int .i64 d)
  r : wr.heap[w.heap.size]? = some (.cells #[.int .i64 0, .int .i64 0] 25 (0, 0))
  lo : w.heap.size + 1 < q
  hi : q < wr.heap.size
theorem DrSt.step {w wr w1 : World} {n m q : Nat} {a : Option Addr} {cap : Nat} {zs : List Int} {b d : Int} (h : DrSt w wr n q a cap zs b d) (mv : Mv (w.heap.size + 1) wr w1) (hc : CurAt w1 (w.heap.size + 1) m a cap zs) : DrSt w w1 m q a cap zs b d := by
  have hq : ¬ q = w.heap.size + 1 := by have := h.lo; omega
  exact ⟨mv.below h.bel (by omega), hc, keepM mv h.hi hq h.q0, keepM mv h.hi hq h.q1, (mv.block _ (by have := h.lo; have := h.hi; omega) (by omega)).trans h.r, h.lo, Nat.lt_of_lt_of_le h.hi mv.size⟩
theorem DrSt.keep {w wr w1 : World} {n q : Nat} {a : Option Addr} {cap : Nat} {zs : List Int} {b d : Int} (h : DrSt w wr n q a cap zs b d) (hb : Below wr.heap.size wr w1) : DrSt w w1 n q a cap zs b d := h.step (Mv.of_below hb) (h.cur.keep hb)
theorem DrSt.res {w wr : World} {n q : Nat} {a : Option Addr} {cap : Nat} {zs : List Int} {b d : Int} (h : DrSt w wr n q a cap zs b d) :
    wr.cell? ⟨w.heap.size, 0, none⟩ = some (.int .i64 0) ∧ wr.cell? ⟨w.heap.size, 1, none⟩ = some (.int .i64 0) ∧ wr.frozen? ⟨w.heap.size, 0, none⟩ = false ∧ wr.frozen? ⟨w.heap.size, 1, none⟩ = false :=
  ⟨(cell_of_row wr _ _ _ _ _ h.r).trans rfl, (cell_of_row wr _ _ _ _ _ h.r).trans rfl, frozen_of_row wr _ _ _ _ h.r, frozen_of_row wr _ _ _ _ h.r⟩
theorem DrSt.res_end {w wr : World} {n q : Nat} {a : Option Addr} {cap : Nat} {zs : List Int} {b d : Int} (h : DrSt w wr n q a cap zs b d) (u v : Value) : ((wr.setCell ⟨w.heap.size, 0, none⟩ u).setCell ⟨w.heap.size, 1, none⟩ v).heap[w.heap.size]? = some (.cells #[u, v] 25 (0, 0)) :=
  heap_setCell_same _ _ 1 _ _ v (heap_setCell_same _ _ 0 _ _ u h.r)
theorem DrSt.bel_end {w wr : World} {n q : Nat} {a : Option Addr} {cap : Nat} {zs : List Int} {b d : Int} (h : DrSt w wr n q a cap zs b d) (u v : Value) : Below w.heap.size w ((wr.setCell ⟨w.heap.size, 0, none⟩ u).setCell ⟨w.heap.size, 1, none⟩ v) :=
  (h.bel.setCell (Nat.le_refl _) u).setCell (Nat.le_refl _) v
theorem DrSt.cells_end {w wr : World} {n q : Nat} {a : Option Addr} {cap : Nat} {zs : List Int} {b d : Int} (h : DrSt w wr n q a cap zs b d) (u v : Value) : ((wr.setCell ⟨w.heap.size, 0, none⟩ u).setCell ⟨w.heap.size, 1, none⟩ v).cell? ⟨q, 0, none⟩ = some (.int .i64 b) ∧ ((wr.setCell ⟨w.heap.size, 0, none⟩ u).setCell ⟨w.heap.size, 1, none⟩ v).cell? ⟨q, 1, none⟩ = some (.int .i64 d) := by
  have e : ((wr.setCell ⟨w.heap.size, 0, none⟩ u).setCell ⟨w.heap.size, 1, none⟩ v).heap[q]? = wr.heap[q]? := by
    rw [heap_setCell_other _ _ _ _ (by have := h.lo; simp; omega), heap_setCell_other _ _ _ _ (by have := h.lo; simp; omega)]
  exact ⟨(World.cell?_of_block (w := wr) e).trans h.q0, (World.cell?_of_block (w := wr) e).trans h.q1⟩
theorem drSt_init {w w1 : World} {n : Nat} {a : Option Addr} {cap : Nat} {zs : List Int} {b d : Int} (mv1 : Mv (w.heap.size + 1) ((w.alloc (.cells #[.int .i64 0, .int .i64 0] 25)).alloc (.cells #[.slice a zs.length cap, .int .i64 0, .int .u64 0] 62)) w1) (hc1 : CurAt w1 (w.heap.size + 1) n a cap zs) :
    DrSt w (w1.alloc (.cells #[.int .i64 b, .int .i64 d] 25)) n w1.heap.size a cap zs b d := by
  have hs := mv1.size
  simp at hs
  have hb1 : Below w.heap.size w w1 := mv1.below (((Below.refl _ _).alloc (Nat.le_refl _) _).alloc (by simp) _) (by omega)
  refine ⟨hb1.alloc hb1.size _, hc1.new _, by simp, by simp, ?_, by omega, by simp⟩
  rw [heap_alloc_old _ _ (by omega), mv1.block _ (by simp; omega) (by omega)]
  exact heap_alloc2_old _ _ _
end Go.Proofs.Ytpgngfdhnoonjaa
