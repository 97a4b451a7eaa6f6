/- A ring and a number that are drawn. -/
import Derived.Test.YtgmdbihdnacpjaaT1
namespace Go.Proofs.Ytgmdbihdnacpjaa
open Go.RowKit
set_option linter.unusedVariables false

theorem SpSt.cells_end {w wr : World} {g n q : Nat} {a : Option Addr} {cap : Nat} {zs : List Int} {b d : Int} (h : SpSt w wr g n q a cap zs b d) (u v : Value) : ((wr.setCell ⟨w.heap.size, 0, none⟩ u).setCell ⟨w.heap.size, 1, none⟩ v).cell? ⟨q, 0, none⟩ = some (.int .i64 b) ∧ ((wr.setCell ⟨w.heap.size, 0, none⟩ u).setCell ⟨w.heap.size, 1, none⟩ v).cell? ⟨q, 1, none⟩ = some (.int .i64 d) := by
  have e := (h.fin u v).2.2.2 q h.hi (by have := h.lo; omega)
  exact ⟨(World.cell?_of_block (w := wr) (a := ⟨q, 0, none⟩) e).trans h.q0, (World.cell?_of_block (w := wr) (a := ⟨q, 1, none⟩) e).trans h.q1⟩

theorem row_mv {g bk off : Nat} {ms : List Int} {w w1 : World} (h : ∀ i, i < ms.length → w.cell? ⟨bk, off + i, none⟩ = some (.int .i64 (ms.getD i 0))) (hm : Mv g w w1) (hl : bk < w.heap.size) (hg : ¬ bk = g) : ∀ i, i < ms.length → w1.cell? ⟨bk, off + i, none⟩ = some (.int .i64 (ms.getD i 0)) :=
  fun i hi => keepM hm hl hg (h i hi)
theorem row_end {r bk off : Nat} {ms : List Int} {w : World} (h : ∀ i, i < ms.length → w.cell? ⟨bk, off + i, none⟩ = some (.int .i64 (ms.getD i 0))) (hg : ¬ bk = r) (u v : Value) : ∀ i, i < ms.length → ((w.setCell ⟨r, 0, none⟩ u).setCell ⟨r, 1, none⟩ v).cell? ⟨bk, off + i, none⟩ = some (.int .i64 (ms.getD i 0)) := by
  intro i hi
  have e : ((w.setCell ⟨r, 0, none⟩ u).setCell ⟨r, 1, none⟩ v).heap[bk]? = w.heap[bk]? := by
    rw [heap_setCell_other _ _ _ _ (by simpa using hg), heap_setCell_other _ _ _ _ (by simpa using hg)]
  exact (World.cell?_of_block (w := w) (a := ⟨bk, off + i, none⟩) e).trans (h i hi)

end Go.Proofs.Ytgmdbihdnacpjaa
