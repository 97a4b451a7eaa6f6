/- The row of a number's digits: what rowOf answers. -/
import Derived.Test.YtjolkpfenloobaaA5
import Derived.Test.YtjolkpfenloobaaM1
import Derived.Laws.Rows
import Derived.Laws.Tables
import Derived.Laws.CopyOwn
namespace Go.Proofs.Ytjolkpfenloobaa
open Go.RowKit
set_option linter.unusedVariables false

theorem zv_one (l : List Int) : (zv l).all (·.oneCell') = true := by
  rw [Array.all_eq_true_iff_forall_mem]
  intro v hv
  simp [zv] at hv
  obtain ⟨a, _, rfl⟩ := hv
  rfl
theorem digL_cons {j n : Nat} {B x xj : Int} {done : List Int} (h : digL (j + 1) B xj ++ done = digL n B x) : digL j B (xj / B) ++ (xj % B :: done) = digL n B x := by
  rw [← h, digL, List.append_assoc]; rfl

theorem div_bd {x B s : Int} (h0 : 0 ≤ x) (h1 : x < s) (hB : 1 ≤ B) : 0 ≤ x / B ∧ x / B < s := by
  refine ⟨Int.ediv_nonneg h0 (by omega), ?_⟩
  have : x / B ≤ x := Int.ediv_le_self _ h0
  omega

/-- what lies in the three blocks while the loop goes -/
structure RowSt (w wr : World) (b d : Int) (n j : Nat) (T A : TypeId) (done : List Int) : Prop where
  bel : Below w.heap.size w wr
  s : wr.heap[w.heap.size]? = some (.cells #[.int .i64 b, .int .i64 d] T (0, 0))
  r : wr.heap[w.heap.size + 1]? = some (.cells (zv (List.replicate 12 0)) A (0, 0))
  row : wr.heap[w.heap.size + 1 + 1]? = some (.cells (zv (rowZ n (List.replicate j 0 ++ done))) A (0, 0))
  sz : w.heap.size + 1 + 1 < wr.heap.size

theorem RowSt.keep {w wr w1 : World} {b d : Int} {n j : Nat} {T A : TypeId} {done : List Int} (h : RowSt w wr b d n j T A done) (hb : Below wr.heap.size wr w1) : RowSt w w1 b d n j T A done :=
  ⟨h.bel.trans (hb.mono h.bel.size), (hb.block _ (by have := h.sz; omega)).trans h.s, (hb.block _ (by have := h.sz; omega)).trans h.r, (hb.block _ h.sz).trans h.row, Nat.lt_of_lt_of_le h.sz hb.size⟩

theorem rowZ_set {n j : Nat} {done : List Int} (v : Int) : (rowZ n (List.replicate (j + 1) 0 ++ done)).set j v = rowZ n (List.replicate j 0 ++ (v :: done)) := by
  unfold rowZ
  rw [List.replicate_succ', List.append_assoc, List.append_assoc, List.append_assoc, List.set_append_right _ _ (by simp)]
  simp

theorem RowSt.put {w wr : World} {b d : Int} {n j : Nat} {T A : TypeId} {done : List Int} (h : RowSt w wr b d n (j + 1) T A done) (v : Int) : RowSt w (wr.setCell ⟨w.heap.size + 1 + 1, j, none⟩ (.int .i64 v)) b d n j T A (v :: done) := by
  refine ⟨h.bel.setCell (by simp; omega) _, ?_, ?_, ?_, by simpa [World.setCell] using h.sz⟩
  · rw [heap_setCell_other _ _ _ _ (by simp; omega)]; exact h.s
  · rw [heap_setCell_other _ _ _ _ (by simp)]; exact h.r
  · rw [heap_setCell_same _ _ _ _ _ _ h.row, zv_set, rowZ_set]

theorem RowSt.cells {w wr : World} {b d : Int} {n j : Nat} {T A : TypeId} {done : List Int} (h : RowSt w wr b d n j T A done) :
    wr.cell? ⟨w.heap.size, 0, none⟩ = some (.int .i64 b) ∧ wr.cell? ⟨w.heap.size, 1, none⟩ = some (.int .i64 d) :=
  ⟨(cell_of_row wr _ _ _ _ _ h.s).trans rfl, (cell_of_row wr _ _ _ _ _ h.s).trans rfl⟩

theorem RowSt.at {w wr : World} {b d : Int} {n j : Nat} {T A : TypeId} {done : List Int} (h : RowSt w wr b d n (j + 1) T A done) :
    wr.cell? ⟨w.heap.size + 1 + 1, j, none⟩ = some (.int .i64 ((rowZ n (List.replicate (j + 1) 0 ++ done)).getD j 0)) ∧ wr.frozen? ⟨w.heap.size + 1 + 1, j, none⟩ = false :=
  ⟨(cell_of_row wr _ _ _ _ _ h.row).trans (zv_get _ _ (by simp [rowZ]; omega)), frozen_of_row wr _ _ _ _ h.row⟩

theorem rowSt_init (w : World) (b d : Int) (n : Nat) (hn : n ≤ 12) (T A : TypeId) {w1 : World} {N : Nat} (hb : Below N (((w.alloc (.cells #[.int .i64 b, .int .i64 d] T)).alloc (.cells (zv (List.replicate 12 0)) A)).alloc (.cells (zv (List.replicate 12 0)) A)) w1) (hN : w.heap.size + 1 + 1 + 1 ≤ N) :
    RowSt w w1 b d n n T A [] := by
  have e : rowZ n (List.replicate n 0 ++ []) = List.replicate 12 0 := by
    unfold rowZ
    rw [List.append_nil, List.replicate_append_replicate]
    congr 1; omega
  have h0 : RowSt w (((w.alloc (.cells #[.int .i64 b, .int .i64 d] T)).alloc (.cells (zv (List.replicate 12 0)) A)).alloc (.cells (zv (List.replicate 12 0)) A)) b d n n T A [] := by
    refine ⟨(((Below.refl _ _).alloc (Nat.le_refl _) _).alloc (by simp) _).alloc (by simp; omega) _, ?_, ?_, ?_, by simp⟩
    · rw [heap_alloc_old _ _ (by simp; omega)]; exact heap_alloc2_old _ _ _
    · rw [heap_alloc_old _ _ (by simp)]; exact heap_alloc2_new _ _ _
    · rw [e]
      have := heap_alloc_new ((w.alloc (.cells #[.int .i64 b, .int .i64 d] T)).alloc (.cells (zv (List.replicate 12 0)) A)) (.cells (zv (List.replicate 12 0)) A)
      simpa using this
  exact h0.keep (hb.mono (by simpa using hN))

end Go.Proofs.Ytjolkpfenloobaa
