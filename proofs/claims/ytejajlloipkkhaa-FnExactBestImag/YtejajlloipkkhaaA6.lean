/- The row of a number's digits: what rowOf answers. -/
import Derived.Test.YtejajlloipkkhaaA5
import Derived.Test.YtejajlloipkkhaaM1
import Derived.Laws.Rows
import Derived.Laws.Tables
import Derived.Laws.CopyOwn
namespace Go.Proofs.Ytejajlloipkkhaa
open Go.RowKit
set_option linter.unusedVariables false

theorem zv_one (l : List Int) : (zv l).all (·.oneCell') = true := by
  rw [Array.all_eq_true_iff_forall_mem]
  intro v hv
  simp [zv] at hv
  obtain ⟨a, _, rfl⟩ := hv
  rfl
theorem digL_cons {j n : Nat} {B x xj : Int} {done : List Int} (h : digL (j + 1) B xj ++ done = digL n B x) : digL j B (xj / B) ++ (xj % B :: done) = digL n B x := by
  rw [← h, digL, List.append_assoc]; rfl

theorem div_bd {x B s : Int} (h0 : 0 ≤ x) (h1 : x < s) (hB : 1 ≤ B) : 0 ≤ x / B ∧ x / B < s := by
  refine ⟨Int.ediv_nonneg h0 (by omega), ?_⟩
  have : x / B ≤ x := Int.ediv_le_self _ h0
  omega

/-- what lies in the three blocks while the loop goes -/
structure RowSt (w wr : World) (b d : Int) (n j : Nat) (T A : TypeId) (done : List Int) : Prop where
  bel : Below w.heap.size w wr
  s : wr.heap[w.heap.size]? = some (.cells #[.int .i64 b, .int .i64 d] T (0, 0))
  r : wr.heap[w.heap.size + 1]? = some (.cells (zv (List.replicate 12 0)) A (0, 0))
  row : wr.heap[w.heap.size + 1 + 1]? = some (.cells (zv (rowZ n (List.replicate j 0 ++ done))) A (0, 0))
  sz : w.heap.size + 1 + 1 < wr.heap.size

theorem RowSt.keep {w wr w1 : World} {b d : Int} {n j : Nat} {T A : TypeId} {done : List Int} (h : RowSt w wr b d n j T A done) (hb : Below wr.heap.size wr w1) : RowSt w w1 b d n j T A done :=
  ⟨h.bel.trans (hb.mono h.bel.size), (hb.block _ (by have := h.sz; omega)).trans h.s, (hb.block _ (by have := h.sz; omega)).trans h.r, (hb.block _ h.sz).trans h.row, Nat.lt_of_lt_of_le h.sz hb.size⟩

theorem rowZ_set {n j : Nat} {done : List Int} (v : Int) : (rowZ n (List.replicate (j + 1) 0 ++ done)).set j v = rowZ n (List.replicate j 0 ++ (v :: done)) := by
  unfold rowZ
  rw [List.replicate_succ', List.append_assoc, List.append_assoc, List.append_assoc, List.set_append_right _ _ (by simp)]
  simp

theorem RowSt.put {w wr : World} {b d : Int} {n j : Nat} {T A : TypeId} {done : List Int} (h : RowSt w wr b d n (j + 1) T A done) (v : Int) : RowSt w (wr.setCell ⟨w.heap.size + 1 + 1, j, none⟩ (.int .i64 v)) b d n j T A (v :: done) := by
  refine ⟨h.bel.setCell (by simp; omega) _, ?_, ?_, ?_, by simpa [World.setCell] using h.sz⟩
  · rw [heap_setCell_other _ _ _ _ (by simp; omega)]; exact h.s
  · rw [heap_setCell_other _ _ _ _ (by simp)]; exact h.r
  · rw [heap_setCell_same _ _ _ _ _ _ h.row, zv_set, rowZ_set]

theorem RowSt.cells {w wr : World} {b d : Int} {n j : Nat} {T A : TypeId} {done : List Int} (h : RowSt w wr b d n j T A done) :
    wr.cell? ⟨w.heap.size, 0, none⟩ = some (.int .i64 b) ∧ wr.cell? ⟨w.heap.size, 1, none⟩ = some (.int .i64 d) :=
  ⟨(cell_of_row wr _ _ _ _ _ h.s).trans rfl, (cell_of_row wr _ _ _ _ _ h.s).trans rfl⟩

theorem RowSt.at {w wr : World} {b d : Int} {n j : Nat} {T A : TypeId} {done : List Int} (h : RowSt w wr b d n (j + 1) T A done) :
    wr.cell? ⟨w.heap.size + 1 + 1, j, none⟩ = some (.int .i64 ((rowZ n (List.replicate (j + 1) 0 ++ done)).getD j 0)) ∧ wr.frozen? ⟨w.heap.size + 1 + 1, j, none⟩ = false :=
  ⟨(cell_of_row wr _ _ _ _ _ h.row).trans (zv_get _ _ (by simp [rowZ]; omega)), frozen_of_row wr _ _ _ _ h.row⟩

theorem rowSt_init (w : World) (b d : Int) (n : Nat) (hn : n ≤ 12) (T A : TypeId) {w1 : World} {N : Nat} (hb : Below N (((w.alloc (.cells #[.int .i64 b, .int .i64 d] T)).alloc (.cells (zv (List.replicate 12 0)) A)).alloc (.cells (zv (List.replicate 12 0)) A)) w1) (hN : w.heap.size + 1 + 1 + 1 ≤ N) :
    RowSt w w1 b d n n T A [] := by
  have e : rowZ n (List.replicate n 0 ++ []) = List.replicate 12 0 := by
    unfold rowZ
    rw [List.append_nil, List.replicate_append_replicate]
    congr 1; omega
  have h0 : RowSt w (((w.alloc (.cells #[.int .i64 b, .int .i64 d] T)).alloc (.cells (zv (List.replicate 12 0)) A)).alloc (.cells (zv (List.replicate 12 0)) A)) b d n n T A [] := by
    refine ⟨(((Below.refl _ _).alloc (Nat.le_refl _) _).alloc (by simp) _).alloc (by simp; omega) _, ?_, ?_, ?_, by simp⟩
    · rw [heap_alloc_old _ _ (by simp; omega)]; exact heap_alloc2_old _ _ _
    · rw [heap_alloc_old _ _ (by simp)]; exact heap_alloc2_new _ _ _
    · rw [e]
      have := heap_alloc_new ((w.alloc (.cells #[.int .i64 b, .int .i64 d] T)).alloc (.cells (zv (List.replicate 12 0)) A)) (.cells (zv (List.replicate 12 0)) A)
      simpa using this
  exact h0.keep (hb.mono (by simpa using hN))

set_option maxHeartbeats 800000 in
theorem row_any (b d x : Int) (w : World) (hb1 : 1 ≤ b) (hb2 : b ≤ 12) (hd1 : 1 ≤ d) (hd2 : d ≤ b) (h1 : 0 ≤ x) (h2 : x < sz b) :
    Calls Try.prog 79 #[.agg #[.int .i64 b, .int .i64 d], .int .i64 x] w fun e w' => e = .returned (.agg (zv (rowZ (cnt b d) (digL (cnt b d) (sz d) x)))) ∧ Below w.heap.size w w' := by
  obtain ⟨hq, q1, q2⟩ := cnt_bd hb1 hb2 hd1 hd2
  have hd3 : d ≤ 12 := by omega
  obtain ⟨hs1, hs2⟩ := sz_bd hb1 hb2
  obtain ⟨hs3, hs4⟩ := sz_bd hd1 hd3
  go_enter Try.func79, Try.ntmps79
  go_wp2_with fail
  refine (count_any _ _ _ hb1 hb2 hd1 hd2).mono ?_
  rintro e w1 ⟨rfl, hw1⟩
  have st0 : RowSt w w1 b d (cnt b d) (cnt b d) 25 116 [] := rowSt_init w b d _ q2 _ _ (by exact hw1) (by simp)
  clear hw1
  go_wp2_with fail
  go_loopw [1, 6] (fun vx vi wr => ∃ (j : Nat) (iv xj : Int) (done : List Int), j ≤ 12 ∧ vi = .int .i64 iv ∧ iv = (j : Int) - 1 ∧ vx = .int .i64 xj ∧ 0 ≤ xj ∧ xj < sz b ∧ digL j (sz d) xj ++ done = digL (cnt b d) (sz d) x ∧ RowSt w wr b d (cnt b d) j 25 116 done) (fun _ vi _ => (intOf vi + 1).toNat)
  case atStart => exact ⟨cnt b d, _, x, [], q2, rfl, by omega, rfl, h1, h2, by simp, st0⟩
  case round =>
    obtain ⟨j, iv, xj, done, hj, rfl, hiv, rfl, hx1, hx2, hdig, st⟩ := hrel
    have HD : Hid (digL j (sz d) xj ++ done = digL (cnt b d) (sz d) x) := hdig
    clear hdig hq st0
    obtain ⟨c0, c1⟩ := st.cells
    cases j with
    | zero =>
      obtain rfl : iv = -1 := by omega
      clear hiv
      have hdone : done = digL (cnt b d) (sz d) x := by simpa [digL] using HD.out
      subst hdone
      have hlen : (zv (rowZ (cnt b d) (List.replicate 0 0 ++ digL (cnt b d) (sz d) x))).size = 12 := by rw [zv_size]; simp [rowZ, digL_len]; omega
      have hone : (zv (rowZ (cnt b d) (List.replicate 0 0 ++ digL (cnt b d) (sz d) x))).all (·.oneCell') = true := zv_one _
      have hinf : (Try.prog.info? 116).map (·.size) = some (zv (rowZ (cnt b d) (List.replicate 0 0 ++ digL (cnt b d) (sz d) x))).size := by rw [hlen]; kernel_rfl
      have hold : (zv (List.replicate 12 0)).size = (zv (rowZ (cnt b d) (List.replicate 0 0 ++ digL (cnt b d) (sz d) x))).size := by rw [hlen, zv_size]; rfl
      have SR : Hid (wr.heap[w.heap.size + 1 + 1]? = some (.cells (zv (rowZ (cnt b d) (List.replicate 0 0 ++ digL (cnt b d) (sz d) x))) 116 (0, 0))) := st.row
      have SQ : Hid (wr.heap[w.heap.size + 1]? = some (.cells (zv (List.replicate 12 0)) 116 (0, 0))) := st.r
      have HI : Hid ((Try.prog.info? 116).map (·.size) = some (zv (rowZ (cnt b d) (List.replicate 0 0 ++ digL (cnt b d) (sz d) x))).size) := hinf
      have HB : Hid (Below w.heap.size w wr) := st.bel
      have HO : Hid ((zv (List.replicate 12 0)).size = (zv (rowZ (cnt b d) (List.replicate 0 0 ++ digL (cnt b d) (sz d) x))).size) := hold
      have HN : Hid ((zv (rowZ (cnt b d) (List.replicate 0 0 ++ digL (cnt b d) (sz d) x))).all (·.oneCell') = true) := hone
      clear hinf hlen hold hone st
      go_wp2_with (first | (refine wpList_load_row rfl 116 (.tmp 5) rfl (w.heap.size + 1 + 1) rfl _ _ _ _ SR.out Try.underlying116 rfl HI.out ?_) | (refine wpList_store_row rfl 116 (.tmp 4) (.tmp 24) rfl (w.heap.size + 1) _ rfl rfl _ _ SQ.out HI.out HO.out HN.out ?_))
      refine bodyPost_ret (v := .agg (zv (rowZ (cnt b d) (List.replicate 0 0 ++ digL (cnt b d) (sz d) x)))) (results_cell_row Try.results79 _ _ (w.heap.size + 1) _ _ _ _ rfl (setRow_heap _ _ _ _ _ _ SQ.out) Try.underlying116 rfl HI.out) rfl ⟨rfl, below_setRow HB.out (by omega) _⟩
    | succ m =>
      obtain rfl : iv = (m : Int) := by omega
      clear hiv
      go_wp2_with fail
      refine (base_any _ _ _ hd1 hd3).mono ?_
      rintro e w2 ⟨rfl, hw2⟩
      have st2 := st.keep hw2
      clear st hw2 c0 c1
      obtain ⟨c0, c1⟩ := st2.cells
      obtain ⟨r0, r1⟩ := st2.at
      go_wp2_with fail
      refine (base_any _ _ _ hd1 hd3).mono ?_
      rintro e w3 ⟨rfl, hw3⟩
      have st3 := (st2.put (xj % sz d)).keep hw3
      clear st2 hw3 c0 c1 r0 r1
      go_wp2
      go_roundw
      case rel =>
        obtain ⟨y1, y2⟩ := div_bd hx1 hx2 (by omega : 1 ≤ sz d)
        exact ⟨m, _, xj / sz d, xj % sz d :: done, by omega, rfl, by omega, rfl, y1, y2, digL_cons HD.out, st3⟩
      case measure => simp [intOf]
end Go.Proofs.Ytejajlloipkkhaa
