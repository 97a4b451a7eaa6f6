/- The first and the last digits of a number, each in a row of twelve. -/
import Derived.Test.YtbnjloepfmiidaaB0
import Derived.Deep.RegionLaw
namespace Go.Proofs.Ytbnjloepfmiidaa
open Go.RowKit
set_option linter.unusedVariables false

/-- m digits from place o on -/
def sub (o m : Nat) (l : List Int) : List Int := (l.drop o).take m
theorem sub_len {o m : Nat} {l : List Int} (h : o + m ≤ l.length) : (sub o m l).length = m := by simp [sub]; omega
theorem sub_src {n o m : Nat} {L : List Int} {w : World} {g : Nat} {A : TypeId} (hL : L.length = n) (ho : o + m ≤ n) (h : w.heap[g]? = some (.cells (zv (rowZ n L)) A (0, 0))) :
    ∀ j v, ((sub o m L).map (Value.int .i64))[j]? = some v → w.cell? ((⟨g, o, none⟩ : Addr).add j) = some v := by
  intro j v hv
  have e : (⟨g, o, none⟩ : Addr).add j = ⟨g, o + j, none⟩ := by unfold Addr.add; split <;> simp_all
  have hj : j < m := by
    have := (List.getElem?_eq_some_iff.1 hv).1
    rw [List.length_map, sub_len (by omega)] at this
    exact this
  rw [e, cell_of_row _ _ _ _ _ _ h, ← hv]
  simp only [zv, rowZ, List.map_append, List.getElem?_toArray]
  rw [List.getElem?_append_left (by simp; omega)]
  simp only [sub, List.map_take, List.map_drop]
  rw [List.getElem?_take_of_lt hj, List.getElem?_drop]
theorem splice_zero {o m : Nat} {l : List Int} (h : o + m ≤ l.length) : splice ((List.replicate 12 0).map (Value.int .i64)) 0 ((sub o m l).map (Value.int .i64)) = (rowZ m (sub o m l)).map (Value.int .i64) := by
  unfold splice rowZ
  rw [List.length_map, sub_len h, List.map_append, List.map_replicate, List.map_replicate, List.drop_replicate]
  simp
theorem rowZ_len {m : Nat} {l : List Int} (h : l.length = m) (hm : m ≤ 12) : (rowZ m l).length = 12 := by simp [rowZ]; omega

/-- what stands behind the copy -/
theorem cut_end {P : Program} {w2 w3 : World} {A : TypeId} {o m : Nat} {l : List Int} (h : o + m ≤ l.length) (h5 : w3.heap[w2.heap.size]? = some (.cells (splice ((List.replicate 12 0).map (Value.int .i64)) 0 ((sub o m l).map (Value.int .i64))).toArray A (0, 0))) :
    w3.heap[w2.heap.size]? = some (.cells (zv (rowZ m (sub o m l))) A (0, 0)) := by
  rw [splice_zero h] at h5; exact h5

set_option maxHeartbeats 1600000 in
theorem first_any (b d x : Int) (m : Nat) (w : World) (hb1 : 1 ≤ b) (hb2 : b ≤ 12) (hd1 : 1 ≤ d) (hd2 : d ≤ b) (x1 : 0 ≤ x) (x2 : x < sz b) (hm : m ≤ cnt b d) :
    Calls Try.prog 60 #[.agg #[.int .i64 b, .int .i64 d], .int .i64 x, .int .i64 (m : Int)] w fun e w' => e = .returned (.agg (zv (rowZ m (sub 0 m (digL (cnt b d) (sz d) x))))) ∧ Below w.heap.size w w' := by
  obtain ⟨hq, q1, q2⟩ := cnt_bd hb1 hb2 hd1 hd2
  have hln : (digL (cnt b d) (sz d) x).length = cnt b d := digL_len _ _ _
  have HLN : Hid ((digL (cnt b d) (sz d) x).length = cnt b d) := hln
  clear hln
  have HI : Hid ((Try.prog.info? 67).map (·.size) = some (zv (rowZ (cnt b d) (digL (cnt b d) (sz d) x))).size) := by
    show _ = _
    rw [row_size q2]; kernel_rfl
  have HO : Hid ((zv (List.replicate 12 0)).size = (zv (rowZ (cnt b d) (digL (cnt b d) (sz d) x))).size) := by
    show _ = _
    rw [row_size q2, zv_size]; rfl
  have HN : Hid ((zv (rowZ (cnt b d) (digL (cnt b d) (sz d) x))).all (·.oneCell') = true) := zv_one _
  have hrl : (rowZ m (sub 0 m (digL (cnt b d) (sz d) x))).length = 12 := rowZ_len (sub_len (by rw [HLN.out]; omega)) (by omega)
  have HI2 : Hid ((Try.prog.info? 67).map (·.size) = some (zv (rowZ m (sub 0 m (digL (cnt b d) (sz d) x)))).size) := by
    show _ = _
    rw [zv_size, hrl]; kernel_rfl
  have HO2 : Hid ((zv (List.replicate 12 0)).size = (zv (rowZ m (sub 0 m (digL (cnt b d) (sz d) x)))).size) := by
    show _ = _
    rw [zv_size, zv_size, hrl]; rfl
  have HN2 : Hid ((zv (rowZ m (sub 0 m (digL (cnt b d) (sz d) x)))).all (·.oneCell') = true) := zv_one _
  clear hrl
  have HMIN : Hid (((sub 0 m (digL (cnt b d) (sz d) x)).map (Value.int .i64)).length = Nat.min m 12) := by
    show _ = _
    rw [List.length_map, sub_len (by rw [HLN.out]; omega)]; exact (Nat.min_eq_left (by omega)).symm
  have HFIT : Hid (0 + ((sub 0 m (digL (cnt b d) (sz d) x)).map (Value.int .i64)).length ≤ ((List.replicate 12 0).map (Value.int .i64)).length) := by
    show _ ≤ _
    rw [List.length_map, sub_len (by rw [HLN.out]; omega), List.length_map, List.length_replicate]; omega
  go_enter Try.func60, Try.ntmps60
  go_wp2_with fail
  refine (row_any _ _ _ _ hb1 hb2 hd1 hd2 x1 x2).mono ?_
  rintro e w1 ⟨rfl, hw1⟩
  obtain ⟨k10, k11, z1⟩ := keep2 (bk := w.heap.size) (u := .int .i64 b) (v := .int .i64 d) hw1 (by simp; try omega) (by simp) (by simp)
  have R1 : Hid (w1.heap[w.heap.size + 1]? = some (.cells (zv (List.replicate 12 0)) 67 (0, 0))) := (hw1.block _ (by simp)).trans (heap_alloc2_new _ _ _)
  have zz1 : w.heap.size + 1 < w1.heap.size := by have := hw1.size; simp at this; omega
  go_wp2_with ((refine wpList_store_new rfl 67 (.tmp 7) (.tmp 11) rfl w1 _ _ rfl rfl _ HI.out HO.out HN.out ?_; intro w2 s21 hw2; obtain ⟨k20, k21, z2⟩ := keep2 hw2 z1 k10 k11; have R2 : Hid (w2.heap[w.heap.size + 1]? = some (.cells (zv (List.replicate 12 0)) 67 (0, 0))) := (hw2.block _ zz1).trans R1.out))
  have zz2 := hw2.size
  have S4 : Hid _ := s21.out
  have R4 : Hid _ := R2.out
  have SRC := sub_src (w := (w2.alloc (.cells (zv (List.replicate 12 0)) 67)).drew) (o := 0) (m := m) HLN.out (by omega) ((heap_alloc_old _ _ (Array.getElem?_eq_some_iff.1 S4.out).1).trans S4.out)
  have HSRC : Hid _ := SRC
  clear SRC
  have hcut := cut_h w1.heap.size m (by omega)
  go_region_law (refine step_copy_splice rfl (.tmp 12) (.tmp 14) 36 36 rfl 3 Try.underlying36 size_int _ _ _ _ _ _ rfl rfl w2.heap.size 0 ((List.replicate 12 0).map (Value.int .i64)) 67 (by exact heap_alloc_new _ _) ((sub 0 m (digL (cnt b d) (sz d) x)).map (Value.int .i64)) HMIN.out (fun _ => ⟨rfl, _, rfl, HSRC.out⟩) HFIT.out (ints_one _) w2.heap.size w2 ((Below.refl _ _).alloc (Nat.le_refl _) _).drew (Nat.le_refl _) ?_; intro w5 H5 hb5)
  have H6 : Hid _ := cut_end (P := Try.prog) (by rw [HLN.out]; omega) H5.out
  have R5 : Hid _ := (hb5.block _ (by omega)).trans R4.out
  go_wp2_with (first | (refine wpList_load_row rfl 67 (.tmp 8) rfl w2.heap.size rfl _ _ _ _ H6.out Try.underlying67 rfl HI2.out ?_) | (refine wpList_store_row rfl 67 (.tmp 6) (.tmp 16) rfl (w.heap.size + 1) _ rfl rfl _ _ R5.out HI2.out HO2.out HN2.out ?_))
  refine bodyPost_ret (v := .agg (zv (rowZ m (sub 0 m (digL (cnt b d) (sz d) x))))) (results_cell_row Try.results60 _ _ (w.heap.size + 1) _ _ _ _ rfl (setRow_heap _ _ _ _ _ _ R5.out) Try.underlying67 rfl HI2.out) rfl ⟨rfl, below_setRow (belt (belt (bel2 hw1 (by simp; try omega)) hw2) hb5) (by omega) _⟩

set_option maxHeartbeats 1600000 in
theorem last_any (b d x : Int) (m : Nat) (w : World) (hb1 : 1 ≤ b) (hb2 : b ≤ 12) (hd1 : 1 ≤ d) (hd2 : d ≤ b) (x1 : 0 ≤ x) (x2 : x < sz b) (hm : m ≤ cnt b d) (hm0 : 1 ≤ m) :
    Calls Try.prog 59 #[.agg #[.int .i64 b, .int .i64 d], .int .i64 x, .int .i64 (m : Int)] w fun e w' => e = .returned (.agg (zv (rowZ m (sub (cnt b d - m) m (digL (cnt b d) (sz d) x))))) ∧ Below w.heap.size w w' := by
  obtain ⟨hq, q1, q2⟩ := cnt_bd hb1 hb2 hd1 hd2
  have hln : (digL (cnt b d) (sz d) x).length = cnt b d := digL_len _ _ _
  have HLN : Hid ((digL (cnt b d) (sz d) x).length = cnt b d) := hln
  clear hln
  have HI : Hid ((Try.prog.info? 67).map (·.size) = some (zv (rowZ (cnt b d) (digL (cnt b d) (sz d) x))).size) := by
    show _ = _
    rw [row_size q2]; kernel_rfl
  have HO : Hid ((zv (List.replicate 12 0)).size = (zv (rowZ (cnt b d) (digL (cnt b d) (sz d) x))).size) := by
    show _ = _
    rw [row_size q2, zv_size]; rfl
  have HN : Hid ((zv (rowZ (cnt b d) (digL (cnt b d) (sz d) x))).all (·.oneCell') = true) := zv_one _
  have hrl : (rowZ m (sub (cnt b d - m) m (digL (cnt b d) (sz d) x))).length = 12 := rowZ_len (sub_len (by rw [HLN.out]; omega)) (by omega)
  have HI2 : Hid ((Try.prog.info? 67).map (·.size) = some (zv (rowZ m (sub (cnt b d - m) m (digL (cnt b d) (sz d) x)))).size) := by
    show _ = _
    rw [zv_size, hrl]; kernel_rfl
  have HO2 : Hid ((zv (List.replicate 12 0)).size = (zv (rowZ m (sub (cnt b d - m) m (digL (cnt b d) (sz d) x)))).size) := by
    show _ = _
    rw [zv_size, zv_size, hrl]; rfl
  have HN2 : Hid ((zv (rowZ m (sub (cnt b d - m) m (digL (cnt b d) (sz d) x)))).all (·.oneCell') = true) := zv_one _
  clear hrl
  have HMIN : Hid (((sub (cnt b d - m) m (digL (cnt b d) (sz d) x)).map (Value.int .i64)).length = Nat.min m 12) := by
    show _ = _
    rw [List.length_map, sub_len (by rw [HLN.out]; omega)]; exact (Nat.min_eq_left (by omega)).symm
  have HFIT : Hid (0 + ((sub (cnt b d - m) m (digL (cnt b d) (sz d) x)).map (Value.int .i64)).length ≤ ((List.replicate 12 0).map (Value.int .i64)).length) := by
    show _ ≤ _
    rw [List.length_map, sub_len (by rw [HLN.out]; omega), List.length_map, List.length_replicate]; omega
  go_enter Try.func59, Try.ntmps59
  go_wp2_with fail
  refine (row_any _ _ _ _ hb1 hb2 hd1 hd2 x1 x2).mono ?_
  rintro e w1 ⟨rfl, hw1⟩
  obtain ⟨k10, k11, z1⟩ := keep2 (bk := w.heap.size) (u := .int .i64 b) (v := .int .i64 d) hw1 (by simp; try omega) (by simp) (by simp)
  have R1 : Hid (w1.heap[w.heap.size + 1]? = some (.cells (zv (List.replicate 12 0)) 67 (0, 0))) := (hw1.block _ (by simp)).trans (heap_alloc2_new _ _ _)
  have zz1 : w.heap.size + 1 < w1.heap.size := by have := hw1.size; simp at this; omega
  go_wp2_with (first | (refine wpList_store_new rfl 67 (.tmp 7) (.tmp 12) rfl w1 _ _ rfl rfl _ HI.out HO.out HN.out ?_; intro w2 s21 hw2; obtain ⟨k20, k21, z2⟩ := keep2 hw2 z1 k10 k11; have R2 : Hid (w2.heap[w.heap.size + 1]? = some (.cells (zv (List.replicate 12 0)) 67 (0, 0))) := (hw2.block _ zz1).trans R1.out) | (go_at_call 57; refine (count_any _ _ _ hb1 hb2 hd1 hd2).mono ?_; rintro e w4 ⟨rfl, hw4⟩))
  have z24 := hw4.size
  have S4 : Hid _ := (hw4.block _ (by have := hw2.size; have := (Array.getElem?_eq_some_iff.1 s21.out).1; omega)).trans s21.out
  have zz2 := hw2.size
  have R4 : Hid _ := (hw4.block _ (by omega)).trans R2.out
  have SRC := sub_src (w := (w4.alloc (.cells (zv (List.replicate 12 0)) 67)).drew) (o := (cnt b d - m)) (m := m) HLN.out (by omega) ((heap_alloc_old _ _ (Array.getElem?_eq_some_iff.1 S4.out).1).trans S4.out)
  have HSRC : Hid _ := SRC
  clear SRC
  have hcut := cut_lhw w1.heap.size (cnt b d) m hm0 hm q2
  go_region_law (refine step_copy_splice rfl (.tmp 15) (.tmp 20) 36 36 rfl 3 Try.underlying36 size_int _ _ _ _ _ _ rfl rfl w4.heap.size 0 ((List.replicate 12 0).map (Value.int .i64)) 67 (by exact heap_alloc_new _ _) ((sub (cnt b d - m) m (digL (cnt b d) (sz d) x)).map (Value.int .i64)) HMIN.out (fun _ => ⟨rfl, _, rfl, HSRC.out⟩) HFIT.out (ints_one _) w4.heap.size w4 ((Below.refl _ _).alloc (Nat.le_refl _) _).drew (Nat.le_refl _) ?_; intro w5 H5 hb5)
  have H6 : Hid _ := cut_end (P := Try.prog) (by rw [HLN.out]; omega) H5.out
  have R5 : Hid _ := (hb5.block _ (by omega)).trans R4.out
  go_wp2_with (first | (refine wpList_load_row rfl 67 (.tmp 9) rfl w4.heap.size rfl _ _ _ _ H6.out Try.underlying67 rfl HI2.out ?_) | (refine wpList_store_row rfl 67 (.tmp 6) (.tmp 22) rfl (w.heap.size + 1) _ rfl rfl _ _ R5.out HI2.out HO2.out HN2.out ?_))
  refine bodyPost_ret (v := .agg (zv (rowZ m (sub (cnt b d - m) m (digL (cnt b d) (sz d) x))))) (results_cell_row Try.results59 _ _ (w.heap.size + 1) _ _ _ _ rfl (setRow_heap _ _ _ _ _ _ R5.out) Try.underlying67 rfl HI2.out) rfl ⟨rfl, below_setRow (belt (belt (belt (bel2 hw1 (by simp; try omega)) hw2) hw4) hb5) (by omega) _⟩
end Go.Proofs.Ytbnjloepfmiidaa
