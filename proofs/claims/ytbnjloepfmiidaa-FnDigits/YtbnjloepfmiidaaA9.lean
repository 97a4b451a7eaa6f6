/- DigitsOf of the program: the row of digits, copied into new memory. -/
import Derived.Test.YtbnjloepfmiidaaA8
namespace Go.Proofs.Ytbnjloepfmiidaa
open Go.RowKit
set_option linter.unusedVariables false

theorem size_int : (Try.prog.info? 3).map (·.size) = some 1 := by kernel_rfl
theorem ints_one (l : List Int) : ∀ v ∈ l.map (Value.int .i64), v.oneCell' = true := by
  intro v hv
  simp at hv
  obtain ⟨a, _, rfl⟩ := hv
  rfl
theorem len_min {n : Nat} {B x : Int} (h : n ≤ 12) : ((digL n B x).map (Value.int .i64)).length = Nat.min 12 n := by rw [List.length_map, digL_len]; exact (Nat.min_eq_right h).symm
theorem belA {w w4 : World} {o : Obj} (h : Below w.heap.size w w4) : Below w.heap.size w (w4.alloc o) := h.alloc h.size o
theorem splice_all {l m : List Int} (h : l.length = m.length) : splice (l.map (Value.int .i64)) 0 (m.map (Value.int .i64)) = m.map (Value.int .i64) := by
  simp [splice, h]
/-- the first digits of a row, read from where it lies, behind a call and a new block -/
theorem row_src {n : Nat} {B x : Int} {w3 w4 : World} {g : Nat} {A : TypeId} {o : Obj} (hn : n ≤ 12) (h : w3.heap[g]? = some (.cells (zv (rowZ n (digL n B x))) A (0, 0))) (hb : Below w3.heap.size w3 w4) :
    ∀ j v, ((digL n B x).map (Value.int .i64))[j]? = some v → (w4.alloc o).cell? ((⟨g, 0, none⟩ : Addr).add j) = some v := by
  intro j v hv
  have hg : g < w3.heap.size := (Array.getElem?_eq_some_iff.1 h).1
  have hg4 : g < w4.heap.size := Nat.lt_of_lt_of_le hg hb.size
  have e : (⟨g, 0, none⟩ : Addr).add j = ⟨g, j, none⟩ := by unfold Addr.add; split <;> simp_all
  rw [e, World.cell?_alloc_past o g j hg4, hb.cell (p := ⟨g, j, none⟩) hg, cell_of_row _ _ _ _ _ _ h, ← hv]
  have hj : j < n := by
    have := (List.getElem?_eq_some_iff.1 hv).1
    simpa [digL_len] using this
  simp only [zv, rowZ, List.map_append, List.getElem?_toArray]
  rw [List.getElem?_append_left (by simp [digL_len]; omega)]

theorem row_size {n : Nat} {B x : Int} (h : n ≤ 12) : (zv (rowZ n (digL n B x))).size = 12 := by rw [zv_size]; simp [rowZ, digL_len]; omega
theorem row_len {n : Nat} {B x : Int} (h : n ≤ 12) : (rowZ n (digL n B x)).length = 12 := by simp [rowZ, digL_len]; omega

/-- a row that is stored into the block that was made last: what stands behind it is said of any such world -/
theorem wpList_store_new {P : Program} {ops : Array Oper} {rest : List Oper} {o : Oper} {a : Act} {Q : Exit → Act → World → Prop} (hgd : o.guard = none) (ty : TypeId) (x y : Operand) (ho : o.op = .store ty x y)
    (w0 : World) (z r : Array Value) (hx : a.eval x = .pointer (some ⟨w0.heap.size, 0, none⟩)) (hy : a.eval y = .agg r) (A : TypeId) (hi : (P.info? ty).map (·.size) = some r.size)
    (hold : z.size = r.size) (h1 : r.all (·.oneCell') = true)
    (h : ∀ w', Hid (w'.heap[w0.heap.size]? = some (.cells r A (0, 0))) → Below w0.heap.size w0 w' → wpList P ops Q rest (a.put o.dst undef) w') : wpList P ops Q (o :: rest) a (w0.alloc (.cells z A)) := by
  refine wpList_store_row hgd ty x y ho w0.heap.size r hx hy A z (heap_alloc_new _ _) hi hold h1 ?_
  exact h _ (setRow_heap _ _ _ _ _ _ (heap_alloc_new _ _)) (below_setRow ((Below.refl _ _).alloc (Nat.le_refl _) _) (Nat.le_refl _) _)

set_option maxHeartbeats 1600000 in
theorem DigitsOf_any (b d x : Int) (w : World) :
    Calls Try.prog 25 #[.agg #[.int .i64 b, .int .i64 d], .int .i64 x] w fun e w' => ∃ v, e = .returned (.tuple #[v, .bool (numB b d x)]) ∧ Below w.heap.size w w' ∧ DigV b d x w w' v := by
  cases hx : numB b d x
  ·
    go_enter Try.func25, Try.ntmps25
    go_wp2_with fail
    refine (isNumber_any _ _ _ _).mono ?_
    rintro e w1 ⟨rfl, hw1⟩
    obtain ⟨k10, k11, z1⟩ := keep2 (bk := w.heap.size) (u := .int .i64 b) (v := .int .i64 d) hw1 (by simp; try omega) (by simp) (by simp)
    go_wp2
    go_ret2
    exact ⟨_, rfl, bel1 hw1 (by simp; try omega), .inl ⟨hx, rfl⟩⟩
  ·
    obtain ⟨hg, x1, x2⟩ := numB_true hx
    obtain ⟨hb1, hb2, hd1, hd2, h5⟩ := gsB_true hg
    clear h5
    obtain ⟨hq, q1, q2⟩ := cnt_bd hb1 hb2 hd1 hd2
    have hmk := make_ints (cnt b d) (by omega)
    have HI : Hid ((Try.prog.info? 67).map (·.size) = some (zv (rowZ (cnt b d) (digL (cnt b d) (sz d) x))).size) := by
      show _ = _
      rw [row_size q2]; kernel_rfl
    have HO : Hid ((zv (List.replicate 12 0)).size = (zv (rowZ (cnt b d) (digL (cnt b d) (sz d) x))).size) := by
      show _ = _
      rw [row_size q2, zv_size]; rfl
    have HN : Hid ((zv (rowZ (cnt b d) (digL (cnt b d) (sz d) x))).all (·.oneCell') = true) := zv_one _
    go_enter Try.func25, Try.ntmps25
    go_wp2_with fail
    refine (isNumber_any _ _ _ _).mono ?_
    rintro e w1 ⟨rfl, hw1⟩
    obtain ⟨k10, k11, z1⟩ := keep2 (bk := w.heap.size) (u := .int .i64 b) (v := .int .i64 d) hw1 (by simp; try omega) (by simp) (by simp)
    go_wp2_with fail
    refine (row_any _ _ _ _ hb1 hb2 hd1 hd2 x1 x2).mono ?_
    rintro e w2 ⟨rfl, hw2⟩
    obtain ⟨k20, k21, z2⟩ := keep2 hw2 z1 k10 k11
    go_wp2_with (first | (refine wpList_store_new rfl 67 (.tmp 6) (.tmp 14) rfl w2 _ _ rfl rfl _ HI.out HO.out HN.out ?_; intro w3 s31 hw3; obtain ⟨k30, k31, z3⟩ := keep2 hw3 z2 k20 k21) | (go_at_call 57; refine (count_any _ _ _ hb1 hb2 hd1 hd2).mono ?_; rintro e w4 ⟨rfl, hw4⟩; obtain ⟨k40, k41, z4⟩ := keep2 hw4 z3 k30 k31) | (refine wpList_copy_splice rfl (.tmp 18) (.tmp 19) 36 36 rfl 3 Try.underlying36 size_int _ _ _ _ _ _ rfl rfl w4.heap.size 0 ((List.replicate (cnt b d) 0).map (Value.int .i64)) 3 (heap_alloc_new _ _) ((digL (cnt b d) (sz d) x).map (Value.int .i64)) (len_min q2) (fun _ => ⟨rfl, _, rfl, row_src q2 s31.out hw4⟩) (by simp [digL_len]) (ints_one _) w.heap.size w (belA (belt (belt (belt (bel1 hw1 (by simp; try omega)) hw2) hw3) hw4)) (by have := (belt (belt (belt (bel1 hw1 (by simp; try omega)) hw2) hw3) hw4).size; omega) ?_; intro w5 H5 hb5))
    go_ret2
    exact ⟨_, rfl, hb5, .inr ⟨hx, _, rfl, ⟨hb5, by have := (belt (belt (belt (bel1 hw1 (by simp; try omega)) hw2) hw3) hw4).size; omega, by have := H5.out; rwa [splice_all (by simp [digL_len])] at this⟩⟩⟩
end Go.Proofs.Ytbnjloepfmiidaa
