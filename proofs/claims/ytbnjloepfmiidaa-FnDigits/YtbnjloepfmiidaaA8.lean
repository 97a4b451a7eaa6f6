/- DigitsOf on both sides: the digits, the highest first, in new memory. -/
import Derived.Test.YtbnjloepfmiidaaA6
import Derived.Test.YtbnjloepfmiidaaA7
namespace Go.Proofs.Ytbnjloepfmiidaa
open Go.RowKit
set_option linter.unusedVariables false

/-- digits that are made from behind -/
def drow (n j : Nat) (done : List Int) : List Int := List.replicate j 0 ++ done
theorem drow_set {n j : Nat} {done : List Int} (v : Int) : (drow n (j + 1) done).set j v = drow n j (v :: done) := by
  unfold drow
  rw [List.replicate_succ', List.append_assoc, List.set_append_right _ _ (by simp)]
  simp

theorem BoxAt.put {w wr : World} {b d : Int} (h : BoxAt w wr b d) {g : Nat} (hg : w.heap.size < g) (i : Nat) (v : Value) : BoxAt w (wr.setCell ⟨g, i, none⟩ v) b d := by
  have hb : (wr.setCell ⟨g, i, none⟩ v).heap[w.heap.size]? = wr.heap[w.heap.size]? := heap_setCell_other _ _ _ _ (by simp; omega)
  exact ⟨h.bel.setCell (by simp; omega) _, (World.cell?_of_block (w := wr) hb).trans h.c0, (World.cell?_of_block (w := wr) hb).trans h.c1, by simpa [World.setCell] using h.lt⟩

set_option maxHeartbeats 1600000 in
theorem ldigits_any (b d x : Int) (w : World) (hb1 : 1 ≤ b) (hb2 : b ≤ 12) (hd1 : 1 ≤ d) (hd2 : d ≤ b) (h1 : 0 ≤ x) (h2 : x < sz b) :
    Calls Try.prog 58 #[.agg #[.int .i64 b, .int .i64 d], .int .i64 x] w fun e w' => e = .returned (.slice (some ⟨w.heap.size + 1, 0, none⟩) (cnt b d) (cnt b d)) ∧ OwnZ w w' (w.heap.size + 1) (digL (cnt b d) (sz d) x) := by
  obtain ⟨hq, q1, q2⟩ := cnt_bd hb1 hb2 hd1 hd2
  have hd3 : d ≤ 12 := by omega
  obtain ⟨hs1, hs2⟩ := sz_bd hb1 hb2
  obtain ⟨hs3, hs4⟩ := sz_bd hd1 hd3
  have hmk := make_ints (cnt b d) (by omega)
  go_enter Try.func58, Try.ntmps58
  go_wp2_with fail
  have bx : BoxAt w ((w.alloc (.cells #[.int .i64 b, .int .i64 d] 25)).alloc (.cells (zv (List.replicate (cnt b d) 0)) 3)) b d :=
    boxAt1 ((Below.refl _ _).alloc (Nat.le_refl _) _) (by simp)
  have st0 : OwnZ w ((w.alloc (.cells #[.int .i64 b, .int .i64 d] 25)).alloc (.cells (zv (List.replicate (cnt b d) 0)) 3)) (w.heap.size + 1) (drow (cnt b d) (cnt b d) []) :=
    ⟨bx.bel, by omega, by unfold drow; rw [List.append_nil]; exact heap_alloc2_new _ _ _⟩
  clear hmk
  go_loopw [1, 7] (fun vx vi wr => ∃ (j : Nat) (iv xj : Int) (done : List Int), j ≤ 12 ∧ vi = .int .i64 iv ∧ iv = (j : Int) - 1 ∧ vx = .int .i64 xj ∧ 0 ≤ xj ∧ xj < sz b ∧ j + done.length = cnt b d ∧ digL j (sz d) xj ++ done = digL (cnt b d) (sz d) x ∧ BoxAt w wr b d ∧ OwnZ w wr (w.heap.size + 1) (drow (cnt b d) j done)) (fun _ vi _ => (intOf vi + 1).toNat)
  case atStart => exact ⟨cnt b d, _, x, [], q2, rfl, by omega, rfl, h1, h2, by simp, by simp, bx, st0⟩
  case round =>
    obtain ⟨j, iv, xj, done, hj, rfl, hiv, rfl, hx1, hx2, hjl, hdig, bt, st⟩ := hrel
    have HD : Hid (digL j (sz d) xj ++ done = digL (cnt b d) (sz d) x) := hdig
    have HJ : Hid (j + done.length = cnt b d) := hjl
    have HC : Hid (b / d = (cnt b d : Int)) := hq
    clear hdig hjl hq st0 bx
    cases j with
    | zero =>
      obtain rfl : iv = -1 := by omega
      clear hiv
      have hdone : done = digL (cnt b d) (sz d) x := by simpa [digL] using HD.out
      subst hdone
      have st' : OwnZ w wr (w.heap.size + 1) (digL (cnt b d) (sz d) x) := by simpa [drow] using st
      go_wp2
      go_ret
      exact ⟨rfl, st'⟩
    | succ m =>
      obtain rfl : iv = (m : Int) := by omega
      clear hiv
      have k10 := bt.c0
      have k11 := bt.c1
      go_wp2_with fail
      refine (lbase_any _ _ _ hd1 hd3).mono ?_
      rintro e w2 ⟨rfl, hw2⟩
      have bt2 := bt.keep hw2
      have st2 := st.keep hw2
      clear st bt hw2 k10 k11
      have k20 := bt2.c0
      have k21 := bt2.c1
      have hml : m < cnt b d := by have := HJ.out; omega
      obtain ⟨r0, r1⟩ := st2.at m (by have := HJ.out; simp [drow]; omega)
      have st3 := st2.put m (xj % sz d)
      rw [drow_set] at st3
      have bt3 : BoxAt w (w2.setCell ⟨w.heap.size + 1, m, none⟩ (.int .i64 (xj % sz d))) b d := bt2.put (by omega) _ _
      generalize (drow (cnt b d) (m + 1) done).getD m 0 = y at r0
      clear st2
      go_wp2_with fail
      refine (lbase_any _ _ _ hd1 hd3).mono ?_
      rintro e w3 ⟨rfl, hw3⟩
      have st4 := st3.keep hw3
      have bt4 := bt3.keep hw3
      clear st3 bt3 bt2 hw3 k20 k21 r0 r1
      go_wp2
      go_roundw
      case rel =>
        obtain ⟨y1, y2⟩ := div_bd hx1 hx2 (by omega : 1 ≤ sz d)
        exact ⟨m, _, xj / sz d, xj % sz d :: done, by omega, rfl, by omega, rfl, y1, y2, by have := HJ.out; simp; omega, digL_cons HD.out, bt4, st4⟩
      case measure => simp [intOf]

def gOk (b d x : Int) : Bool := numB b d x
/-- a list of digits that is answered: nil where there is none, else in a block of its own -/
def DigV (b d x : Int) (w w' : World) (v : Value) : Prop :=
  (numB b d x = false ∧ v = .slice none 0 0) ∨ (numB b d x = true ∧ ∃ g, v = .slice (some ⟨g, 0, none⟩) (cnt b d) (cnt b d) ∧ OwnZ w w' g (digL (cnt b d) (sz d) x))

set_option maxHeartbeats 800000 in
theorem lDigitsOf_any (b d x : Int) (w : World) :
    Calls Try.prog 26 #[.agg #[.int .i64 b, .int .i64 d], .int .i64 x] w fun e w' => ∃ v, e = .returned (.tuple #[v, .bool (numB b d x)]) ∧ Below w.heap.size w w' ∧ DigV b d x w w' v := by
  have hn := numsB_1 b d x
  cases hx : numB b d x
  ·
    rw [hx] at hn
    go_enter Try.func26, Try.ntmps26
    go_wp2_with fail
    refine (lnums_any b d _ _ _ [x] _ (by simp [maxLen]) ?hl ?hc).mono ?_
    case hl => simp
    case hc =>
      intro i hi
      match i, hi with
      | 0, _ => simp
    rintro e w1 ⟨rfl, hw1⟩
    obtain ⟨k10, k11, z1⟩ := keep2 (bk := w.heap.size) (u := .int .i64 b) (v := .int .i64 d) hw1 (by simp; try omega) (by simp) (by simp)
    go_wp2
    go_ret2
    exact ⟨_, rfl, bel2 hw1 (by simp; try omega), .inl ⟨hx, rfl⟩⟩
  ·
    rw [hx] at hn
    obtain ⟨hg, x1, x2⟩ := numB_true hx
    obtain ⟨hb1, hb2, hd1, hd2, h5⟩ := gsB_true hg
    clear h5
    go_enter Try.func26, Try.ntmps26
    go_wp2_with fail
    refine (lnums_any b d _ _ _ [x] _ (by simp [maxLen]) ?hl ?hc).mono ?_
    case hl => simp
    case hc =>
      intro i hi
      match i, hi with
      | 0, _ => simp
    rintro e w1 ⟨rfl, hw1⟩
    obtain ⟨k10, k11, z1⟩ := keep2 (bk := w.heap.size) (u := .int .i64 b) (v := .int .i64 d) hw1 (by simp; try omega) (by simp) (by simp)
    go_wp2_with fail
    refine (ldigits_any _ _ _ _ hb1 hb2 hd1 hd2 x1 x2).mono ?_
    rintro e w2 ⟨rfl, ow2⟩
    have g1 := bel2 hw1 (by simp; try omega)
    have ow3 : OwnZ w w2 (w1.heap.size + 1) (digL (cnt b d) (sz d) x) := ⟨belt g1 ow2.bel, by have := g1.size; omega, ow2.row⟩
    go_wp2
    go_ret2
    exact ⟨_, rfl, ow3.bel, .inr ⟨hx, _, rfl, ow3⟩⟩
end Go.Proofs.Ytbnjloepfmiidaa
