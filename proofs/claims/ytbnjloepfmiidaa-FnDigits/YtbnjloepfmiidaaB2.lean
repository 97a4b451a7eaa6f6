/- OverlapOf of the program: the greatest number of digits that overlap. -/
import Derived.Test.YtbnjloepfmiidaaB1
namespace Go.Proofs.Ytbnjloepfmiidaa
open Go.RowKit
set_option linter.unusedVariables false

/-- do the last m of one and the first m of the other agree? -/
def meet (n : Nat) (X K : List Int) (m : Nat) : Bool := sameB (sub (n - m) m X) (sub 0 m K)
def ovl (n : Nat) (X K : List Int) : Nat → Nat
  | 0 => 0
  | m + 1 => if meet n X K (m + 1) = true then m + 1 else ovl n X K m
theorem ovl_yes {n : Nat} {X K : List Int} {m : Nat} (h : meet n X K (m + 1) = true) : ovl n X K (m + 1) = m + 1 := by rw [ovl, if_pos h]
theorem ovl_no {n : Nat} {X K : List Int} {m : Nat} (h : meet n X K (m + 1) = false) : ovl n X K (m + 1) = ovl n X K m := by rw [ovl, if_neg (by rw [h]; decide)]
theorem ovl_yes' {n : Nat} {X K : List Int} {m : Nat} (h1 : 1 ≤ m) (h : meet n X K m = true) : ovl n X K m = m := by
  cases m with
  | zero => omega
  | succ m => exact ovl_yes h
theorem ovl_no' {n : Nat} {X K : List Int} {m : Nat} (h1 : 1 ≤ m) (h : meet n X K m = false) : ovl n X K m = ovl n X K (m - 1) := by
  cases m with
  | zero => omega
  | succ m => exact ovl_no h
theorem ovl_le (n : Nat) (X K : List Int) (m : Nat) : ovl n X K m ≤ m := by
  induction m with
  | zero => exact Nat.le_refl _
  | succ m ih => rw [ovl]; split <;> omega
theorem rowZ_same {m : Nat} {a b : List Int} : sameB (rowZ m a) (rowZ m b) = sameB a b := by
  unfold sameB rowZ
  simp
def oVal (b d x k : Int) : Int := if dOk b d x k = true then (ovl (cnt b d) (digL (cnt b d) (sz d) x) (digL (cnt b d) (sz d) k) (cnt b d) : Int) else 0

set_option maxHeartbeats 1600000 in
theorem OverlapOf_any (b d x k : Int) (w : World) :
    Calls Try.prog 27 #[.agg #[.int .i64 b, .int .i64 d], .int .i64 x, .int .i64 k] w fun e w' => e = .returned (.tuple #[.int .i64 (oVal b d x k), .bool (dOk b d x k)]) ∧ Below w.heap.size w w' := by
  unfold oVal dOk
  cases hx : numB b d x
  ·
    go_enter Try.func27, Try.ntmps27
    go_wp2_with fail
    refine (isNumber_any _ _ _ _).mono ?_
    rintro e w1 ⟨rfl, hw1⟩
    obtain ⟨k10, k11, z1⟩ := keep2 (bk := w.heap.size) (u := .int .i64 b) (v := .int .i64 d) hw1 (by simp; try omega) (by simp) (by simp)
    go_wp2
    go_ret2
    exact ⟨rfl, bel1 hw1 (by simp; try omega)⟩
  · cases hy : numB b d k
    ·
      go_enter Try.func27, Try.ntmps27
      go_wp2_with fail
      refine (isNumber_any _ _ _ _).mono ?_
      rintro e w1 ⟨rfl, hw1⟩
      obtain ⟨k10, k11, z1⟩ := keep2 (bk := w.heap.size) (u := .int .i64 b) (v := .int .i64 d) hw1 (by simp; try omega) (by simp) (by simp)
      go_wp2_with fail
      refine (isNumber_any _ _ _ _).mono ?_
      rintro e w2 ⟨rfl, hw2⟩
      obtain ⟨k20, k21, z2⟩ := keep2 hw2 z1 k10 k11
      go_wp2
      go_ret2
      exact ⟨rfl, belt (bel1 hw1 (by simp; try omega)) hw2⟩
    ·
      obtain ⟨hg, x1, x2⟩ := numB_true hx
      obtain ⟨_, y1, y2⟩ := numB_true hy
      obtain ⟨hb1, hb2, hd1, hd2, h5⟩ := gsB_true hg
      clear h5
      rw [if_pos (show (true && true) = true from rfl)]
      obtain ⟨hq, q1, q2⟩ := cnt_bd hb1 hb2 hd1 hd2
      have hgd : Try.prog.eqGuardType Try.prog.depth 67 = false := by kernel_rfl
      go_enter Try.func27, Try.ntmps27
      go_wp2_with fail
      refine (isNumber_any _ _ _ _).mono ?_
      rintro e w1 ⟨rfl, hw1⟩
      obtain ⟨k10, k11, z1⟩ := keep2 (bk := w.heap.size) (u := .int .i64 b) (v := .int .i64 d) hw1 (by simp; try omega) (by simp) (by simp)
      go_wp2_with fail
      refine (isNumber_any _ _ _ _).mono ?_
      rintro e w2 ⟨rfl, hw2⟩
      obtain ⟨k20, k21, z2⟩ := keep2 hw2 z1 k10 k11
      go_wp2_with fail
      refine (count_any _ _ _ hb1 hb2 hd1 hd2).mono ?_
      rintro e w3 ⟨rfl, hw3⟩
      obtain ⟨k30, k31, z3⟩ := keep2 hw3 z2 k20 k21
      have st0 : BoxAt w w3 b d := ((boxAt1 hw1 (by simp)).keep hw2).keep hw3
      clear hw1 hw2 hw3 k10 k11 k20 k21 k30 k31
      go_wp2_with fail
      go_loopw [8] (fun vn wr => ∃ m : Nat, m ≤ cnt b d ∧ vn = .int .i64 m ∧ ovl (cnt b d) (digL (cnt b d) (sz d) x) (digL (cnt b d) (sz d) k) (cnt b d) = ovl (cnt b d) (digL (cnt b d) (sz d) x) (digL (cnt b d) (sz d) k) m ∧ BoxAt w wr b d) (fun vn _ => (intOf vn).toNat)
      case atStart => exact ⟨cnt b d, Nat.le_refl _, rfl, rfl, st0⟩
      case round =>
        obtain ⟨m, hm, rfl, hov, st⟩ := hrel
        have HO : Hid _ := hov
        clear hov st0 hq
        by_cases hz : m = 0
        · subst hz
          have hj : 0 ≤ cnt b d := by omega
          go_wp2_with fail
          have c0 : ∀ p : Kin wr.heap.size wr, p.v.cell? ⟨w.heap.size, 0, none⟩ = some (.int .i64 b) := kin_cell st.lt st.c0
          have c1 : ∀ p : Kin wr.heap.size wr, p.v.cell? ⟨w.heap.size, 1, none⟩ = some (.int .i64 d) := kin_cell st.lt st.c1
          refine region_kin wr.heap.size (by kernel_rfl) (by kernel_rfl) (fun hne => ?_)
          repeat (go_big_quiet_step (first | (go_at_call 59; exact kin_of (Nat.le_refl _) (last_any b d x 0 _ hb1 hb2 hd1 hd2 x1 x2 hj hj)) | (go_at_call 60; exact kin_of (Nat.le_refl _) (first_any b d k 0 _ hb1 hb2 hd1 hd2 y1 y2 hj))))
          refine wpQuiet_nil ?_
          intro _ hw'
          obtain ⟨⟨w7, hw7⟩, hw''⟩ := hw'
          obtain rfl : _ = w7 := hw''
          clear c0 c1 hne
          have st7 := st.keep hw7
          clear st hw7
          go_wp2
          go_ret2
          have e := HO.out
          exact ⟨ret_2 (by rw [e]; rfl) rfl, st7.bel⟩
        · have hj0 : 1 ≤ m := by omega
          have hj1 : 0 < m := by omega
          have hj : m ≤ cnt b d := hm
          clear hz
          have hneq := neq_rows (rowZ m (sub (cnt b d - m) m (digL (cnt b d) (sz d) x))) (rowZ m (sub 0 m (digL (cnt b d) (sz d) k))) (rowZ_len (sub_len (by rw [digL_len]; omega)) (by omega)) (rowZ_len (sub_len (by rw [digL_len]; omega)) (by omega))
          rw [rowZ_same] at hneq
          cases he : sameB (sub (cnt b d - m) m (digL (cnt b d) (sz d) x)) (sub 0 m (digL (cnt b d) (sz d) k))
          · have hn := ovl_no' hj0 he
            have HN : Hid _ := hn
            clear hn
            rw [he] at hneq
            clear he
            go_wp2_with fail
            have c0 : ∀ p : Kin wr.heap.size wr, p.v.cell? ⟨w.heap.size, 0, none⟩ = some (.int .i64 b) := kin_cell st.lt st.c0
            have c1 : ∀ p : Kin wr.heap.size wr, p.v.cell? ⟨w.heap.size, 1, none⟩ = some (.int .i64 d) := kin_cell st.lt st.c1
            refine region_kin wr.heap.size (by kernel_rfl) (by kernel_rfl) (fun hne => ?_)
            repeat (go_big_quiet_step (first | (go_at_call 59; exact kin_of (Nat.le_refl _) (last_any b d x m _ hb1 hb2 hd1 hd2 x1 x2 hj hj0)) | (go_at_call 60; exact kin_of (Nat.le_refl _) (first_any b d k m _ hb1 hb2 hd1 hd2 y1 y2 hj))))
            refine wpQuiet_nil ?_
            intro _ hw'
            obtain ⟨⟨w7, hw7⟩, hw''⟩ := hw'
            obtain rfl : _ = w7 := hw''
            clear c0 c1 hne
            have st7 := st.keep hw7
            clear st hw7
            go_wp2
            go_roundw
            case rel => exact ⟨m - 1, by omega, by first | go_num | (congr 1; omega), by rw [HO.out, HN.out], st7⟩
            case measure => simp [intOf]; omega
          · have hn := ovl_yes' hj0 he
            have HN : Hid _ := hn
            clear hn
            rw [he] at hneq
            clear he
            go_wp2_with fail
            have c0 : ∀ p : Kin wr.heap.size wr, p.v.cell? ⟨w.heap.size, 0, none⟩ = some (.int .i64 b) := kin_cell st.lt st.c0
            have c1 : ∀ p : Kin wr.heap.size wr, p.v.cell? ⟨w.heap.size, 1, none⟩ = some (.int .i64 d) := kin_cell st.lt st.c1
            refine region_kin wr.heap.size (by kernel_rfl) (by kernel_rfl) (fun hne => ?_)
            repeat (go_big_quiet_step (first | (go_at_call 59; exact kin_of (Nat.le_refl _) (last_any b d x m _ hb1 hb2 hd1 hd2 x1 x2 hj hj0)) | (go_at_call 60; exact kin_of (Nat.le_refl _) (first_any b d k m _ hb1 hb2 hd1 hd2 y1 y2 hj))))
            refine wpQuiet_nil ?_
            intro _ hw'
            obtain ⟨⟨w7, hw7⟩, hw''⟩ := hw'
            obtain rfl : _ = w7 := hw''
            clear c0 c1 hne
            have st7 := st.keep hw7
            clear st hw7
            go_wp2
            go_ret2
            have e := HO.out.trans HN.out
            exact ⟨ret_2 (by rw [e]; rfl) rfl, st7.bel⟩
end Go.Proofs.Ytbnjloepfmiidaa
