/- OverlapOf of the specification. -/
import Derived.Test.YtbnjloepfmiidaaB2
import Derived.Deep.RegionHeld
namespace Go.Proofs.Ytbnjloepfmiidaa
open Go.RowKit
set_option linter.unusedVariables false

set_option maxHeartbeats 800000 in
theorem lsame_any (a a' : Option Addr) (n n' cap cap' : Nat) (xs ys : List Int) (w : World) (hm : xs.length ≤ maxLen) (e1 : xs.length = n) (e2 : ys.length = n') (hx : RowAt w a xs) (hy : RowAt w a' ys) :
    Calls Try.prog 72 #[.slice a n cap, .slice a' n' cap'] w fun e w' => e = .returned (.bool (sameB xs ys)) ∧ Below w.heap.size w w' := by
  subst e1 e2
  unfold maxLen at hm
  have HX : Hid (RowAt w a xs) := hx
  have HY : Hid (RowAt w a' ys) := hy
  clear hx hy
  by_cases hl : xs.length = ys.length
  · have HL : Hid (xs.length = ys.length) := hl
    have hle : ((xs.length : Int) != (ys.length : Int)) = false := by simp [hl]
    clear hl
    go_enter Try.func72, Try.ntmps72
    go_wp2_with fail
    go_loopw [13] (fun vi wr => ∃ k : Nat, k ≤ xs.length ∧ vi = .int .i64 k ∧ xs.take k = ys.take k ∧ ∃ n, wr = w.drewN n) (fun vi _ => xs.length - (intOf vi).toNat)
    case atStart => exact ⟨0, Nat.zero_le _, rfl, rfl, 0, rfl⟩
    case round =>
      obtain ⟨k, hk, rfl, hs, n, rfl⟩ := hrel
      have HS : Hid (xs.take k = ys.take k) := hs
      clear hs
      by_cases hlt : k < xs.length
      · have hlt2 : k < ys.length := by have := HL.out; omega
        obtain ⟨bk, off, rfl⟩ := rowAt_form HX.out (by omega)
        obtain ⟨bk2, off2, rfl⟩ := rowAt_form HY.out (by omega)
        have hc1 := (rowAt_cell HX.out (by omega)).2 k hlt
        have hc2 := (rowAt_cell HY.out (by omega)).2 k hlt2
        by_cases he : xs.getD k 0 = ys.getD k 0
        · have ht : Hid (xs.take (k + 1) = ys.take (k + 1)) := same_take hlt hlt2 HS.out he
          have he' : (xs.getD k 0 != ys.getD k 0) = false := by rw [he]; simp
          generalize xs.getD k 0 = x at hc1 he'
          generalize ys.getD k 0 = y at hc2 he'
          clear he
          go_wp2
          go_quiet (fail)
          go_wp2
          go_roundw
          case rel => exact ⟨k + 1, by omega, by go_num, ht.out, _, rfl⟩
          case measure => simp [intOf]; omega
        · have hv : Hid (sameB xs ys = false) := sameB_no he
          have he' : (xs.getD k 0 != ys.getD k 0) = true := by simpa using he
          generalize xs.getD k 0 = x at hc1 he'
          generalize ys.getD k 0 = y at hc2 he'
          clear he
          go_wp2
          go_quiet (fail)
          go_wp2
          go_ret
          exact ⟨ret_bool hv.out.symm, by first | exact below_drewN (below_drewN (Below.refl _ _) _) _ | exact below_drewN (Below.refl _ _) _⟩
      · have hv : Hid (sameB xs ys = true) := sameB_yes HL.out hlt HS.out
        go_wp2
        go_ret
        exact ⟨ret_bool hv.out.symm, below_drewN (Below.refl _ _) _⟩
  · have hv : sameB xs ys = false := decide_eq_false (fun h => hl (by rw [h]))
    rw [hv]
    have hle : ((xs.length : Int) != (ys.length : Int)) = true := by simp; omega
    clear hl hv
    go_enter Try.func72, Try.ntmps72
    go_wp2
    go_ret
    exact ⟨rfl, Below.refl _ _⟩

theorem rowAt_sub {w : World} {g : Nat} {L : List Int} {t : TypeId} {fr : Nat × Nat} {o m : Nat} (h : w.heap[g]? = some (.cells (zv L) t fr)) (ho : o + m ≤ L.length) : RowAt w (some ⟨g, o, none⟩) (sub o m L) := by
  refine .inr ⟨g, o, rfl, (Array.getElem?_eq_some_iff.1 h).1, fun i hi => ?_⟩
  rw [sub_len ho] at hi
  rw [cell_of_row w _ _ _ _ _ h, zv_get _ _ (by omega)]
  congr 2
  simp [sub, List.getD_eq_getElem?_getD, List.getElem?_take_of_lt hi, List.getElem?_drop]

set_option maxHeartbeats 1600000 in
theorem loverlap_any (b d x k : Int) (w : World) (hb1 : 1 ≤ b) (hb2 : b ≤ 12) (hd1 : 1 ≤ d) (hd2 : d ≤ b) (x1 : 0 ≤ x) (x2 : x < sz b) (y1 : 0 ≤ k) (y2 : k < sz b) :
    Calls Try.prog 61 #[.agg #[.int .i64 b, .int .i64 d], .int .i64 x, .int .i64 k] w fun e w' => e = .returned (.int .i64 (ovl (cnt b d) (digL (cnt b d) (sz d) x) (digL (cnt b d) (sz d) k) (cnt b d) : Int)) ∧ Below w.heap.size w w' := by
  obtain ⟨_, q1, q2⟩ := cnt_bd hb1 hb2 hd1 hd2
  go_enter Try.func61, Try.ntmps61
  go_wp2_with fail
  have b0 : BoxAt w (w.alloc (.cells #[.int .i64 b, .int .i64 d] 25)) b d := ⟨(Below.refl _ _).alloc (Nat.le_refl _) _, by simp, by simp, by simp⟩
  have bx := b0.keep ((Below.refl _ _).drew)
  clear b0
  go_region_held (fun w' => (w'.cell? ⟨w.heap.size, 0, none⟩ = some (.int .i64 b) ∧ w'.cell? ⟨w.heap.size, 1, none⟩ = some (.int .i64 d)) ∧ BoxAt w w' b d) (first | exact ⟨⟨bx.c0, bx.c1⟩, bx⟩ | exact ⟨⟨hbb.c0, hbb.c1⟩, hbb⟩ | exact ⟨⟨hba.c0, hba.c1⟩, hba⟩) (first | (go_at_call_of 58 (Value.int .i64 x); refine (ldigits_any _ _ _ _ hb1 hb2 hd1 hd2 x1 x2).mono ?_; rintro e wa ⟨rfl, hwa⟩; have hba := BoxAt.keep (by assumption) hwa.bel) | (go_at_call_of 58 (Value.int .i64 k); refine (ldigits_any _ _ _ _ hb1 hb2 hd1 hd2 y1 y2).mono ?_; rintro e wb ⟨rfl, hwb⟩; have hbb := BoxAt.keep (by assumption) hwb.bel))
  have HA : Hid (wb.heap[w.heap.size + 1 + 1]? = some (.cells (zv (digL (cnt b d) (sz d) x)) 3 (0, 0))) := by
    have h := (hwb.bel.block _ hwa.lt).trans hwa.row
    have hs : (w.alloc (.cells #[.int .i64 b, .int .i64 d] 25)).drew.heap.size = w.heap.size + 1 := by show (w.alloc _).heap.size = _; simp
    rw [hs] at h
    exact h
  have HB : Hid (wb.heap[wa.heap.size + 1]? = some (.cells (zv (digL (cnt b d) (sz d) k)) 3 (0, 0))) := hwb.row
  have bb : BoxAt w wb b d := hbb
  clear bx hba hbb hwa hwb
  go_wp2_with fail
  go_loopw [9] (fun vn wr => ∃ m : Nat, m ≤ cnt b d ∧ vn = .int .i64 m ∧ ovl (cnt b d) (digL (cnt b d) (sz d) x) (digL (cnt b d) (sz d) k) (cnt b d) = ovl (cnt b d) (digL (cnt b d) (sz d) x) (digL (cnt b d) (sz d) k) m ∧ BoxAt w wr b d ∧ Below wb.heap.size wb wr) (fun vn _ => (intOf vn).toNat)
  case atStart => exact ⟨cnt b d, Nat.le_refl _, rfl, rfl, bb, Below.refl _ _⟩
  case round =>
    obtain ⟨m, hm, rfl, hov, st, hbr⟩ := hrel
    have HO : Hid _ := hov
    have RA : RowAt wr (some ⟨w.heap.size + 1 + 1, cnt b d - m, none⟩) (sub (cnt b d - m) m (digL (cnt b d) (sz d) x)) := rowAt_sub ((hbr.block _ (Array.getElem?_eq_some_iff.1 HA.out).1).trans HA.out) (by rw [digL_len]; omega)
    have RB : RowAt wr (some ⟨wa.heap.size + 1, 0, none⟩) (sub 0 m (digL (cnt b d) (sz d) k)) := rowAt_sub ((hbr.block _ (Array.getElem?_eq_some_iff.1 HB.out).1).trans HB.out) (by rw [digL_len]; omega)
    have LA : Hid ((sub (cnt b d - m) m (digL (cnt b d) (sz d) x)).length = m) := sub_len (by rw [digL_len]; omega)
    have LB : Hid ((sub 0 m (digL (cnt b d) (sz d) k)).length = m) := sub_len (by rw [digL_len]; omega)
    have FA : Hid _ := RA
    have FB : Hid _ := RB
    clear hov bb RA RB
    by_cases hz : m = 0
    · subst hz
      go_wp2
      go_ret
      have e := HO.out
      exact ⟨ret_int (by rw [e]; rfl), st.bel⟩
    · have hj0 : 1 ≤ m := by omega
      have hj1 : 0 < m := by omega
      clear hz
      have LM : Hid ((sub (cnt b d - m) m (digL (cnt b d) (sz d) x)).length ≤ maxLen) := by
        show _ ≤ _
        rw [LA.out]; unfold maxLen; omega
      have LC : Hid ((sub (cnt b d - m) m (digL (cnt b d) (sz d) x)).length = cnt b d - (cnt b d - m)) := by
        show _ = _
        rw [LA.out]; omega
      cases he : sameB (sub (cnt b d - m) m (digL (cnt b d) (sz d) x)) (sub 0 m (digL (cnt b d) (sz d) k))
      · have HN : Hid _ := ovl_no' hj0 he
        go_wp2_with fail
        refine region_kin wr.heap.size (by kernel_rfl) (by kernel_rfl) (fun hne => ?_)
        repeat (go_big_quiet_step ((go_at_call 72; exact kin_of (Nat.le_refl _) (lsame_any _ _ _ _ _ _ (sub (cnt b d - m) m (digL (cnt b d) (sz d) x)) (sub 0 m (digL (cnt b d) (sz d) k)) _ LM.out LC.out LB.out (RowAt.keep FA.out (Kin.bel _)) (RowAt.keep FB.out (Kin.bel _))))))
        refine wpQuiet_nil ?_
        intro _ hw'
        obtain ⟨⟨w7, hw7⟩, hw''⟩ := hw'
        obtain rfl : _ = w7 := hw''
        clear hne
        have st7 := st.keep hw7
        simp only [he]
        go_wp2
        go_roundw
        case rel => exact ⟨m - 1, by omega, by first | go_num | (congr 1; omega), by rw [HO.out, HN.out], st7, hbr.trans (hw7.mono hbr.size)⟩
        case measure => simp [intOf]; omega
      · have HN : Hid _ := ovl_yes' hj0 he
        go_wp2_with fail
        refine region_kin wr.heap.size (by kernel_rfl) (by kernel_rfl) (fun hne => ?_)
        repeat (go_big_quiet_step ((go_at_call 72; exact kin_of (Nat.le_refl _) (lsame_any _ _ _ _ _ _ (sub (cnt b d - m) m (digL (cnt b d) (sz d) x)) (sub 0 m (digL (cnt b d) (sz d) k)) _ LM.out LC.out LB.out (RowAt.keep FA.out (Kin.bel _)) (RowAt.keep FB.out (Kin.bel _))))))
        refine wpQuiet_nil ?_
        intro _ hw'
        obtain ⟨⟨w7, hw7⟩, hw''⟩ := hw'
        obtain rfl : _ = w7 := hw''
        clear hne
        have st7 := st.keep hw7
        simp only [he]
        go_wp2
        go_ret
        have e := HO.out.trans HN.out
        exact ⟨ret_int (by rw [e]), st7.bel⟩

set_option maxHeartbeats 800000 in
theorem lOverlapOf_any (b d x k : Int) (w : World) :
    Calls Try.prog 28 #[.agg #[.int .i64 b, .int .i64 d], .int .i64 x, .int .i64 k] w fun e w' => e = .returned (.tuple #[.int .i64 (oVal b d x k), .bool (dOk b d x k)]) ∧ Below w.heap.size w w' := by
  have hn := numsB_2 b d x k
  unfold oVal dOk
  cases hx : (numB b d x && numB b d k)
  ·
    rw [hx] at hn
    go_enter Try.func28, Try.ntmps28
    go_wp2_with fail
    refine (lnums_any b d _ _ _ [x, k] _ (by simp [maxLen]) ?hl ?hc).mono ?_
    case hl => simp
    case hc =>
      intro i hi
      match i, hi with
      | 0, _ => simp
      | 1, _ => simp
    rintro e w1 ⟨rfl, hw1⟩
    obtain ⟨k10, k11, z1⟩ := keep2 (bk := w.heap.size) (u := .int .i64 b) (v := .int .i64 d) hw1 (by simp; try omega) (by simp) (by simp)
    go_wp2
    go_ret2
    exact ⟨rfl, bel2 hw1 (by simp; try omega)⟩
  ·
    rw [hx] at hn
    rw [if_pos rfl]
    rw [Bool.and_eq_true] at hx
    obtain ⟨hx, hy⟩ := hx
    obtain ⟨hg, x1, x2⟩ := numB_true hx
    obtain ⟨_, y1, y2⟩ := numB_true hy
    obtain ⟨hb1, hb2, hd1, hd2, h5⟩ := gsB_true hg
    clear h5
    go_enter Try.func28, Try.ntmps28
    go_wp2_with fail
    refine (lnums_any b d _ _ _ [x, k] _ (by simp [maxLen]) ?hl ?hc).mono ?_
    case hl => simp
    case hc =>
      intro i hi
      match i, hi with
      | 0, _ => simp
      | 1, _ => simp
    rintro e w1 ⟨rfl, hw1⟩
    obtain ⟨k10, k11, z1⟩ := keep2 (bk := w.heap.size) (u := .int .i64 b) (v := .int .i64 d) hw1 (by simp; try omega) (by simp) (by simp)
    go_wp2_with fail
    refine (loverlap_any _ _ _ _ _ hb1 hb2 hd1 hd2 x1 x2 y1 y2).mono ?_
    rintro e w2 ⟨rfl, hw2⟩
    obtain ⟨k20, k21, z2⟩ := keep2 hw2 z1 k10 k11
    go_wp2
    go_ret2
    exact ⟨rfl, belt (bel2 hw1 (by simp; try omega)) hw2⟩
end Go.Proofs.Ytbnjloepfmiidaa
