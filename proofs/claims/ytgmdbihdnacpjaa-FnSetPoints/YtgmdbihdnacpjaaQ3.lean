/- CrowdOf, on both sides. -/
import Derived.Test.YtgmdbihdnacpjaaQ2
namespace Go.Proofs.Ytgmdbihdnacpjaa
open Go.RowKit
set_option linter.unusedVariables false

def crwV (b d : Int) (zs : List Int) : Int := if ringB b d zs = true then (crw b d zs zs.length : Int) else 0
theorem ret_crw {b d : Int} {zs : List Int} {m k : Nat} (hg : ringB b d zs = true) (hk : k ≤ zs.length) (hlt : ¬ k < zs.length) (h : m = crw b d zs k) : (Ending.returned (.tuple #[.int .i64 (m : Int), .bool true])) = .returned (.tuple #[.int .i64 (crwV b d zs), .bool true]) := by
  have : k = zs.length := by omega
  subst this
  unfold crwV
  rw [if_pos hg, h]

set_option maxHeartbeats 3200000 in
theorem CrowdOf_any (b d : Int) (a : Option Addr) (cap : Nat) (zs : List Int) (w : World) (hm : zs.length ≤ maxLen) (hr : RowAt w a zs) :
    Calls Try.prog 19 #[.agg #[.int .i64 b, .int .i64 d], .slice a zs.length cap] w fun e w' => e = .returned (.tuple #[.int .i64 (crwV b d zs), .bool (ringB b d zs)]) ∧ Below w.heap.size w w' := by
  have hr1 := hr.alloc (.cells #[.int .i64 b, .int .i64 d] 25)
  cases hg : ringB b d zs
  · have hv : crwV b d zs = 0 := by unfold crwV; rw [if_neg (by rw [hg]; simp)]
    rw [hv]
    go_enter Try.func19, Try.ntmps19
    go_wp2_with fail
    refine (GoodRing_any b d a cap zs _ hm hr1).mono ?_
    rintro e w1 ⟨rfl, hw1⟩
    go_wp2
    go_ret2
    exact ⟨rfl, bel1 hw1 (by simp)⟩
  · have R := ringB_true hg
    obtain ⟨hb1, hb2, hd1, hd2, _⟩ := gsB_true R.gs
    have l2 := R.l2
    have CG := GoodRing_any b d a cap zs _ hm hr1
    rw [hg] at CG
    have RR : Hid (Ring b d zs) := R
    have HR : Hid (RowAt w a zs) := hr
    have HG : Hid (ringB b d zs = true) := hg
    clear R hr hg hr1 hm
    go_enter Try.func19, Try.ntmps19
    go_wp2_with fail
    refine CG.mono ?_
    rintro e w0 ⟨rfl, hw0⟩
    clear CG
    have hbel0 : Below (w.heap.size + 1) (w.alloc (.cells #[.int .i64 b, .int .i64 d] 25)) w0 := hw0.mono (by simp)
    clear hw0
    go_wp2_with fail
    go_loopw [6, 16] (fun vm vi wr => ∃ k m : Nat, k ≤ zs.length ∧ m ≤ 16 ∧ vi = .int .i64 k ∧ vm = .int .i64 m ∧ Hid (m = crw b d zs k) ∧ Below (w.heap.size + 1) (w.alloc (.cells #[.int .i64 b, .int .i64 d] 25)) wr) (fun _ vi _ => zs.length - (intOf vi).toNat)
    case atStart => exact ⟨0, 0, Nat.zero_le _, Nat.zero_le _, rfl, rfl, rfl, hbel0⟩
    case round =>
      obtain ⟨k, m, hk, hm16, rfl, rfl, HM, hbel⟩ := hrel
      clear hbel0
      have q0 : wr.cell? ⟨w.heap.size, 0, none⟩ = some (.int .i64 b) := (hbel.cell (p := ⟨w.heap.size, 0, none⟩) (by simp)).trans (by simp)
      have q1 : wr.cell? ⟨w.heap.size, 1, none⟩ = some (.int .i64 d) := (hbel.cell (p := ⟨w.heap.size, 1, none⟩) (by simp)).trans (by simp)
      have hsz : w.heap.size < wr.heap.size := by have := hbel.size; simp at this; omega
      have HB : Hid (Below w.heap.size w wr) := bel1 hbel (by simp)
      by_cases hlt : k < zs.length
      · obtain ⟨bk, off, rfl⟩ := rowAt_form HR.out (by omega)
        have HRW : Hid (RowAt wr (some ⟨bk, off, none⟩) zs) := HR.out.keep HB.out
        have hc1 := (rowAt_cell HRW.out (by omega)).2 k hlt
        obtain ⟨x1, x2⟩ := RR.out.rng k hlt
        have HS : Hid (crw b d zs (k + 1) = crw1 b d zs (zs.getD k 0) m) := by unfold Hid; rw [HM.out]; rfl
        have hle := crw_le b d zs (k + 1)
        generalize zs.getD k 0 = x at hc1 x1 x2 HS
        obtain ⟨n1, n2⟩ := nxt_rng RR.out x
        have CN := nextIn_any (some ⟨bk, off, none⟩) cap zs x wr (by omega) l2 HRW.out
        have HX : Hid (numB b d x = true) := numB_yes RR.out.gs x1 x2
        have HY : Hid (numB b d (nxtI zs x) = true) := numB_yes RR.out.gs n1 n2
        have hs1 := shf_bd d x 0 hb1 hb2
        have hs2 := shf_bd d (nxtI zs x) 0 hb1 hb2
        have hrd := rnd_bd (x := x) (y := nxtI zs x) hb1 hb2
        obtain ⟨z1, z2⟩ := sz_bd hb1 hb2
        obtain ⟨z3, z4⟩ := sz_bd hd1 (by omega)
        obtain ⟨m1, m2⟩ := mul_bd hrd.1 (by omega) (by omega : 0 ≤ sz d) z4
        have c0 : ∀ p : Kin wr.heap.size wr, p.v.cell? ⟨w.heap.size, 0, none⟩ = some (.int .i64 b) := kin_cell hsz q0
        have c1 : ∀ p : Kin wr.heap.size wr, p.v.cell? ⟨w.heap.size, 1, none⟩ = some (.int .i64 d) := kin_cell hsz q1
        have C1 : ∀ w1, Calls Try.prog 62 #[.agg #[.int .i64 b, .int .i64 d], .int .i64 x, .int .i64 (nxtI zs x)] w1 fun e w' => e = .returned (.int .i64 (rnd b x (nxtI zs x))) ∧ Below w1.heap.size w1 w' := fun w1 => roundUp_any b d x _ w1 hb1 hb2 x1 x2 n1 n2
        unfold crw1 at HS
        generalize rnd b x (nxtI zs x) = r at *
        by_cases hP : r * sz d ≤ sz b
        · have hbl := bcnt_le b (shf b d x 0) (shf b d (nxtI zs x) 0) zs
          have C3 : ∀ w1, Below wr.heap.size wr w1 → Calls Try.prog 65 #[.agg #[.int .i64 b, .int .i64 d], .slice (some ⟨bk, off, none⟩) zs.length cap, .int .i64 (shf b d x 0), .int .i64 (shf b d (nxtI zs x) 0)] w1 fun e w' => e = .returned (.int .i64 (bcnt b (shf b d x 0) (shf b d (nxtI zs x) 0) zs)) ∧ Below w1.heap.size w1 w' := fun w1 h => countBetween_any b d _ cap zs _ _ w1 RR.out (HRW.out.keepB h (Nat.le_refl _)) hs1.1 hs1.2 hs2.1 hs2.2
          have HS2 : Hid (crw b d zs (k + 1) = if bcnt b (shf b d x 0) (shf b d (nxtI zs x) 0) zs > m then bcnt b (shf b d x 0) (shf b d (nxtI zs x) 0) zs else m) := by unfold Hid; rw [HS.out, if_pos hP]
          clear HS
          generalize bcnt b (shf b d x 0) (shf b d (nxtI zs x) 0) zs = n at *
          have CMx : ∀ w1, Calls Try.prog 66 #[.agg #[.int .i64 b, .int .i64 d], .int .i64 x] w1 fun e w' => e = .returned (.int .i64 (shf b d x 0)) ∧ Below w1.heap.size w1 w' := fun w1 => makeRoom_any b d x w1 HX.out
          have CMy : ∀ w1, Calls Try.prog 66 #[.agg #[.int .i64 b, .int .i64 d], .int .i64 (nxtI zs x)] w1 fun e w' => e = .returned (.int .i64 (shf b d (nxtI zs x) 0)) ∧ Below w1.heap.size w1 w' := fun w1 => makeRoom_any b d _ w1 HY.out
          generalize shf b d (nxtI zs x) 0 = sy at *
          generalize shf b d x 0 = sx at *
          generalize nxtI zs x = nx at *
          generalize hsd : sz d = sd at *
          have CB : ∀ w1, Calls Try.prog 63 #[.agg #[.int .i64 b, .int .i64 d]] w1 fun e w' => e = .returned (.int .i64 sd) ∧ Below w1.heap.size w1 w' := fun w1 => by rw [← hsd]; exact base_any _ _ _ hd1 (by omega)
          have CZ : ∀ w1, Calls Try.prog 64 #[.agg #[.int .i64 b, .int .i64 d]] w1 fun e w' => e = .returned (.int .i64 (sz b)) ∧ Below w1.heap.size w1 w' := fun w1 => size_any _ _ _ hb1 hb2
          generalize sz b = sb at *
          clear hsd
          by_cases hmx : n > m
          · have HM2 : Hid (n = crw b d zs (k + 1)) := by unfold Hid; rw [HS2.out, if_pos hmx]
            have hmi : (n : Int) > (m : Int) := by omega
            go_wp2_with fail
            refine CN.mono ?_
            rintro e w1 ⟨rfl, he1⟩
            have he1 := he1.symm
            subst he1
            go_wp2
            refine region_kin wr.heap.size (by kernel_rfl) (by kernel_rfl) (fun hne => ?_)
            repeat (go_big_quiet_step (first | (go_at_call 62; exact kin_of (Nat.le_refl _) (C1 _)) | (go_at_call 63; exact kin_of (Nat.le_refl _) (CB _)) | (go_at_call 64; exact kin_of (Nat.le_refl _) (CZ _))))
            refine wpQuiet_nil ?_
            intro w5 hw'
            obtain ⟨⟨w6, hw5⟩, hw''⟩ := hw'
            obtain rfl : w5 = w6 := hw''
            have q05 := c0 ⟨w5, hw5⟩
            have q15 := c1 ⟨w5, hw5⟩
            have hsz5 : w.heap.size < w5.heap.size := Nat.lt_of_lt_of_le hsz hw5.size
            clear c0 c1 hne
            go_wp2
            have c0 : ∀ p : Kin w5.heap.size w5, p.v.cell? ⟨w.heap.size, 0, none⟩ = some (.int .i64 b) := kin_cell hsz5 q05
            have c1 : ∀ p : Kin w5.heap.size w5, p.v.cell? ⟨w.heap.size, 1, none⟩ = some (.int .i64 d) := kin_cell hsz5 q15
            refine region_kin w5.heap.size (by kernel_rfl) (by kernel_rfl) (fun hne => ?_)
            repeat (go_big_quiet_step (first | (go_at_call 66; with_reducible exact kin_of (Nat.le_refl _) (CMx _)) | (go_at_call 66; with_reducible exact kin_of (Nat.le_refl _) (CMy _)) | (go_at_call 65; exact kin_of (Nat.le_refl _) (C3 _ (hw5.trans ((Kin.bel _).mono hw5.size))))))
            refine wpQuiet_nil ?_
            intro w7 hw'
            obtain ⟨⟨w8, hw7⟩, hw''⟩ := hw'
            obtain rfl : w7 = w8 := hw''
            clear c0 c1 hne
            have hbel7 := (hbel.trans (hw5.mono (by omega))).trans (hw7.mono (by omega))
            go_wp2
            go_roundw
            case rel => exact ⟨k + 1, n, by omega, by omega, by go_num, rfl, HM2, hbel7⟩
            case measure => simp [intOf]; omega
          · have HM2 : Hid (m = crw b d zs (k + 1)) := by unfold Hid; rw [HS2.out, if_neg hmx]
            have hmi : ¬ (n : Int) > (m : Int) := by omega
            go_wp2_with fail
            refine CN.mono ?_
            rintro e w1 ⟨rfl, he1⟩
            have he1 := he1.symm
            subst he1
            go_wp2
            refine region_kin wr.heap.size (by kernel_rfl) (by kernel_rfl) (fun hne => ?_)
            repeat (go_big_quiet_step (first | (go_at_call 62; exact kin_of (Nat.le_refl _) (C1 _)) | (go_at_call 63; exact kin_of (Nat.le_refl _) (CB _)) | (go_at_call 64; exact kin_of (Nat.le_refl _) (CZ _))))
            refine wpQuiet_nil ?_
            intro w5 hw'
            obtain ⟨⟨w6, hw5⟩, hw''⟩ := hw'
            obtain rfl : w5 = w6 := hw''
            have q05 := c0 ⟨w5, hw5⟩
            have q15 := c1 ⟨w5, hw5⟩
            have hsz5 : w.heap.size < w5.heap.size := Nat.lt_of_lt_of_le hsz hw5.size
            clear c0 c1 hne
            go_wp2
            have c0 : ∀ p : Kin w5.heap.size w5, p.v.cell? ⟨w.heap.size, 0, none⟩ = some (.int .i64 b) := kin_cell hsz5 q05
            have c1 : ∀ p : Kin w5.heap.size w5, p.v.cell? ⟨w.heap.size, 1, none⟩ = some (.int .i64 d) := kin_cell hsz5 q15
            refine region_kin w5.heap.size (by kernel_rfl) (by kernel_rfl) (fun hne => ?_)
            repeat (go_big_quiet_step (first | (go_at_call 66; with_reducible exact kin_of (Nat.le_refl _) (CMx _)) | (go_at_call 66; with_reducible exact kin_of (Nat.le_refl _) (CMy _)) | (go_at_call 65; exact kin_of (Nat.le_refl _) (C3 _ (hw5.trans ((Kin.bel _).mono hw5.size))))))
            refine wpQuiet_nil ?_
            intro w7 hw'
            obtain ⟨⟨w8, hw7⟩, hw''⟩ := hw'
            obtain rfl : w7 = w8 := hw''
            clear c0 c1 hne
            have hbel7 := (hbel.trans (hw5.mono (by omega))).trans (hw7.mono (by omega))
            go_wp2
            go_roundw
            case rel => exact ⟨k + 1, m, by omega, by omega, by go_num, rfl, HM2, hbel7⟩
            case measure => simp [intOf]; omega
        · have HM2 : Hid (m = crw b d zs (k + 1)) := by unfold Hid; rw [HS.out, if_neg hP]
          clear HS
          generalize nxtI zs x = nx at *
          generalize hsd : sz d = sd at *
          have CB : ∀ w1, Calls Try.prog 63 #[.agg #[.int .i64 b, .int .i64 d]] w1 fun e w' => e = .returned (.int .i64 sd) ∧ Below w1.heap.size w1 w' := fun w1 => by rw [← hsd]; exact base_any _ _ _ hd1 (by omega)
          have CZ : ∀ w1, Calls Try.prog 64 #[.agg #[.int .i64 b, .int .i64 d]] w1 fun e w' => e = .returned (.int .i64 (sz b)) ∧ Below w1.heap.size w1 w' := fun w1 => size_any _ _ _ hb1 hb2
          generalize sz b = sb at *
          clear hsd
          go_wp2_with fail
          refine CN.mono ?_
          rintro e w1 ⟨rfl, he1⟩
          have he1 := he1.symm
          subst he1
          go_wp2
          refine region_kin wr.heap.size (by kernel_rfl) (by kernel_rfl) (fun hne => ?_)
          repeat (go_big_quiet_step (first | (go_at_call 62; exact kin_of (Nat.le_refl _) (C1 _)) | (go_at_call 63; exact kin_of (Nat.le_refl _) (CB _)) | (go_at_call 64; exact kin_of (Nat.le_refl _) (CZ _))))
          refine wpQuiet_nil ?_
          intro w5 hw'
          obtain ⟨⟨w6, hw5⟩, hw''⟩ := hw'
          obtain rfl : w5 = w6 := hw''
          clear c0 c1 hne
          have hbel5 := hbel.trans (hw5.mono (by omega))
          go_wp2
          go_roundw
          case rel => exact ⟨k + 1, m, by omega, by omega, by go_num, rfl, HM2, hbel5⟩
          case measure => simp [intOf]; omega
      · go_wp2
        go_ret2
        exact ⟨ret_crw HG.out hk hlt HM.out, HB.out⟩
end Go.Proofs.Ytgmdbihdnacpjaa
