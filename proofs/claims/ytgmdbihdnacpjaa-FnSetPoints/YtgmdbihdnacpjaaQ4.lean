/- CrowdOf of the specification. -/
import Derived.Test.YtgmdbihdnacpjaaQ3
namespace Go.Proofs.Ytgmdbihdnacpjaa
open Go.RowKit
set_option linter.unusedVariables false

theorem lmost_any (x y : Nat) (w : World) :
    Calls Try.prog 73 #[.int .i64 (x : Int), .int .i64 (y : Int)] w fun e w' => e = .returned (.int .i64 ((if y > x then y else x : Nat) : Int)) ∧ w' = w := by
  by_cases h : (x : Int) > (y : Int)
  · rw [if_neg (by omega)]
    go_enter Try.func73, Try.ntmps73
    go_wp2
    go_ret
    exact ⟨rfl, rfl⟩
  · have e : (if y > x then y else x) = y := by split <;> omega
    rw [e]
    go_enter Try.func73, Try.ntmps73
    go_wp2
    go_ret
    exact ⟨rfl, rfl⟩

set_option maxHeartbeats 3200000 in
theorem lCrowdOf_any (b d : Int) (a : Option Addr) (cap : Nat) (zs : List Int) (w : World) (hm : zs.length ≤ maxLen) (hr : RowAt w a zs) :
    Calls Try.prog 20 #[.agg #[.int .i64 b, .int .i64 d], .slice a zs.length cap] w fun e w' => e = .returned (.tuple #[.int .i64 (crwV b d zs), .bool (ringB b d zs)]) ∧ Below w.heap.size w w' := by
  have hr1 := hr.alloc (.cells #[.int .i64 b, .int .i64 d] 25)
  cases hg : ringB b d zs
  · have hv : crwV b d zs = 0 := by unfold crwV; rw [if_neg (by rw [hg]; simp)]
    rw [hv]
    go_enter Try.func20, Try.ntmps20
    go_wp2_with fail
    refine (lring_any b d a cap zs _ hm hr1).mono ?_
    rintro e w1 ⟨rfl, hw1⟩
    go_wp2
    go_ret2
    exact ⟨rfl, bel1 hw1 (by simp)⟩
  · have R := ringB_true hg
    obtain ⟨hb1, hb2, hd1, hd2, _⟩ := gsB_true R.gs
    have l2 := R.l2
    have CG := lring_any b d a cap zs _ hm hr1
    rw [hg] at CG
    have RR : Hid (Ring b d zs) := R
    have HR : Hid (RowAt w a zs) := hr
    have HG : Hid (ringB b d zs = true) := hg
    clear R hr hg hr1 hm
    go_enter Try.func20, Try.ntmps20
    go_wp2_with fail
    refine CG.mono ?_
    rintro e w0 ⟨rfl, hw0⟩
    clear CG
    have hbel0 : Below (w.heap.size + 1) (w.alloc (.cells #[.int .i64 b, .int .i64 d] 25)) w0 := hw0.mono (by simp)
    clear hw0
    go_wp2_with fail
    go_loopw [6, 18] (fun vm vi wr => ∃ k m : Nat, k ≤ zs.length ∧ m ≤ 16 ∧ vi = .int .i64 k ∧ vm = .int .i64 m ∧ Hid (m = crw b d zs k) ∧ Below (w.heap.size + 1) (w.alloc (.cells #[.int .i64 b, .int .i64 d] 25)) wr) (fun _ vi _ => zs.length - (intOf vi).toNat)
    case atStart => exact ⟨0, 0, Nat.zero_le _, Nat.zero_le _, rfl, rfl, rfl, hbel0⟩
    case round =>
      rename World => wo
      obtain ⟨k, m, hk, hm16, rfl, rfl, HM, hbel⟩ := hrel
      clear hbel0
      have q0 : wo.cell? ⟨w.heap.size, 0, none⟩ = some (.int .i64 b) := (hbel.cell (p := ⟨w.heap.size, 0, none⟩) (by simp)).trans (by simp)
      have q1 : wo.cell? ⟨w.heap.size, 1, none⟩ = some (.int .i64 d) := (hbel.cell (p := ⟨w.heap.size, 1, none⟩) (by simp)).trans (by simp)
      have hsz : w.heap.size < wo.heap.size := by have := hbel.size; simp at this; omega
      have HB : Hid (Below w.heap.size w wo) := bel1 hbel (by simp)
      by_cases hlt : k < zs.length
      · obtain ⟨bk, off, rfl⟩ := rowAt_form HR.out (by omega)
        have HRW : Hid (RowAt wo (some ⟨bk, off, none⟩) zs) := HR.out.keep HB.out
        have hc1 := (rowAt_cell HRW.out (by omega)).2 k hlt
        obtain ⟨x1, x2⟩ := RR.out.rng k hlt
        have HS : Hid (crw b d zs (k + 1) = crw1 b d zs (zs.getD k 0) m) := by unfold Hid; rw [HM.out]; rfl
        have hle := crw_le b d zs (k + 1)
        have HGE : Hid (gapS b zs (zs.getD k 0) = rnd b (zs.getD k 0) (nxtI zs (zs.getD k 0))) := gap_eq RR.out (mem_at RR.out hlt)
        generalize zs.getD k 0 = x at hc1 x1 x2 HS HGE
        obtain ⟨n1, n2⟩ := nxt_rng RR.out x
        have hs1 := shf_bd d x 0 hb1 hb2
        have hs2 := shf_bd d (nxtI zs x) 0 hb1 hb2
        have hrd := rnd_bd (x := x) (y := nxtI zs x) hb1 hb2
        obtain ⟨z1, z2⟩ := sz_bd hb1 hb2
        obtain ⟨z3, z4⟩ := sz_bd hd1 (by omega)
        obtain ⟨m1, m2⟩ := mul_bd hrd.1 (by omega) (by omega : 0 ≤ sz d) z4
        have c0 : ∀ p : Kin wo.heap.size wo, p.v.cell? ⟨w.heap.size, 0, none⟩ = some (.int .i64 b) := kin_cell hsz q0
        have c1 : ∀ p : Kin wo.heap.size wo, p.v.cell? ⟨w.heap.size, 1, none⟩ = some (.int .i64 d) := kin_cell hsz q1
        have C1 : ∀ w1, Below wo.heap.size wo w1 → Calls Try.prog 68 #[.agg #[.int .i64 b, .int .i64 d], .slice (some ⟨bk, off, none⟩) zs.length cap, .int .i64 x] w1 fun e w' => e = .returned (.int .i64 (rnd b x (nxtI zs x))) ∧ Below w1.heap.size w1 w' := fun w1 h => by rw [← HGE.out]; exact lgap_any b d _ cap zs x w1 RR.out (HRW.out.keepB h (Nat.le_refl _)) x1 x2
        have CB : ∀ w1, Calls Try.prog 69 #[.agg #[.int .i64 b, .int .i64 d]] w1 fun e w' => e = .returned (.int .i64 (sz d)) ∧ Below w1.heap.size w1 w' := fun w1 => lbase_any _ _ _ hd1 (by omega)
        have CZ : ∀ w1, Calls Try.prog 60 #[.agg #[.int .i64 b, .int .i64 d]] w1 fun e w' => e = .returned (.int .i64 (sz b)) ∧ Below w1.heap.size w1 w' := fun w1 => lsize_any _ _ _ hb1 hb2
        have CSx : ∀ w1, Calls Try.prog 71 #[.agg #[.int .i64 b, .int .i64 d], .int .i64 x, .int .i64 0] w1 fun e w' => e = .returned (.int .i64 (shf b d x 0)) ∧ Below w1.heap.size w1 w' := fun w1 => lshift_any b d x 0 w1 hb1 hb2 hd1 (by omega) x1 x2 (by omega) (by omega)
        have CSy : ∀ w1, Calls Try.prog 71 #[.agg #[.int .i64 b, .int .i64 d], .int .i64 (nxtI zs x), .int .i64 0] w1 fun e w' => e = .returned (.int .i64 (shf b d (nxtI zs x) 0)) ∧ Below w1.heap.size w1 w' := fun w1 => lshift_any b d _ 0 w1 hb1 hb2 hd1 (by omega) n1 n2 (by omega) (by omega)
        have CN : ∀ w1, Below wo.heap.size wo w1 → Calls Try.prog 72 #[.agg #[.int .i64 b, .int .i64 d], .slice (some ⟨bk, off, none⟩) zs.length cap, .int .i64 x] w1 fun e w' => e = .returned (.int .i64 (nxtI zs x)) ∧ Below w1.heap.size w1 w' := fun w1 h => lnext_any b d _ cap zs x w1 RR.out (HRW.out.keepB h (Nat.le_refl _)) x1 x2
        have CT : ∀ y w1, 0 ≤ y → y < sz b → Calls Try.prog 70 #[.agg #[.int .i64 b, .int .i64 d], .int .i64 (shf b d x 0), .int .i64 y, .int .i64 (shf b d (nxtI zs x) 0)] w1 fun e w' => e = .returned (.bool (btwB b (shf b d x 0) y (shf b d (nxtI zs x) 0))) ∧ Below w1.heap.size w1 w' := fun y w1 y1 y2 => lbetween_any b d _ y _ w1 hb1 hb2 hs1.1 hs1.2 y1 y2 hs2.1 hs2.2
        unfold crw1 at HS
        clear HGE
        generalize rnd b x (nxtI zs x) = r at *
        by_cases hP : r * sz d ≤ sz b
        · have HS2 : Hid (crw b d zs (k + 1) = if bcnt b (shf b d x 0) (shf b d (nxtI zs x) 0) zs > m then bcnt b (shf b d x 0) (shf b d (nxtI zs x) 0) zs else m) := by unfold Hid; rw [HS.out, if_pos hP]
          clear HS
          generalize shf b d (nxtI zs x) 0 = sy at *
          generalize shf b d x 0 = sx at *
          generalize nxtI zs x = nx at *
          generalize sz d = sd at *
          have HZB : Hid (∀ i, i < zs.length → 0 ≤ zs.getD i 0 ∧ zs.getD i 0 < sz b) := RR.out.rng
          generalize sz b = sb at *
          go_wp2
          refine region_kin wo.heap.size (by kernel_rfl) (by kernel_rfl) (fun hne => ?_)
          repeat (go_big_quiet_step (first | (go_at_call 68; exact kin_of (Nat.le_refl _) (C1 _ (Kin.bel _))) | (go_at_call 69; exact kin_of (Nat.le_refl _) (CB _)) | (go_at_call 60; exact kin_of (Nat.le_refl _) (CZ _))))
          refine wpQuiet_nil ?_
          intro w5 hw'
          obtain ⟨⟨w6, hw5⟩, hw''⟩ := hw'
          obtain rfl : w5 = w6 := hw''
          have Q0 : Hid (wo.cell? ⟨w.heap.size, 0, none⟩ = some (.int .i64 b)) := q0
          have Q1 : Hid (wo.cell? ⟨w.heap.size, 1, none⟩ = some (.int .i64 d)) := q1
          clear c0 c1 hne q0 q1 hc1
          have hbel5 := hbel.trans (hw5.mono (by omega))
          go_wp2_with fail
          go_loopw [9, 34] (fun vn vj wj => ∃ j n : Nat, j ≤ zs.length ∧ n ≤ j ∧ vj = .int .i64 j ∧ vn = .int .i64 n ∧ Hid (n = bcnt b sx sy (zs.take j)) ∧ Below wo.heap.size wo wj) (fun _ vj _ => zs.length - (intOf vj).toNat)
          case atStart => exact ⟨0, 0, Nat.zero_le _, Nat.zero_le _, rfl, rfl, rfl, hw5⟩
          case round =>
            obtain ⟨j, n, hj, hnj, rfl, rfl, HN, hbj⟩ := hrel
            have q0 : wr.cell? ⟨w.heap.size, 0, none⟩ = some (.int .i64 b) := (hbj.cell (p := ⟨w.heap.size, 0, none⟩) hsz).trans Q0.out
            have q1 : wr.cell? ⟨w.heap.size, 1, none⟩ = some (.int .i64 d) := (hbj.cell (p := ⟨w.heap.size, 1, none⟩) hsz).trans Q1.out
            have hszj : w.heap.size < wr.heap.size := Nat.lt_of_lt_of_le hsz hbj.size
            by_cases hjl : j < zs.length
            · have hcj := (rowAt_cell (HRW.out.keep hbj) (by omega)).2 j hjl
              obtain ⟨y1, y2⟩ := HZB.out j hjl
              have HT : Hid (bcnt b sx sy (zs.take (j + 1)) = bcnt b sx sy (zs.take j) + (btwB b sx (zs.getD j 0) sy).toNat) := bcnt_take hjl
              generalize zs.getD j 0 = y at hcj y1 y2 HT
              have CTy : ∀ w1, Calls Try.prog 70 #[.agg #[.int .i64 b, .int .i64 d], .int .i64 sx, .int .i64 y, .int .i64 sy] w1 fun e w' => e = .returned (.bool (btwB b sx y sy)) ∧ Below w1.heap.size w1 w' := fun w1 => CT y w1 y1 y2
              cases hv : btwB b sx y sy
              · rw [hv] at CTy
                have HN2 : Hid (n = bcnt b sx sy (zs.take (j + 1))) := by unfold Hid; rw [HT.out, hv, HN.out]; rfl
                clear HT hv
                go_wp2
                have c0 : ∀ p : Kin wr.heap.size wr, p.v.cell? ⟨w.heap.size, 0, none⟩ = some (.int .i64 b) := kin_cell hszj q0
                have c1 : ∀ p : Kin wr.heap.size wr, p.v.cell? ⟨w.heap.size, 1, none⟩ = some (.int .i64 d) := kin_cell hszj q1
                refine region_kin wr.heap.size (by kernel_rfl) (by kernel_rfl) (fun hne => ?_)
                repeat (go_big_quiet_step (first | (go_at_call 71; with_reducible exact kin_of (Nat.le_refl _) (CSx _)) | (go_at_call 71; with_reducible exact kin_of (Nat.le_refl _) (CSy _)) | (go_at_call 72; exact kin_of (Nat.le_refl _) (CN _ (hbj.trans ((Kin.bel _).mono hbj.size)))) | (go_at_call 70; exact kin_of (Nat.le_refl _) (CTy _))))
                refine wpQuiet_nil ?_
                intro w7 hw'
                obtain ⟨⟨w8, hw7⟩, hw''⟩ := hw'
                obtain rfl : w7 = w8 := hw''
                clear c0 c1 hne
                have hbj7 := hbj.trans (hw7.mono hbj.size)
                go_wp2
                go_roundw
                case rel => exact ⟨j + 1, n, by omega, by omega, by go_num, rfl, HN2, hbj7⟩
                case measure => simp [intOf]; omega
              · rw [hv] at CTy
                have HN2 : Hid (n + 1 = bcnt b sx sy (zs.take (j + 1))) := by unfold Hid; rw [HT.out, hv, HN.out]; rfl
                clear HT hv
                go_wp2
                have c0 : ∀ p : Kin wr.heap.size wr, p.v.cell? ⟨w.heap.size, 0, none⟩ = some (.int .i64 b) := kin_cell hszj q0
                have c1 : ∀ p : Kin wr.heap.size wr, p.v.cell? ⟨w.heap.size, 1, none⟩ = some (.int .i64 d) := kin_cell hszj q1
                refine region_kin wr.heap.size (by kernel_rfl) (by kernel_rfl) (fun hne => ?_)
                repeat (go_big_quiet_step (first | (go_at_call 71; with_reducible exact kin_of (Nat.le_refl _) (CSx _)) | (go_at_call 71; with_reducible exact kin_of (Nat.le_refl _) (CSy _)) | (go_at_call 72; exact kin_of (Nat.le_refl _) (CN _ (hbj.trans ((Kin.bel _).mono hbj.size)))) | (go_at_call 70; exact kin_of (Nat.le_refl _) (CTy _))))
                refine wpQuiet_nil ?_
                intro w7 hw'
                obtain ⟨⟨w8, hw7⟩, hw''⟩ := hw'
                obtain rfl : w7 = w8 := hw''
                clear c0 c1 hne
                have hbj7 := hbj.trans (hw7.mono hbj.size)
                go_wp2
                go_roundw
                case rel => exact ⟨j + 1, n + 1, by omega, by omega, by go_num, by go_num, HN2, hbj7⟩
                case measure => simp [intOf]; omega
            · have HN2 : Hid (n = bcnt b sx sy zs) := by have := HN.out; rwa [List.take_of_length_le (by omega)] at this
              have HM2 : Hid ((if n > m then n else m) = crw b d zs (k + 1)) := by unfold Hid; rw [HS2.out, ← HN2.out]
              have hbelj := hbel.trans (hbj.mono (by omega))
              have hml : (if n > m then n else m) ≤ 16 := by split <;> omega
              have CL := lmost_any m n wr
              generalize (if n > m then n else m) = mm at CL HM2 hml
              go_wp2_with fail
              refine CL.mono ?_
              rintro e w9 ⟨rfl, he9⟩
              have he9 := he9.symm
              subst he9
              go_wp2
              go_roundw
              case rel => exact ⟨k + 1, mm, by omega, hml, by go_num, rfl, HM2, hbelj⟩
              case measure => simp [intOf]; omega
        · have HM2 : Hid (m = crw b d zs (k + 1)) := by unfold Hid; rw [HS.out, if_neg hP]
          clear HS
          generalize nxtI zs x = nx at *
          generalize sz d = sd at *
          generalize sz b = sb at *
          go_wp2
          refine region_kin wo.heap.size (by kernel_rfl) (by kernel_rfl) (fun hne => ?_)
          repeat (go_big_quiet_step (first | (go_at_call 68; exact kin_of (Nat.le_refl _) (C1 _ (Kin.bel _))) | (go_at_call 69; exact kin_of (Nat.le_refl _) (CB _)) | (go_at_call 60; exact kin_of (Nat.le_refl _) (CZ _))))
          refine wpQuiet_nil ?_
          intro w5 hw'
          obtain ⟨⟨w6, hw5⟩, hw''⟩ := hw'
          obtain rfl : w5 = w6 := hw''
          clear c0 c1 hne
          have hbel5 := hbel.trans (hw5.mono (by omega))
          go_wp2
          go_roundw
          case rel => exact ⟨k + 1, m, by omega, by omega, by go_num, rfl, HM2, hbel5⟩
          case measure => simp [intOf]; omega
      · go_wp2
        go_ret2
        exact ⟨ret_crw HG.out hk hlt HM.out, HB.out⟩
end Go.Proofs.Ytgmdbihdnacpjaa
