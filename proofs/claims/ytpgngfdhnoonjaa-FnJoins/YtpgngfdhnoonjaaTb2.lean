/- isRow and GoodTable of the program. -/
import Derived.Test.YtpgngfdhnoonjaaTb1
namespace Go.Proofs.Ytpgngfdhnoonjaa.Tb
open Go.RowKit Wire Go.Deep
set_option linter.unusedVariables false
set_option linter.unusedSimpArgs false
set_option maxHeartbeats 3200000 in
theorem isRow_any (b d x0 x1 x2 : Int) (g : Bool) (w : World) :
    Calls Try.prog 57 #[.agg #[.int .i64 b, .int .i64 d], .agg #[.int .i64 x0, .int .i64 x1, .int .i64 x2, .bool g]] w fun e w' => e = .returned (.bool (rowB b d ⟨x0, x1, x2, g⟩)) ∧ Below w.heap.size w w' := by
  have N0 : Hid (B2 w ((w.alloc (.cells #[.int .i64 b, .int .i64 d] 25)).alloc (.cells #[.int .i64 x0, .int .i64 x1, .int .i64 x2, .bool g] 37)) #[.int .i64 b, .int .i64 d] #[.int .i64 x0, .int .i64 x1, .int .i64 x2, .bool g]) := b20 w _ _
  have CN := fun w1 => isNumber_any b d x0 w1
  have HA : Hid (rowB b d ⟨x0, x1, x2, g⟩ = (numB b d x0 && inB x1 1 1000000 && inB x2 0 1000000 && !(g && (x2 != 0)))) := rfl
  generalize rowB b d ⟨x0, x1, x2, g⟩ = A at *
  cases hn : numB b d x0
  · have HV : Hid (A = false) := by unfold Hid; rw [HA.out, hn]; rfl
    rw [hn] at CN
    clear hn
    go_enter Try.func57, Try.ntmps57
    go_wp2_with fail
    refine (CN _).mono ?_
    rintro e w1 ⟨rfl, HW⟩
    have N1 := N0.out.keep HW
    clear N0
    obtain ⟨r0, r1, r2, r3⟩ := Wire.Bk.c4 N1.kr
    go_wp2
    go_ret
    exact ⟨ret_bool HV.out.symm, N1.bel⟩
  have HN : Hid (numB b d x0 = true) := hn
  rw [hn] at CN
  clear hn
  by_cases h1 : 1 ≤ x1
  case neg =>
    have HV : Hid (A = false) := by unfold Hid; rw [HA.out, inB_no (fun h => h1 h.1)]; simp
    have e1 : decide (x1 < 1) = true := decide_eq_true (by omega)
    clear h1
    go_enter Try.func57, Try.ntmps57
    go_wp2_with fail
    refine (CN _).mono ?_
    rintro e w1 ⟨rfl, HW⟩
    have N1 := N0.out.keep HW
    clear N0
    obtain ⟨r0, r1, r2, r3⟩ := Wire.Bk.c4 N1.kr
    go_wp2
    go_ret
    exact ⟨ret_bool HV.out.symm, N1.bel⟩
  by_cases h2 : x1 ≤ 1000000
  case neg =>
    have HV : Hid (A = false) := by unfold Hid; rw [HA.out, inB_no (fun h => h2 h.2)]; simp
    have e1 : decide (x1 < 1) = false := decide_eq_false (by omega)
    have e2 : decide (1000000 < x1) = true := decide_eq_true (by omega)
    clear h1 h2
    go_enter Try.func57, Try.ntmps57
    go_wp2_with fail
    refine (CN _).mono ?_
    rintro e w1 ⟨rfl, HW⟩
    have N1 := N0.out.keep HW
    clear N0
    obtain ⟨r0, r1, r2, r3⟩ := Wire.Bk.c4 N1.kr
    go_wp2
    go_ret
    exact ⟨ret_bool HV.out.symm, N1.bel⟩
  have HV1 : Hid (inB x1 1 1000000 = true) := inB_yes h1 h2
  have e1 : decide (x1 < 1) = false := decide_eq_false (by omega)
  have e2 : decide (1000000 < x1) = false := decide_eq_false (by omega)
  clear h1 h2
  cases g
  · have HV : Hid (A = inB x2 0 1000000) := by unfold Hid; rw [HA.out, HN.out, HV1.out]; simp
    go_enter Try.func57, Try.ntmps57
    go_wp2_with fail
    refine (CN _).mono ?_
    rintro e w1 ⟨rfl, HW⟩
    have N1 : Hid (B2 w w1 _ _) := N0.out.keep HW
    clear N0
    obtain ⟨r0, r1, r2, r3⟩ := Wire.Bk.c4 N1.out.kr
    go_wp2_with fail
    refine (isVal_any x2 _).mono ?_
    rintro e w2 ⟨rfl, he⟩
    have he' := he.symm
    subst he'
    go_wp2
    go_ret
    exact ⟨ret_bool HV.out.symm, N1.out.bel⟩
  · by_cases hz : x2 = 0
    · subst hz
      have HV : Hid (A = true) := by unfold Hid; rw [HA.out, HN.out, HV1.out]; rfl
      go_enter Try.func57, Try.ntmps57
      go_wp2_with fail
      refine (CN _).mono ?_
      rintro e w1 ⟨rfl, HW⟩
      have N1 := N0.out.keep HW
      clear N0
      obtain ⟨r0, r1, r2, r3⟩ := Wire.Bk.c4 N1.kr
      go_wp2
      go_ret
      exact ⟨ret_bool HV.out.symm, N1.bel⟩
    · have hz1 : (x2 == 0) = false := by simpa using hz
      have HV : Hid (A = false) := by unfold Hid; rw [HA.out]; simp [hz]
      clear hz
      go_enter Try.func57, Try.ntmps57
      go_wp2_with fail
      refine (CN _).mono ?_
      rintro e w1 ⟨rfl, HW⟩
      have N1 := N0.out.keep HW
      clear N0
      obtain ⟨r0, r1, r2, r3⟩ := Wire.Bk.c4 N1.kr
      go_wp2
      go_ret
      exact ⟨ret_bool HV.out.symm, N1.bel⟩
set_option maxRecDepth 100000 in
set_option maxHeartbeats 12800000 in
theorem GoodTable_any (b d : Int) (a : Option Addr) (cap n : Nat) (ms : List Rw) (w : World) (hn : ms.length = n) (hm : n ≤ maxLen) (hr : LsAt tyRw w a ms) :
    Calls Try.prog 18 #[.agg #[.int .i64 b, .int .i64 d], .slice a n cap] w fun e w' => e = .returned (.bool (goodT b d ms)) ∧ Below w.heap.size w w' := by
  subst hn
  unfold maxLen at hm
  have HR : Hid (LsAt tyRw w a ms) := hr
  clear hr
  have KS0 : Hid (Wire.Bk (w.alloc (.cells #[.int .i64 b, .int .i64 d] 25)) w.heap.size #[.int .i64 b, .int .i64 d] 25) := Wire.Bk.new _ _ _
  have CG := fun w1 => good_any b d w1
  cases hg : gsB b d
  · rw [hg] at CG
    have HV : Hid (goodT b d ms = false) := by unfold Hid goodT; rw [hg]; rfl
    clear hg
    go_enter Try.func18, Try.ntmps18
    go_wp2_with fail
    refine (CG _).mono ?_
    rintro e w1 ⟨rfl, HW⟩
    go_wp2
    go_ret
    exact ⟨ret_bool HV.out.symm, belt (belA _ _) HW⟩
  have HG : Hid (gsB b d = true) := hg
  rw [hg] at CG
  clear hg
  by_cases h8 : ms.length ≤ 8
  case neg =>
    have HV : Hid (goodT b d ms = false) := by unfold Hid goodT; rw [decide_eq_false h8]; simp
    have h8d : decide ((8 : Int) < (ms.length : Int)) = true := decide_eq_true (by omega)
    have h8e : decide (8 < ms.length) = true := decide_eq_true (by omega)
    clear h8
    go_enter Try.func18, Try.ntmps18
    go_wp2_with fail
    refine (CG _).mono ?_
    rintro e w1 ⟨rfl, HW⟩
    go_wp2
    go_ret
    exact ⟨ret_bool HV.out.symm, belt (belA _ _) HW⟩
  have H8 : Hid (ms.length ≤ 8) := h8
  have h8d : decide ((8 : Int) < (ms.length : Int)) = false := decide_eq_false (by omega)
  have h8e : decide (8 < ms.length) = false := decide_eq_false (by omega)
  clear h8
  go_enter Try.func18, Try.ntmps18
  go_wp2_with fail
  refine (CG _).mono ?_
  rintro e w1 ⟨rfl, HW⟩
  have B1 : Hid (Below w.heap.size w w1) := belt (belA _ _) HW
  have K1 : Hid (Wire.Bk w1 w.heap.size #[.int .i64 b, .int .i64 d] 25) := KS0.out.keep HW
  clear CG HW KS0
  go_wp2_with fail
  clear h8d h8e
  go_loopw [17] (fun vi wr => ∃ k : Nat, k ≤ ms.length ∧ vi = .int .i64 k ∧ Hid (∀ i, i < k → tokB b d ms i = true) ∧ Hid (Below w.heap.size w wr) ∧ Hid (Wire.Bk wr w.heap.size #[.int .i64 b, .int .i64 d] 25)) (fun vi _ => ms.length - (intOf vi).toNat)
  case atStart => exact ⟨0, Nat.zero_le _, rfl, fun i hi => by omega, B1, K1⟩
  case round =>
    obtain ⟨k, hk, rfl, HS, HB, KS⟩ := hrel
    clear B1 K1
    by_cases hlt : k < ms.length
    · obtain ⟨bk, off, rfl⟩ := lsAt_form HR.out (by show 0 < ms.length; omega)
      obtain ⟨hb1, hc⟩ := rwAt_cell (HR.out.keep HB.out) hlt
      have HPL : Hid (bk < wr.heap.size) := hb1
      obtain ⟨c0, c1, c2, c3⟩ := CellsAt.rw hc
      have HT : Hid (tokB b d ms k = (rowB b d (ms.getD k rw0) && (decide (k = 0) || decide ((ms.getD (k - 1) rw0).x0 < (ms.getD k rw0).x0)))) := rfl
      have HPC0 : Hid (0 < k → wr.cell? ⟨bk, off + (k - 1) * 4, none⟩ = some (.int .i64 (ms.getD (k - 1) rw0).x0)) := fun h0 => (CellsAt.rw (rwAt_cell (HR.out.keep HB.out) (i := k - 1) (by omega)).2).1
      clear hc hb1
      generalize ms.getD k rw0 = r at c0 c1 c2 c3 HT
      generalize (ms.getD (k - 1) rw0).x0 = px at HT HPC0
      obtain ⟨x0, x1, x2, g⟩ := r
      have HT : Hid (tokB b d ms k = (rowB b d ⟨x0, x1, x2, g⟩ && (decide (k = 0) || decide (px < x0)))) := HT
      have CR := fun w1 => isRow_any b d x0 x1 x2 g w1
      cases hn : rowB b d ⟨x0, x1, x2, g⟩
      ·
        have HN : Hid (rowB b d ⟨x0, x1, x2, g⟩ = false) := hn
        rw [hn] at CR
        clear hn
        go_wp2_with fail
        have HW0 : Hid (Below wr.heap.size wr (wr.alloc (.cells #[.int .i64 x0, .int .i64 x1, .int .i64 x2, .bool g] 37))) := belA _ _
        have HKR : Hid (Wire.Bk (wr.alloc (.cells #[.int .i64 x0, .int .i64 x1, .int .i64 x2, .bool g] 37)) wr.heap.size #[.int .i64 x0, .int .i64 x1, .int .i64 x2, .bool g] 37) := Wire.Bk.new _ _ _
        have HKS : Hid (Wire.Bk (wr.alloc (.cells #[.int .i64 x0, .int .i64 x1, .int .i64 x2, .bool g] 37)) w.heap.size #[.int .i64 b, .int .i64 d] 25) := KS.out.keep HW0.out
        clear c0 c1 c2 c3
        generalize wr.alloc (.cells #[.int .i64 x0, .int .i64 x1, .int .i64 x2, .bool g] 37) = W at *
        have zs := Wire.Bk.lt HKS.out
        have zr := Wire.Bk.lt HKR.out
        have kc0 : ∀ p : Kin W.heap.size W, p.v.cell? ⟨w.heap.size, 0, none⟩ = some (.int .i64 b) := kin_cell zs (HKS.out.cell 0)
        have kc1 : ∀ p : Kin W.heap.size W, p.v.cell? ⟨w.heap.size, 1, none⟩ = some (.int .i64 d) := kin_cell zs (HKS.out.cell 1)
        have kr0 : ∀ p : Kin W.heap.size W, p.v.cell? ⟨wr.heap.size, 0, none⟩ = some (.int .i64 x0) := kin_cell zr (HKR.out.cell 0)
        have kr1 : ∀ p : Kin W.heap.size W, p.v.cell? ⟨wr.heap.size, 1, none⟩ = some (.int .i64 x1) := kin_cell zr (HKR.out.cell 1)
        have kr2 : ∀ p : Kin W.heap.size W, p.v.cell? ⟨wr.heap.size, 2, none⟩ = some (.int .i64 x2) := kin_cell zr (HKR.out.cell 2)
        have kr3 : ∀ p : Kin W.heap.size W, p.v.cell? ⟨wr.heap.size, 3, none⟩ = some (.bool g) := kin_cell zr (HKR.out.cell 3)
        refine region_kin W.heap.size (by kernel_rfl) (by kernel_rfl) (fun hne => ?_)
        repeat (go_big_quiet_step ((go_at_call 57; exact kin_of (Nat.le_refl _) (CR _))))
        refine wpQuiet_nil ?_
        intro w2 hw'
        obtain ⟨⟨w9, hw9⟩, hw''⟩ := hw'
        obtain rfl : w2 = w9 := hw''
        have HB2 : Hid (Below w.heap.size w w2) := belt HB.out (belt HW0.out hw9)
        have KS2 : Hid (Wire.Bk w2 w.heap.size #[.int .i64 b, .int .i64 d] 25) := HKS.out.keep hw9
        clear kc0 kc1 kr0 kr1 kr2 kr3 hne hw9 HW0 HKS HKR KS HB
        obtain ⟨s0, s1⟩ := Wire.Bk.c2 KS2.out
        have HV : Hid (goodT b d ms = false) := goodT_no hlt (by rw [HT.out]; rw [HN.out]; rfl)
        clear HT HPC0
        go_wp2
        go_ret
        exact ⟨ret_bool HV.out.symm, HB2.out⟩
      ·
        have HN : Hid (rowB b d ⟨x0, x1, x2, g⟩ = true) := hn
        rw [hn] at CR
        clear hn
        by_cases hk0 : k = 0
        ·
          have HK0 : Hid (decide (k = 0) = true) := decide_eq_true hk0
          have hg0 : decide (0 < k) = false := decide_eq_false (by omega)
          clear hk0
          go_wp2_with fail
          have HW0 : Hid (Below wr.heap.size wr (wr.alloc (.cells #[.int .i64 x0, .int .i64 x1, .int .i64 x2, .bool g] 37))) := belA _ _
          have HKR : Hid (Wire.Bk (wr.alloc (.cells #[.int .i64 x0, .int .i64 x1, .int .i64 x2, .bool g] 37)) wr.heap.size #[.int .i64 x0, .int .i64 x1, .int .i64 x2, .bool g] 37) := Wire.Bk.new _ _ _
          have HKS : Hid (Wire.Bk (wr.alloc (.cells #[.int .i64 x0, .int .i64 x1, .int .i64 x2, .bool g] 37)) w.heap.size #[.int .i64 b, .int .i64 d] 25) := KS.out.keep HW0.out
          clear c0 c1 c2 c3
          generalize wr.alloc (.cells #[.int .i64 x0, .int .i64 x1, .int .i64 x2, .bool g] 37) = W at *
          have zs := Wire.Bk.lt HKS.out
          have zr := Wire.Bk.lt HKR.out
          have kc0 : ∀ p : Kin W.heap.size W, p.v.cell? ⟨w.heap.size, 0, none⟩ = some (.int .i64 b) := kin_cell zs (HKS.out.cell 0)
          have kc1 : ∀ p : Kin W.heap.size W, p.v.cell? ⟨w.heap.size, 1, none⟩ = some (.int .i64 d) := kin_cell zs (HKS.out.cell 1)
          have kr0 : ∀ p : Kin W.heap.size W, p.v.cell? ⟨wr.heap.size, 0, none⟩ = some (.int .i64 x0) := kin_cell zr (HKR.out.cell 0)
          have kr1 : ∀ p : Kin W.heap.size W, p.v.cell? ⟨wr.heap.size, 1, none⟩ = some (.int .i64 x1) := kin_cell zr (HKR.out.cell 1)
          have kr2 : ∀ p : Kin W.heap.size W, p.v.cell? ⟨wr.heap.size, 2, none⟩ = some (.int .i64 x2) := kin_cell zr (HKR.out.cell 2)
          have kr3 : ∀ p : Kin W.heap.size W, p.v.cell? ⟨wr.heap.size, 3, none⟩ = some (.bool g) := kin_cell zr (HKR.out.cell 3)
          refine region_kin W.heap.size (by kernel_rfl) (by kernel_rfl) (fun hne => ?_)
          repeat (go_big_quiet_step ((go_at_call 57; exact kin_of (Nat.le_refl _) (CR _))))
          refine wpQuiet_nil ?_
          intro w2 hw'
          obtain ⟨⟨w9, hw9⟩, hw''⟩ := hw'
          obtain rfl : w2 = w9 := hw''
          have HB2 : Hid (Below w.heap.size w w2) := belt HB.out (belt HW0.out hw9)
          have KS2 : Hid (Wire.Bk w2 w.heap.size #[.int .i64 b, .int .i64 d] 25) := HKS.out.keep hw9
          clear kc0 kc1 kr0 kr1 kr2 kr3 hne hw9 HW0 HKS HKR KS HB
          obtain ⟨s0, s1⟩ := Wire.Bk.c2 KS2.out
          have HS1 : Hid (∀ i, i < k + 1 → tokB b d ms i = true) := fun i hi => by
            by_cases hik : i = k
            · subst hik; rw [HT.out]; rw [HN.out, HK0.out]; rfl
            · exact HS.out i (by omega)
          clear HT HPC0
          go_wp2
          go_roundw
          case rel => exact ⟨k + 1, by omega, by go_num, HS1, HB2, KS2⟩
          case measure => simp [intOf]; omega
        ·
          have HPC : Hid (wr.cell? ⟨bk, off + (k - 1) * 4, none⟩ = some (.int .i64 px)) := HPC0.out (by omega)
          have hg0 : decide (0 < k) = true := decide_eq_true (by omega)
          have hkm : (k : Int) - 1 = ((k - 1 : Nat) : Int) := by omega
          have hkl : k - 1 < ms.length := by omega
          have HK0 : Hid (decide (k = 0) = false) := decide_eq_false hk0
          clear hk0
          by_cases hpx : px < x0
          ·
            have HP : Hid (decide (px < x0) = true) := decide_eq_true hpx
            have hpd : decide (x0 ≤ px) = false := decide_eq_false (by omega)
            clear hpx
            go_wp2_with fail
            have HW0 : Hid (Below wr.heap.size wr (wr.alloc (.cells #[.int .i64 x0, .int .i64 x1, .int .i64 x2, .bool g] 37))) := belA _ _
            have HKR : Hid (Wire.Bk (wr.alloc (.cells #[.int .i64 x0, .int .i64 x1, .int .i64 x2, .bool g] 37)) wr.heap.size #[.int .i64 x0, .int .i64 x1, .int .i64 x2, .bool g] 37) := Wire.Bk.new _ _ _
            have HKS : Hid (Wire.Bk (wr.alloc (.cells #[.int .i64 x0, .int .i64 x1, .int .i64 x2, .bool g] 37)) w.heap.size #[.int .i64 b, .int .i64 d] 25) := KS.out.keep HW0.out
            clear c0 c1 c2 c3
            generalize wr.alloc (.cells #[.int .i64 x0, .int .i64 x1, .int .i64 x2, .bool g] 37) = W at *
            have zs := Wire.Bk.lt HKS.out
            have zr := Wire.Bk.lt HKR.out
            have kc0 : ∀ p : Kin W.heap.size W, p.v.cell? ⟨w.heap.size, 0, none⟩ = some (.int .i64 b) := kin_cell zs (HKS.out.cell 0)
            have kc1 : ∀ p : Kin W.heap.size W, p.v.cell? ⟨w.heap.size, 1, none⟩ = some (.int .i64 d) := kin_cell zs (HKS.out.cell 1)
            have kr0 : ∀ p : Kin W.heap.size W, p.v.cell? ⟨wr.heap.size, 0, none⟩ = some (.int .i64 x0) := kin_cell zr (HKR.out.cell 0)
            have kr1 : ∀ p : Kin W.heap.size W, p.v.cell? ⟨wr.heap.size, 1, none⟩ = some (.int .i64 x1) := kin_cell zr (HKR.out.cell 1)
            have kr2 : ∀ p : Kin W.heap.size W, p.v.cell? ⟨wr.heap.size, 2, none⟩ = some (.int .i64 x2) := kin_cell zr (HKR.out.cell 2)
            have kr3 : ∀ p : Kin W.heap.size W, p.v.cell? ⟨wr.heap.size, 3, none⟩ = some (.bool g) := kin_cell zr (HKR.out.cell 3)
            have kp0 : ∀ p : Kin W.heap.size W, p.v.cell? ⟨bk, off + (k - 1) * 4, none⟩ = some (.int .i64 px) := kin_cell (Nat.lt_of_lt_of_le HPL.out HW0.out.size) ((World.cell?_of_block (a := ⟨bk, off + (k - 1) * 4, none⟩) (HW0.out.block bk HPL.out)).trans HPC.out)
            refine region_kin W.heap.size (by kernel_rfl) (by kernel_rfl) (fun hne => ?_)
            repeat (go_big_quiet_step ((go_at_call 57; exact kin_of (Nat.le_refl _) (CR _))))
            refine wpQuiet_nil ?_
            intro w2 hw'
            obtain ⟨⟨w9, hw9⟩, hw''⟩ := hw'
            obtain rfl : w2 = w9 := hw''
            have HB2 : Hid (Below w.heap.size w w2) := belt HB.out (belt HW0.out hw9)
            have KS2 : Hid (Wire.Bk w2 w.heap.size #[.int .i64 b, .int .i64 d] 25) := HKS.out.keep hw9
            clear kc0 kc1 kr0 kr1 kr2 kr3 kp0 hne hw9 HW0 HKS HKR KS HB
            obtain ⟨s0, s1⟩ := Wire.Bk.c2 KS2.out
            have HS1 : Hid (∀ i, i < k + 1 → tokB b d ms i = true) := fun i hi => by
              by_cases hik : i = k
              · subst hik; rw [HT.out]; rw [HN.out, HP.out]; simp
              · exact HS.out i (by omega)
            clear HT HPC0
            go_wp2
            go_roundw
            case rel => exact ⟨k + 1, by omega, by go_num, HS1, HB2, KS2⟩
            case measure => simp [intOf]; omega
          ·
            have HP : Hid (decide (px < x0) = false) := decide_eq_false hpx
            have hpd : decide (x0 ≤ px) = true := decide_eq_true (by omega)
            clear hpx
            go_wp2_with fail
            have HW0 : Hid (Below wr.heap.size wr (wr.alloc (.cells #[.int .i64 x0, .int .i64 x1, .int .i64 x2, .bool g] 37))) := belA _ _
            have HKR : Hid (Wire.Bk (wr.alloc (.cells #[.int .i64 x0, .int .i64 x1, .int .i64 x2, .bool g] 37)) wr.heap.size #[.int .i64 x0, .int .i64 x1, .int .i64 x2, .bool g] 37) := Wire.Bk.new _ _ _
            have HKS : Hid (Wire.Bk (wr.alloc (.cells #[.int .i64 x0, .int .i64 x1, .int .i64 x2, .bool g] 37)) w.heap.size #[.int .i64 b, .int .i64 d] 25) := KS.out.keep HW0.out
            clear c0 c1 c2 c3
            generalize wr.alloc (.cells #[.int .i64 x0, .int .i64 x1, .int .i64 x2, .bool g] 37) = W at *
            have zs := Wire.Bk.lt HKS.out
            have zr := Wire.Bk.lt HKR.out
            have kc0 : ∀ p : Kin W.heap.size W, p.v.cell? ⟨w.heap.size, 0, none⟩ = some (.int .i64 b) := kin_cell zs (HKS.out.cell 0)
            have kc1 : ∀ p : Kin W.heap.size W, p.v.cell? ⟨w.heap.size, 1, none⟩ = some (.int .i64 d) := kin_cell zs (HKS.out.cell 1)
            have kr0 : ∀ p : Kin W.heap.size W, p.v.cell? ⟨wr.heap.size, 0, none⟩ = some (.int .i64 x0) := kin_cell zr (HKR.out.cell 0)
            have kr1 : ∀ p : Kin W.heap.size W, p.v.cell? ⟨wr.heap.size, 1, none⟩ = some (.int .i64 x1) := kin_cell zr (HKR.out.cell 1)
            have kr2 : ∀ p : Kin W.heap.size W, p.v.cell? ⟨wr.heap.size, 2, none⟩ = some (.int .i64 x2) := kin_cell zr (HKR.out.cell 2)
            have kr3 : ∀ p : Kin W.heap.size W, p.v.cell? ⟨wr.heap.size, 3, none⟩ = some (.bool g) := kin_cell zr (HKR.out.cell 3)
            have kp0 : ∀ p : Kin W.heap.size W, p.v.cell? ⟨bk, off + (k - 1) * 4, none⟩ = some (.int .i64 px) := kin_cell (Nat.lt_of_lt_of_le HPL.out HW0.out.size) ((World.cell?_of_block (a := ⟨bk, off + (k - 1) * 4, none⟩) (HW0.out.block bk HPL.out)).trans HPC.out)
            refine region_kin W.heap.size (by kernel_rfl) (by kernel_rfl) (fun hne => ?_)
            repeat (go_big_quiet_step ((go_at_call 57; exact kin_of (Nat.le_refl _) (CR _))))
            refine wpQuiet_nil ?_
            intro w2 hw'
            obtain ⟨⟨w9, hw9⟩, hw''⟩ := hw'
            obtain rfl : w2 = w9 := hw''
            have HB2 : Hid (Below w.heap.size w w2) := belt HB.out (belt HW0.out hw9)
            have KS2 : Hid (Wire.Bk w2 w.heap.size #[.int .i64 b, .int .i64 d] 25) := HKS.out.keep hw9
            clear kc0 kc1 kr0 kr1 kr2 kr3 kp0 hne hw9 HW0 HKS HKR KS HB
            obtain ⟨s0, s1⟩ := Wire.Bk.c2 KS2.out
            have HV : Hid (goodT b d ms = false) := goodT_no hlt (by rw [HT.out]; rw [HP.out, HK0.out]; simp)
            clear HT HPC0
            go_wp2
            go_ret
            exact ⟨ret_bool HV.out.symm, HB2.out⟩
    · have HE : Hid (goodT b d ms = true) := by
        unfold Hid
        rw [goodT_yes (fun i hi => HS.out i (by omega)), HG.out, decide_eq_true H8.out]
        rfl
      go_wp2
      go_ret
      exact ⟨ret_bool HE.out.symm, HB.out⟩
theorem lGoodTable_own (b d : Int) (a : Option Addr) (cap n : Nat) (ms : List Rw) (w : World) (hn : ms.length = n) (hm : n ≤ 1048576) (hr : LsAt tyRw w a ms) :
    Calls Try.prog 19 #[.agg #[.int .i64 b, .int .i64 d], .slice a n cap] w fun e w' => e = .returned (.bool (goodT b d ms)) ∧ Below w.heap.size w w' := by
  subst hn
  exact lGoodTable_any b d a cap ms w (by unfold maxLen; omega) hr
theorem GoodTable_own (b d : Int) (a : Option Addr) (cap n : Nat) (ms : List Rw) (w : World) (hn : ms.length = n) (hm : n ≤ 1048576) (hr : LsAt tyRw w a ms) :
    Calls Try.prog 18 #[.agg #[.int .i64 b, .int .i64 d], .slice a n cap] w fun e w' => e = .returned (.bool (goodT b d ms)) ∧ Below w.heap.size w w' := by
  subst hn
  exact GoodTable_any b d a cap _ ms w rfl (by unfold maxLen; omega) hr
end Go.Proofs.Ytpgngfdhnoonjaa.Tb
