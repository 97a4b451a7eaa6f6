/- The best number to begin with, on both sides. -/
import Derived.Test.YtejajlloipkkhaaN3
import Derived.Test.YtejajlloipkkhaaA8
import Derived.Test.YtejajlloipkkhaaR1
import Derived.Deep.DeepCutAuto
namespace Go.Proofs.Ytejajlloipkkhaa
open Go.RowKit
set_option linter.unusedVariables false
theorem ndbd {b d n : Int} (hg : gsB b d = true) (n1 : 0 ≤ n) (n2 : n ≤ b / d) : 0 ≤ n * d ∧ n * d ≤ 12 := by
  obtain ⟨h1, h2, h3, _, _⟩ := gsB_true hg
  refine ⟨Int.mul_nonneg n1 (by omega), ?_⟩
  have := Int.mul_le_mul_of_nonneg_right n2 (show 0 ≤ d by omega)
  rw [bits_eq hg] at this
  omega
theorem sz_nd {x : Int} (h1 : 0 ≤ x) (h2 : x ≤ 12) : 1 ≤ sz x ∧ sz x ≤ 4096 := by
  by_cases h : x = 0
  · subst h; decide
  · have := sz_bd (b := x) (by omega) h2; omega
theorem ret_two {x y a b : Int} (h1 : x = a) (h2 : y = b) : Ending.returned (.tuple #[.int .i64 x, .int .i64 y]) = .returned (.tuple #[.int .i64 a, .int .i64 b]) := by rw [h1, h2]
theorem dist_zero {b f t : Int} (f1 : 0 ≤ f) (f2 : f < sz b) (t1 : 0 ≤ t) (t2 : t < sz b) : dist b f t = 0 ↔ f = t := by
  rw [dist_eq f1 f2 t1 t2]
  split <;> omega
theorem rnd_dist {b f t : Int} (f1 : 0 ≤ f) (f2 : f < sz b) (t1 : 0 ≤ t) (t2 : t < sz b) : rnd b f t = if dist b f t = 0 then sz b else dist b f t := by
  unfold rnd
  by_cases h : f = t
  · rw [if_pos h, if_pos ((dist_zero f1 f2 t1 t2).2 h)]
  · rw [if_neg h, if_neg (fun hh => h ((dist_zero f1 f2 t1 t2).1 hh))]
set_option maxHeartbeats 1600000 in
theorem lbest_any (b d f t k : Int) (w : World) (hg : gsB b d = true) (f1 : 0 ≤ f) (f2 : f < sz b) (t1 : 0 ≤ t) (t2 : t < sz b) (k1 : 0 ≤ k) (k2 : k < sz b) :
    Calls Try.prog 78 #[.agg #[.int .i64 b, .int .i64 d], .int .i64 f, .int .i64 t, .int .i64 k] w fun e w' => e = .returned (.tuple #[.int .i64 (bestI b d f t k).1, .int .i64 (bestI b d f t k).2]) ∧ Below w.heap.size w w' := by
  obtain ⟨hb1, hb2, hd1, hd2, _⟩ := gsB_true hg
  obtain ⟨hs1, hs2⟩ := sz_bd hb1 hb2
  obtain ⟨hq, q1, q2⟩ := cnt_bd hb1 hb2 hd1 hd2
  have hr := rnd_dist f1 f2 t1 t2
  generalize hR : bestI b d f t k = R
  have HR : Hid (bestI b d f t k = R) := hR
  clear hR
  go_enter Try.func78, Try.ntmps78
  go_wp2_with fail
  refine (ldist_any _ _ _ _ _ hb1 hb2 f1 f2 t1 t2).mono ?_
  rintro e w1 ⟨rfl, hw1⟩
  have BX1 : Hid (BoxAt w w1 b d) := boxAt1 hw1 (by simp)
  clear hw1
  go_upto_if 26 with (fail)
  go_cut [11] (fun v11 wc => v11 = .int .i64 (rnd b f t) ∧ Hid (BoxAt w wc b d))
  case first =>
    obtain ⟨_, c0, c1, _⟩ := BX1.out
    by_cases h0 : dist b f t = 0
    · rw [if_pos h0] at hr
      go_wp2_with fail
      refine (lsize_any _ _ _ hb1 hb2).mono ?_
      rintro e w2 ⟨rfl, hw2⟩
      go_wp2_with fail
      go_meet
      exact ⟨by rw [hr], BX1.out.keep hw2⟩
    · rw [if_neg h0] at hr
      go_wp2_with fail
      go_meet
      exact ⟨by rw [hr], BX1⟩
  case rest =>
    obtain ⟨rfl, BX2⟩ := hcut
    clear BX1 hr
    obtain ⟨m2, m1⟩ := rnd_pos hb1 f1 f2 t1 t2
    have HG : Hid (gsB b d = true) := hg
    have HB : Hid (R = best b d f (rnd b f t) k (cnt b d)) := HR.out.symm
    generalize rnd b f t = m at *
    clear hg
    go_wp2_with fail
    go_loop [12] (fun v => ∃ (j : Nat) (n : Int), n = (j : Int) ∧ j ≤ cnt b d ∧ v = .int .i64 n ∧ Hid (R = best b d f m k j)) (fun v => (intOf v).toNat)
    case atStart => exact ⟨cnt b d, _, rfl, Nat.le_refl _, rfl, HB⟩
    case round =>
      obtain ⟨j, n, hn, hj, rfl, HI⟩ := hrel
      clear HB
      obtain ⟨_, c0, c1, _⟩ := BX2.out
      cases j with
      | zero =>
        obtain rfl : n = 0 := by omega
        clear hn
        go_wp2_with fail
        go_ret2
        exact ⟨ret_two (by rw [HI.out]; rfl) (by rw [HI.out]; exact hq.symm), BX2.out.bel⟩
      | succ j =>
        obtain ⟨nd1, nd2⟩ := ndbd HG.out (show 0 ≤ n by omega) (show n ≤ b / d by omega)
        obtain ⟨od1, od2⟩ := ndbd HG.out (show 0 ≤ b / d - n by omega) (show b / d - n ≤ b / d by omega)
        rw [hq] at od1 od2
        have HN : Hid (n = ((j + 1 : Nat) : Int)) := hn
        have n1 : 1 ≤ n := by omega
        have n2 : n ≤ 12 := by omega
        clear hn
        obtain ⟨x, hx⟩ : ∃ x, x = n * d := ⟨_, rfl⟩
        obtain ⟨y, hy⟩ : ∃ y, y = ((cnt b d : Int) - n) * d := ⟨_, rfl⟩
        have HX : Hid (x = n * d) := hx
        have HY : Hid (y = ((cnt b d : Int) - n) * d) := hy
        rw [← hx] at nd1 nd2
        rw [← hy] at od1 od2
        have hwx : wrap64 (n * d) = x := by rw [← hx]; exact IntWalk.wrap64_in x (by omega)
        have hwy : wrap64 (((cnt b d : Int) - n) * d) = y := by rw [← hy]; exact IntWalk.wrap64_in y (by omega)
        clear hx hy
        obtain ⟨p1, p2⟩ := sz_nd nd1 nd2
        have hP : wrap64 (2 ^ x.toNat) = sz x := IntWalk.wrap64_in (sz x) (by omega)
        have hK : k / 2 ^ y.toNat = k / sz y := rfl
        have K1 : 0 ≤ k / sz y := Int.ediv_nonneg k1 (Int.le_of_lt (sz_pos _))
        have K2 : k / sz y ≤ 4096 := Int.le_trans (Int.ediv_le_self _ k1) (by omega)
        go_upto_region 10 with (fail)
        simp only [hP]
        clear hP hK
        have HP : Hid (sz x = sz (n * d)) := by rw [← HX.out]; rfl
        have HK : Hid (k / sz y = k / sz (((cnt b d : Int) - n) * d)) := by rw [← HY.out]; rfl
        generalize sz x = P at *
        generalize k / sz y = K at *
        have g1 := Int.emod_nonneg f (show P ≠ 0 by omega)
        have g2 := Int.emod_lt_of_pos f (show 0 < P by omega)
        go_upto_region 11 with (fail)
        have HU : Hid (up4 b d f k n = (K - f % P + P) % P) := by unfold Hid up4; rw [hq, ← HP.out, ← HK.out]
        have u1 := Int.emod_nonneg (K - f % P + P) (show P ≠ 0 by omega)
        have u2 := Int.emod_lt_of_pos (K - f % P + P) (show 0 < P by omega)
        generalize (K - f % P + P) % P = U at *
        by_cases hu : U < m
        · have HV : Hid (R = ((f + U) % sz b, (cnt b d : Int) - n)) := by
            have h := HI.out
            unfold best at h
            rw [← HN.out, HU.out, if_pos hu, hq] at h
            exact h
          have hub : decide (U < m) = true := decide_eq_true hu
          go_wp2_with fail
          refine (lsize_any _ _ _ hb1 hb2).mono ?_
          rintro e w2 ⟨rfl, hw2⟩
          go_wp2_with fail
          go_ret2
          exact ⟨ret_two (by rw [HV.out]) (by rw [HV.out]), belt BX2.out.bel hw2⟩
        · have HV : Hid (R = best b d f m k j) := by
            have h := HI.out
            unfold best at h
            rw [← HN.out, HU.out, if_neg hu] at h
            exact h
          have hub : decide (U < m) = false := decide_eq_false hu
          go_wp2_with fail
          go_round
          case rel => exact ⟨j, _, by have := HN.out; omega, by omega, rfl, HV⟩
          case measure => simp [intOf]; omega
theorem up_eq {K f P S : Int} (h : P ∣ S) : (K - f + S) % P = (K - f % P + P) % P := by
  obtain ⟨q, rfl⟩ := h
  rw [Int.add_mul_emod_self_left, Int.add_emod_right, Int.sub_emod_emod]
set_option maxHeartbeats 1600000 in
theorem imagFrom_any (b d f t k : Int) (w : World) (hg : gsB b d = true) (f1 : 0 ≤ f) (f2 : f < sz b) (t1 : 0 ≤ t) (t2 : t < sz b) (k1 : 0 ≤ k) (k2 : k < sz b) :
    Calls Try.prog 77 #[.agg #[.int .i64 b, .int .i64 d], .int .i64 f, .int .i64 t, .int .i64 k] w fun e w' => e = .returned (.tuple #[.int .i64 (bestI b d f t k).1, .int .i64 (bestI b d f t k).2]) ∧ Below w.heap.size w w' := by
  obtain ⟨hb1, hb2, hd1, hd2, _⟩ := gsB_true hg
  obtain ⟨hs1, hs2⟩ := sz_bd hb1 hb2
  obtain ⟨hq, q1, q2⟩ := cnt_bd hb1 hb2 hd1 hd2
  obtain ⟨m2, m1⟩ := rnd_pos hb1 f1 f2 t1 t2
  generalize hR : bestI b d f t k = R
  have HB : Hid (R = best b d f (rnd b f t) k (cnt b d)) := hR.symm
  have HG : Hid (gsB b d = true) := hg
  have HRU := fun w => roundUp_any b d f t w hb1 hb2 f1 f2 t1 t2
  generalize rnd b f t = m at *
  clear hR hg
  go_enter Try.func77, Try.ntmps77
  go_wp2_with fail
  have BX2 : Hid (BoxAt w (w.alloc (.cells #[.int .i64 b, .int .i64 d] 25)) b d) := boxAt1 (N := w.heap.size + 1) (Below.refl _ _) (Nat.le_refl _)
  go_loopw [10] (fun v wr => ∃ (j : Nat) (l n : Int), l = (j : Int) ∧ n = (cnt b d : Int) - l ∧ j ≤ cnt b d ∧ v = .int .i64 l ∧ Hid (BoxAt w wr b d) ∧ Hid (R = best b d f m k (cnt b d - j))) (fun v _ => cnt b d + 1 - (intOf v).toNat)
  case atStart => exact ⟨0, _, _, rfl, rfl, by omega, rfl, BX2, HB⟩
  case round =>
    obtain ⟨j, l, n, hl, hn, hj, rfl, BX, HI⟩ := hrel
    clear HB BX2
    obtain ⟨_, c0, c1, _⟩ := BX.out
    obtain ⟨nd1, nd2⟩ := ndbd HG.out (show 0 ≤ n by omega) (show n ≤ b / d by omega)
    obtain ⟨od1, od2⟩ := ndbd HG.out (show 0 ≤ l by omega) (show l ≤ b / d by omega)
    have HN : Hid (l = (j : Int) ∧ n = (cnt b d : Int) - l) := ⟨hl, hn⟩
    have l1 : 0 ≤ l := by omega
    have l2 : l ≤ 12 := by omega
    have hpart : sz (n * d) * sz (l * d) = sz b := by
      have := sz_part HG.out (show 0 ≤ n by omega) (show n ≤ b / d by omega)
      rwa [show b / d - n = l by omega] at this
    clear hl hn
    obtain ⟨y, hy⟩ : ∃ y, y = l * d := ⟨_, rfl⟩
    have HY : Hid (y = l * d) := hy
    have hwy : wrap64 (l * d) = y := by rw [← hy]; exact IntWalk.wrap64_in y (by omega)
    rw [← hy] at od1 od2 hpart
    clear hy
    obtain ⟨p1, p2⟩ := sz_nd nd1 nd2
    have hP : sz b / 2 ^ y.toNat = sz (n * d) := by
      show sz b / sz y = _
      rw [← hpart]; exact Int.mul_ediv_cancel _ (by have := sz_pos y; omega)
    have HD : Hid (sz (n * d) ∣ sz b) := ⟨_, hpart.symm⟩
    have hK : k / 2 ^ y.toNat = k / sz y := rfl
    clear hpart
    have K1 : 0 ≤ k / sz y := Int.ediv_nonneg k1 (Int.le_of_lt (sz_pos _))
    have K2 : k / sz y ≤ 4096 := Int.le_trans (Int.ediv_le_self _ k1) (by omega)
    go_wp2_with fail
    refine (size_any _ _ _ hb1 hb2).mono ?_
    rintro e w2 ⟨rfl, hw2⟩
    have BX2 : Hid (BoxAt w w2 b d) := BX.out.keep hw2
    clear BX hw2 c0 c1
    obtain ⟨_, c0, c1, z2⟩ := BX2.out
    go_upto_region 5 with (fail)
    clear hP
    have HP : Hid (sz (n * d) = sz (n * d)) := rfl
    have HK : Hid (k / sz y = k / sz (l * d)) := by rw [← HY.out]; rfl
    obtain ⟨P, hP⟩ : ∃ P, P = sz (n * d) := ⟨_, rfl⟩
    clear HP
    have HP : Hid (P = sz (n * d)) := hP
    simp only [← hP] at p1 p2 HD ⊢
    clear hP
    have c0k : ∀ p : Kin w2.heap.size w2, p.v.cell? ⟨w.heap.size, 0, none⟩ = some (.int .i64 b) := kin_cell z2 c0
    have c1k : ∀ p : Kin w2.heap.size w2, p.v.cell? ⟨w.heap.size, 1, none⟩ = some (.int .i64 d) := kin_cell z2 c1
    refine region_kin w2.heap.size (by kernel_rfl) (by kernel_rfl) (fun hne => ?_)
    repeat (go_big_quiet_step ((go_at_call 82; exact kin_of (Nat.le_refl _) (size_any _ _ _ hb1 hb2))))
    refine wpQuiet_nil ?_
    intro w5 hw'
    obtain ⟨⟨w6, hw5⟩, hw''⟩ := hw'
    obtain rfl : w5 = w6 := hw''
    have BX5 : Hid (BoxAt w w5 b d) := BX2.out.keep hw5
    clear c0k c1k hne hw5 c0 c1 z2 BX2 hK
    have HU : Hid (up4 b d f k n = (k / sz y - f + sz b) % P) := by
      obtain ⟨h1, h2⟩ := HN.out
      unfold Hid up4
      rw [up_eq HD.out, HK.out, HP.out, hq, show (cnt b d : Int) - n = l by omega]
    have u1 := Int.emod_nonneg (k / sz y - f + sz b) (show P ≠ 0 by omega)
    have u2 := Int.emod_lt_of_pos (k / sz y - f + sz b) (show 0 < P by omega)
    generalize (k / sz y - f + sz b) % P = U at *
    obtain ⟨_, c0, c1, z5⟩ := BX5.out
    by_cases hu : U < m
    · have HV : Hid (R = ((f + U) % sz b, l)) := by
        obtain ⟨h1, h2⟩ := HN.out
        have h := HI.out
        by_cases hz : cnt b d - j = 0
        · rw [hz] at h
          unfold best at h
          have hn0 : n = 0 := by omega
          have hP := HP.out
          rw [hn0, Int.zero_mul, sz_zero] at hP
          have hU0 : U = 0 := by omega
          rw [hU0, Int.add_zero, Int.emod_eq_of_lt f1 f2]
          rw [hq, show (cnt b d : Int) = l by omega] at h
          exact h
        · obtain ⟨i, hi⟩ : ∃ i, cnt b d - j = i + 1 := ⟨cnt b d - j - 1, by omega⟩
          rw [hi] at h
          unfold best at h
          rw [show ((i + 1 : Nat) : Int) = n by omega, HU.out, if_pos hu, hq, show (cnt b d : Int) - n = l by omega] at h
          exact h
      go_wp2_with fail
      refine (HRU _).mono ?_
      rintro e w7 ⟨rfl, hw7⟩
      have BX7 : Hid (BoxAt w w7 b d) := BX5.out.keep hw7
      clear BX5 hw7 c0 c1
      obtain ⟨_, c0, c1, z7⟩ := BX7.out
      go_wp2_with fail
      refine (size_any _ _ _ hb1 hb2).mono ?_
      rintro e w8 ⟨rfl, hw8⟩
      go_wp2_with fail
      go_ret2
      exact ⟨ret_two (by rw [HV.out]) (by rw [HV.out]), belt BX7.out.bel hw8⟩
    · have HV : Hid (j < cnt b d ∧ R = best b d f m k (cnt b d - (j + 1))) := by
        obtain ⟨h1, h2⟩ := HN.out
        have h := HI.out
        have hz : ¬ cnt b d - j = 0 := fun hz => by
          have hn0 : n = 0 := by omega
          have hP := HP.out
          rw [hn0, Int.zero_mul, sz_zero] at hP
          omega
        obtain ⟨i, hi⟩ : ∃ i, cnt b d - j = i + 1 := ⟨cnt b d - j - 1, by omega⟩
        rw [hi] at h
        unfold best at h
        rw [show ((i + 1 : Nat) : Int) = n by omega, HU.out, if_neg hu] at h
        exact ⟨by omega, by rw [show cnt b d - (j + 1) = i by omega]; exact h⟩
      have hub : decide (U < m) = false := decide_eq_false hu
      go_wp2_with fail
      refine (HRU _).mono ?_
      rintro e w7 ⟨rfl, hw7⟩
      have BX7 : Hid (BoxAt w w7 b d) := BX5.out.keep hw7
      clear BX5 hw7 c0 c1
      obtain ⟨_, c0, c1, z7⟩ := BX7.out
      go_wp2_with fail
      go_roundw
      case rel =>
        obtain ⟨h1, h2⟩ := HN.out
        exact ⟨j + 1, _, _, by omega, rfl, HV.out.1, rfl, BX7, HV.out.2⟩
      case measure => have h := HN.out.1; have h2 := HV.out.1; simp [intOf]; omega
end Go.Proofs.Ytejajlloipkkhaa
