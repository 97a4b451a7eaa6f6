/- What is drawn of chapter 4: a space and numbers for BestImag. -/
import Derived.Test.YtejajlloipkkhaaH5
import Derived.Test.YtejajlloipkkhaaG4Z
namespace Go.Proofs.Ytejajlloipkkhaa
open Go.RowKit Go.Deep
set_option linter.unusedVariables false
set_option maxRecDepth 100000 in
set_option maxHeartbeats 1600000 in
theorem drawBestImag_any (a : Option Addr) (cap : Nat) (zs : List Int) (w : World) (hm : zs.length ≤ 1048576) (hr : RowB w a zs) :
    Calls Try.prog 33 #[.slice a zs.length cap] w fun e w' => ∃ b d f t k : Int, e = .returned (.tuple #[.agg #[.int .i64 b, .int .i64 d], .int .i64 f, .int .i64 t, .int .i64 k]) ∧ Below w.heap.size w w' := by
  have hc0 := cur_new (cap := cap) hr hm ((Below.refl _ _).alloc (Nat.le_refl _) (.cells #[.int .i64 0, .int .i64 0] 25))
  have HC0 : Hid (CurAt ((w.alloc (.cells #[.int .i64 0, .int .i64 0] 25)).alloc (.cells #[.slice a zs.length cap, .int .i64 0, .int .u64 0] 85)) (w.alloc (.cells #[.int .i64 0, .int .i64 0] 25)).heap.size 0 a cap zs) := hc0
  clear hc0 hr
  go_enter Try.func33, Try.ntmps33
  go_wp2_with fail
  refine (space_any _ _ _ _ _ _ (by simpa using HC0.out) (by omega)).mono ?_
  rintro e w1 ⟨b, d, rfl, b1, b2, d1, d2, mv1, hc1⟩
  have D1 : Hid (DrSt w (w1.alloc (.cells #[.int .i64 b, .int .i64 d] 25)) 12 w1.heap.size a cap zs b d) := drSt_init mv1 (by simpa using hc1)
  clear mv1 hc1 HC0
  go_upto_region 3 with (fail)
  generalize w1.alloc (.cells #[.int .i64 b, .int .i64 d] 25) = w2 at *
  generalize w1.heap.size = q at *
  obtain ⟨q0, q1⟩ : _ ∧ _ := ⟨D1.out.q0, D1.out.q1⟩
  go_wp2_with fail
  refine (num_any _ _ _ _ _ _ _ _ D1.out.cur (by omega)).mono ?_
  rintro e w3 ⟨x, rfl, x1, x2, mv3, hc3⟩
  have D3 : Hid (DrSt w w3 16 q a cap zs b d) := D1.out.step mv3 hc3
  clear mv3 hc3 q0 q1 D1
  obtain ⟨q0, q1⟩ : _ ∧ _ := ⟨D3.out.q0, D3.out.q1⟩
  go_wp2_with fail
  refine (num_any _ _ _ _ _ _ _ _ D3.out.cur (by omega)).mono ?_
  rintro e w4 ⟨y, rfl, y1, y2, mv4, hc4⟩
  have D4 : Hid (DrSt w w4 20 q a cap zs b d) := D3.out.step mv4 hc4
  clear mv4 hc4 q0 q1 D3
  go_wp2_with fail
  refine (one_any _ _ _ _ _ _ _ D4.out.cur (by omega) (by omega) (by omega)).mono ?_
  rintro e w5 ⟨o5, rfl, mv5, hc5⟩
  have D5 : Hid (DrSt w w5 22 q a cap zs b d) := D4.out.step mv5 hc5
  clear mv5 hc5 D4
  cases o5
  · skip
    have sta := D5.out.keep ((Below.refl _ _).drew)
    have hlo := D5.out.lo
    obtain ⟨q0, q1⟩ : _ ∧ _ := ⟨D5.out.q0, D5.out.q1⟩
    go_wp2_with fail
    go_region_held (fun w' => w'.cell? ⟨q, 0, none⟩ = some (.int .i64 b) ∧ w'.cell? ⟨q, 1, none⟩ = some (.int .i64 d)) (with_reducible (first | exact ⟨sta.q0, sta.q1⟩ | exact ⟨stb.q0, stb.q1⟩ | exact stb.cells_end _ _)) ((go_at_call 73; refine (num_any _ _ _ _ _ _ _ _ sta.cur (by omega)).mono ?_; rintro e wz ⟨xz, rfl, xa1, xa2, mva, hca⟩; have stb := sta.step mva hca; obtain ⟨r0, r1, r2, r3⟩ := stb.res))
    go_wp2_with fail
    have hrow := stb.res_end (.int .i64 b) (.int .i64 d)
    exact bodyPost_ret (res_c3 Try.results33 _ _ w.heap.size _ _ _ _ _ _ _ rfl rfl rfl rfl hrow Try.underlying25 rfl (by kernel_rfl)) rfl ⟨b, d, x, y, xz, rfl, stb.bel_end _ _⟩
  · obtain ⟨q0, q1⟩ : _ ∧ _ := ⟨D5.out.q0, D5.out.q1⟩
    have CN := lnums1 b d x w5
    go_wp2_with fail
    refine CN.mono ?_
    rintro e w6 ⟨rfl, hb6⟩
    have D6 : Hid (DrSt w w6 22 q a cap zs b d) := D5.out.keep hb6
    clear CN hb6 q0 q1 D5
    cases hnx : numB b d x
    · skip
      have sta := D6.out.keep ((Below.refl _ _).drew)
      have hlo := D6.out.lo
      obtain ⟨q0, q1⟩ : _ ∧ _ := ⟨D6.out.q0, D6.out.q1⟩
      go_wp2_with fail
      go_region_held (fun w' => w'.cell? ⟨q, 0, none⟩ = some (.int .i64 b) ∧ w'.cell? ⟨q, 1, none⟩ = some (.int .i64 d)) (with_reducible (first | exact ⟨sta.q0, sta.q1⟩ | exact ⟨stb.q0, stb.q1⟩ | exact stb.cells_end _ _)) ((go_at_call 73; refine (num_any _ _ _ _ _ _ _ _ sta.cur (by omega)).mono ?_; rintro e wz ⟨xz, rfl, xa1, xa2, mva, hca⟩; have stb := sta.step mva hca; obtain ⟨r0, r1, r2, r3⟩ := stb.res))
      go_wp2_with fail
      have hrow := stb.res_end (.int .i64 b) (.int .i64 d)
      exact bodyPost_ret (res_c3 Try.results33 _ _ w.heap.size _ _ _ _ _ _ _ rfl rfl rfl rfl hrow Try.underlying25 rfl (by kernel_rfl)) rfl ⟨b, d, x, y, xz, rfl, stb.bel_end _ _⟩
    · obtain ⟨hgs, z1, z2⟩ := numB_true hnx
      obtain ⟨hb1, hb2, _, _, _⟩ := gsB_true hgs
      have hsz := sz_bd hb1 hb2
      obtain ⟨q0, q1⟩ : _ ∧ _ := ⟨D6.out.q0, D6.out.q1⟩
      have sta := D6.out.keep ((Below.refl _ _).drew)
      go_upto_if 28 with (fail)
      go_cut [9] (fun v9 wc => ∃ y : Int, v9 = .int .i64 y ∧ Hid (DrSt w wc 24 q a cap zs b d))
      case first =>
        go_wp2_with fail
        go_region_held (fun w' => w'.cell? ⟨q, 0, none⟩ = some (.int .i64 b) ∧ w'.cell? ⟨q, 1, none⟩ = some (.int .i64 d)) (with_reducible (first | exact ⟨sta.q0, sta.q1⟩ | exact ⟨stb.q0, stb.q1⟩ | exact ⟨stc.q0, stc.q1⟩ | exact ⟨std.q0, std.q1⟩)) (first | (go_at_call 75; refine (pick_any _ _ _ _ _ _ _ sta.cur (by omega) (by omega) (by omega)).mono ?_; rintro e wa ⟨xa, rfl, xa1, xa2, mva, hca⟩; have stb := sta.step mva hca) | (go_at_call 75; refine (pick_any _ _ _ _ _ _ _ stc.cur (by omega) (by omega) (by omega)).mono ?_; rintro e wa ⟨xa, rfl, xa1, xa2, mva, hca⟩; have std := stc.step mva hca) | (go_at_call 76; refine (lsize_any b d _ (by omega) (by omega)).mono ?_; rintro e wb ⟨rfl, hbb⟩; have stc := sta.keep hbb) | (go_at_call 76; refine (lsize_any b d _ (by omega) (by omega)).mono ?_; rintro e wb ⟨rfl, hbb⟩; have std := stb.keep hbb))
        all_goals (go_wp2_with fail)
        all_goals go_meet
        all_goals exact ⟨_, rfl, std⟩
      case rest =>
      clear y y1 y2 sta D6
      obtain ⟨y, rfl, D7⟩ := hcut
      have sta := D7.out.keep ((Below.refl _ _).drew)
      have hlo := D7.out.lo
      obtain ⟨q0, q1⟩ : _ ∧ _ := ⟨D7.out.q0, D7.out.q1⟩
      go_wp2_with fail
      go_region_held (fun w' => w'.cell? ⟨q, 0, none⟩ = some (.int .i64 b) ∧ w'.cell? ⟨q, 1, none⟩ = some (.int .i64 d)) (with_reducible (first | exact ⟨sta.q0, sta.q1⟩ | exact ⟨stb.q0, stb.q1⟩ | exact stb.cells_end _ _)) ((go_at_call 73; refine (num_any _ _ _ _ _ _ _ _ sta.cur (by omega)).mono ?_; rintro e wz ⟨xz, rfl, xa1, xa2, mva, hca⟩; have stb := sta.step mva hca; obtain ⟨r0, r1, r2, r3⟩ := stb.res))
      go_wp2_with fail
      have hrow := stb.res_end (.int .i64 b) (.int .i64 d)
      exact bodyPost_ret (res_c3 Try.results33 _ _ w.heap.size _ _ _ _ _ _ _ rfl rfl rfl rfl hrow Try.underlying25 rfl (by kernel_rfl)) rfl ⟨b, d, x, y, xz, rfl, stb.bel_end _ _⟩
end Go.Proofs.Ytejajlloipkkhaa
