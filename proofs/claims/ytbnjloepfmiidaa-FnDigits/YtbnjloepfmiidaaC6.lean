/- What is drawn for OverlapOf: a space and two numbers, the second often shifted from the first. -/
import Derived.Test.YtbnjloepfmiidaaC4
import Derived.Test.YtbnjloepfmiidaaK0
namespace Go.Proofs.Ytbnjloepfmiidaa
open Go.RowKit
set_option linter.unusedVariables false

theorem DrSt.more {w wr : World} {n m q : Nat} {a : Option Addr} {cap : Nat} {zs : List Int} {b d : Int} (h : DrSt w wr n q a cap zs b d) (hm : n ≤ m) : DrSt w wr m q a cap zs b d := ⟨h.bel, h.cur.more hm, h.q0, h.q1, h.r, h.lo, h.hi⟩
set_option maxHeartbeats 3200000 in
theorem drawOver_any (a : Option Addr) (cap : Nat) (zs : List Int) (w : World) (hm : zs.length ≤ 1048576) (hr : RowB w a zs) :
    Calls Try.prog 24 #[.slice a zs.length cap] w fun e w' => ∃ b d x y : Int, e = .returned (.tuple #[.agg #[.int .i64 b, .int .i64 d], .int .i64 x, .int .i64 y]) ∧ Below w.heap.size w w' := by
  have hc0 := cur_new (cap := cap) hr hm ((Below.refl _ _).alloc (Nat.le_refl _) (.cells #[.int .i64 0, .int .i64 0] 25))
  have HC0 : Hid _ := hc0
  clear hc0
  go_enter Try.func24, Try.ntmps24
  go_wp2_with fail
  refine (space_any _ _ _ _ _ _ (by simpa using HC0.out) (by omega)).mono ?_
  rintro e w1 ⟨b, d, rfl, b1, b2, d1, d2, mv1, hc1⟩
  have st0 := drSt_init (b := b) (d := d) mv1 hc1
  have hlo := st0.lo
  have k0 := st0.q0
  have k1 := st0.q1
  go_wp2_with fail
  refine (num_any _ _ _ _ _ _ _ _ st0.cur (by omega)).mono ?_
  rintro e wa ⟨xa, rfl, xa1, xa2, mva, hca⟩
  have sta := st0.step mva hca
  clear k0 k1
  have k0 := sta.q0
  have k1 := sta.q1
  go_wp2_with fail
  refine (num_any _ _ _ _ _ _ _ _ sta.cur (by omega)).mono ?_
  rintro e wb ⟨xb, rfl, xb1, xb2, mvb, hcb⟩
  have stb := sta.step mvb hcb
  clear k0 k1
  go_wp2_with fail
  refine (one_any _ _ _ _ _ _ _ stb.cur (by omega) (by omega) (by omega)).mono ?_
  rintro e wc ⟨vo, rfl, mvc, hcc⟩
  have stc := stb.step mvc hcc
  clear st0 sta stb
  cases vo
  ·
    have k0 := stc.q0
    have k1 := stc.q1
    obtain ⟨r0, r1, r2, r3⟩ := stc.res
    go_wp2
    have e0 := (cell_of_row _ _ 0 _ _ _ (stc.res_end (.int .i64 b) (.int .i64 d))).trans rfl
    have e1 := (cell_of_row _ _ 1 _ _ _ (stc.res_end (.int .i64 b) (.int .i64 d))).trans rfl
    exact bodyPost_ret (v := .tuple #[.agg #[.int .i64 b, .int .i64 d], .int .i64 xa, .int .i64 xb]) (by simp [results, Try.results24, go_sem, e0, e1]) rfl ⟨b, d, _, _, rfl, stc.bel_end _ _⟩
  · cases hg : gsB b d
    ·
      have k0 := stc.q0
      have k1 := stc.q1
      go_wp2_with fail
      refine (lGoodSpace_any _ _ _).mono ?_
      rintro e wd ⟨rfl, hwd⟩
      have std := stc.keep hwd
      clear k0 k1 stc
      have k0 := std.q0
      have k1 := std.q1
      obtain ⟨r0, r1, r2, r3⟩ := std.res
      go_wp2
      have e0 := (cell_of_row _ _ 0 _ _ _ (std.res_end (.int .i64 b) (.int .i64 d))).trans rfl
      have e1 := (cell_of_row _ _ 1 _ _ _ (std.res_end (.int .i64 b) (.int .i64 d))).trans rfl
      exact bodyPost_ret (v := .tuple #[.agg #[.int .i64 b, .int .i64 d], .int .i64 xa, .int .i64 xb]) (by simp [results, Try.results24, go_sem, e0, e1]) rfl ⟨b, d, _, _, rfl, std.bel_end _ _⟩
    · cases hx : numB b d xa
      ·
        have hn := numsB_1 b d xa
        rw [hx] at hn
        have k0 := stc.q0
        have k1 := stc.q1
        go_wp2_with fail
        refine (lGoodSpace_any _ _ _).mono ?_
        rintro e wd ⟨rfl, hwd⟩
        have std := stc.keep hwd
        clear k0 k1 stc
        have k0 := std.q0
        have k1 := std.q1
        go_wp2_with fail
        refine (lnums_any b d _ _ _ [xa] _ (by simp [maxLen]) ?hl ?hc).mono ?_
        case hl => simp
        case hc =>
          intro i hi
          match i, hi with
          | 0, _ => simp
        rintro e we ⟨rfl, hwe⟩
        have ste := (std.keep ((Below.refl _ _).alloc (Nat.le_refl _) _)).keep hwe
        clear k0 k1 std
        have k0 := ste.q0
        have k1 := ste.q1
        obtain ⟨r0, r1, r2, r3⟩ := ste.res
        go_wp2
        have e0 := (cell_of_row _ _ 0 _ _ _ (ste.res_end (.int .i64 b) (.int .i64 d))).trans rfl
        have e1 := (cell_of_row _ _ 1 _ _ _ (ste.res_end (.int .i64 b) (.int .i64 d))).trans rfl
        exact bodyPost_ret (v := .tuple #[.agg #[.int .i64 b, .int .i64 d], .int .i64 xa, .int .i64 xb]) (by simp [results, Try.results24, go_sem, e0, e1]) rfl ⟨b, d, _, _, rfl, ste.bel_end _ _⟩
      ·
        have hn := numsB_1 b d xa
        rw [hx] at hn
        have k0 := stc.q0
        have k1 := stc.q1
        go_wp2_with fail
        refine (lGoodSpace_any _ _ _).mono ?_
        rintro e wd ⟨rfl, hwd⟩
        have std := stc.keep hwd
        clear k0 k1 stc
        have k0 := std.q0
        have k1 := std.q1
        go_wp2_with fail
        refine (lnums_any b d _ _ _ [xa] _ (by simp [maxLen]) ?hl ?hc).mono ?_
        case hl => simp
        case hc =>
          intro i hi
          match i, hi with
          | 0, _ => simp
        rintro e we ⟨rfl, hwe⟩
        have ste := (std.keep ((Below.refl _ _).alloc (Nat.le_refl _) _)).keep hwe
        clear k0 k1 std
        obtain ⟨_, x1, x2⟩ := numB_true hx
        obtain ⟨hb1, hb2, hd1, hd2, h5⟩ := gsB_true hg
        clear h5
        have hd3 : d ≤ 12 := by omega
        obtain ⟨hs3, hs4⟩ := sz_bd hd1 hd3
        obtain ⟨hs1, hs2⟩ := sz_bd hb1 hb2
        go_wp2_with fail
        refine (pick_any _ _ _ _ _ _ _ ste.cur (by omega) (by omega) (by omega)).mono ?_
        rintro e wf ⟨vj, rfl, p1, p2, mvf, hcf⟩
        have stf := ste.step mvf hcf
        clear ste
        obtain ⟨j0, rfl⟩ := Int.eq_ofNat_of_zero_le p1
        have stg : DrSt w wf (60 - 2 * j0) _ a cap zs b d := stf.more (by omega)
        clear stf
        go_wp2_with fail
        go_loopw [8, 9] (fun vk vn wr => ∃ (j : Nat) (kk : Int), j ≤ 3 ∧ vn = .int .i64 j ∧ vk = .int .i64 kk ∧ 0 ≤ kk ∧ kk < sz b ∧ DrSt w wr (60 - 2 * j) w1.heap.size a cap zs b d) (fun _ vn _ => (intOf vn).toNat)
        case atStart => exact ⟨j0, xa, by omega, rfl, rfl, x1, x2, stg⟩
        case round =>
          obtain ⟨j, kk, hj, rfl, rfl, kk1, kk2, st⟩ := hrel
          clear stg
          by_cases hz : j = 0
          · subst hz
            have k0 := st.q0
            have k1 := st.q1
            obtain ⟨r0, r1, r2, r3⟩ := st.res
            go_wp2
            have e0 := (cell_of_row _ _ 0 _ _ _ (st.res_end (.int .i64 b) (.int .i64 d))).trans rfl
            have e1 := (cell_of_row _ _ 1 _ _ _ (st.res_end (.int .i64 b) (.int .i64 d))).trans rfl
            exact bodyPost_ret (v := .tuple #[.agg #[.int .i64 b, .int .i64 d], .int .i64 xa, .int .i64 kk]) (by simp [results, Try.results24, go_sem, e0, e1]) rfl ⟨b, d, _, _, rfl, st.bel_end _ _⟩
          · have hz0 : 0 < j := by omega
            have sth := st.keep ((Below.refl _ _).drew)
            go_wp2_with fail
            go_region_held (fun w' => w'.cell? ⟨w1.heap.size, 0, none⟩ = some (.int .i64 b) ∧ w'.cell? ⟨w1.heap.size, 1, none⟩ = some (.int .i64 d)) (first | exact ⟨sth.q0, sth.q1⟩ | exact ⟨st1.q0, st1.q1⟩ | exact ⟨st2.q0, st2.q1⟩ | exact ⟨st3.q0, st3.q1⟩) (first | (go_at_call 55; refine (lbase_any _ _ _ hd1 hd3).mono ?_; rintro e wx ⟨rfl, hwx⟩; have st1 := sth.keep hwx) | (go_at_call 48; refine (pick_any _ _ _ _ _ _ _ st1.cur (by omega) (by omega) (by omega)).mono ?_; rintro e wy ⟨xg, rfl, xg1, xg2, mvy, hcy⟩; have st2 := st1.step mvy hcy) | (go_at_call 54; refine (lshift_any _ _ _ _ _ hb1 hb2 hd1 hd3 kk1 kk2 xg1 xg2).mono ?_; rintro e wz ⟨rfl, hwz⟩; have st3 := st2.keep hwz))
            clear st sth st1 st2
            obtain ⟨f1, f2⟩ := shf_bd d kk xg hb1 hb2
            go_wp2
            go_roundw
            case rel => exact ⟨j - 1, _, by omega, by first | go_num | (congr 1; omega), rfl, f1, f2, st3.more (by omega)⟩
            case measure => simp [intOf]; omega
end Go.Proofs.Ytbnjloepfmiidaa
