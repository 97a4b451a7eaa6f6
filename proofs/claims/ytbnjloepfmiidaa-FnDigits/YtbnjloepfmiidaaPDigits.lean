/- FnDigits: for all bytes that are drawn from, digits make the number again, and shifting in all digits of another one behind those that overlap makes that: no condition. -/
import Derived.Test.YtbnjloepfmiidaaK2
import Derived.Deep.DeepCutAuto
namespace Go.Proofs.Ytbnjloepfmiidaa
open Go.ChangeShapes Go.WideShapes Go.ChangeAt Go.RowKit
set_option linter.unusedVariables false

set_option maxRecDepth 100000 in
set_option maxHeartbeats 6400000 in
theorem wFnDigits (a a' : Option Addr) (cap cap' : Nat) (xs ys : List Int) (w : World) (hx : xs.length ≤ maxLen) (hy : ys.length ≤ maxLen) (hr1 : RowB w a xs) (hr2 : RowB w a' ys) :
    Calls Try.prog 4 #[.slice a xs.length cap, .slice a' ys.length cap'] w fun e w' => e = .returned (.bool true) ∧ Below w.heap.size w w' := by
  have HX : Hid (xs.length ≤ maxLen) := hx
  have HY : Hid (ys.length ≤ maxLen) := hy
  have HR1 : Hid (RowB w a xs) := hr1
  have HR2 : Hid (RowB w a' ys) := hr2
  clear hx hy hr1 hr2
  cases hbig : bigB xs.length ys.length
  · have hnb := of_decide_eq_false hbig
    have hm1 : xs.length ≤ 1048576 := by omega
    have hm2 : ys.length ≤ 1048576 := by omega
    clear hnb
    go_enter Try.func4, Try.ntmps4
    go_wp2_with fail
    refine (big_any _ _ _ _ _ _ _ HX.out HY.out).mono ?_
    rintro e w0 ⟨rfl, hw0⟩
    replace hw0 := hw0.symm
    subst hw0
    go_wp2_with fail
    refine (drawOver_any _ _ xs _ hm1 HR1.out).mono ?_
    rintro e w1 ⟨b, d, x, k, rfl, gb1⟩
    go_wp2_with fail
    refine (DigitsOf_row _ _ _ _).mono ?_
    rintro e w2 ⟨a2, cap2, rfl, hw2, row2⟩
    obtain ⟨s20, s21, y2⟩ := keep2 (bk := w1.heap.size) (u := .int .i64 b) (v := .int .i64 d) hw2 (by simp; try omega) (by simp) (by simp)
    have gb2 := belt gb1 (bel1 hw2 (by simp; try omega))
    have R2 : Hid (RowAt w2 a2 (dL b d x)) := row2
    clear row2
    go_wp2_with fail
    refine (lDigitsOf_row _ _ _ _).mono ?_
    rintro e w3 ⟨a3, cap3, rfl, hw3, row3⟩
    obtain ⟨s30, s31, y3⟩ := keep2 hw3 y2 s20 s21
    have gb3 := belt gb2 hw3
    have R3 : Hid (RowAt w3 a3 (dL b d x)) := row3
    clear row3
    go_wp2_with fail
    refine (OverlapOf_any _ _ _ _ _).mono ?_
    rintro e w4 ⟨rfl, hw4⟩
    obtain ⟨s40, s41, y4⟩ := keep2 hw4 y3 s30 s31
    have gb4 := belt gb3 hw4
    go_wp2_with fail
    refine (lOverlapOf_any _ _ _ _ _).mono ?_
    rintro e w5 ⟨rfl, hw5⟩
    obtain ⟨s50, s51, y5⟩ := keep2 hw5 y4 s40 s41
    have gb5 := belt gb4 hw5
    have hsm : sameB (dL b d x) (dL b d x) = true := decide_eq_true rfl
    have LE : Hid ((dL b d x).length ≤ maxLen) := by
      show _ ≤ _
      have := dL_le (b := b) (d := d) (x := x)
      unfold maxLen; omega
    have Q2 : Hid (RowAt w5 a2 (dL b d x)) := ((RowAt.keep R2.out hw3).keep hw4).keep hw5
    have Q3 : Hid (RowAt w5 a3 (dL b d x)) := (RowAt.keep R3.out hw4).keep hw5
    go_wp2_with fail
    refine (sameInts_any _ _ _ _ _ _ (dL b d x) (dL b d x) _ LE.out rfl rfl Q2.out Q3.out).mono ?_
    rintro e w6 ⟨rfl, hw6⟩
    obtain ⟨s60, s61, y6⟩ := keep2 hw6 y5 s50 s51
    have gb6 := belt gb5 hw6
    have R6 : Hid (RowAt w6 a2 (dL b d x)) := RowAt.keep Q2.out hw6
    go_upto_if 93 with (fail)
    go_cut [9, 11, 16, 17] (fun v9 v11 v16 v17 wc => Below w.heap.size w wc ∧ wc.cell? ⟨w1.heap.size, 0, none⟩ = some (.int .i64 b) ∧ wc.cell? ⟨w1.heap.size, 1, none⟩ = some (.int .i64 d) ∧ w1.heap.size < wc.heap.size)
    case first =>
      cases hnx : numB b d x
      ·
        go_wp2_with fail
        go_meet
        case rel => exact ⟨gb6, s60, s61, y6⟩
      ·
        obtain ⟨f1, f2⟩ := from_own hnx
        have f3 : (fVal b d (dL b d x) != x) = false := by rw [f2]; simp
        clear f2
        go_wp2_with fail
        refine (FromDigits_any b d _ _ (dL b d x) _ LE.out R6.out).mono ?_
        rintro e w7 ⟨rfl, hw7⟩
        obtain ⟨s70, s71, y7⟩ := keep2 hw7 y6 s60 s61
        have gb7 := belt gb6 hw7
        go_wp2_with fail
        go_meet
        case rel => exact ⟨gb7, s70, s71, y7⟩
    case rest =>
      obtain ⟨gb8, s80, s81, y8⟩ := hcut
      generalize wc = w8 at gb8 s80 s81 y8
      clear gb2 gb3 gb4 gb5 gb6 s20 s21 y2 s30 s31 y3 s40 s41 y4 s50 s51 y5 s60 s61 y6 hsm
      go_upto_if 107 with (fail)
      go_cut [12, 13, 14, 15, 18, 19, 20, 21, 22, 23, 24, 137, 138, 139] (fun v12 v13 v14 v15 v18 v19 v20 v21 v22 v23 v24 v137 v138 v139 wc => Below w.heap.size w wc)
      case first =>
        cases hok : dOk b d x k
        ·
          go_wp2_with fail
          go_meet
          case rel => exact gb8
        ·
          obtain ⟨hg, x1, x2, k1, k2, hnk, oo, hov, hole, hoe, hdr⟩ := over_facts hok
          have hlk := dL_len hnk
          have hdk : dL b d k = (digL (cnt b d) (sz d) k) := by unfold dL; rw [if_pos hnk]
          have HDK : Hid _ := hdk
          have HLK : Hid _ := hlk
          have HDR : Hid _ := hdr
          obtain ⟨hb1, hb2, hd1, hd2, h5⟩ := gsB_true hg
          clear hdk hdr h5
          have g1 : decide (cnt b d < oo) = false := decide_eq_false (by omega)
          have g2 : decide ((oo : Int) < 0) = false := decide_eq_false (by omega)
          obtain ⟨hq, q1, q2⟩ := cnt_bd hb1 hb2 hd1 hd2
          clear hq
          obtain ⟨hs1, hs2⟩ := sz_bd hb1 hb2
          go_wp2_with fail
          refine (DigitsOf_row _ _ _ _).mono ?_
          rintro e w9 ⟨a9, cap9, rfl, hw9, row9⟩
          obtain ⟨s90, s91, y9⟩ := keep2 hw9 y8 s80 s81
          have gb9 := belt gb8 hw9
          rw [HDK.out] at row9
          have R9 : Hid (RowAt w9 a9 (digL (cnt b d) (sz d) k)) := row9
          clear row9
          go_wp2_with fail
          go_loopw [20, 139] (fun vy vi wr => ∃ (i : Nat) (y : Int), i ≤ cnt b d ∧ vi = .int .i64 i ∧ vy = .int .i64 y ∧ 0 ≤ y ∧ y < sz b ∧ Mid (cnt b d) oo i (digL (cnt b d) (sz d) x) (digL (cnt b d) (sz d) k) (digL (cnt b d) (sz d) y) ∧ Below w9.heap.size w9 wr) (fun _ vi _ => cnt b d - (intOf vi).toNat)
          case atStart => exact ⟨0, x, Nat.zero_le _, rfl, rfl, x1, x2, mid_start (Nat.zero_le _), Below.refl _ _⟩
          case round =>
            obtain ⟨i, y, hi, rfl, rfl, yy1, yy2, hmid, hbr⟩ := hrel
            have HM : Hid _ := hmid
            clear hmid
            by_cases hlt : i < cnt b d
            · have hrow := RowAt.keep R9.out hbr
              have hlen : (digL (cnt b d) (sz d) k).length = cnt b d := digL_len _ _ _
              obtain ⟨bk, off, rfl⟩ := rowAt_form hrow (by omega)
              have hcell := (rowAt_cell hrow (by omega)).2 i (by omega)
              clear hrow hlen
              obtain ⟨c0, c1, cl⟩ := keep2 hbr y9 s90 s91
              by_cases hio : i < oo
              · generalize (digL (cnt b d) (sz d) k).getD i 0 = g at hcell
                go_wp2
                go_roundw
                case rel => exact ⟨i + 1, y, by omega, by go_num, rfl, yy1, yy2, mid_skip hio HM.out, hbr⟩
                case measure => simp [intOf]; omega
              · obtain ⟨sh1, sh2⟩ := shift_ok (k := k) hg yy1 yy2 hlt
                have HS : Hid _ := shift_mid (k := k) hg yy1 (digL_len _ _ _) (by omega) hlt HM.out
                obtain ⟨f1, f2⟩ := shf_bd d y ((digL (cnt b d) (sz d) k).getD i 0) hb1 hb2
                generalize (digL (cnt b d) (sz d) k).getD i 0 = g at hcell sh1 sh2 HS f1 f2
                go_wp2_with fail
                refine (ShiftIn_any _ _ _ _ _).mono ?_
                rintro e wt ⟨rfl, hwt⟩
                go_wp2
                go_roundw
                case rel => first | exact ⟨i + 1, shf b d y g, by omega, by go_num, by first | rfl | rw [← sh2], f1, f2, HS.out, hbr.trans (hwt.mono hbr.size)⟩ | ((repeat apply Exists.intro); exact ⟨⟨i + 1, shf b d y g, by omega, by go_num, by first | rfl | rw [← sh2], f1, f2, HS.out, hbr.trans (hwt.mono hbr.size)⟩, rfl⟩)
                case measure => simp [intOf]; omega
            · obtain rfl : i = cnt b d := by omega
              have hyk := shift_end hg yy1 yy2 k1 k2 (digL_len _ _ _) HDR.out HM.out
              have e2 : (y != k) = false := by simp [hyk]
              have HYK : Hid _ := hyk
              clear hyk
              go_wp2_with fail
              go_meet
              case rel => exact belt gb9 hbr
      case rest =>
        have gb10 : Below w.heap.size w wc := hcut
        generalize wc = w10 at gb10
        clear gb8 s80 s81 y8
        go_wp2_with fail
        refine (drawShift_any _ _ ys _ hm2 (RowB.keep HR2.out gb10)).mono ?_
        rintro e w11 ⟨b5, d5, m5, v5, rfl, hw11⟩
        have gb11 := belt gb10 hw11
        go_wp2_with fail
        refine (ShiftIn_any _ _ _ _ _).mono ?_
        rintro e w12 ⟨rfl, hw12⟩
        obtain ⟨s120, s121, y12⟩ := keep2 (bk := w11.heap.size) (u := .int .i64 b5) (v := .int .i64 d5) hw12 (by simp; try omega) (by simp) (by simp)
        have gb12 := belt gb11 (bel1 hw12 (by simp; try omega))
        go_wp2_with fail
        refine (lShiftIn_any _ _ _ _ _).mono ?_
        rintro e w13 ⟨rfl, hw13⟩
        obtain ⟨s130, s131, y13⟩ := keep2 hw13 y12 s120 s121
        have gb13 := belt gb12 hw13
        go_wp2_with fail
        refine (drawFrom_any _ _ ys _ hm2 (RowB.keep HR2.out gb13)).mono ?_
        rintro e w14 ⟨b6, d6, v6, rfl, hw14, hsl⟩
        have gb14 := belt gb13 hw14
        obtain ⟨a6, cap6, zs6, rfl, hl6, row6⟩ := hsl
        have RR : Hid (RowAt w14 a6 zs6) := row6
        have LL : Hid (zs6.length ≤ maxLen) := by
          show _ ≤ _
          unfold maxLen; omega
        clear row6
        have hbx : Below w14.heap.size w14 (w14.alloc (.cells #[.int .i64 b6, .int .i64 d6] 25)) := (Below.refl _ _).alloc (Nat.le_refl _) _
        go_wp2_with fail
        refine (FromDigits_any b6 d6 _ _ zs6 _ LL.out (RowAt.keep RR.out hbx)).mono ?_
        rintro e w15 ⟨rfl, hw15⟩
        obtain ⟨s150, s151, y15⟩ := keep2 (bk := w14.heap.size) (u := .int .i64 b6) (v := .int .i64 d6) hw15 (by simp; try omega) (by simp) (by simp)
        have gb15 := belt gb14 (bel1 hw15 (by simp; try omega))
        go_wp2_with fail
        refine (lFromDigits_any b6 d6 _ _ zs6 _ LL.out (RowAt.keep (RowAt.keep RR.out hbx) hw15)).mono ?_
        rintro e w16 ⟨rfl, hw16⟩
        obtain ⟨s160, s161, y16⟩ := keep2 hw16 y15 s150 s151
        have gb16 := belt gb15 hw16
        go_wp2_with fail
        refine (drawGood_any _ _ ys _ hm2 (RowB.keep HR2.out gb16)).mono ?_
        rintro e w17 ⟨b7, d7, rfl, hw17⟩
        have gb17 := belt gb16 hw17
        go_wp2_with fail
        have c0 : ∀ p : Kin (w17.heap.size + 1) (w17.alloc (.cells #[.int .i64 b7, .int .i64 d7] 25)), p.v.cell? ⟨w17.heap.size, 0, none⟩ = some (.int .i64 b7) := kin_cell (by omega) (by simp)
        have c1 : ∀ p : Kin (w17.heap.size + 1) (w17.alloc (.cells #[.int .i64 b7, .int .i64 d7] 25)), p.v.cell? ⟨w17.heap.size, 1, none⟩ = some (.int .i64 d7) := kin_cell (by omega) (by simp)
        refine region_kin (w17.heap.size + 1) (by kernel_rfl) (by kernel_rfl) (fun hne => ?_)
        repeat (go_big_quiet_step (first | (go_at_call 22; exact kin_of (by simp) (good_any _ _ _)) | (go_at_call 23; exact kin_of (by simp) (lGoodSpace_any _ _ _))))
        refine wpQuiet_nil ?_
        intro _ hw'
        obtain ⟨⟨w18, hw18⟩, hw''⟩ := hw'
        obtain rfl : _ = w18 := hw''
        clear c0 c1 hne
        go_wp2
        go_ret
        exact ⟨rfl, belt gb17 (bel1 hw18 (by omega))⟩
  · go_enter Try.func4, Try.ntmps4
    go_wp2_with fail
    refine (big_any _ _ _ _ _ _ _ HX.out HY.out).mono ?_
    rintro e w0 ⟨rfl, hw0⟩
    replace hw0 := hw0.symm
    subst hw0
    go_wp2
    go_ret
    exact ⟨rfl, Below.refl _ _⟩

set_option maxRecDepth 100000 in
theorem fnDigits_lifted (os : Os) (started : os.Started) (H : Type) (enc : TypeId × Value → H) :
    ReturnsInHanded {} Try.checked os 4 .any (Rows.fnDigitsSpec.pre6 enc Try.prog Try.f4 Rows.fnDigitsRow.domain false) (Rows.fnDigitsSpec.post enc Try.prog Try.f4 false true false false) := by
  refine returnsInHanded_of_change (C := Try.checked) own started (by kernel_rfl) Try.func4
    (ChangeSpec.witness6 (enc := enc) (C := Try.checked) false ⟨#[], #[.slice none 0 0, .slice none 0 0], []⟩ 8 (by kernel_rfl) (by kernel_rfl) (by kernel_rfl) (by kernel_rfl)) ?_
  intro W base args ds gs before hval0 hW hcnd _
  have hval : ∀ (j : Nat) t v, Try.f4.params[j]? = some t → args[j]? = some v → Value.okWide Try.prog W .any base t v := hval0
  have hW' := hW
  obtain ⟨p, q, hA0, hV, rfl, hfz, hnd⟩ := hW
  have hA : DataW.TrodAll enc Try.prog W 0 (fun _ => true) true Try.f4.params.toList args.toList ds p := hA0
  rw [Try.params4] at hA hval
  obtain ⟨v0, vs0, d0, ds0, p0, q0, hargs, rfl, rfl, h0, r0⟩ := trodAll_cons hA
  obtain ⟨v1, vs1, d1, ds1, p1, q1, rfl, rfl, rfl, h1, r1⟩ := trodAll_cons r0
  obtain ⟨rfl, rfl, rfl⟩ := trodAll_nil r1
  obtain rfl : args = #[v0, v1] := by cases args; simp_all
  obtain ⟨rfl, rfl⟩ := trodVars_none hV
  obtain ⟨a0, len0, cap0, rfl⟩ := okWide_slice Try.underlying22 (hval 0 22 v0 rfl rfl)
  have k0 := h0
  have lt0 : ∀ x ∈ p0, x.block < W.heap.size := by obtain ⟨m, hm⟩ := k0; exact DataW.trod_lt m _ _ _ hm
  obtain ⟨z0, w0⟩ : ∃ zs, IsRowU W a0 len0 cap0 zs := by
    obtain ⟨fuel, hf⟩ := h0
    rcases open_ints Try.underlying22 Try.underlying5 (by kernel_rfl) hf with ⟨hcs, _⟩ | ⟨x, l, c, zs, hcs, _, hl, hm, hz, _, hcell, hwz⟩
    · simp [Value.cells] at hcs
      obtain ⟨rfl, rfl, rfl⟩ := hcs
      exact ⟨[], .inl ⟨rfl, rfl, rfl, rfl⟩⟩
    · simp [Value.cells] at hcs
      obtain ⟨rfl, rfl, rfl⟩ := hcs
      exact ⟨zs, .inr ⟨_, rfl, hl, hm, by simpa using hz, hcell, hwz⟩⟩
  obtain ⟨a1, len1, cap1, rfl⟩ := okWide_slice Try.underlying22 (hval 1 22 v1 rfl rfl)
  have k1 := h1
  have lt1 : ∀ x ∈ p1, x.block < W.heap.size := by obtain ⟨m, hm⟩ := k1; exact DataW.trod_lt m _ _ _ hm
  obtain ⟨z1, w1⟩ : ∃ zs, IsRowU W a1 len1 cap1 zs := by
    obtain ⟨fuel, hf⟩ := h1
    rcases open_ints Try.underlying22 Try.underlying5 (by kernel_rfl) hf with ⟨hcs, _⟩ | ⟨x, l, c, zs, hcs, _, hl, hm, hz, _, hcell, hwz⟩
    · simp [Value.cells] at hcs
      obtain ⟨rfl, rfl, rfl⟩ := hcs
      exact ⟨[], .inl ⟨rfl, rfl, rfl, rfl⟩⟩
    · simp [Value.cells] at hcs
      obtain ⟨rfl, rfl, rfl⟩ := hcs
      exact ⟨zs, .inr ⟨_, rfl, hl, hm, by simpa using hz, hcell, hwz⟩⟩
  clear hA0 hval0
  obtain ⟨y0, e0, m0, q0⟩ := isRowU_rowB w0
  obtain ⟨y1, e1, m1, q1⟩ := isRowU_rowB w1
  subst e0 e1
  refine (wFnDigits a0 a1 cap0 cap1 y0 y1 W m0 m1 q0 q1).mono fun e W' ⟨he, bel⟩ => ?_
  subst he
  exact ⟨_, rfl, _, _, _, [], _, [], hW', trodAll_mk1 (shut_bool Try.underlying4 _), (trodAll_cons_mk (Below.trod laidOut (by kernel_rfl) (of_decide_eq_true (by kernel_rfl)) k0 bel lt0) (trodAll_cons_mk (Below.trod laidOut (by kernel_rfl) (of_decide_eq_true (by kernel_rfl)) k1 bel lt1) trodAll_mk0)), rfl, bel.frame _, fun h => by cases h⟩

theorem fnDigits_holds : Rows.FnDigitsSaid :=
  OpenClaim.holds_of_wide 4 Try.f4 rfl rfl rfl rfl rfl rfl rfl ⟨rfl, rfl, rfl, rfl, rfl⟩ rfl rfl rfl rfl rfl (by kernel_rfl) Try.func4 (by kernel_rfl)
    (of_decide_eq_true (by kernel_rfl)) (by unfold Func.isWrapper; first | (rw [if_pos (by decide +kernel)]; kernel_rfl) | (rw [if_neg (by decide +kernel)]; exact ⟨rfl, rfl⟩))
    (fun os started H enc _ => fnDigits_lifted os started H enc)
#print axioms fnDigits_holds
end Go.Proofs.Ytbnjloepfmiidaa
