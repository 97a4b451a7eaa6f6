/- For every space, table and two numbers RowsIn answers as its specification, in memory of its own, and leaves the table as it was: no condition. -/
import Derived.Test.YtpgngfdhnoonjaaOk0
import Derived.Test.YtpgngfdhnoonjaaSp4
import Derived.Test.YtpgngfdhnoonjaaTr2
namespace Go.Proofs.Ytpgngfdhnoonjaa
open Go.ChangeShapes Go.WideShapes Go.ChangeAt Go.RowKit Wire Tb
set_option linter.unusedVariables false
set_option maxRecDepth 100000 in
set_option maxHeartbeats 12800000 in
theorem wFnExactRowsIn (b0 d0 : Int) (a1 : Option Addr) (cap1 : Nat) (ms1 : List Rw) (x2 : Int) (x3 : Int) (w : World) (hm1 : ms1.length ≤ maxLen) (hr1 : LsAt tyRw w a1 ms1) :
    Calls Try.prog 11 #[.agg #[.int .i64 b0, .int .i64 d0], .slice a1 ms1.length cap1, .int .i64 x2, .int .i64 x3] w fun e w' => e = .returned (.bool true) ∧ Below w.heap.size w w' := by
  have HR1 : Hid (LsAt tyRw w a1 ms1) := hr1
  clear hr1
  go_enter Try.func11, Try.ntmps11
  go_wp2_with fail
  refine (szRowS_all a1 ms1.length cap1 1048576 _ hm1 (by omega) (by omega)).mono ?_
  rintro e w1 ⟨v1, rfl, hv1, hu1, HW⟩
  have HB : Hid (Below w.heap.size w w1) := belt (belA _ _) HW
  have Z1 : Hid (w.heap.size ≤ w1.heap.size) := HB.out.size
  have N1 : Hid (w.heap.size < w1.heap.size) := (bxV1 HW).lt
  have BA_1 : Hid (BxV w w1 #[.int .i64 b0, .int .i64 d0] 47) := bxV1 HW
  have BEL_1 : Hid (Below w.heap.size w w1) := belt (belA _ _) HW
  clear HB HW 
  by_cases hneg1 : v1 < 0
  · go_wp2
    go_ret
    exact ⟨rfl, BEL_1.out⟩
  have hl1 : ms1.length ≤ 1048576 := by
    rcases hv1 with h | h
    · exact absurd h hneg1
    · exact h.2
  have hp1 : 0 ≤ v1 := by omega
  clear hv1
  have HL1 : Hid (ms1.length ≤ 1048576) := hl1
  clear hu1 hl1 hm1
  obtain ⟨qBA0, qBA1⟩ := BA_1.out.c2
  have lBA := BA_1.out.lt
  go_wp2_with fail
  refine (toSpace_any b0 d0 _).mono ?_
  rintro e w2 ⟨rfl, HW⟩
  clear qBA0 qBA1 lBA
  have HB : Hid (Below w1.heap.size w1 w2) := HW
  have Z2 : Hid (w1.heap.size ≤ w2.heap.size) := HB.out.size
  have BA_2 : Hid (BxV w w2 #[.int .i64 b0, .int .i64 d0] 47) := BA_1.out.keep HB.out
  have BEL_2 : Hid (Below w.heap.size w w2) := BEL_1.out.trans (HB.out.mono (by have z0 := Z1.out; have z1 := N1.out; have z2 := Z2.out; omega))
  clear HB HW BA_1 BEL_1
  obtain ⟨qBA0, qBA1⟩ := BA_2.out.c2
  have lBA := BA_2.out.lt
  go_wp2_with fail
  refine (toRowS_any a1 cap1 ms1 _ HL1.out (HR1.out.keep BEL_2.out)).mono ?_
  rintro e w3 ⟨vc1, rfl, Oc1, HW⟩
  clear qBA0 qBA1 lBA
  have HB : Hid (Below w2.heap.size w2 w3) := HW
  have Z3 : Hid (w2.heap.size ≤ w3.heap.size) := HB.out.size
  have BA_3 : Hid (BxV w w3 #[.int .i64 b0, .int .i64 d0] 47) := BA_2.out.keep HB.out
  have BEL_3 : Hid (Below w.heap.size w w3) := BEL_2.out.trans (HB.out.mono (by have z0 := Z1.out; have z1 := N1.out; have z2 := Z2.out; have z3 := Z3.out; omega))
  have c1_3 : Hid (OwnEs tyRw 37 w2.heap.size w3.heap.size w3 vc1 ms1.length ms1) := Oc1
  clear HB HW BA_2 BEL_2
  clear Oc1
  obtain ⟨qBA0, qBA1⟩ := BA_3.out.c2
  have lBA := BA_3.out.lt
  go_wp2_with fail
  refine (Tb.lRowsIn_own b0 d0 vc1 _ ms1.length ms1 x2 x3 _ rfl HL1.out c1_3.out.at rfl).mono ?_
  rintro e w4 ⟨aw, nw, cw, rfl, hnw, rw0, HW⟩
  clear qBA0 qBA1 lBA
  have HB : Hid (Below w3.heap.size w3 w4) := HW
  have Z4 : Hid (w3.heap.size ≤ w4.heap.size) := HB.out.size
  have BA_4 : Hid (BxV w w4 #[.int .i64 b0, .int .i64 d0] 47) := BA_3.out.keep HB.out
  have BEL_4 : Hid (Below w.heap.size w w4) := BEL_3.out.trans (HB.out.mono (by have z0 := Z1.out; have z1 := N1.out; have z2 := Z2.out; have z3 := Z3.out; have z4 := Z4.out; omega))
  have RW_4 : Hid (Below w4.heap.size w4 w4) := Below.refl _ _
  clear HB HW BA_3 BEL_3 c1_3
  have W0 : Hid (LsAt tyRw w4 aw (riL b0 d0 ms1 x2 x3)) := rw0
  have HNW : Hid ((riL b0 d0 ms1 x2 x3).length = nw) := hnw
  clear rw0 hnw
  obtain ⟨qBA0, qBA1⟩ := BA_4.out.c2
  have lBA := BA_4.out.lt
  go_wp2_with fail
  refine (toRowS_any a1 cap1 ms1 _ HL1.out (HR1.out.keep BEL_4.out)).mono ?_
  rintro e w5 ⟨vx1, rfl, Ox1, HW⟩
  clear qBA0 qBA1 lBA
  have HB : Hid (Below w4.heap.size w4 w5) := HW
  have Z5 : Hid (w4.heap.size ≤ w5.heap.size) := HB.out.size
  have BA_5 : Hid (BxV w w5 #[.int .i64 b0, .int .i64 d0] 47) := BA_4.out.keep HB.out
  have BEL_5 : Hid (Below w.heap.size w w5) := BEL_4.out.trans (HB.out.mono (by have z0 := Z1.out; have z1 := N1.out; have z2 := Z2.out; have z3 := Z3.out; have z4 := Z4.out; have z5 := Z5.out; omega))
  have RW_5 : Hid (Below w4.heap.size w4 w5) := RW_4.out.trans (HB.out.mono (by have z0 := Z1.out; have z1 := N1.out; have z2 := Z2.out; have z3 := Z3.out; have z4 := Z4.out; have z5 := Z5.out; omega))
  have x1_5 : Hid (OwnEs tyRw 37 w4.heap.size w5.heap.size w5 vx1 ms1.length ms1) := Ox1
  clear HB HW BA_4 BEL_4 RW_4
  clear Ox1
  obtain ⟨qBA0, qBA1⟩ := BA_5.out.c2
  have lBA := BA_5.out.lt
  go_wp2_with fail
  refine (toSpace_any b0 d0 _).mono ?_
  rintro e w6 ⟨rfl, HW⟩
  clear qBA0 qBA1 lBA
  have HB : Hid (Below w5.heap.size w5 w6) := HW
  have Z6 : Hid (w5.heap.size ≤ w6.heap.size) := HB.out.size
  have BA_6 : Hid (BxV w w6 #[.int .i64 b0, .int .i64 d0] 47) := BA_5.out.keep HB.out
  have BEL_6 : Hid (Below w.heap.size w w6) := BEL_5.out.trans (HB.out.mono (by have z0 := Z1.out; have z1 := N1.out; have z2 := Z2.out; have z3 := Z3.out; have z4 := Z4.out; have z5 := Z5.out; have z6 := Z6.out; omega))
  have RW_6 : Hid (Below w4.heap.size w4 w6) := RW_5.out.trans (HB.out.mono (by have z0 := Z1.out; have z1 := N1.out; have z2 := Z2.out; have z3 := Z3.out; have z4 := Z4.out; have z5 := Z5.out; have z6 := Z6.out; omega))
  have x1_6 : Hid (OwnEs tyRw 37 w4.heap.size w5.heap.size w6 vx1 ms1.length ms1) := x1_5.out.keep HB.out
  clear HB HW BA_5 BEL_5 RW_5 x1_5
  obtain ⟨qBA0, qBA1⟩ := BA_6.out.c2
  have lBA := BA_6.out.lt
  go_wp2_with fail
  refine (Tb.RowsIn_own b0 d0 vx1 _ ms1.length ms1 x2 x3 _ rfl HL1.out x1_6.out.at).mono ?_
  rintro e w7 ⟨yag, yng, ycg, rfl, hng, Og, HW⟩
  clear qBA0 qBA1 lBA
  have HB : Hid (Below w6.heap.size w6 w7) := HW
  have Z7 : Hid (w6.heap.size ≤ w7.heap.size) := HB.out.size
  have BA_7 : Hid (BxV w w7 #[.int .i64 b0, .int .i64 d0] 47) := BA_6.out.keep HB.out
  have BEL_7 : Hid (Below w.heap.size w w7) := BEL_6.out.trans (HB.out.mono (by have z0 := Z1.out; have z1 := N1.out; have z2 := Z2.out; have z3 := Z3.out; have z4 := Z4.out; have z5 := Z5.out; have z6 := Z6.out; have z7 := Z7.out; omega))
  have RW_7 : Hid (Below w4.heap.size w4 w7) := RW_6.out.trans (HB.out.mono (by have z0 := Z1.out; have z1 := N1.out; have z2 := Z2.out; have z3 := Z3.out; have z4 := Z4.out; have z5 := Z5.out; have z6 := Z6.out; have z7 := Z7.out; omega))
  have x1_7 : Hid (OwnEs tyRw 37 w4.heap.size w5.heap.size w7 vx1 ms1.length ms1) := x1_6.out.keep HB.out
  have Gg_7 : Hid (OwnEs tyRw 37 w6.heap.size w7.heap.size w7 yag yng (riL b0 d0 ms1 x2 x3)) := Og
  clear HB HW BA_6 BEL_6 RW_6 x1_6
  have eg : nw = yng := by rw [← HNW.out, ← hng]
  subst eg
  clear hng Og
  have HN2 : Hid (nw ≤ 1048576) := by unfold Hid; rw [← HNW.out]; exact riL_big b0 d0 ms1 x2 x3
  have hgb := bne_self_bool (riB b0 d0 ms1 x2 x3)
  obtain ⟨qBA0, qBA1⟩ := BA_7.out.c2
  have lBA := BA_7.out.lt
  go_wp2_with fail
  refine (eqRowS_own yag aw ycg cw _ (riL b0 d0 ms1 x2 x3) _ HNW.out HN2.out Gg_7.out.at (W0.out.keep RW_7.out)).mono ?_
  rintro e w8 ⟨rfl, HW⟩
  clear qBA0 qBA1 lBA
  have HB : Hid (Below w7.heap.size w7 w8) := HW
  have Z8 : Hid (w7.heap.size ≤ w8.heap.size) := HB.out.size
  have BA_8 : Hid (BxV w w8 #[.int .i64 b0, .int .i64 d0] 47) := BA_7.out.keep HB.out
  have BEL_8 : Hid (Below w.heap.size w w8) := BEL_7.out.trans (HB.out.mono (by have z0 := Z1.out; have z1 := N1.out; have z2 := Z2.out; have z3 := Z3.out; have z4 := Z4.out; have z5 := Z5.out; have z6 := Z6.out; have z7 := Z7.out; have z8 := Z8.out; omega))
  have RW_8 : Hid (Below w4.heap.size w4 w8) := RW_7.out.trans (HB.out.mono (by have z0 := Z1.out; have z1 := N1.out; have z2 := Z2.out; have z3 := Z3.out; have z4 := Z4.out; have z5 := Z5.out; have z6 := Z6.out; have z7 := Z7.out; have z8 := Z8.out; omega))
  have x1_8 : Hid (OwnEs tyRw 37 w4.heap.size w5.heap.size w8 vx1 ms1.length ms1) := x1_7.out.keep HB.out
  have Gg_8 : Hid (OwnEs tyRw 37 w6.heap.size w7.heap.size w8 yag nw (riL b0 d0 ms1 x2 x3)) := Gg_7.out.keep HB.out
  clear HB HW BA_7 BEL_7 RW_7 x1_7 Gg_7
  obtain ⟨qBA0, qBA1⟩ := BA_8.out.c2
  have lBA := BA_8.out.lt
  go_wp2_with fail
  refine (toRowS_any a1 cap1 ms1 _ HL1.out (HR1.out.keep BEL_8.out)).mono ?_
  rintro e w9 ⟨vy1, rfl, Oy1, HW⟩
  clear qBA0 qBA1 lBA
  have HB : Hid (Below w8.heap.size w8 w9) := HW
  have Z9 : Hid (w8.heap.size ≤ w9.heap.size) := HB.out.size
  have BA_9 : Hid (BxV w w9 #[.int .i64 b0, .int .i64 d0] 47) := BA_8.out.keep HB.out
  have BEL_9 : Hid (Below w.heap.size w w9) := BEL_8.out.trans (HB.out.mono (by have z0 := Z1.out; have z1 := N1.out; have z2 := Z2.out; have z3 := Z3.out; have z4 := Z4.out; have z5 := Z5.out; have z6 := Z6.out; have z7 := Z7.out; have z8 := Z8.out; have z9 := Z9.out; omega))
  have RW_9 : Hid (Below w4.heap.size w4 w9) := RW_8.out.trans (HB.out.mono (by have z0 := Z1.out; have z1 := N1.out; have z2 := Z2.out; have z3 := Z3.out; have z4 := Z4.out; have z5 := Z5.out; have z6 := Z6.out; have z7 := Z7.out; have z8 := Z8.out; have z9 := Z9.out; omega))
  have x1_9 : Hid (OwnEs tyRw 37 w4.heap.size w5.heap.size w9 vx1 ms1.length ms1) := x1_8.out.keep HB.out
  have Gg_9 : Hid (OwnEs tyRw 37 w6.heap.size w7.heap.size w9 yag nw (riL b0 d0 ms1 x2 x3)) := Gg_8.out.keep HB.out
  have y1_9 : Hid (OwnEs tyRw 37 w8.heap.size w9.heap.size w9 vy1 ms1.length ms1) := Oy1
  clear HB HW BA_8 BEL_8 RW_8 x1_8 Gg_8
  clear Oy1
  obtain ⟨qBA0, qBA1⟩ := BA_9.out.c2
  have lBA := BA_9.out.lt
  go_wp2_with fail
  refine (eqRowS_own vx1 vy1 _ _ _ ms1 _ rfl HL1.out x1_9.out.at y1_9.out.at).mono ?_
  rintro e w10 ⟨rfl, HW⟩
  clear qBA0 qBA1 lBA
  have HB : Hid (Below w9.heap.size w9 w10) := HW
  have Z10 : Hid (w9.heap.size ≤ w10.heap.size) := HB.out.size
  have BA_10 : Hid (BxV w w10 #[.int .i64 b0, .int .i64 d0] 47) := BA_9.out.keep HB.out
  have BEL_10 : Hid (Below w.heap.size w w10) := BEL_9.out.trans (HB.out.mono (by have z0 := Z1.out; have z1 := N1.out; have z2 := Z2.out; have z3 := Z3.out; have z4 := Z4.out; have z5 := Z5.out; have z6 := Z6.out; have z7 := Z7.out; have z8 := Z8.out; have z9 := Z9.out; have z10 := Z10.out; omega))
  have RW_10 : Hid (Below w4.heap.size w4 w10) := RW_9.out.trans (HB.out.mono (by have z0 := Z1.out; have z1 := N1.out; have z2 := Z2.out; have z3 := Z3.out; have z4 := Z4.out; have z5 := Z5.out; have z6 := Z6.out; have z7 := Z7.out; have z8 := Z8.out; have z9 := Z9.out; have z10 := Z10.out; omega))
  have x1_10 : Hid (OwnEs tyRw 37 w4.heap.size w5.heap.size w10 vx1 ms1.length ms1) := x1_9.out.keep HB.out
  have Gg_10 : Hid (OwnEs tyRw 37 w6.heap.size w7.heap.size w10 yag nw (riL b0 d0 ms1 x2 x3)) := Gg_9.out.keep HB.out
  clear HB HW BA_9 BEL_9 RW_9 x1_9 Gg_9 y1_9
  obtain ⟨qBA0, qBA1⟩ := BA_10.out.c2
  have lBA := BA_10.out.lt
  go_wp2_with fail
  refine (markRowS_own w4.heap.size w5.heap.size _ vx1 _ ms1 (1) _ (by omega) (by have := HL1.out; omega) x1_10.out).mono ?_
  rintro e w11 ⟨rfl, MK, OM⟩
  clear qBA0 qBA1 lBA
  have HB : Hid (Mk w4.heap.size w5.heap.size w10 w11) := MK
  have Z11 : Hid (w10.heap.size ≤ w11.heap.size) := HB.out.size
  have BA_11 : Hid (BxV w w11 #[.int .i64 b0, .int .i64 d0] 47) := BA_10.out.mkd HB.out (by first | exact .inl (by have z0 := Z1.out; have z1 := N1.out; have z2 := Z2.out; have z3 := Z3.out; have z4 := Z4.out; have z5 := Z5.out; have z6 := Z6.out; have z7 := Z7.out; have z8 := Z8.out; have z9 := Z9.out; have z10 := Z10.out; have z11 := Z11.out; omega) | exact .inr (by have z0 := Z1.out; have z1 := N1.out; have z2 := Z2.out; have z3 := Z3.out; have z4 := Z4.out; have z5 := Z5.out; have z6 := Z6.out; have z7 := Z7.out; have z8 := Z8.out; have z9 := Z9.out; have z10 := Z10.out; have z11 := Z11.out; omega))
  have BEL_11 : Hid (Below w.heap.size w w11) := HB.out.below _ _ (by have z0 := Z1.out; have z1 := N1.out; have z2 := Z2.out; have z3 := Z3.out; have z4 := Z4.out; have z5 := Z5.out; have z6 := Z6.out; have z7 := Z7.out; have z8 := Z8.out; have z9 := Z9.out; have z10 := Z10.out; have z11 := Z11.out; omega) BEL_10.out
  have RW_11 : Hid (Below w4.heap.size w4 w11) := HB.out.below _ _ (by have z0 := Z1.out; have z1 := N1.out; have z2 := Z2.out; have z3 := Z3.out; have z4 := Z4.out; have z5 := Z5.out; have z6 := Z6.out; have z7 := Z7.out; have z8 := Z8.out; have z9 := Z9.out; have z10 := Z10.out; have z11 := Z11.out; omega) RW_10.out
  have Gg_11 : Hid (OwnEs tyRw 37 w6.heap.size w7.heap.size w11 yag nw (riL b0 d0 ms1 x2 x3)) := Gg_10.out.mkd HB.out (by first | exact .inl (by have z0 := Z1.out; have z1 := N1.out; have z2 := Z2.out; have z3 := Z3.out; have z4 := Z4.out; have z5 := Z5.out; have z6 := Z6.out; have z7 := Z7.out; have z8 := Z8.out; have z9 := Z9.out; have z10 := Z10.out; have z11 := Z11.out; omega) | exact .inr (by have z0 := Z1.out; have z1 := N1.out; have z2 := Z2.out; have z3 := Z3.out; have z4 := Z4.out; have z5 := Z5.out; have z6 := Z6.out; have z7 := Z7.out; have z8 := Z8.out; have z9 := Z9.out; have z10 := Z10.out; have z11 := Z11.out; omega))
  have x1_11 : Hid (OwnEs tyRw 37 w4.heap.size w5.heap.size w11 vx1 ms1.length (mrkTr (1) ms1)) := OM
  clear HB MK BA_10 BEL_10 RW_10 x1_10 Gg_10
  clear OM
  have hl1 := HL1.out
  obtain ⟨qBA0, qBA1⟩ := BA_11.out.c2
  have lBA := BA_11.out.lt
  go_wp2_with fail
  refine (eqRowS_own yag aw ycg cw _ (riL b0 d0 ms1 x2 x3) _ HNW.out HN2.out Gg_11.out.at (W0.out.keep RW_11.out)).mono ?_
  rintro e w12 ⟨rfl, HW⟩
  clear qBA0 qBA1 lBA
  have HB : Hid (Below w11.heap.size w11 w12) := HW
  have Z12 : Hid (w11.heap.size ≤ w12.heap.size) := HB.out.size
  have BA_12 : Hid (BxV w w12 #[.int .i64 b0, .int .i64 d0] 47) := BA_11.out.keep HB.out
  have BEL_12 : Hid (Below w.heap.size w w12) := BEL_11.out.trans (HB.out.mono (by have z0 := Z1.out; have z1 := N1.out; have z2 := Z2.out; have z3 := Z3.out; have z4 := Z4.out; have z5 := Z5.out; have z6 := Z6.out; have z7 := Z7.out; have z8 := Z8.out; have z9 := Z9.out; have z10 := Z10.out; have z11 := Z11.out; have z12 := Z12.out; omega))
  have RW_12 : Hid (Below w4.heap.size w4 w12) := RW_11.out.trans (HB.out.mono (by have z0 := Z1.out; have z1 := N1.out; have z2 := Z2.out; have z3 := Z3.out; have z4 := Z4.out; have z5 := Z5.out; have z6 := Z6.out; have z7 := Z7.out; have z8 := Z8.out; have z9 := Z9.out; have z10 := Z10.out; have z11 := Z11.out; have z12 := Z12.out; omega))
  have Gg_12 : Hid (OwnEs tyRw 37 w6.heap.size w7.heap.size w12 yag nw (riL b0 d0 ms1 x2 x3)) := Gg_11.out.keep HB.out
  have x1_12 : Hid (OwnEs tyRw 37 w4.heap.size w5.heap.size w12 vx1 ms1.length (mrkTr (1) ms1)) := x1_11.out.keep HB.out
  clear HB HW BA_11 BEL_11 RW_11 Gg_11 x1_11
  obtain ⟨qBA0, qBA1⟩ := BA_12.out.c2
  have lBA := BA_12.out.lt
  go_wp2_with fail
  refine (markRowS_own w6.heap.size w7.heap.size _ yag _ (riL b0 d0 ms1 x2 x3) 1 _ (by omega) (by omega) Gg_12.out).mono ?_
  rintro e w13 ⟨rfl, MK, OM⟩
  clear qBA0 qBA1 lBA
  have HB : Hid (Mk w6.heap.size w7.heap.size w12 w13) := MK
  have Z13 : Hid (w12.heap.size ≤ w13.heap.size) := HB.out.size
  have BA_13 : Hid (BxV w w13 #[.int .i64 b0, .int .i64 d0] 47) := BA_12.out.mkd HB.out (by first | exact .inl (by have z0 := Z1.out; have z1 := N1.out; have z2 := Z2.out; have z3 := Z3.out; have z4 := Z4.out; have z5 := Z5.out; have z6 := Z6.out; have z7 := Z7.out; have z8 := Z8.out; have z9 := Z9.out; have z10 := Z10.out; have z11 := Z11.out; have z12 := Z12.out; have z13 := Z13.out; omega) | exact .inr (by have z0 := Z1.out; have z1 := N1.out; have z2 := Z2.out; have z3 := Z3.out; have z4 := Z4.out; have z5 := Z5.out; have z6 := Z6.out; have z7 := Z7.out; have z8 := Z8.out; have z9 := Z9.out; have z10 := Z10.out; have z11 := Z11.out; have z12 := Z12.out; have z13 := Z13.out; omega))
  have BEL_13 : Hid (Below w.heap.size w w13) := HB.out.below _ _ (by have z0 := Z1.out; have z1 := N1.out; have z2 := Z2.out; have z3 := Z3.out; have z4 := Z4.out; have z5 := Z5.out; have z6 := Z6.out; have z7 := Z7.out; have z8 := Z8.out; have z9 := Z9.out; have z10 := Z10.out; have z11 := Z11.out; have z12 := Z12.out; have z13 := Z13.out; omega) BEL_12.out
  have RW_13 : Hid (Below w4.heap.size w4 w13) := HB.out.below _ _ (by have z0 := Z1.out; have z1 := N1.out; have z2 := Z2.out; have z3 := Z3.out; have z4 := Z4.out; have z5 := Z5.out; have z6 := Z6.out; have z7 := Z7.out; have z8 := Z8.out; have z9 := Z9.out; have z10 := Z10.out; have z11 := Z11.out; have z12 := Z12.out; have z13 := Z13.out; omega) RW_12.out
  have Gg_13 : Hid (OwnEs tyRw 37 w6.heap.size w7.heap.size w13 yag nw (mrkTr 1 (riL b0 d0 ms1 x2 x3))) := OM
  clear HB MK BA_12 BEL_12 RW_12 Gg_12 x1_12
  clear OM
  have hng : nw ≤ 1048576 := HN2.out
  obtain ⟨qBA0, qBA1⟩ := BA_13.out.c2
  have lBA := BA_13.out.lt
  go_wp2_with fail
  refine (heldRowS_own w6.heap.size w7.heap.size _ yag _ (riL b0 d0 ms1 x2 x3) 1 _ HN2.out HNW.out (by omega) (by omega) Gg_13.out).mono ?_
  rintro e w14 ⟨rfl, HW⟩
  clear qBA0 qBA1 lBA
  have HB : Hid (Below w13.heap.size w13 w14) := HW
  have Z14 : Hid (w13.heap.size ≤ w14.heap.size) := HB.out.size
  have BA_14 : Hid (BxV w w14 #[.int .i64 b0, .int .i64 d0] 47) := BA_13.out.keep HB.out
  have BEL_14 : Hid (Below w.heap.size w w14) := BEL_13.out.trans (HB.out.mono (by have z0 := Z1.out; have z1 := N1.out; have z2 := Z2.out; have z3 := Z3.out; have z4 := Z4.out; have z5 := Z5.out; have z6 := Z6.out; have z7 := Z7.out; have z8 := Z8.out; have z9 := Z9.out; have z10 := Z10.out; have z11 := Z11.out; have z12 := Z12.out; have z13 := Z13.out; have z14 := Z14.out; omega))
  have RW_14 : Hid (Below w4.heap.size w4 w14) := RW_13.out.trans (HB.out.mono (by have z0 := Z1.out; have z1 := N1.out; have z2 := Z2.out; have z3 := Z3.out; have z4 := Z4.out; have z5 := Z5.out; have z6 := Z6.out; have z7 := Z7.out; have z8 := Z8.out; have z9 := Z9.out; have z10 := Z10.out; have z11 := Z11.out; have z12 := Z12.out; have z13 := Z13.out; have z14 := Z14.out; omega))
  have Gg_14 : Hid (OwnEs tyRw 37 w6.heap.size w7.heap.size w14 yag nw (mrkTr 1 (riL b0 d0 ms1 x2 x3))) := Gg_13.out.keep HB.out
  clear HB HW BA_13 BEL_13 RW_13 Gg_13
  obtain ⟨qBA0, qBA1⟩ := BA_14.out.c2
  have lBA := BA_14.out.lt
  go_wp2_with fail
  refine (toSpace_any b0 d0 _).mono ?_
  rintro e w15 ⟨rfl, HW⟩
  clear qBA0 qBA1 lBA
  have HB : Hid (Below w14.heap.size w14 w15) := HW
  have Z15 : Hid (w14.heap.size ≤ w15.heap.size) := HB.out.size
  have BA_15 : Hid (BxV w w15 #[.int .i64 b0, .int .i64 d0] 47) := BA_14.out.keep HB.out
  have BEL_15 : Hid (Below w.heap.size w w15) := BEL_14.out.trans (HB.out.mono (by have z0 := Z1.out; have z1 := N1.out; have z2 := Z2.out; have z3 := Z3.out; have z4 := Z4.out; have z5 := Z5.out; have z6 := Z6.out; have z7 := Z7.out; have z8 := Z8.out; have z9 := Z9.out; have z10 := Z10.out; have z11 := Z11.out; have z12 := Z12.out; have z13 := Z13.out; have z14 := Z14.out; have z15 := Z15.out; omega))
  have RW_15 : Hid (Below w4.heap.size w4 w15) := RW_14.out.trans (HB.out.mono (by have z0 := Z1.out; have z1 := N1.out; have z2 := Z2.out; have z3 := Z3.out; have z4 := Z4.out; have z5 := Z5.out; have z6 := Z6.out; have z7 := Z7.out; have z8 := Z8.out; have z9 := Z9.out; have z10 := Z10.out; have z11 := Z11.out; have z12 := Z12.out; have z13 := Z13.out; have z14 := Z14.out; have z15 := Z15.out; omega))
  have Gg_15 : Hid (OwnEs tyRw 37 w6.heap.size w7.heap.size w15 yag nw (mrkTr 1 (riL b0 d0 ms1 x2 x3))) := Gg_14.out.keep HB.out
  clear HB HW BA_14 BEL_14 RW_14 Gg_14
  obtain ⟨qBA0, qBA1⟩ := BA_15.out.c2
  have lBA := BA_15.out.lt
  go_wp2_with fail
  refine (toRowS_any a1 cap1 ms1 _ HL1.out (HR1.out.keep BEL_15.out)).mono ?_
  rintro e w16 ⟨vh1, rfl, Oh1, HW⟩
  clear qBA0 qBA1 lBA
  have HB : Hid (Below w15.heap.size w15 w16) := HW
  have Z16 : Hid (w15.heap.size ≤ w16.heap.size) := HB.out.size
  have BA_16 : Hid (BxV w w16 #[.int .i64 b0, .int .i64 d0] 47) := BA_15.out.keep HB.out
  have BEL_16 : Hid (Below w.heap.size w w16) := BEL_15.out.trans (HB.out.mono (by have z0 := Z1.out; have z1 := N1.out; have z2 := Z2.out; have z3 := Z3.out; have z4 := Z4.out; have z5 := Z5.out; have z6 := Z6.out; have z7 := Z7.out; have z8 := Z8.out; have z9 := Z9.out; have z10 := Z10.out; have z11 := Z11.out; have z12 := Z12.out; have z13 := Z13.out; have z14 := Z14.out; have z15 := Z15.out; have z16 := Z16.out; omega))
  have RW_16 : Hid (Below w4.heap.size w4 w16) := RW_15.out.trans (HB.out.mono (by have z0 := Z1.out; have z1 := N1.out; have z2 := Z2.out; have z3 := Z3.out; have z4 := Z4.out; have z5 := Z5.out; have z6 := Z6.out; have z7 := Z7.out; have z8 := Z8.out; have z9 := Z9.out; have z10 := Z10.out; have z11 := Z11.out; have z12 := Z12.out; have z13 := Z13.out; have z14 := Z14.out; have z15 := Z15.out; have z16 := Z16.out; omega))
  have Gg_16 : Hid (OwnEs tyRw 37 w6.heap.size w7.heap.size w16 yag nw (mrkTr 1 (riL b0 d0 ms1 x2 x3))) := Gg_15.out.keep HB.out
  have h1_16 : Hid (OwnEs tyRw 37 w15.heap.size w16.heap.size w16 vh1 ms1.length ms1) := Oh1
  clear HB HW BA_15 BEL_15 RW_15 Gg_15
  clear Oh1
  obtain ⟨qBA0, qBA1⟩ := BA_16.out.c2
  have lBA := BA_16.out.lt
  go_wp2_with fail
  refine (Tb.RowsIn_own b0 d0 vh1 _ ms1.length ms1 x2 x3 _ rfl HL1.out h1_16.out.at).mono ?_
  rintro e w17 ⟨yah, ynh, ych, rfl, hnh, Oh, HW⟩
  clear qBA0 qBA1 lBA
  have HB : Hid (Below w16.heap.size w16 w17) := HW
  have Z17 : Hid (w16.heap.size ≤ w17.heap.size) := HB.out.size
  have BA_17 : Hid (BxV w w17 #[.int .i64 b0, .int .i64 d0] 47) := BA_16.out.keep HB.out
  have BEL_17 : Hid (Below w.heap.size w w17) := BEL_16.out.trans (HB.out.mono (by have z0 := Z1.out; have z1 := N1.out; have z2 := Z2.out; have z3 := Z3.out; have z4 := Z4.out; have z5 := Z5.out; have z6 := Z6.out; have z7 := Z7.out; have z8 := Z8.out; have z9 := Z9.out; have z10 := Z10.out; have z11 := Z11.out; have z12 := Z12.out; have z13 := Z13.out; have z14 := Z14.out; have z15 := Z15.out; have z16 := Z16.out; have z17 := Z17.out; omega))
  have RW_17 : Hid (Below w4.heap.size w4 w17) := RW_16.out.trans (HB.out.mono (by have z0 := Z1.out; have z1 := N1.out; have z2 := Z2.out; have z3 := Z3.out; have z4 := Z4.out; have z5 := Z5.out; have z6 := Z6.out; have z7 := Z7.out; have z8 := Z8.out; have z9 := Z9.out; have z10 := Z10.out; have z11 := Z11.out; have z12 := Z12.out; have z13 := Z13.out; have z14 := Z14.out; have z15 := Z15.out; have z16 := Z16.out; have z17 := Z17.out; omega))
  have Gg_17 : Hid (OwnEs tyRw 37 w6.heap.size w7.heap.size w17 yag nw (mrkTr 1 (riL b0 d0 ms1 x2 x3))) := Gg_16.out.keep HB.out
  have Gh_17 : Hid (OwnEs tyRw 37 w16.heap.size w17.heap.size w17 yah ynh (riL b0 d0 ms1 x2 x3)) := Oh
  clear HB HW BA_16 BEL_16 RW_16 Gg_16 h1_16
  have eh : nw = ynh := by rw [← HNW.out, ← hnh]
  subst eh
  clear hnh Oh
  obtain ⟨qBA0, qBA1⟩ := BA_17.out.c2
  have lBA := BA_17.out.lt
  go_wp2_with fail
  refine (eqRowS_own yah aw ych cw _ (riL b0 d0 ms1 x2 x3) _ HNW.out HN2.out Gh_17.out.at (W0.out.keep RW_17.out)).mono ?_
  rintro e w18 ⟨rfl, HW⟩
  clear qBA0 qBA1 lBA
  have HB : Hid (Below w17.heap.size w17 w18) := HW
  have Z18 : Hid (w17.heap.size ≤ w18.heap.size) := HB.out.size
  have BA_18 : Hid (BxV w w18 #[.int .i64 b0, .int .i64 d0] 47) := BA_17.out.keep HB.out
  have BEL_18 : Hid (Below w.heap.size w w18) := BEL_17.out.trans (HB.out.mono (by have z0 := Z1.out; have z1 := N1.out; have z2 := Z2.out; have z3 := Z3.out; have z4 := Z4.out; have z5 := Z5.out; have z6 := Z6.out; have z7 := Z7.out; have z8 := Z8.out; have z9 := Z9.out; have z10 := Z10.out; have z11 := Z11.out; have z12 := Z12.out; have z13 := Z13.out; have z14 := Z14.out; have z15 := Z15.out; have z16 := Z16.out; have z17 := Z17.out; have z18 := Z18.out; omega))
  have RW_18 : Hid (Below w4.heap.size w4 w18) := RW_17.out.trans (HB.out.mono (by have z0 := Z1.out; have z1 := N1.out; have z2 := Z2.out; have z3 := Z3.out; have z4 := Z4.out; have z5 := Z5.out; have z6 := Z6.out; have z7 := Z7.out; have z8 := Z8.out; have z9 := Z9.out; have z10 := Z10.out; have z11 := Z11.out; have z12 := Z12.out; have z13 := Z13.out; have z14 := Z14.out; have z15 := Z15.out; have z16 := Z16.out; have z17 := Z17.out; have z18 := Z18.out; omega))
  have Gg_18 : Hid (OwnEs tyRw 37 w6.heap.size w7.heap.size w18 yag nw (mrkTr 1 (riL b0 d0 ms1 x2 x3))) := Gg_17.out.keep HB.out
  have Gh_18 : Hid (OwnEs tyRw 37 w16.heap.size w17.heap.size w18 yah nw (riL b0 d0 ms1 x2 x3)) := Gh_17.out.keep HB.out
  clear HB HW BA_17 BEL_17 RW_17 Gg_17 Gh_17
  obtain ⟨qBA0, qBA1⟩ := BA_18.out.c2
  have lBA := BA_18.out.lt
  go_wp2_with fail
  refine (heldRowS_own w6.heap.size w7.heap.size _ yag _ (riL b0 d0 ms1 x2 x3) 1 _ HN2.out HNW.out (by omega) (by omega) Gg_18.out).mono ?_
  rintro e w19 ⟨rfl, HW⟩
  clear qBA0 qBA1 lBA
  have HB : Hid (Below w18.heap.size w18 w19) := HW
  have Z19 : Hid (w18.heap.size ≤ w19.heap.size) := HB.out.size
  have BA_19 : Hid (BxV w w19 #[.int .i64 b0, .int .i64 d0] 47) := BA_18.out.keep HB.out
  have BEL_19 : Hid (Below w.heap.size w w19) := BEL_18.out.trans (HB.out.mono (by have z0 := Z1.out; have z1 := N1.out; have z2 := Z2.out; have z3 := Z3.out; have z4 := Z4.out; have z5 := Z5.out; have z6 := Z6.out; have z7 := Z7.out; have z8 := Z8.out; have z9 := Z9.out; have z10 := Z10.out; have z11 := Z11.out; have z12 := Z12.out; have z13 := Z13.out; have z14 := Z14.out; have z15 := Z15.out; have z16 := Z16.out; have z17 := Z17.out; have z18 := Z18.out; have z19 := Z19.out; omega))
  have RW_19 : Hid (Below w4.heap.size w4 w19) := RW_18.out.trans (HB.out.mono (by have z0 := Z1.out; have z1 := N1.out; have z2 := Z2.out; have z3 := Z3.out; have z4 := Z4.out; have z5 := Z5.out; have z6 := Z6.out; have z7 := Z7.out; have z8 := Z8.out; have z9 := Z9.out; have z10 := Z10.out; have z11 := Z11.out; have z12 := Z12.out; have z13 := Z13.out; have z14 := Z14.out; have z15 := Z15.out; have z16 := Z16.out; have z17 := Z17.out; have z18 := Z18.out; have z19 := Z19.out; omega))
  have Gg_19 : Hid (OwnEs tyRw 37 w6.heap.size w7.heap.size w19 yag nw (mrkTr 1 (riL b0 d0 ms1 x2 x3))) := Gg_18.out.keep HB.out
  have Gh_19 : Hid (OwnEs tyRw 37 w16.heap.size w17.heap.size w19 yah nw (riL b0 d0 ms1 x2 x3)) := Gh_18.out.keep HB.out
  clear HB HW BA_18 BEL_18 RW_18 Gg_18 Gh_18
  go_wp2
  go_ret
  exact ⟨rfl, BEL_19.out⟩

set_option maxRecDepth 100000 in
theorem fnExactRowsIn_lifted (os : Os) (started : os.Started) (H : Type) (enc : TypeId × Value → H) :
    ReturnsInHanded {} Try.checked os 11 .any (Rows.fnExactRowsInSpec.pre6 enc Try.prog Try.f11 Rows.fnExactRowsInRow.domain false) (Rows.fnExactRowsInSpec.post enc Try.prog Try.f11 false true false false) := by
  refine returnsInHanded_of_change (C := Try.checked) own started (by kernel_rfl) Try.func11
    (ChangeSpec.witness6 (enc := enc) (C := Try.checked) false ⟨#[], #[.agg #[.int .i64 0, .int .i64 0], .slice none 0 0, .int .i64 0, .int .i64 0], []⟩ 8 (by kernel_rfl) (by kernel_rfl) (by kernel_rfl) (by kernel_rfl)) ?_
  intro W base args ds gs before hval0 hW hcnd _
  have hval : ∀ (j : Nat) t v, Try.f11.params[j]? = some t → args[j]? = some v → Value.okWide Try.prog W .any base t v := hval0
  have hW' := hW
  obtain ⟨p, q, hA0, hV, rfl, hfz, hnd⟩ := hW
  have hA : DataW.TrodAll enc Try.prog W 0 (fun _ => true) true Try.f11.params.toList args.toList ds p := hA0
  rw [Try.params11] at hA hval
  obtain ⟨v0, vs0, d0, ds0, p0, q0, hargs, rfl, rfl, h0, r0⟩ := trodAll_cons hA
  obtain ⟨v1, vs1, d1, ds1, p1, q1, rfl, rfl, rfl, h1, r1⟩ := trodAll_cons r0
  obtain ⟨v2, vs2, d2, ds2, p2, q2, rfl, rfl, rfl, h2, r2⟩ := trodAll_cons r1
  obtain ⟨v3, vs3, d3, ds3, p3, q3, rfl, rfl, rfl, h3, r3⟩ := trodAll_cons r2
  obtain ⟨rfl, rfl, rfl⟩ := trodAll_nil r3
  obtain rfl : args = #[v0, v1, v2, v3] := by cases args; simp_all
  obtain ⟨rfl, rfl⟩ := trodVars_none hV
  have k0 := h0
  have lt0 : ∀ x ∈ p0, x.block < W.heap.size := by obtain ⟨m, hm⟩ := k0; exact DataW.trod_lt m _ _ _ hm
  obtain ⟨c0, c1, y0, y1, m, rfl, hd0, hp0, hy0, hy1⟩ := Joins.open_agg2 Try.underlying47 (by kernel_rfl) cellsS (hval 0 47 v0 rfl rfl) h0
  obtain ⟨a, e0, _, wa⟩ := DataW.trod_int Try.underlying3 hy0
  obtain ⟨b, e1, _, wb⟩ := DataW.trod_int Try.underlying3 hy1
  simp at e0 e1
  subst e0 e1
  obtain ⟨a1, len1, cap1, rfl⟩ := okWide_slice Try.underlying48 (hval 1 48 v1 rfl rfl)
  have k1 := h1
  have lt1 : ∀ x ∈ p1, x.block < W.heap.size := by obtain ⟨m, hm⟩ := k1; exact DataW.trod_lt m _ _ _ hm
  obtain ⟨ms1, rfl, hm1, hr1⟩ := open_rows h1
  obtain ⟨a2, rfl, rfl, rfl, w2⟩ := open_int Try.underlying3 (hval 2 3 v2 rfl rfl) h2
  obtain ⟨a3, rfl, rfl, rfl, w3⟩ := open_int Try.underlying3 (hval 3 3 v3 rfl rfl) h3
  clear hA0 hval0
  refine (wFnExactRowsIn a b a1 cap1 ms1 a2 a3 W hm1 hr1).mono fun e W' ⟨he, bel⟩ => ?_
  subst he
  exact ⟨_, rfl, _, _, _, [], _, [], hW', trodAll_mk1 (shut_bool Try.underlying4 _), (trodAll_cons_mk (Below.trod laidOut (by kernel_rfl) (of_decide_eq_true (by kernel_rfl)) k0 bel lt0) (trodAll_cons_mk (Below.trod laidOut (by kernel_rfl) (of_decide_eq_true (by kernel_rfl)) k1 bel lt1) (trodAll_cons_mk (shut_int Try.underlying3 w2) (trodAll_cons_mk (shut_int Try.underlying3 w3) trodAll_mk0)))), rfl, bel.frame _, fun h => by cases h⟩

theorem fnExactRowsIn_holds : Rows.FnExactRowsInSaid :=
  OpenClaim.holds_of_wide 11 Try.f11 rfl rfl rfl rfl rfl rfl rfl ⟨rfl, rfl, rfl, rfl, rfl⟩ rfl rfl rfl rfl rfl (by kernel_rfl) Try.func11 (by kernel_rfl)
    (of_decide_eq_true (by kernel_rfl)) (by unfold Func.isWrapper; first | (rw [if_pos (by decide +kernel)]; kernel_rfl) | (rw [if_neg (by decide +kernel)]; exact ⟨rfl, rfl⟩))
    (fun os started H enc _ => fnExactRowsIn_lifted os started H enc)
#print axioms fnExactRowsIn_holds
end Go.Proofs.Ytpgngfdhnoonjaa
