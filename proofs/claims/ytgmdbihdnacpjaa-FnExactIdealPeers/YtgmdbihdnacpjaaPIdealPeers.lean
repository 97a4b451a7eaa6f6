/- For every space, list and number IdealPeers answers as its specification, in memory of its own, and leaves the list as it was: no condition. -/
import Derived.Test.YtgmdbihdnacpjaaQ8
import Derived.Test.YtgmdbihdnacpjaaX2
namespace Go.Proofs.Ytgmdbihdnacpjaa
open Go.ChangeShapes Go.WideShapes Go.ChangeAt Go.RowKit
set_option linter.unusedVariables false
set_option maxRecDepth 100000 in
set_option maxHeartbeats 12800000 in
theorem wFnExactIdealPeers (b0 d0 : Int) (a1 : Option Addr) (cap1 : Nat) (zs1 : List Int) (x2 : Int) (w : World) (hm1 : zs1.length ≤ maxLen) (hr1 : RowAt w a1 zs1) :
    Calls Try.prog 5 #[.agg #[.int .i64 b0, .int .i64 d0], .slice a1 zs1.length cap1, .int .i64 x2] w fun e w' => e = .returned (.bool true) ∧ Below w.heap.size w w' := by
  have HR1 : Hid (RowAt w a1 zs1) := hr1
  clear hr1
  unfold maxLen at hm1
  by_cases hbig1 : 1048576 < zs1.length
  · go_enter Try.func5, Try.ntmps5
    go_wp2
    go_ret
    exact ⟨rfl, belA _ _⟩
  · have hl1 : zs1.length ≤ 1048576 := by omega
    clear hbig1 hm1
    go_enter Try.func5, Try.ntmps5
    go_wp2_with fail
    refine (toSpace_any b0 d0 _).mono ?_
    rintro e w1 ⟨rfl, HW⟩
    have HB : Hid (Below w.heap.size w w1) := belt (belA _ _) HW
    have Z1 : Hid (w.heap.size ≤ w1.heap.size) := HB.out.size
    have N1 : Hid (w.heap.size < w1.heap.size) := (bxV1 HW).lt
    have BA_1 : Hid (BxV w w1 #[.int .i64 b0, .int .i64 d0] 43) := bxV1 HW
    have BEL_1 : Hid (Below w.heap.size w w1) := belt (belA _ _) HW
    clear HB HW 
    obtain ⟨qBA0, qBA1⟩ := BA_1.out.c2
    have lBA := BA_1.out.lt
    go_wp2_with fail
    refine (toIntS_own a1 cap1 zs1 _ hl1 (HR1.out.keep BEL_1.out)).mono ?_
    rintro e w2 ⟨vc1, rfl, Oc1, HW⟩
    clear qBA0 qBA1 lBA
    have HB : Hid (Below w1.heap.size w1 w2) := HW
    have Z2 : Hid (w1.heap.size ≤ w2.heap.size) := HB.out.size
    have BA_2 : Hid (BxV w w2 #[.int .i64 b0, .int .i64 d0] 43) := BA_1.out.keep HB.out
    have BEL_2 : Hid (Below w.heap.size w w2) := BEL_1.out.trans (HB.out.mono (by have z0 := Z1.out; have z1 := N1.out; have z2 := Z2.out; omega))
    have c1_2 : Hid (OwnLs w1.heap.size w2.heap.size w2 vc1 zs1.length zs1) := Oc1
    clear HB HW BA_1 BEL_1
    clear Oc1
    obtain ⟨qBA0, qBA1⟩ := BA_2.out.c2
    have lBA := BA_2.out.lt
    go_wp2_with fail
    refine (lIdealPeers_own b0 d0 vc1 zs1.length zs1 x2 _ hl1 c1_2.out.rowAt).mono ?_
    rintro e w3 ⟨bw, dw, aw, nw, cw, rfl, hnw, hbw, rw0, HW⟩
    clear qBA0 qBA1 lBA
    have HB : Hid (Below w2.heap.size w2 w3) := HW
    have Z3 : Hid (w2.heap.size ≤ w3.heap.size) := HB.out.size
    have BA_3 : Hid (BxV w w3 #[.int .i64 b0, .int .i64 d0] 43) := BA_2.out.keep HB.out
    have BEL_3 : Hid (Below w.heap.size w w3) := BEL_2.out.trans (HB.out.mono (by have z0 := Z1.out; have z1 := N1.out; have z2 := Z2.out; have z3 := Z3.out; omega))
    have RW_3 : Hid (Below w3.heap.size w3 w3) := Below.refl _ _
    clear HB HW BA_2 BEL_2 c1_2
    have W0 : Hid (PeersAt w3 aw (idlL b0 d0 zs1 x2)) := rw0
    have HNW : Hid ((idlL b0 d0 zs1 x2).length = nw) := hnw
    have HBW : Hid ((bw, dw) = spcOf (idlOk b0 d0 zs1 x2) b0 d0) := hbw
    clear rw0 hnw hbw
    obtain ⟨qBA0, qBA1⟩ := BA_3.out.c2
    have lBA := BA_3.out.lt
    go_wp2_with fail
    refine (toIntS_own a1 cap1 zs1 _ hl1 (HR1.out.keep (belt BEL_3.out (belA _ _)))).mono ?_
    rintro e w4 ⟨vx1, rfl, Ox1, HW⟩
    clear qBA0 qBA1 lBA
    have HB : Hid (Below w3.heap.size w3 w4) := belt (belA _ _) HW
    have Z4 : Hid (w3.heap.size ≤ w4.heap.size) := HB.out.size
    have N4 : Hid (w3.heap.size < w4.heap.size) := (bxV1 HW).lt
    have BA_4 : Hid (BxV w w4 #[.int .i64 b0, .int .i64 d0] 43) := BA_3.out.keep HB.out
    have BEL_4 : Hid (Below w.heap.size w w4) := BEL_3.out.trans (HB.out.mono (by have z0 := Z1.out; have z1 := N1.out; have z2 := Z2.out; have z3 := Z3.out; have z4 := Z4.out; have z5 := N4.out; omega))
    have RW_4 : Hid (Below w3.heap.size w3 w4) := RW_3.out.trans (HB.out.mono (by have z0 := Z1.out; have z1 := N1.out; have z2 := Z2.out; have z3 := Z3.out; have z4 := Z4.out; have z5 := N4.out; omega))
    have BW_4 : Hid (BxV w3 w4 #[.int .i64 bw, .int .i64 dw, .slice aw nw cw] 28) := bxV1 HW
    have X1_4 : Hid (OwnLs (w3.heap.size + 1) w4.heap.size w4 vx1 zs1.length zs1) := (by have h := Ox1; simp only [World.size_alloc] at h; exact h)
    clear HB HW BA_3 BEL_3 RW_3
    clear Ox1
    obtain ⟨qBA0, qBA1⟩ := BA_4.out.c2
    have lBA := BA_4.out.lt
    obtain ⟨qBW0, qBW1, qBW2⟩ := BW_4.out.c3
    have lBW := BW_4.out.lt
    go_wp2_with fail
    refine (toSpace_any b0 d0 _).mono ?_
    rintro e w5 ⟨rfl, HW⟩
    clear qBA0 qBA1 lBA qBW0 qBW1 qBW2 lBW
    have HB : Hid (Below w4.heap.size w4 w5) := HW
    have Z5 : Hid (w4.heap.size ≤ w5.heap.size) := HB.out.size
    have BA_5 : Hid (BxV w w5 #[.int .i64 b0, .int .i64 d0] 43) := BA_4.out.keep HB.out
    have BEL_5 : Hid (Below w.heap.size w w5) := BEL_4.out.trans (HB.out.mono (by have z0 := Z1.out; have z1 := N1.out; have z2 := Z2.out; have z3 := Z3.out; have z4 := Z4.out; have z5 := N4.out; have z6 := Z5.out; omega))
    have RW_5 : Hid (Below w3.heap.size w3 w5) := RW_4.out.trans (HB.out.mono (by have z0 := Z1.out; have z1 := N1.out; have z2 := Z2.out; have z3 := Z3.out; have z4 := Z4.out; have z5 := N4.out; have z6 := Z5.out; omega))
    have BW_5 : Hid (BxV w3 w5 #[.int .i64 bw, .int .i64 dw, .slice aw nw cw] 28) := BW_4.out.keep HB.out
    have X1_5 : Hid (OwnLs (w3.heap.size + 1) w4.heap.size w5 vx1 zs1.length zs1) := X1_4.out.keep HB.out
    clear HB HW BA_4 BEL_4 RW_4 BW_4 X1_4
    obtain ⟨qBA0, qBA1⟩ := BA_5.out.c2
    have lBA := BA_5.out.lt
    obtain ⟨qBW0, qBW1, qBW2⟩ := BW_5.out.c3
    have lBW := BW_5.out.lt
    go_wp2_with fail
    refine (IdealPeers_own b0 d0 vx1 zs1.length zs1 x2 _ hl1 X1_5.out.rowAt).mono ?_
    rintro e w6 ⟨bg, dg, ag, ng, cg, rfl, hng, hbg, Og, HW⟩
    clear qBA0 qBA1 lBA qBW0 qBW1 qBW2 lBW
    have HB : Hid (Below w5.heap.size w5 w6) := HW
    have Z6 : Hid (w5.heap.size ≤ w6.heap.size) := HB.out.size
    have BA_6 : Hid (BxV w w6 #[.int .i64 b0, .int .i64 d0] 43) := BA_5.out.keep HB.out
    have BEL_6 : Hid (Below w.heap.size w w6) := BEL_5.out.trans (HB.out.mono (by have z0 := Z1.out; have z1 := N1.out; have z2 := Z2.out; have z3 := Z3.out; have z4 := Z4.out; have z5 := N4.out; have z6 := Z5.out; have z7 := Z6.out; omega))
    have RW_6 : Hid (Below w3.heap.size w3 w6) := RW_5.out.trans (HB.out.mono (by have z0 := Z1.out; have z1 := N1.out; have z2 := Z2.out; have z3 := Z3.out; have z4 := Z4.out; have z5 := N4.out; have z6 := Z5.out; have z7 := Z6.out; omega))
    have BW_6 : Hid (BxV w3 w6 #[.int .i64 bw, .int .i64 dw, .slice aw nw cw] 28) := BW_5.out.keep HB.out
    have X1_6 : Hid (OwnLs (w3.heap.size + 1) w4.heap.size w6 vx1 zs1.length zs1) := X1_5.out.keep HB.out
    have Gg_6 : Hid (OwnPs w5.heap.size w6.heap.size w6 ag ng (idlL b0 d0 zs1 x2)) := Og
    clear HB HW BA_5 BEL_5 RW_5 BW_5 X1_5
    have eg : nw = ng := by rw [← HNW.out, ← hng]
    subst eg
    have fg : bw = bg ∧ dw = dg := by have := HBW.out.trans hbg.symm; simpa using this
    obtain ⟨rfl, rfl⟩ := fg
    clear hng hbg Og
    have HNS : Hid ((idlL b0 d0 zs1 x2).length + bsum (idlL b0 d0 zs1 x2) ≤ 1048576) := idlL_big b0 d0 zs1 x2
    have HN2 : Hid (nw ≤ 1048576) := by unfold Hid; rw [← HNW.out]; have := HNS.out; omega
    have hgb := bne_self_bool (idlOk b0 d0 zs1 x2)
    obtain ⟨qBA0, qBA1⟩ := BA_6.out.c2
    have lBA := BA_6.out.lt
    obtain ⟨qBW0, qBW1, qBW2⟩ := BW_6.out.c3
    have lBW := BW_6.out.lt
    go_wp2_with fail
    refine (eqPeers_own _ _ ag aw cg cw _ (idlL b0 d0 zs1 x2) _ HNW.out HN2.out (Gg_6.out.peersAt.keep (belA _ _)) (W0.out.keep (RW_6.out.trans ((belA _ _).mono (by have z0 := Z1.out; have z1 := N1.out; have z2 := Z2.out; have z3 := Z3.out; have z4 := Z4.out; have z5 := N4.out; have z6 := Z5.out; have z7 := Z6.out; omega))))).mono ?_
    rintro e w7 ⟨rfl, HW⟩
    clear qBA0 qBA1 lBA qBW0 qBW1 qBW2 lBW
    have HB : Hid (Below w6.heap.size w6 w7) := belt (belA _ _) HW
    have Z7 : Hid (w6.heap.size ≤ w7.heap.size) := HB.out.size
    have N7 : Hid (w6.heap.size < w7.heap.size) := (bxV1 HW).lt
    have BA_7 : Hid (BxV w w7 #[.int .i64 b0, .int .i64 d0] 43) := BA_6.out.keep HB.out
    have BEL_7 : Hid (Below w.heap.size w w7) := BEL_6.out.trans (HB.out.mono (by have z0 := Z1.out; have z1 := N1.out; have z2 := Z2.out; have z3 := Z3.out; have z4 := Z4.out; have z5 := N4.out; have z6 := Z5.out; have z7 := Z6.out; have z8 := Z7.out; have z9 := N7.out; omega))
    have RW_7 : Hid (Below w3.heap.size w3 w7) := RW_6.out.trans (HB.out.mono (by have z0 := Z1.out; have z1 := N1.out; have z2 := Z2.out; have z3 := Z3.out; have z4 := Z4.out; have z5 := N4.out; have z6 := Z5.out; have z7 := Z6.out; have z8 := Z7.out; have z9 := N7.out; omega))
    have BW_7 : Hid (BxV w3 w7 #[.int .i64 bw, .int .i64 dw, .slice aw nw cw] 28) := BW_6.out.keep HB.out
    have X1_7 : Hid (OwnLs (w3.heap.size + 1) w4.heap.size w7 vx1 zs1.length zs1) := X1_6.out.keep HB.out
    have Gg_7 : Hid (OwnPs w5.heap.size w6.heap.size w7 ag nw (idlL b0 d0 zs1 x2)) := Gg_6.out.keep HB.out
    have Bg_7 : Hid (BxV w6 w7 #[.int .i64 bw, .int .i64 dw, .slice ag nw cg] 28) := bxV1 HW
    clear HB HW BA_6 BEL_6 RW_6 BW_6 X1_6 Gg_6
    obtain ⟨qBA0, qBA1⟩ := BA_7.out.c2
    have lBA := BA_7.out.lt
    obtain ⟨qBW0, qBW1, qBW2⟩ := BW_7.out.c3
    have lBW := BW_7.out.lt
    obtain ⟨qBg0, qBg1, qBg2⟩ := Bg_7.out.c3
    have lBg := Bg_7.out.lt
    go_wp2_with fail
    refine (toIntS_own a1 cap1 zs1 _ hl1 (HR1.out.keep BEL_7.out)).mono ?_
    rintro e w8 ⟨vy1, rfl, Oy1, HW⟩
    clear qBA0 qBA1 lBA qBW0 qBW1 qBW2 lBW qBg0 qBg1 qBg2 lBg
    have HB : Hid (Below w7.heap.size w7 w8) := HW
    have Z8 : Hid (w7.heap.size ≤ w8.heap.size) := HB.out.size
    have BA_8 : Hid (BxV w w8 #[.int .i64 b0, .int .i64 d0] 43) := BA_7.out.keep HB.out
    have BEL_8 : Hid (Below w.heap.size w w8) := BEL_7.out.trans (HB.out.mono (by have z0 := Z1.out; have z1 := N1.out; have z2 := Z2.out; have z3 := Z3.out; have z4 := Z4.out; have z5 := N4.out; have z6 := Z5.out; have z7 := Z6.out; have z8 := Z7.out; have z9 := N7.out; have z10 := Z8.out; omega))
    have RW_8 : Hid (Below w3.heap.size w3 w8) := RW_7.out.trans (HB.out.mono (by have z0 := Z1.out; have z1 := N1.out; have z2 := Z2.out; have z3 := Z3.out; have z4 := Z4.out; have z5 := N4.out; have z6 := Z5.out; have z7 := Z6.out; have z8 := Z7.out; have z9 := N7.out; have z10 := Z8.out; omega))
    have BW_8 : Hid (BxV w3 w8 #[.int .i64 bw, .int .i64 dw, .slice aw nw cw] 28) := BW_7.out.keep HB.out
    have X1_8 : Hid (OwnLs (w3.heap.size + 1) w4.heap.size w8 vx1 zs1.length zs1) := X1_7.out.keep HB.out
    have Gg_8 : Hid (OwnPs w5.heap.size w6.heap.size w8 ag nw (idlL b0 d0 zs1 x2)) := Gg_7.out.keep HB.out
    have Bg_8 : Hid (BxV w6 w8 #[.int .i64 bw, .int .i64 dw, .slice ag nw cg] 28) := Bg_7.out.keep HB.out
    have y1_8 : Hid (OwnLs w7.heap.size w8.heap.size w8 vy1 zs1.length zs1) := Oy1
    clear HB HW BA_7 BEL_7 RW_7 BW_7 X1_7 Gg_7 Bg_7
    clear Oy1
    obtain ⟨qBA0, qBA1⟩ := BA_8.out.c2
    have lBA := BA_8.out.lt
    obtain ⟨qBW0, qBW1, qBW2⟩ := BW_8.out.c3
    have lBW := BW_8.out.lt
    obtain ⟨qBg0, qBg1, qBg2⟩ := Bg_8.out.c3
    have lBg := Bg_8.out.lt
    go_wp2_with fail
    refine (eqIntS_own vx1 vy1 _ _ _ zs1 _ rfl hl1 X1_8.out.rowAt y1_8.out.rowAt).mono ?_
    rintro e w9 ⟨rfl, HW⟩
    clear qBA0 qBA1 lBA qBW0 qBW1 qBW2 lBW qBg0 qBg1 qBg2 lBg
    have HB : Hid (Below w8.heap.size w8 w9) := HW
    have Z9 : Hid (w8.heap.size ≤ w9.heap.size) := HB.out.size
    have BA_9 : Hid (BxV w w9 #[.int .i64 b0, .int .i64 d0] 43) := BA_8.out.keep HB.out
    have BEL_9 : Hid (Below w.heap.size w w9) := BEL_8.out.trans (HB.out.mono (by have z0 := Z1.out; have z1 := N1.out; have z2 := Z2.out; have z3 := Z3.out; have z4 := Z4.out; have z5 := N4.out; have z6 := Z5.out; have z7 := Z6.out; have z8 := Z7.out; have z9 := N7.out; have z10 := Z8.out; have z11 := Z9.out; omega))
    have RW_9 : Hid (Below w3.heap.size w3 w9) := RW_8.out.trans (HB.out.mono (by have z0 := Z1.out; have z1 := N1.out; have z2 := Z2.out; have z3 := Z3.out; have z4 := Z4.out; have z5 := N4.out; have z6 := Z5.out; have z7 := Z6.out; have z8 := Z7.out; have z9 := N7.out; have z10 := Z8.out; have z11 := Z9.out; omega))
    have BW_9 : Hid (BxV w3 w9 #[.int .i64 bw, .int .i64 dw, .slice aw nw cw] 28) := BW_8.out.keep HB.out
    have X1_9 : Hid (OwnLs (w3.heap.size + 1) w4.heap.size w9 vx1 zs1.length zs1) := X1_8.out.keep HB.out
    have Gg_9 : Hid (OwnPs w5.heap.size w6.heap.size w9 ag nw (idlL b0 d0 zs1 x2)) := Gg_8.out.keep HB.out
    have Bg_9 : Hid (BxV w6 w9 #[.int .i64 bw, .int .i64 dw, .slice ag nw cg] 28) := Bg_8.out.keep HB.out
    clear HB HW BA_8 BEL_8 RW_8 BW_8 X1_8 Gg_8 Bg_8 y1_8
    obtain ⟨qBA0, qBA1⟩ := BA_9.out.c2
    have lBA := BA_9.out.lt
    obtain ⟨qBW0, qBW1, qBW2⟩ := BW_9.out.c3
    have lBW := BW_9.out.lt
    obtain ⟨qBg0, qBg1, qBg2⟩ := Bg_9.out.c3
    have lBg := Bg_9.out.lt
    go_wp2_with fail
    refine (markIntS_own (w3.heap.size + 1) w4.heap.size _ vx1 _ zs1 (1) _ hl1 (by omega) (by omega) X1_9.out).mono ?_
    rintro e w10 ⟨rfl, MK, OM⟩
    clear qBA0 qBA1 lBA qBW0 qBW1 qBW2 lBW qBg0 qBg1 qBg2 lBg
    have HB : Hid (Mk (w3.heap.size + 1) w4.heap.size w9 w10) := MK
    have Z10 : Hid (w9.heap.size ≤ w10.heap.size) := HB.out.size
    have BA_10 : Hid (BxV w w10 #[.int .i64 b0, .int .i64 d0] 43) := BA_9.out.mkd HB.out (by first | exact .inl (by have z0 := Z1.out; have z1 := N1.out; have z2 := Z2.out; have z3 := Z3.out; have z4 := Z4.out; have z5 := N4.out; have z6 := Z5.out; have z7 := Z6.out; have z8 := Z7.out; have z9 := N7.out; have z10 := Z8.out; have z11 := Z9.out; have z12 := Z10.out; omega) | exact .inr (by have z0 := Z1.out; have z1 := N1.out; have z2 := Z2.out; have z3 := Z3.out; have z4 := Z4.out; have z5 := N4.out; have z6 := Z5.out; have z7 := Z6.out; have z8 := Z7.out; have z9 := N7.out; have z10 := Z8.out; have z11 := Z9.out; have z12 := Z10.out; omega))
    have BEL_10 : Hid (Below w.heap.size w w10) := HB.out.below _ _ (by have z0 := Z1.out; have z1 := N1.out; have z2 := Z2.out; have z3 := Z3.out; have z4 := Z4.out; have z5 := N4.out; have z6 := Z5.out; have z7 := Z6.out; have z8 := Z7.out; have z9 := N7.out; have z10 := Z8.out; have z11 := Z9.out; have z12 := Z10.out; omega) BEL_9.out
    have RW_10 : Hid (Below w3.heap.size w3 w10) := HB.out.below _ _ (by have z0 := Z1.out; have z1 := N1.out; have z2 := Z2.out; have z3 := Z3.out; have z4 := Z4.out; have z5 := N4.out; have z6 := Z5.out; have z7 := Z6.out; have z8 := Z7.out; have z9 := N7.out; have z10 := Z8.out; have z11 := Z9.out; have z12 := Z10.out; omega) RW_9.out
    have BW_10 : Hid (BxV w3 w10 #[.int .i64 bw, .int .i64 dw, .slice aw nw cw] 28) := BW_9.out.mkd HB.out (by first | exact .inl (by have z0 := Z1.out; have z1 := N1.out; have z2 := Z2.out; have z3 := Z3.out; have z4 := Z4.out; have z5 := N4.out; have z6 := Z5.out; have z7 := Z6.out; have z8 := Z7.out; have z9 := N7.out; have z10 := Z8.out; have z11 := Z9.out; have z12 := Z10.out; omega) | exact .inr (by have z0 := Z1.out; have z1 := N1.out; have z2 := Z2.out; have z3 := Z3.out; have z4 := Z4.out; have z5 := N4.out; have z6 := Z5.out; have z7 := Z6.out; have z8 := Z7.out; have z9 := N7.out; have z10 := Z8.out; have z11 := Z9.out; have z12 := Z10.out; omega))
    have Gg_10 : Hid (OwnPs w5.heap.size w6.heap.size w10 ag nw (idlL b0 d0 zs1 x2)) := Gg_9.out.mkd HB.out (by first | exact .inl (by have z0 := Z1.out; have z1 := N1.out; have z2 := Z2.out; have z3 := Z3.out; have z4 := Z4.out; have z5 := N4.out; have z6 := Z5.out; have z7 := Z6.out; have z8 := Z7.out; have z9 := N7.out; have z10 := Z8.out; have z11 := Z9.out; have z12 := Z10.out; omega) | exact .inr (by have z0 := Z1.out; have z1 := N1.out; have z2 := Z2.out; have z3 := Z3.out; have z4 := Z4.out; have z5 := N4.out; have z6 := Z5.out; have z7 := Z6.out; have z8 := Z7.out; have z9 := N7.out; have z10 := Z8.out; have z11 := Z9.out; have z12 := Z10.out; omega))
    have Bg_10 : Hid (BxV w6 w10 #[.int .i64 bw, .int .i64 dw, .slice ag nw cg] 28) := Bg_9.out.mkd HB.out (by first | exact .inl (by have z0 := Z1.out; have z1 := N1.out; have z2 := Z2.out; have z3 := Z3.out; have z4 := Z4.out; have z5 := N4.out; have z6 := Z5.out; have z7 := Z6.out; have z8 := Z7.out; have z9 := N7.out; have z10 := Z8.out; have z11 := Z9.out; have z12 := Z10.out; omega) | exact .inr (by have z0 := Z1.out; have z1 := N1.out; have z2 := Z2.out; have z3 := Z3.out; have z4 := Z4.out; have z5 := N4.out; have z6 := Z5.out; have z7 := Z6.out; have z8 := Z7.out; have z9 := N7.out; have z10 := Z8.out; have z11 := Z9.out; have z12 := Z10.out; omega))
    have X1_10 : Hid (OwnLs (w3.heap.size + 1) w4.heap.size w10 vx1 zs1.length (mrk (1) zs1 zs1.length)) := OM
    clear HB MK BA_9 BEL_9 RW_9 BW_9 X1_9 Gg_9 Bg_9
    clear OM
    obtain ⟨qBA0, qBA1⟩ := BA_10.out.c2
    have lBA := BA_10.out.lt
    obtain ⟨qBW0, qBW1, qBW2⟩ := BW_10.out.c3
    have lBW := BW_10.out.lt
    obtain ⟨qBg0, qBg1, qBg2⟩ := Bg_10.out.c3
    have lBg := Bg_10.out.lt
    go_wp2_with fail
    refine (eqPeers_own _ _ ag aw cg cw _ (idlL b0 d0 zs1 x2) _ HNW.out HN2.out Gg_10.out.peersAt (W0.out.keep RW_10.out)).mono ?_
    rintro e w11 ⟨rfl, HW⟩
    clear qBA0 qBA1 lBA qBW0 qBW1 qBW2 lBW qBg0 qBg1 qBg2 lBg
    have HB : Hid (Below w10.heap.size w10 w11) := HW
    have Z11 : Hid (w10.heap.size ≤ w11.heap.size) := HB.out.size
    have BA_11 : Hid (BxV w w11 #[.int .i64 b0, .int .i64 d0] 43) := BA_10.out.keep HB.out
    have BEL_11 : Hid (Below w.heap.size w w11) := BEL_10.out.trans (HB.out.mono (by have z0 := Z1.out; have z1 := N1.out; have z2 := Z2.out; have z3 := Z3.out; have z4 := Z4.out; have z5 := N4.out; have z6 := Z5.out; have z7 := Z6.out; have z8 := Z7.out; have z9 := N7.out; have z10 := Z8.out; have z11 := Z9.out; have z12 := Z10.out; have z13 := Z11.out; omega))
    have RW_11 : Hid (Below w3.heap.size w3 w11) := RW_10.out.trans (HB.out.mono (by have z0 := Z1.out; have z1 := N1.out; have z2 := Z2.out; have z3 := Z3.out; have z4 := Z4.out; have z5 := N4.out; have z6 := Z5.out; have z7 := Z6.out; have z8 := Z7.out; have z9 := N7.out; have z10 := Z8.out; have z11 := Z9.out; have z12 := Z10.out; have z13 := Z11.out; omega))
    have BW_11 : Hid (BxV w3 w11 #[.int .i64 bw, .int .i64 dw, .slice aw nw cw] 28) := BW_10.out.keep HB.out
    have Gg_11 : Hid (OwnPs w5.heap.size w6.heap.size w11 ag nw (idlL b0 d0 zs1 x2)) := Gg_10.out.keep HB.out
    have Bg_11 : Hid (BxV w6 w11 #[.int .i64 bw, .int .i64 dw, .slice ag nw cg] 28) := Bg_10.out.keep HB.out
    have X1_11 : Hid (OwnLs (w3.heap.size + 1) w4.heap.size w11 vx1 zs1.length (mrk (1) zs1 zs1.length)) := X1_10.out.keep HB.out
    clear HB HW BA_10 BEL_10 RW_10 BW_10 Gg_10 Bg_10 X1_10
    have hkg := kAt_bd (k := 1) (ps := idlL b0 d0 zs1 x2) (i := nw) (Nat.le_of_eq HNW.out.symm) HNS.out
    obtain ⟨qBA0, qBA1⟩ := BA_11.out.c2
    have lBA := BA_11.out.lt
    obtain ⟨qBW0, qBW1, qBW2⟩ := BW_11.out.c3
    have lBW := BW_11.out.lt
    obtain ⟨qBg0, qBg1, qBg2⟩ := Bg_11.out.c3
    have lBg := Bg_11.out.lt
    go_wp2_with fail
    refine (markPeers_own _ _ w5.heap.size w6.heap.size _ ag _ (idlL b0 d0 zs1 x2) 1 _ HNS.out (by omega) (by omega) (by have z0 := Z1.out; have z1 := N1.out; have z2 := Z2.out; have z3 := Z3.out; have z4 := Z4.out; have z5 := N4.out; have z6 := Z5.out; have z7 := Z6.out; have z8 := Z7.out; have z9 := N7.out; have z10 := Z8.out; have z11 := Z9.out; have z12 := Z10.out; have z13 := Z11.out; omega) (by have z0 := Z1.out; have z1 := N1.out; have z2 := Z2.out; have z3 := Z3.out; have z4 := Z4.out; have z5 := N4.out; have z6 := Z5.out; have z7 := Z6.out; have z8 := Z7.out; have z9 := N7.out; have z10 := Z8.out; have z11 := Z9.out; have z12 := Z10.out; have z13 := Z11.out; omega) Gg_11.out).mono ?_
    rintro e w12 ⟨rfl, MK, OM⟩
    clear qBA0 qBA1 lBA qBW0 qBW1 qBW2 lBW qBg0 qBg1 qBg2 lBg
    have HB : Hid (Mk w5.heap.size w6.heap.size w11 w12) := MK
    have Z12 : Hid (w11.heap.size ≤ w12.heap.size) := HB.out.size
    have BA_12 : Hid (BxV w w12 #[.int .i64 b0, .int .i64 d0] 43) := BA_11.out.mkd HB.out (by first | exact .inl (by have z0 := Z1.out; have z1 := N1.out; have z2 := Z2.out; have z3 := Z3.out; have z4 := Z4.out; have z5 := N4.out; have z6 := Z5.out; have z7 := Z6.out; have z8 := Z7.out; have z9 := N7.out; have z10 := Z8.out; have z11 := Z9.out; have z12 := Z10.out; have z13 := Z11.out; have z14 := Z12.out; omega) | exact .inr (by have z0 := Z1.out; have z1 := N1.out; have z2 := Z2.out; have z3 := Z3.out; have z4 := Z4.out; have z5 := N4.out; have z6 := Z5.out; have z7 := Z6.out; have z8 := Z7.out; have z9 := N7.out; have z10 := Z8.out; have z11 := Z9.out; have z12 := Z10.out; have z13 := Z11.out; have z14 := Z12.out; omega))
    have BEL_12 : Hid (Below w.heap.size w w12) := HB.out.below _ _ (by have z0 := Z1.out; have z1 := N1.out; have z2 := Z2.out; have z3 := Z3.out; have z4 := Z4.out; have z5 := N4.out; have z6 := Z5.out; have z7 := Z6.out; have z8 := Z7.out; have z9 := N7.out; have z10 := Z8.out; have z11 := Z9.out; have z12 := Z10.out; have z13 := Z11.out; have z14 := Z12.out; omega) BEL_11.out
    have RW_12 : Hid (Below w3.heap.size w3 w12) := HB.out.below _ _ (by have z0 := Z1.out; have z1 := N1.out; have z2 := Z2.out; have z3 := Z3.out; have z4 := Z4.out; have z5 := N4.out; have z6 := Z5.out; have z7 := Z6.out; have z8 := Z7.out; have z9 := N7.out; have z10 := Z8.out; have z11 := Z9.out; have z12 := Z10.out; have z13 := Z11.out; have z14 := Z12.out; omega) RW_11.out
    have BW_12 : Hid (BxV w3 w12 #[.int .i64 bw, .int .i64 dw, .slice aw nw cw] 28) := BW_11.out.mkd HB.out (by first | exact .inl (by have z0 := Z1.out; have z1 := N1.out; have z2 := Z2.out; have z3 := Z3.out; have z4 := Z4.out; have z5 := N4.out; have z6 := Z5.out; have z7 := Z6.out; have z8 := Z7.out; have z9 := N7.out; have z10 := Z8.out; have z11 := Z9.out; have z12 := Z10.out; have z13 := Z11.out; have z14 := Z12.out; omega) | exact .inr (by have z0 := Z1.out; have z1 := N1.out; have z2 := Z2.out; have z3 := Z3.out; have z4 := Z4.out; have z5 := N4.out; have z6 := Z5.out; have z7 := Z6.out; have z8 := Z7.out; have z9 := N7.out; have z10 := Z8.out; have z11 := Z9.out; have z12 := Z10.out; have z13 := Z11.out; have z14 := Z12.out; omega))
    have Bg_12 : Hid (BxV w6 w12 #[.int .i64 bw, .int .i64 dw, .slice ag nw cg] 28) := Bg_11.out.mkd HB.out (by first | exact .inl (by have z0 := Z1.out; have z1 := N1.out; have z2 := Z2.out; have z3 := Z3.out; have z4 := Z4.out; have z5 := N4.out; have z6 := Z5.out; have z7 := Z6.out; have z8 := Z7.out; have z9 := N7.out; have z10 := Z8.out; have z11 := Z9.out; have z12 := Z10.out; have z13 := Z11.out; have z14 := Z12.out; omega) | exact .inr (by have z0 := Z1.out; have z1 := N1.out; have z2 := Z2.out; have z3 := Z3.out; have z4 := Z4.out; have z5 := N4.out; have z6 := Z5.out; have z7 := Z6.out; have z8 := Z7.out; have z9 := N7.out; have z10 := Z8.out; have z11 := Z9.out; have z12 := Z10.out; have z13 := Z11.out; have z14 := Z12.out; omega))
    have Gg_12 : Hid (OwnPs w5.heap.size w6.heap.size w12 ag nw (mrkP 1 (idlL b0 d0 zs1 x2))) := OM
    clear HB MK BA_11 BEL_11 RW_11 BW_11 Gg_11 Bg_11 X1_11
    clear OM
    obtain ⟨kg, hkgE⟩ : ∃ kg, kg = kAt 1 (idlL b0 d0 zs1 x2) nw := ⟨_, rfl⟩
    rw [← hkgE] at hkg ⊢
    have HKG : Hid (kAt 1 (idlL b0 d0 zs1 x2) nw = kg) := hkgE.symm
    clear hkgE
    have CHD := heldPeers_own bw dw w5.heap.size w6.heap.size cg ag nw (idlL b0 d0 zs1 x2) 1 w12 HNS.out HNW.out (by omega) (by omega) Gg_12.out
    rw [HKG.out] at CHD
    obtain ⟨qBA0, qBA1⟩ := BA_12.out.c2
    have lBA := BA_12.out.lt
    obtain ⟨qBW0, qBW1, qBW2⟩ := BW_12.out.c3
    have lBW := BW_12.out.lt
    obtain ⟨qBg0, qBg1, qBg2⟩ := Bg_12.out.c3
    have lBg := Bg_12.out.lt
    go_wp2_with fail
    refine (CHD).mono ?_
    rintro e w13 ⟨rfl, HW⟩
    clear qBA0 qBA1 lBA qBW0 qBW1 qBW2 lBW qBg0 qBg1 qBg2 lBg
    have HB : Hid (Below w12.heap.size w12 w13) := HW
    have Z13 : Hid (w12.heap.size ≤ w13.heap.size) := HB.out.size
    have BA_13 : Hid (BxV w w13 #[.int .i64 b0, .int .i64 d0] 43) := BA_12.out.keep HB.out
    have BEL_13 : Hid (Below w.heap.size w w13) := BEL_12.out.trans (HB.out.mono (by have z0 := Z1.out; have z1 := N1.out; have z2 := Z2.out; have z3 := Z3.out; have z4 := Z4.out; have z5 := N4.out; have z6 := Z5.out; have z7 := Z6.out; have z8 := Z7.out; have z9 := N7.out; have z10 := Z8.out; have z11 := Z9.out; have z12 := Z10.out; have z13 := Z11.out; have z14 := Z12.out; have z15 := Z13.out; omega))
    have RW_13 : Hid (Below w3.heap.size w3 w13) := RW_12.out.trans (HB.out.mono (by have z0 := Z1.out; have z1 := N1.out; have z2 := Z2.out; have z3 := Z3.out; have z4 := Z4.out; have z5 := N4.out; have z6 := Z5.out; have z7 := Z6.out; have z8 := Z7.out; have z9 := N7.out; have z10 := Z8.out; have z11 := Z9.out; have z12 := Z10.out; have z13 := Z11.out; have z14 := Z12.out; have z15 := Z13.out; omega))
    have BW_13 : Hid (BxV w3 w13 #[.int .i64 bw, .int .i64 dw, .slice aw nw cw] 28) := BW_12.out.keep HB.out
    have Bg_13 : Hid (BxV w6 w13 #[.int .i64 bw, .int .i64 dw, .slice ag nw cg] 28) := Bg_12.out.keep HB.out
    have Gg_13 : Hid (OwnPs w5.heap.size w6.heap.size w13 ag nw (mrkP 1 (idlL b0 d0 zs1 x2))) := Gg_12.out.keep HB.out
    clear HB HW BA_12 BEL_12 RW_12 BW_12 Bg_12 Gg_12
    clear CHD
    obtain ⟨qBA0, qBA1⟩ := BA_13.out.c2
    have lBA := BA_13.out.lt
    obtain ⟨qBW0, qBW1, qBW2⟩ := BW_13.out.c3
    have lBW := BW_13.out.lt
    obtain ⟨qBg0, qBg1, qBg2⟩ := Bg_13.out.c3
    have lBg := Bg_13.out.lt
    go_wp2_with fail
    refine (toSpace_any b0 d0 _).mono ?_
    rintro e w14 ⟨rfl, HW⟩
    clear qBA0 qBA1 lBA qBW0 qBW1 qBW2 lBW qBg0 qBg1 qBg2 lBg
    have HB : Hid (Below w13.heap.size w13 w14) := HW
    have Z14 : Hid (w13.heap.size ≤ w14.heap.size) := HB.out.size
    have BA_14 : Hid (BxV w w14 #[.int .i64 b0, .int .i64 d0] 43) := BA_13.out.keep HB.out
    have BEL_14 : Hid (Below w.heap.size w w14) := BEL_13.out.trans (HB.out.mono (by have z0 := Z1.out; have z1 := N1.out; have z2 := Z2.out; have z3 := Z3.out; have z4 := Z4.out; have z5 := N4.out; have z6 := Z5.out; have z7 := Z6.out; have z8 := Z7.out; have z9 := N7.out; have z10 := Z8.out; have z11 := Z9.out; have z12 := Z10.out; have z13 := Z11.out; have z14 := Z12.out; have z15 := Z13.out; have z16 := Z14.out; omega))
    have RW_14 : Hid (Below w3.heap.size w3 w14) := RW_13.out.trans (HB.out.mono (by have z0 := Z1.out; have z1 := N1.out; have z2 := Z2.out; have z3 := Z3.out; have z4 := Z4.out; have z5 := N4.out; have z6 := Z5.out; have z7 := Z6.out; have z8 := Z7.out; have z9 := N7.out; have z10 := Z8.out; have z11 := Z9.out; have z12 := Z10.out; have z13 := Z11.out; have z14 := Z12.out; have z15 := Z13.out; have z16 := Z14.out; omega))
    have BW_14 : Hid (BxV w3 w14 #[.int .i64 bw, .int .i64 dw, .slice aw nw cw] 28) := BW_13.out.keep HB.out
    have Bg_14 : Hid (BxV w6 w14 #[.int .i64 bw, .int .i64 dw, .slice ag nw cg] 28) := Bg_13.out.keep HB.out
    have Gg_14 : Hid (OwnPs w5.heap.size w6.heap.size w14 ag nw (mrkP 1 (idlL b0 d0 zs1 x2))) := Gg_13.out.keep HB.out
    clear HB HW BA_13 BEL_13 RW_13 BW_13 Bg_13 Gg_13
    obtain ⟨qBA0, qBA1⟩ := BA_14.out.c2
    have lBA := BA_14.out.lt
    obtain ⟨qBW0, qBW1, qBW2⟩ := BW_14.out.c3
    have lBW := BW_14.out.lt
    obtain ⟨qBg0, qBg1, qBg2⟩ := Bg_14.out.c3
    have lBg := Bg_14.out.lt
    go_wp2_with fail
    refine (toIntS_own a1 cap1 zs1 _ hl1 (HR1.out.keep BEL_14.out)).mono ?_
    rintro e w15 ⟨vh1, rfl, Oh1, HW⟩
    clear qBA0 qBA1 lBA qBW0 qBW1 qBW2 lBW qBg0 qBg1 qBg2 lBg
    have HB : Hid (Below w14.heap.size w14 w15) := HW
    have Z15 : Hid (w14.heap.size ≤ w15.heap.size) := HB.out.size
    have BA_15 : Hid (BxV w w15 #[.int .i64 b0, .int .i64 d0] 43) := BA_14.out.keep HB.out
    have BEL_15 : Hid (Below w.heap.size w w15) := BEL_14.out.trans (HB.out.mono (by have z0 := Z1.out; have z1 := N1.out; have z2 := Z2.out; have z3 := Z3.out; have z4 := Z4.out; have z5 := N4.out; have z6 := Z5.out; have z7 := Z6.out; have z8 := Z7.out; have z9 := N7.out; have z10 := Z8.out; have z11 := Z9.out; have z12 := Z10.out; have z13 := Z11.out; have z14 := Z12.out; have z15 := Z13.out; have z16 := Z14.out; have z17 := Z15.out; omega))
    have RW_15 : Hid (Below w3.heap.size w3 w15) := RW_14.out.trans (HB.out.mono (by have z0 := Z1.out; have z1 := N1.out; have z2 := Z2.out; have z3 := Z3.out; have z4 := Z4.out; have z5 := N4.out; have z6 := Z5.out; have z7 := Z6.out; have z8 := Z7.out; have z9 := N7.out; have z10 := Z8.out; have z11 := Z9.out; have z12 := Z10.out; have z13 := Z11.out; have z14 := Z12.out; have z15 := Z13.out; have z16 := Z14.out; have z17 := Z15.out; omega))
    have BW_15 : Hid (BxV w3 w15 #[.int .i64 bw, .int .i64 dw, .slice aw nw cw] 28) := BW_14.out.keep HB.out
    have Bg_15 : Hid (BxV w6 w15 #[.int .i64 bw, .int .i64 dw, .slice ag nw cg] 28) := Bg_14.out.keep HB.out
    have Gg_15 : Hid (OwnPs w5.heap.size w6.heap.size w15 ag nw (mrkP 1 (idlL b0 d0 zs1 x2))) := Gg_14.out.keep HB.out
    have h1_15 : Hid (OwnLs w14.heap.size w15.heap.size w15 vh1 zs1.length zs1) := Oh1
    clear HB HW BA_14 BEL_14 RW_14 BW_14 Bg_14 Gg_14
    clear Oh1
    obtain ⟨qBA0, qBA1⟩ := BA_15.out.c2
    have lBA := BA_15.out.lt
    obtain ⟨qBW0, qBW1, qBW2⟩ := BW_15.out.c3
    have lBW := BW_15.out.lt
    obtain ⟨qBg0, qBg1, qBg2⟩ := Bg_15.out.c3
    have lBg := Bg_15.out.lt
    go_wp2_with fail
    refine (IdealPeers_own b0 d0 vh1 zs1.length zs1 x2 _ hl1 h1_15.out.rowAt).mono ?_
    rintro e w16 ⟨bh, dh, ah, nh, ch, rfl, hnh, hbh, Oh, HW⟩
    clear qBA0 qBA1 lBA qBW0 qBW1 qBW2 lBW qBg0 qBg1 qBg2 lBg
    have HB : Hid (Below w15.heap.size w15 w16) := HW
    have Z16 : Hid (w15.heap.size ≤ w16.heap.size) := HB.out.size
    have BA_16 : Hid (BxV w w16 #[.int .i64 b0, .int .i64 d0] 43) := BA_15.out.keep HB.out
    have BEL_16 : Hid (Below w.heap.size w w16) := BEL_15.out.trans (HB.out.mono (by have z0 := Z1.out; have z1 := N1.out; have z2 := Z2.out; have z3 := Z3.out; have z4 := Z4.out; have z5 := N4.out; have z6 := Z5.out; have z7 := Z6.out; have z8 := Z7.out; have z9 := N7.out; have z10 := Z8.out; have z11 := Z9.out; have z12 := Z10.out; have z13 := Z11.out; have z14 := Z12.out; have z15 := Z13.out; have z16 := Z14.out; have z17 := Z15.out; have z18 := Z16.out; omega))
    have RW_16 : Hid (Below w3.heap.size w3 w16) := RW_15.out.trans (HB.out.mono (by have z0 := Z1.out; have z1 := N1.out; have z2 := Z2.out; have z3 := Z3.out; have z4 := Z4.out; have z5 := N4.out; have z6 := Z5.out; have z7 := Z6.out; have z8 := Z7.out; have z9 := N7.out; have z10 := Z8.out; have z11 := Z9.out; have z12 := Z10.out; have z13 := Z11.out; have z14 := Z12.out; have z15 := Z13.out; have z16 := Z14.out; have z17 := Z15.out; have z18 := Z16.out; omega))
    have BW_16 : Hid (BxV w3 w16 #[.int .i64 bw, .int .i64 dw, .slice aw nw cw] 28) := BW_15.out.keep HB.out
    have Bg_16 : Hid (BxV w6 w16 #[.int .i64 bw, .int .i64 dw, .slice ag nw cg] 28) := Bg_15.out.keep HB.out
    have Gg_16 : Hid (OwnPs w5.heap.size w6.heap.size w16 ag nw (mrkP 1 (idlL b0 d0 zs1 x2))) := Gg_15.out.keep HB.out
    have Gh_16 : Hid (OwnPs w15.heap.size w16.heap.size w16 ah nh (idlL b0 d0 zs1 x2)) := Oh
    clear HB HW BA_15 BEL_15 RW_15 BW_15 Bg_15 Gg_15 h1_15
    have eh : nw = nh := by rw [← HNW.out, ← hnh]
    subst eh
    have fh : bw = bh ∧ dw = dh := by have := HBW.out.trans hbh.symm; simpa using this
    obtain ⟨rfl, rfl⟩ := fh
    clear hnh hbh Oh
    obtain ⟨qBA0, qBA1⟩ := BA_16.out.c2
    have lBA := BA_16.out.lt
    obtain ⟨qBW0, qBW1, qBW2⟩ := BW_16.out.c3
    have lBW := BW_16.out.lt
    obtain ⟨qBg0, qBg1, qBg2⟩ := Bg_16.out.c3
    have lBg := Bg_16.out.lt
    go_wp2_with fail
    refine (eqPeers_own _ _ ah aw ch cw _ (idlL b0 d0 zs1 x2) _ HNW.out HN2.out (Gh_16.out.peersAt.keep (belA _ _)) (W0.out.keep (RW_16.out.trans ((belA _ _).mono (by have z0 := Z1.out; have z1 := N1.out; have z2 := Z2.out; have z3 := Z3.out; have z4 := Z4.out; have z5 := N4.out; have z6 := Z5.out; have z7 := Z6.out; have z8 := Z7.out; have z9 := N7.out; have z10 := Z8.out; have z11 := Z9.out; have z12 := Z10.out; have z13 := Z11.out; have z14 := Z12.out; have z15 := Z13.out; have z16 := Z14.out; have z17 := Z15.out; have z18 := Z16.out; omega))))).mono ?_
    rintro e w17 ⟨rfl, HW⟩
    clear qBA0 qBA1 lBA qBW0 qBW1 qBW2 lBW qBg0 qBg1 qBg2 lBg
    have HB : Hid (Below w16.heap.size w16 w17) := belt (belA _ _) HW
    have Z17 : Hid (w16.heap.size ≤ w17.heap.size) := HB.out.size
    have N17 : Hid (w16.heap.size < w17.heap.size) := (bxV1 HW).lt
    have BA_17 : Hid (BxV w w17 #[.int .i64 b0, .int .i64 d0] 43) := BA_16.out.keep HB.out
    have BEL_17 : Hid (Below w.heap.size w w17) := BEL_16.out.trans (HB.out.mono (by have z0 := Z1.out; have z1 := N1.out; have z2 := Z2.out; have z3 := Z3.out; have z4 := Z4.out; have z5 := N4.out; have z6 := Z5.out; have z7 := Z6.out; have z8 := Z7.out; have z9 := N7.out; have z10 := Z8.out; have z11 := Z9.out; have z12 := Z10.out; have z13 := Z11.out; have z14 := Z12.out; have z15 := Z13.out; have z16 := Z14.out; have z17 := Z15.out; have z18 := Z16.out; have z19 := Z17.out; have z20 := N17.out; omega))
    have RW_17 : Hid (Below w3.heap.size w3 w17) := RW_16.out.trans (HB.out.mono (by have z0 := Z1.out; have z1 := N1.out; have z2 := Z2.out; have z3 := Z3.out; have z4 := Z4.out; have z5 := N4.out; have z6 := Z5.out; have z7 := Z6.out; have z8 := Z7.out; have z9 := N7.out; have z10 := Z8.out; have z11 := Z9.out; have z12 := Z10.out; have z13 := Z11.out; have z14 := Z12.out; have z15 := Z13.out; have z16 := Z14.out; have z17 := Z15.out; have z18 := Z16.out; have z19 := Z17.out; have z20 := N17.out; omega))
    have BW_17 : Hid (BxV w3 w17 #[.int .i64 bw, .int .i64 dw, .slice aw nw cw] 28) := BW_16.out.keep HB.out
    have Bg_17 : Hid (BxV w6 w17 #[.int .i64 bw, .int .i64 dw, .slice ag nw cg] 28) := Bg_16.out.keep HB.out
    have Gg_17 : Hid (OwnPs w5.heap.size w6.heap.size w17 ag nw (mrkP 1 (idlL b0 d0 zs1 x2))) := Gg_16.out.keep HB.out
    have Gh_17 : Hid (OwnPs w15.heap.size w16.heap.size w17 ah nw (idlL b0 d0 zs1 x2)) := Gh_16.out.keep HB.out
    have Bh_17 : Hid (BxV w16 w17 #[.int .i64 bw, .int .i64 dw, .slice ah nw ch] 28) := bxV1 HW
    clear HB HW BA_16 BEL_16 RW_16 BW_16 Bg_16 Gg_16 Gh_16
    have CHD := heldPeers_own bw dw w5.heap.size w6.heap.size cg ag nw (idlL b0 d0 zs1 x2) 1 w17 HNS.out HNW.out (by omega) (by omega) Gg_17.out
    rw [HKG.out] at CHD
    obtain ⟨qBA0, qBA1⟩ := BA_17.out.c2
    have lBA := BA_17.out.lt
    obtain ⟨qBW0, qBW1, qBW2⟩ := BW_17.out.c3
    have lBW := BW_17.out.lt
    obtain ⟨qBg0, qBg1, qBg2⟩ := Bg_17.out.c3
    have lBg := Bg_17.out.lt
    obtain ⟨qBh0, qBh1, qBh2⟩ := Bh_17.out.c3
    have lBh := Bh_17.out.lt
    go_wp2_with fail
    refine (CHD).mono ?_
    rintro e w18 ⟨rfl, HW⟩
    clear qBA0 qBA1 lBA qBW0 qBW1 qBW2 lBW qBg0 qBg1 qBg2 lBg qBh0 qBh1 qBh2 lBh
    have HB : Hid (Below w17.heap.size w17 w18) := HW
    have Z18 : Hid (w17.heap.size ≤ w18.heap.size) := HB.out.size
    have BA_18 : Hid (BxV w w18 #[.int .i64 b0, .int .i64 d0] 43) := BA_17.out.keep HB.out
    have BEL_18 : Hid (Below w.heap.size w w18) := BEL_17.out.trans (HB.out.mono (by have z0 := Z1.out; have z1 := N1.out; have z2 := Z2.out; have z3 := Z3.out; have z4 := Z4.out; have z5 := N4.out; have z6 := Z5.out; have z7 := Z6.out; have z8 := Z7.out; have z9 := N7.out; have z10 := Z8.out; have z11 := Z9.out; have z12 := Z10.out; have z13 := Z11.out; have z14 := Z12.out; have z15 := Z13.out; have z16 := Z14.out; have z17 := Z15.out; have z18 := Z16.out; have z19 := Z17.out; have z20 := N17.out; have z21 := Z18.out; omega))
    have RW_18 : Hid (Below w3.heap.size w3 w18) := RW_17.out.trans (HB.out.mono (by have z0 := Z1.out; have z1 := N1.out; have z2 := Z2.out; have z3 := Z3.out; have z4 := Z4.out; have z5 := N4.out; have z6 := Z5.out; have z7 := Z6.out; have z8 := Z7.out; have z9 := N7.out; have z10 := Z8.out; have z11 := Z9.out; have z12 := Z10.out; have z13 := Z11.out; have z14 := Z12.out; have z15 := Z13.out; have z16 := Z14.out; have z17 := Z15.out; have z18 := Z16.out; have z19 := Z17.out; have z20 := N17.out; have z21 := Z18.out; omega))
    have BW_18 : Hid (BxV w3 w18 #[.int .i64 bw, .int .i64 dw, .slice aw nw cw] 28) := BW_17.out.keep HB.out
    have Bg_18 : Hid (BxV w6 w18 #[.int .i64 bw, .int .i64 dw, .slice ag nw cg] 28) := Bg_17.out.keep HB.out
    have Gg_18 : Hid (OwnPs w5.heap.size w6.heap.size w18 ag nw (mrkP 1 (idlL b0 d0 zs1 x2))) := Gg_17.out.keep HB.out
    have Gh_18 : Hid (OwnPs w15.heap.size w16.heap.size w18 ah nw (idlL b0 d0 zs1 x2)) := Gh_17.out.keep HB.out
    have Bh_18 : Hid (BxV w16 w18 #[.int .i64 bw, .int .i64 dw, .slice ah nw ch] 28) := Bh_17.out.keep HB.out
    clear HB HW BA_17 BEL_17 RW_17 BW_17 Bg_17 Gg_17 Gh_17 Bh_17
    clear CHD
    go_wp2
    go_ret
    exact ⟨rfl, BEL_18.out⟩

set_option maxRecDepth 100000 in
theorem fnExactIdealPeers_lifted (os : Os) (started : os.Started) (H : Type) (enc : TypeId × Value → H) :
    ReturnsInHanded {} Try.checked os 5 .any (Rows.fnExactIdealPeersSpec.pre6 enc Try.prog Try.f5 Rows.fnExactIdealPeersRow.domain false) (Rows.fnExactIdealPeersSpec.post enc Try.prog Try.f5 false true false false) := by
  refine returnsInHanded_of_change (C := Try.checked) own started (by kernel_rfl) Try.func5
    (ChangeSpec.witness6 (enc := enc) (C := Try.checked) false ⟨#[], #[.agg #[.int .i64 0, .int .i64 0], .slice none 0 0, .int .i64 0], []⟩ 8 (by kernel_rfl) (by kernel_rfl) (by kernel_rfl) (by kernel_rfl)) ?_
  intro W base args ds gs before hval0 hW hcnd _
  have hval : ∀ (j : Nat) t v, Try.f5.params[j]? = some t → args[j]? = some v → Value.okWide Try.prog W .any base t v := hval0
  have hW' := hW
  obtain ⟨p, q, hA0, hV, rfl, hfz, hnd⟩ := hW
  have hA : DataW.TrodAll enc Try.prog W 0 (fun _ => true) true Try.f5.params.toList args.toList ds p := hA0
  rw [Try.params5] at hA hval
  obtain ⟨v0, vs0, d0, ds0, p0, q0, hargs, rfl, rfl, h0, r0⟩ := trodAll_cons hA
  obtain ⟨v1, vs1, d1, ds1, p1, q1, rfl, rfl, rfl, h1, r1⟩ := trodAll_cons r0
  obtain ⟨v2, vs2, d2, ds2, p2, q2, rfl, rfl, rfl, h2, r2⟩ := trodAll_cons r1
  obtain ⟨rfl, rfl, rfl⟩ := trodAll_nil r2
  obtain rfl : args = #[v0, v1, v2] := by cases args; simp_all
  obtain ⟨rfl, rfl⟩ := trodVars_none hV
  have k0 := h0
  have lt0 : ∀ x ∈ p0, x.block < W.heap.size := by obtain ⟨m, hm⟩ := k0; exact DataW.trod_lt m _ _ _ hm
  obtain ⟨c0, c1, y0, y1, m, rfl, hd0, hp0, hy0, hy1⟩ := Joins.open_agg2 Try.underlying43 (by kernel_rfl) cellsS (hval 0 43 v0 rfl rfl) h0
  obtain ⟨a, e0, _, wa⟩ := DataW.trod_int Try.underlying3 hy0
  obtain ⟨b, e1, _, wb⟩ := DataW.trod_int Try.underlying3 hy1
  simp at e0 e1
  subst e0 e1
  obtain ⟨a1, len1, cap1, rfl⟩ := okWide_slice Try.underlying29 (hval 1 29 v1 rfl rfl)
  have k1 := h1
  have lt1 : ∀ x ∈ p1, x.block < W.heap.size := by obtain ⟨m, hm⟩ := k1; exact DataW.trod_lt m _ _ _ hm
  obtain ⟨z1, w1⟩ : ∃ zs, IsRow .i64 W a1 len1 cap1 zs := by
    obtain ⟨fuel, hf⟩ := h1
    rcases open_ints Try.underlying29 Try.underlying3 (by kernel_rfl) hf with ⟨hcs, _⟩ | ⟨x, l, c, zs, hcs, _, hl, hm, hz, _, hcell, hwz⟩
    · simp [Value.cells] at hcs
      obtain ⟨rfl, rfl, rfl⟩ := hcs
      exact ⟨[], .inl ⟨rfl, rfl, rfl, rfl⟩⟩
    · simp [Value.cells] at hcs
      obtain ⟨rfl, rfl, rfl⟩ := hcs
      exact ⟨zs, .inr ⟨_, rfl, hl, hm, by simpa using hz, hcell, hwz⟩⟩
  obtain ⟨a2, rfl, rfl, rfl, w2⟩ := open_int Try.underlying3 (hval 2 3 v2 rfl rfl) h2
  clear hA0 hval0
  obtain ⟨ys1, hyl1, hym1, hyr1⟩ := isRow_rowAt w1
  subst hyl1
  refine (wFnExactIdealPeers a b a1 cap1 ys1 a2 W hym1 hyr1).mono fun e W' ⟨he, bel⟩ => ?_
  subst he
  exact ⟨_, rfl, _, _, _, [], _, [], hW', trodAll_mk1 (shut_bool Try.underlying4 _), (trodAll_cons_mk (Below.trod laidOut (by kernel_rfl) (of_decide_eq_true (by kernel_rfl)) k0 bel lt0) (trodAll_cons_mk (Below.trod laidOut (by kernel_rfl) (of_decide_eq_true (by kernel_rfl)) k1 bel lt1) (trodAll_cons_mk (shut_int Try.underlying3 w2) trodAll_mk0))), rfl, bel.frame _, fun h => by cases h⟩

theorem fnExactIdealPeers_holds : Rows.FnExactIdealPeersSaid :=
  OpenClaim.holds_of_wide 5 Try.f5 rfl rfl rfl rfl rfl rfl rfl ⟨rfl, rfl, rfl, rfl, rfl⟩ rfl rfl rfl rfl rfl (by kernel_rfl) Try.func5 (by kernel_rfl)
    (of_decide_eq_true (by kernel_rfl)) (by unfold Func.isWrapper; first | (rw [if_pos (by decide +kernel)]; kernel_rfl) | (rw [if_neg (by decide +kernel)]; exact ⟨rfl, rfl⟩))
    (fun os started H enc _ => fnExactIdealPeers_lifted os started H enc)
#print axioms fnExactIdealPeers_holds
end Go.Proofs.Ytgmdbihdnacpjaa
