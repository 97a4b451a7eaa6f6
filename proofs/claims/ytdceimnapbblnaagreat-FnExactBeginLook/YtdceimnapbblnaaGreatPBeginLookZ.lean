/- For all nets and numbers BeginLook answers as its specification, in memory of its own, and leaves the net as it was: no condition. -/
import Derived.Test.YtdceimnapbblnaaGreatZ0
import Derived.Test.YtdceimnapbblnaaGreatZ1
import Derived.Test.YtdceimnapbblnaaGreatZ2
import Derived.Test.YtdceimnapbblnaaGreatZ3
import Derived.Test.YtdceimnapbblnaaGreatZ4
import Derived.Test.YtdceimnapbblnaaGreatZ5
import Derived.Test.YtdceimnapbblnaaGreatZ6
import Derived.Test.YtdceimnapbblnaaGreatZ7
import Derived.Test.YtdceimnapbblnaaGreatZ8
import Derived.Test.YtdceimnapbblnaaGreatZ9
import Derived.Test.YtdceimnapbblnaaGreatZ10
namespace Go.Proofs.YtdceimnapbblnaaGreat
open Go.ChangeShapes Go.WideShapes Go.ChangeAt Go.RowKit
set_option linter.unusedVariables false
set_option maxRecDepth 100000 in
set_option maxHeartbeats 12800000 in
theorem wFnExactBeginLook (w : World) (b d t : Int) (ap am ag ar : Option Addr) (up um ug ur : Nat) (ps : List Pr) (ms : List Mg) (gs : List Int) (rs : List Rp) (x0 : Int) (x1 : Int) (x2 : Int) (hm : ps.length ≤ maxLen) (hm2 : ms.length ≤ maxLen) (hm3 : gs.length ≤ maxLen) (hm4 : rs.length ≤ maxLen) (hr : NetAt w ap am ag ar ps ms gs rs) :
    Calls Tryz.prog 5 #[.agg #[.int .i64 b, .int .i64 d, .slice ap ps.length up, .int .i64 t, .slice am ms.length um, .slice ag gs.length ug, .slice ar rs.length ur], .int .i64 x0, .int .i64 x1, .int .i64 x2] w fun e w' => e = .returned (.bool true) ∧ Below w.heap.size w w' := by
  have HR : Hid (NetAt w ap am ag ar ps ms gs rs) := hr
  clear hr
  go_enter Tryz.func5, Tryz.ntmps5
  go_wp2_with fail
  refine (szNet_any b d t ap am ag ar up um ug ur ps ms gs rs _ hm hm2 hm3 hm4 (HR.out.keep (belA _ _))).mono ?_
  rintro e w1 ⟨v1, rfl, hv1, HW⟩
  have BA_1 : Hid (BxV w w1 #[.int .i64 b, .int .i64 d, .slice ap ps.length up, .int .i64 t, .slice am ms.length um, .slice ag gs.length ug, .slice ar rs.length ur] 71) := bxV1 HW
  have BEL_1 : Hid (Below w.heap.size w w1) := belt (belA _ _) HW
  have N1 : Hid (w.heap.size < w1.heap.size) := BA_1.out.lt
  clear HW
  by_cases hneg : v1 < 0
  · go_wp2
    go_ret
    exact ⟨rfl, BEL_1.out⟩
  have HS : Hid (BigN ps ms gs rs) := by
    rcases hv1 with h | h
    · exact absurd h hneg
    · exact h
  clear hv1
  obtain ⟨qBA0, qBA1, qBA2, qBA3, qBA4, qBA5, qBA6⟩ := BA_1.out.n7
  have lBA := BA_1.out.lt
  go_wp2_with fail
  refine (toNet_own b d t ap am ag ar up um ug ur ps ms gs rs _ HS.out (HR.out.keep BEL_1.out)).mono ?_
  rintro e w2 ⟨cp, cm, cg, cr, rfl, Oc, HW⟩
  clear qBA0 qBA1 qBA2 qBA3 qBA4 qBA5 qBA6 lBA
  have HB : Hid (Below w1.heap.size w1 w2) := HW
  have Z2 : Hid (w1.heap.size ≤ w2.heap.size) := HB.out.size
  have BA_2 : Hid (BxV w w2 #[.int .i64 b, .int .i64 d, .slice ap ps.length up, .int .i64 t, .slice am ms.length um, .slice ag gs.length ug, .slice ar rs.length ur] 71) := BA_1.out.keep HB.out
  have BEL_2 : Hid (Below w.heap.size w w2) := BEL_1.out.trans (HB.out.mono (by have z0 := N1.out; have z1 := Z2.out; omega))
  have c_2 : Hid (OwnN w1.heap.size w2.heap.size w2 cp cm cg cr ps.length ms.length gs.length rs.length ps ms gs rs) := Oc
  clear HB HW BA_1 BEL_1
  clear Oc
  obtain ⟨qBA0, qBA1, qBA2, qBA3, qBA4, qBA5, qBA6⟩ := BA_2.out.n7
  have lBA := BA_2.out.lt
  go_wp2_with fail
  refine (lBeginLook_own b d t cp cm cg cr ps.length ms.length gs.length rs.length ps ms gs rs x0 x1 x2 _ HS.out c_2.out.at).mono ?_
  rintro e w3 ⟨sp, sm, sg, sr, skp, skm, skg, skr, rfl, sw0, HW⟩
  clear qBA0 qBA1 qBA2 qBA3 qBA4 qBA5 qBA6 lBA
  have HB : Hid (Below w2.heap.size w2 w3) := HW
  have Z3 : Hid (w2.heap.size ≤ w3.heap.size) := HB.out.size
  have BA_3 : Hid (BxV w w3 #[.int .i64 b, .int .i64 d, .slice ap ps.length up, .int .i64 t, .slice am ms.length um, .slice ag gs.length ug, .slice ar rs.length ur] 71) := BA_2.out.keep HB.out
  have BEL_3 : Hid (Below w.heap.size w w3) := BEL_2.out.trans (HB.out.mono (by have z0 := N1.out; have z1 := Z2.out; have z2 := Z3.out; omega))
  have RW_3 : Hid (Below w3.heap.size w3 w3) := Below.refl _ _
  clear HB HW BA_2 BEL_2 c_2
  have W0 : Hid (NetAt w3 sp sm sg sr (bgnA b d t ps ms gs rs x0 x1 x2).ps (bgnA b d t ps ms gs rs x0 x1 x2).ms (bgnA b d t ps ms gs rs x0 x1 x2).gs (bgnA b d t ps ms gs rs x0 x1 x2).rs) := sw0
  clear sw0
  obtain ⟨qBA0, qBA1, qBA2, qBA3, qBA4, qBA5, qBA6⟩ := BA_3.out.n7
  have lBA := BA_3.out.lt
  go_wp2_with fail
  refine (toNet_own b d t ap am ag ar up um ug ur ps ms gs rs _ HS.out (HR.out.keep (belt BEL_3.out (belA _ _)))).mono ?_
  rintro e w4 ⟨vp, vm, vg, vr, rfl, Ov, HW⟩
  clear qBA0 qBA1 qBA2 qBA3 qBA4 qBA5 qBA6 lBA
  have HB : Hid (Below w3.heap.size w3 w4) := belt (belA _ _) HW
  have Z4 : Hid (w3.heap.size ≤ w4.heap.size) := HB.out.size
  have N4 : Hid (w3.heap.size < w4.heap.size) := (bxV1 HW).lt
  have BA_4 : Hid (BxV w w4 #[.int .i64 b, .int .i64 d, .slice ap ps.length up, .int .i64 t, .slice am ms.length um, .slice ag gs.length ug, .slice ar rs.length ur] 71) := BA_3.out.keep HB.out
  have BEL_4 : Hid (Below w.heap.size w w4) := BEL_3.out.trans (HB.out.mono (by have z0 := N1.out; have z1 := Z2.out; have z2 := Z3.out; have z3 := Z4.out; have z4 := N4.out; omega))
  have RW_4 : Hid (Below w3.heap.size w3 w4) := RW_3.out.trans (HB.out.mono (by have z0 := N1.out; have z1 := Z2.out; have z2 := Z3.out; have z3 := Z4.out; have z4 := N4.out; omega))
  have BW_4 : Hid (BxV w3 w4 #[.int .i64 (bgnA b d t ps ms gs rs x0 x1 x2).b, .int .i64 (bgnA b d t ps ms gs rs x0 x1 x2).d, .slice sp (bgnA b d t ps ms gs rs x0 x1 x2).ps.length skp, .int .i64 (bgnA b d t ps ms gs rs x0 x1 x2).ttl, .slice sm (bgnA b d t ps ms gs rs x0 x1 x2).ms.length skm, .slice sg (bgnA b d t ps ms gs rs x0 x1 x2).gs.length skg, .slice sr (bgnA b d t ps ms gs rs x0 x1 x2).rs.length skr] 36) := bxV1 HW
  have X_4 : Hid (OwnN (w3.heap.size + 1) w4.heap.size w4 vp vm vg vr ps.length ms.length gs.length rs.length ps ms gs rs) := (by have h := Ov; simp only [World.size_alloc] at h; exact h)
  clear HB HW BA_3 BEL_3 RW_3
  clear Ov
  obtain ⟨qBA0, qBA1, qBA2, qBA3, qBA4, qBA5, qBA6⟩ := BA_4.out.n7
  have lBA := BA_4.out.lt
  obtain ⟨qBW0, qBW1, qBW2, qBW3, qBW4, qBW5, qBW6⟩ := BW_4.out.n7
  have lBW := BW_4.out.lt
  go_wp2_with fail
  refine (BeginLook_own b d t vp vm vg vr ps.length ms.length gs.length rs.length ps ms gs rs x0 x1 x2 _ HS.out (X_4.out.at.keep (belA _ _))).mono ?_
  rintro e w5 ⟨gp, gm, gg, gr, gkp, gkm, gkg, gkr, rfl, Og, HW⟩
  clear qBA0 qBA1 qBA2 qBA3 qBA4 qBA5 qBA6 lBA qBW0 qBW1 qBW2 qBW3 qBW4 qBW5 qBW6 lBW
  have HB : Hid (Below w4.heap.size w4 w5) := belt (belA _ _) HW
  have Z5 : Hid (w4.heap.size ≤ w5.heap.size) := HB.out.size
  have N5 : Hid (w4.heap.size < w5.heap.size) := (bxV1 HW).lt
  have BA_5 : Hid (BxV w w5 #[.int .i64 b, .int .i64 d, .slice ap ps.length up, .int .i64 t, .slice am ms.length um, .slice ag gs.length ug, .slice ar rs.length ur] 71) := BA_4.out.keep HB.out
  have BEL_5 : Hid (Below w.heap.size w w5) := BEL_4.out.trans (HB.out.mono (by have z0 := N1.out; have z1 := Z2.out; have z2 := Z3.out; have z3 := Z4.out; have z4 := N4.out; have z5 := Z5.out; have z6 := N5.out; omega))
  have RW_5 : Hid (Below w3.heap.size w3 w5) := RW_4.out.trans (HB.out.mono (by have z0 := N1.out; have z1 := Z2.out; have z2 := Z3.out; have z3 := Z4.out; have z4 := N4.out; have z5 := Z5.out; have z6 := N5.out; omega))
  have BW_5 : Hid (BxV w3 w5 #[.int .i64 (bgnA b d t ps ms gs rs x0 x1 x2).b, .int .i64 (bgnA b d t ps ms gs rs x0 x1 x2).d, .slice sp (bgnA b d t ps ms gs rs x0 x1 x2).ps.length skp, .int .i64 (bgnA b d t ps ms gs rs x0 x1 x2).ttl, .slice sm (bgnA b d t ps ms gs rs x0 x1 x2).ms.length skm, .slice sg (bgnA b d t ps ms gs rs x0 x1 x2).gs.length skg, .slice sr (bgnA b d t ps ms gs rs x0 x1 x2).rs.length skr] 36) := BW_4.out.keep HB.out
  have X_5 : Hid (OwnN (w3.heap.size + 1) w4.heap.size w5 vp vm vg vr ps.length ms.length gs.length rs.length ps ms gs rs) := X_4.out.keep HB.out
  have BX_5 : Hid (BxV w4 w5 #[.int .i64 b, .int .i64 d, .slice vp ps.length ps.length, .int .i64 t, .slice vm ms.length ms.length, .slice vg gs.length gs.length, .slice vr rs.length rs.length] 36) := bxV1 HW
  have Gg_5 : Hid (OwnN (w4.heap.size + 1) w5.heap.size w5 gp gm gg gr (bgnA b d t ps ms gs rs x0 x1 x2).ps.length (bgnA b d t ps ms gs rs x0 x1 x2).ms.length (bgnA b d t ps ms gs rs x0 x1 x2).gs.length (bgnA b d t ps ms gs rs x0 x1 x2).rs.length (bgnA b d t ps ms gs rs x0 x1 x2).ps (bgnA b d t ps ms gs rs x0 x1 x2).ms (bgnA b d t ps ms gs rs x0 x1 x2).gs (bgnA b d t ps ms gs rs x0 x1 x2).rs) := (by have h := Og; simp only [World.size_alloc] at h; exact h)
  clear HB HW BA_4 BEL_4 RW_4 BW_4 X_4
  clear Og
  have HBX : Hid (BigN (bgnA b d t ps ms gs rs x0 x1 x2).ps (bgnA b d t ps ms gs rs x0 x1 x2).ms (bgnA b d t ps ms gs rs x0 x1 x2).gs (bgnA b d t ps ms gs rs x0 x1 x2).rs) := bgnA_big HS.out x0 x1 x2
  have hgb := bne_self_bool (bgnB b d t ps ms gs rs x0 x1 x2)
  obtain ⟨qBA0, qBA1, qBA2, qBA3, qBA4, qBA5, qBA6⟩ := BA_5.out.n7
  have lBA := BA_5.out.lt
  obtain ⟨qBW0, qBW1, qBW2, qBW3, qBW4, qBW5, qBW6⟩ := BW_5.out.n7
  have lBW := BW_5.out.lt
  obtain ⟨qBX0, qBX1, qBX2, qBX3, qBX4, qBX5, qBX6⟩ := BX_5.out.n7
  have lBX := BX_5.out.lt
  go_wp2_with fail
  refine (eqNet_same _ _ _ gp gm gg gr sp sm sg sr gkp gkm gkg gkr skp skm skg skr (bgnA b d t ps ms gs rs x0 x1 x2).ps (bgnA b d t ps ms gs rs x0 x1 x2).ms (bgnA b d t ps ms gs rs x0 x1 x2).gs (bgnA b d t ps ms gs rs x0 x1 x2).rs _ HBX.out (Gg_5.out.at.keep (belA _ _)) (W0.out.keep (RW_5.out.trans ((belA _ _).mono (by have z0 := N1.out; have z1 := Z2.out; have z2 := Z3.out; have z3 := Z4.out; have z4 := N4.out; have z5 := Z5.out; have z6 := N5.out; omega))))).mono ?_
  rintro e w6 ⟨rfl, HW⟩
  clear qBA0 qBA1 qBA2 qBA3 qBA4 qBA5 qBA6 lBA qBW0 qBW1 qBW2 qBW3 qBW4 qBW5 qBW6 lBW qBX0 qBX1 qBX2 qBX3 qBX4 qBX5 qBX6 lBX
  have HB : Hid (Below w5.heap.size w5 w6) := belt (belA _ _) HW
  have Z6 : Hid (w5.heap.size ≤ w6.heap.size) := HB.out.size
  have N6 : Hid (w5.heap.size < w6.heap.size) := (bxV1 HW).lt
  have BA_6 : Hid (BxV w w6 #[.int .i64 b, .int .i64 d, .slice ap ps.length up, .int .i64 t, .slice am ms.length um, .slice ag gs.length ug, .slice ar rs.length ur] 71) := BA_5.out.keep HB.out
  have BEL_6 : Hid (Below w.heap.size w w6) := BEL_5.out.trans (HB.out.mono (by have z0 := N1.out; have z1 := Z2.out; have z2 := Z3.out; have z3 := Z4.out; have z4 := N4.out; have z5 := Z5.out; have z6 := N5.out; have z7 := Z6.out; have z8 := N6.out; omega))
  have RW_6 : Hid (Below w3.heap.size w3 w6) := RW_5.out.trans (HB.out.mono (by have z0 := N1.out; have z1 := Z2.out; have z2 := Z3.out; have z3 := Z4.out; have z4 := N4.out; have z5 := Z5.out; have z6 := N5.out; have z7 := Z6.out; have z8 := N6.out; omega))
  have BW_6 : Hid (BxV w3 w6 #[.int .i64 (bgnA b d t ps ms gs rs x0 x1 x2).b, .int .i64 (bgnA b d t ps ms gs rs x0 x1 x2).d, .slice sp (bgnA b d t ps ms gs rs x0 x1 x2).ps.length skp, .int .i64 (bgnA b d t ps ms gs rs x0 x1 x2).ttl, .slice sm (bgnA b d t ps ms gs rs x0 x1 x2).ms.length skm, .slice sg (bgnA b d t ps ms gs rs x0 x1 x2).gs.length skg, .slice sr (bgnA b d t ps ms gs rs x0 x1 x2).rs.length skr] 36) := BW_5.out.keep HB.out
  have X_6 : Hid (OwnN (w3.heap.size + 1) w4.heap.size w6 vp vm vg vr ps.length ms.length gs.length rs.length ps ms gs rs) := X_5.out.keep HB.out
  have BX_6 : Hid (BxV w4 w6 #[.int .i64 b, .int .i64 d, .slice vp ps.length ps.length, .int .i64 t, .slice vm ms.length ms.length, .slice vg gs.length gs.length, .slice vr rs.length rs.length] 36) := BX_5.out.keep HB.out
  have Gg_6 : Hid (OwnN (w4.heap.size + 1) w5.heap.size w6 gp gm gg gr (bgnA b d t ps ms gs rs x0 x1 x2).ps.length (bgnA b d t ps ms gs rs x0 x1 x2).ms.length (bgnA b d t ps ms gs rs x0 x1 x2).gs.length (bgnA b d t ps ms gs rs x0 x1 x2).rs.length (bgnA b d t ps ms gs rs x0 x1 x2).ps (bgnA b d t ps ms gs rs x0 x1 x2).ms (bgnA b d t ps ms gs rs x0 x1 x2).gs (bgnA b d t ps ms gs rs x0 x1 x2).rs) := Gg_5.out.keep HB.out
  have Bg_6 : Hid (BxV w5 w6 #[.int .i64 (bgnA b d t ps ms gs rs x0 x1 x2).b, .int .i64 (bgnA b d t ps ms gs rs x0 x1 x2).d, .slice gp (bgnA b d t ps ms gs rs x0 x1 x2).ps.length gkp, .int .i64 (bgnA b d t ps ms gs rs x0 x1 x2).ttl, .slice gm (bgnA b d t ps ms gs rs x0 x1 x2).ms.length gkm, .slice gg (bgnA b d t ps ms gs rs x0 x1 x2).gs.length gkg, .slice gr (bgnA b d t ps ms gs rs x0 x1 x2).rs.length gkr] 36) := bxV1 HW
  clear HB HW BA_5 BEL_5 RW_5 BW_5 X_5 BX_5 Gg_5
  obtain ⟨qBA0, qBA1, qBA2, qBA3, qBA4, qBA5, qBA6⟩ := BA_6.out.n7
  have lBA := BA_6.out.lt
  obtain ⟨qBW0, qBW1, qBW2, qBW3, qBW4, qBW5, qBW6⟩ := BW_6.out.n7
  have lBW := BW_6.out.lt
  obtain ⟨qBX0, qBX1, qBX2, qBX3, qBX4, qBX5, qBX6⟩ := BX_6.out.n7
  have lBX := BX_6.out.lt
  obtain ⟨qBg0, qBg1, qBg2, qBg3, qBg4, qBg5, qBg6⟩ := Bg_6.out.n7
  have lBg := Bg_6.out.lt
  go_wp2_with fail
  clear qBA0 qBA1 qBA2 qBA3 qBA4 qBA5 qBA6 lBA qBW0 qBW1 qBW2 qBW3 qBW4 qBW5 qBW6 lBW qBX0 qBX1 qBX2 qBX3 qBX4 qBX5 qBX6 lBX qBg0 qBg1 qBg2 qBg3 qBg4 qBg5 qBg6 lBg
  have BAa : BxV w w6.drew #[.int .i64 b, .int .i64 d, .slice ap ps.length up, .int .i64 t, .slice am ms.length um, .slice ag gs.length ug, .slice ar rs.length ur] 71 := BA_6.out.keep ((Below.refl _ _).drew)
  have BELa : Below w.heap.size w w6.drew := BEL_6.out.drew
  have RWa : Below w3.heap.size w3 w6.drew := RW_6.out.drew
  have BWa : BxV w3 w6.drew #[.int .i64 (bgnA b d t ps ms gs rs x0 x1 x2).b, .int .i64 (bgnA b d t ps ms gs rs x0 x1 x2).d, .slice sp (bgnA b d t ps ms gs rs x0 x1 x2).ps.length skp, .int .i64 (bgnA b d t ps ms gs rs x0 x1 x2).ttl, .slice sm (bgnA b d t ps ms gs rs x0 x1 x2).ms.length skm, .slice sg (bgnA b d t ps ms gs rs x0 x1 x2).gs.length skg, .slice sr (bgnA b d t ps ms gs rs x0 x1 x2).rs.length skr] 36 := BW_6.out.keep ((Below.refl _ _).drew)
  have Xa : OwnN (w3.heap.size + 1) w4.heap.size w6.drew vp vm vg vr ps.length ms.length gs.length rs.length ps ms gs rs := X_6.out.keep ((Below.refl _ _).drew)
  have BXa : BxV w4 w6.drew #[.int .i64 b, .int .i64 d, .slice vp ps.length ps.length, .int .i64 t, .slice vm ms.length ms.length, .slice vg gs.length gs.length, .slice vr rs.length rs.length] 36 := BX_6.out.keep ((Below.refl _ _).drew)
  have Gga : OwnN (w4.heap.size + 1) w5.heap.size w6.drew gp gm gg gr (bgnA b d t ps ms gs rs x0 x1 x2).ps.length (bgnA b d t ps ms gs rs x0 x1 x2).ms.length (bgnA b d t ps ms gs rs x0 x1 x2).gs.length (bgnA b d t ps ms gs rs x0 x1 x2).rs.length (bgnA b d t ps ms gs rs x0 x1 x2).ps (bgnA b d t ps ms gs rs x0 x1 x2).ms (bgnA b d t ps ms gs rs x0 x1 x2).gs (bgnA b d t ps ms gs rs x0 x1 x2).rs := Gg_6.out.keep ((Below.refl _ _).drew)
  have Bga : BxV w5 w6.drew #[.int .i64 (bgnA b d t ps ms gs rs x0 x1 x2).b, .int .i64 (bgnA b d t ps ms gs rs x0 x1 x2).d, .slice gp (bgnA b d t ps ms gs rs x0 x1 x2).ps.length gkp, .int .i64 (bgnA b d t ps ms gs rs x0 x1 x2).ttl, .slice gm (bgnA b d t ps ms gs rs x0 x1 x2).ms.length gkm, .slice gg (bgnA b d t ps ms gs rs x0 x1 x2).gs.length gkg, .slice gr (bgnA b d t ps ms gs rs x0 x1 x2).rs.length gkr] 36 := Bg_6.out.keep ((Below.refl _ _).drew)
  go_region_held (fun w' => w'.cell? ⟨w.heap.size, 0, none⟩ = some (.int .i64 b) ∧ w'.cell? ⟨w.heap.size, 1, none⟩ = some (.int .i64 d) ∧ w'.cell? ⟨w.heap.size, 2, none⟩ = some (.slice ap ps.length up) ∧ w'.cell? ⟨w.heap.size, 3, none⟩ = some (.int .i64 t) ∧ w'.cell? ⟨w.heap.size, 4, none⟩ = some (.slice am ms.length um) ∧ w'.cell? ⟨w.heap.size, 5, none⟩ = some (.slice ag gs.length ug) ∧ w'.cell? ⟨w.heap.size, 6, none⟩ = some (.slice ar rs.length ur) ∧ w'.cell? ⟨w4.heap.size, 0, none⟩ = some (.int .i64 b) ∧ w'.cell? ⟨w4.heap.size, 1, none⟩ = some (.int .i64 d) ∧ w'.cell? ⟨w4.heap.size, 2, none⟩ = some (.slice vp ps.length ps.length) ∧ w'.cell? ⟨w4.heap.size, 3, none⟩ = some (.int .i64 t) ∧ w'.cell? ⟨w4.heap.size, 4, none⟩ = some (.slice vm ms.length ms.length) ∧ w'.cell? ⟨w4.heap.size, 5, none⟩ = some (.slice vg gs.length gs.length) ∧ w'.cell? ⟨w4.heap.size, 6, none⟩ = some (.slice vr rs.length rs.length)) (with_reducible (first | exact bxv14 BAa BXa | exact bxv14 BAb BXb | exact bxv14 BAc BXc)) (first
    | (go_at_call 39; refine (toNet_own b d t ap am ag ar up um ug ur ps ms gs rs _ HS.out (HR.out.keep BELa)).mono ?_; rintro e wd ⟨yp, ym, yg, yr, rfl, Od, hwd⟩; have HZb : Hid (w6.heap.size ≤ wd.heap.size) := hwd.size; have BAb := BAa.keep hwd; have BELb := BELa.trans (hwd.mono (show w.heap.size ≤ w6.heap.size from (by have z0 := N1.out; have z1 := Z2.out; have z2 := Z3.out; have z3 := Z4.out; have z4 := N4.out; have z5 := Z5.out; have z6 := N5.out; have z7 := Z6.out; have z8 := N6.out; omega))); have RWb := RWa.trans (hwd.mono (show w3.heap.size ≤ w6.heap.size from (by have z0 := N1.out; have z1 := Z2.out; have z2 := Z3.out; have z3 := Z4.out; have z4 := N4.out; have z5 := Z5.out; have z6 := N5.out; have z7 := Z6.out; have z8 := N6.out; omega))); have BWb := BWa.keep hwd; have Xb := Xa.keep hwd; have BXb := BXa.keep hwd; have Ggb := Gga.keep hwd; have Bgb := Bga.keep hwd)
    | (go_at_call 40; refine (eqNet_same b d t _ _ _ _ _ _ _ _ _ _ _ _ _ _ _ _ ps ms gs rs _ HS.out Xb.at Od.at).mono ?_; rintro e w7 ⟨rfl, hwe⟩; have BAc := BAb.keep hwe; have BELc := BELb.trans (hwe.mono (Nat.le_trans (show w.heap.size ≤ w6.heap.size from (by have z0 := N1.out; have z1 := Z2.out; have z2 := Z3.out; have z3 := Z4.out; have z4 := N4.out; have z5 := Z5.out; have z6 := N5.out; have z7 := Z6.out; have z8 := N6.out; omega)) HZb.out)); have RWc := RWb.trans (hwe.mono (Nat.le_trans (show w3.heap.size ≤ w6.heap.size from (by have z0 := N1.out; have z1 := Z2.out; have z2 := Z3.out; have z3 := Z4.out; have z4 := N4.out; have z5 := Z5.out; have z6 := N5.out; have z7 := Z6.out; have z8 := N6.out; omega)) HZb.out)); have BWc := BWb.keep hwe; have Xc := Xb.keep hwe; have BXc := BXb.keep hwe; have Ggc := Ggb.keep hwe; have Bgc := Bgb.keep hwe; have HZc : Hid (wd.heap.size ≤ w7.heap.size) := hwe.size))
  have Z7 : Hid (w6.heap.size ≤ w7.heap.size) := Nat.le_trans HZb.out HZc.out
  have BA_7 : Hid (BxV w w7 #[.int .i64 b, .int .i64 d, .slice ap ps.length up, .int .i64 t, .slice am ms.length um, .slice ag gs.length ug, .slice ar rs.length ur] 71) := BAc
  have BEL_7 : Hid (Below w.heap.size w w7) := BELc
  have RW_7 : Hid (Below w3.heap.size w3 w7) := RWc
  have BW_7 : Hid (BxV w3 w7 #[.int .i64 (bgnA b d t ps ms gs rs x0 x1 x2).b, .int .i64 (bgnA b d t ps ms gs rs x0 x1 x2).d, .slice sp (bgnA b d t ps ms gs rs x0 x1 x2).ps.length skp, .int .i64 (bgnA b d t ps ms gs rs x0 x1 x2).ttl, .slice sm (bgnA b d t ps ms gs rs x0 x1 x2).ms.length skm, .slice sg (bgnA b d t ps ms gs rs x0 x1 x2).gs.length skg, .slice sr (bgnA b d t ps ms gs rs x0 x1 x2).rs.length skr] 36) := BWc
  have X_7 : Hid (OwnN (w3.heap.size + 1) w4.heap.size w7 vp vm vg vr ps.length ms.length gs.length rs.length ps ms gs rs) := Xc
  have BX_7 : Hid (BxV w4 w7 #[.int .i64 b, .int .i64 d, .slice vp ps.length ps.length, .int .i64 t, .slice vm ms.length ms.length, .slice vg gs.length gs.length, .slice vr rs.length rs.length] 36) := BXc
  have Gg_7 : Hid (OwnN (w4.heap.size + 1) w5.heap.size w7 gp gm gg gr (bgnA b d t ps ms gs rs x0 x1 x2).ps.length (bgnA b d t ps ms gs rs x0 x1 x2).ms.length (bgnA b d t ps ms gs rs x0 x1 x2).gs.length (bgnA b d t ps ms gs rs x0 x1 x2).rs.length (bgnA b d t ps ms gs rs x0 x1 x2).ps (bgnA b d t ps ms gs rs x0 x1 x2).ms (bgnA b d t ps ms gs rs x0 x1 x2).gs (bgnA b d t ps ms gs rs x0 x1 x2).rs) := Ggc
  have Bg_7 : Hid (BxV w5 w7 #[.int .i64 (bgnA b d t ps ms gs rs x0 x1 x2).b, .int .i64 (bgnA b d t ps ms gs rs x0 x1 x2).d, .slice gp (bgnA b d t ps ms gs rs x0 x1 x2).ps.length gkp, .int .i64 (bgnA b d t ps ms gs rs x0 x1 x2).ttl, .slice gm (bgnA b d t ps ms gs rs x0 x1 x2).ms.length gkm, .slice gg (bgnA b d t ps ms gs rs x0 x1 x2).gs.length gkg, .slice gr (bgnA b d t ps ms gs rs x0 x1 x2).rs.length gkr] 36) := Bgc
  clear hwd hwe Od HZb HZc BAa BAb BAc BELa BELb BELc RWa RWb RWc BWa BWb BWc Xa Xb Xc BXa BXb BXc Gga Ggb Ggc Bga Bgb Bgc BA_6 BEL_6 RW_6 BW_6 X_6 BX_6 Gg_6 Bg_6
  have hk0 := (kN_bd (k := 1) HS.out (by omega) (by omega)).2.2.2
  obtain ⟨qBA0, qBA1, qBA2, qBA3, qBA4, qBA5, qBA6⟩ := BA_7.out.n7
  have lBA := BA_7.out.lt
  obtain ⟨qBW0, qBW1, qBW2, qBW3, qBW4, qBW5, qBW6⟩ := BW_7.out.n7
  have lBW := BW_7.out.lt
  obtain ⟨qBX0, qBX1, qBX2, qBX3, qBX4, qBX5, qBX6⟩ := BX_7.out.n7
  have lBX := BX_7.out.lt
  obtain ⟨qBg0, qBg1, qBg2, qBg3, qBg4, qBg5, qBg6⟩ := Bg_7.out.n7
  have lBg := Bg_7.out.lt
  go_wp2_with fail
  refine (markNet_own b d t vp vm vg vr ps.length ms.length gs.length rs.length ps.length ms.length gs.length rs.length ps ms gs rs (w3.heap.size + 1) w4.heap.size _ 1 HS.out (by omega) (by omega) (by have z0 := N1.out; have z1 := Z2.out; have z2 := Z3.out; have z3 := Z4.out; have z4 := N4.out; have z5 := Z5.out; have z6 := N5.out; have z7 := Z6.out; have z8 := N6.out; have z9 := Z7.out; omega) (by have z0 := N1.out; have z1 := Z2.out; have z2 := Z3.out; have z3 := Z4.out; have z4 := N4.out; have z5 := Z5.out; have z6 := N5.out; have z7 := Z6.out; have z8 := N6.out; have z9 := Z7.out; omega) X_7.out).mono ?_
  rintro e w8 ⟨rfl, MK, OM⟩
  clear qBA0 qBA1 qBA2 qBA3 qBA4 qBA5 qBA6 lBA qBW0 qBW1 qBW2 qBW3 qBW4 qBW5 qBW6 lBW qBX0 qBX1 qBX2 qBX3 qBX4 qBX5 qBX6 lBX qBg0 qBg1 qBg2 qBg3 qBg4 qBg5 qBg6 lBg
  have HB : Hid (Mk (w3.heap.size + 1) w4.heap.size w7 w8) := MK
  have Z8 : Hid (w7.heap.size ≤ w8.heap.size) := HB.out.size
  have BA_8 : Hid (BxV w w8 #[.int .i64 b, .int .i64 d, .slice ap ps.length up, .int .i64 t, .slice am ms.length um, .slice ag gs.length ug, .slice ar rs.length ur] 71) := BA_7.out.mkd HB.out (by first | exact .inl (by have z0 := N1.out; have z1 := Z2.out; have z2 := Z3.out; have z3 := Z4.out; have z4 := N4.out; have z5 := Z5.out; have z6 := N5.out; have z7 := Z6.out; have z8 := N6.out; have z9 := Z7.out; have z10 := Z8.out; omega) | exact .inr (by have z0 := N1.out; have z1 := Z2.out; have z2 := Z3.out; have z3 := Z4.out; have z4 := N4.out; have z5 := Z5.out; have z6 := N5.out; have z7 := Z6.out; have z8 := N6.out; have z9 := Z7.out; have z10 := Z8.out; omega))
  have BEL_8 : Hid (Below w.heap.size w w8) := HB.out.below _ _ (by have z0 := N1.out; have z1 := Z2.out; have z2 := Z3.out; have z3 := Z4.out; have z4 := N4.out; have z5 := Z5.out; have z6 := N5.out; have z7 := Z6.out; have z8 := N6.out; have z9 := Z7.out; have z10 := Z8.out; omega) BEL_7.out
  have RW_8 : Hid (Below w3.heap.size w3 w8) := HB.out.below _ _ (by have z0 := N1.out; have z1 := Z2.out; have z2 := Z3.out; have z3 := Z4.out; have z4 := N4.out; have z5 := Z5.out; have z6 := N5.out; have z7 := Z6.out; have z8 := N6.out; have z9 := Z7.out; have z10 := Z8.out; omega) RW_7.out
  have BW_8 : Hid (BxV w3 w8 #[.int .i64 (bgnA b d t ps ms gs rs x0 x1 x2).b, .int .i64 (bgnA b d t ps ms gs rs x0 x1 x2).d, .slice sp (bgnA b d t ps ms gs rs x0 x1 x2).ps.length skp, .int .i64 (bgnA b d t ps ms gs rs x0 x1 x2).ttl, .slice sm (bgnA b d t ps ms gs rs x0 x1 x2).ms.length skm, .slice sg (bgnA b d t ps ms gs rs x0 x1 x2).gs.length skg, .slice sr (bgnA b d t ps ms gs rs x0 x1 x2).rs.length skr] 36) := BW_7.out.mkd HB.out (by first | exact .inl (by have z0 := N1.out; have z1 := Z2.out; have z2 := Z3.out; have z3 := Z4.out; have z4 := N4.out; have z5 := Z5.out; have z6 := N5.out; have z7 := Z6.out; have z8 := N6.out; have z9 := Z7.out; have z10 := Z8.out; omega) | exact .inr (by have z0 := N1.out; have z1 := Z2.out; have z2 := Z3.out; have z3 := Z4.out; have z4 := N4.out; have z5 := Z5.out; have z6 := N5.out; have z7 := Z6.out; have z8 := N6.out; have z9 := Z7.out; have z10 := Z8.out; omega))
  have BX_8 : Hid (BxV w4 w8 #[.int .i64 b, .int .i64 d, .slice vp ps.length ps.length, .int .i64 t, .slice vm ms.length ms.length, .slice vg gs.length gs.length, .slice vr rs.length rs.length] 36) := BX_7.out.mkd HB.out (by first | exact .inl (by have z0 := N1.out; have z1 := Z2.out; have z2 := Z3.out; have z3 := Z4.out; have z4 := N4.out; have z5 := Z5.out; have z6 := N5.out; have z7 := Z6.out; have z8 := N6.out; have z9 := Z7.out; have z10 := Z8.out; omega) | exact .inr (by have z0 := N1.out; have z1 := Z2.out; have z2 := Z3.out; have z3 := Z4.out; have z4 := N4.out; have z5 := Z5.out; have z6 := N5.out; have z7 := Z6.out; have z8 := N6.out; have z9 := Z7.out; have z10 := Z8.out; omega))
  have Gg_8 : Hid (OwnN (w4.heap.size + 1) w5.heap.size w8 gp gm gg gr (bgnA b d t ps ms gs rs x0 x1 x2).ps.length (bgnA b d t ps ms gs rs x0 x1 x2).ms.length (bgnA b d t ps ms gs rs x0 x1 x2).gs.length (bgnA b d t ps ms gs rs x0 x1 x2).rs.length (bgnA b d t ps ms gs rs x0 x1 x2).ps (bgnA b d t ps ms gs rs x0 x1 x2).ms (bgnA b d t ps ms gs rs x0 x1 x2).gs (bgnA b d t ps ms gs rs x0 x1 x2).rs) := Gg_7.out.mkd HB.out (by first | exact .inl (by have z0 := N1.out; have z1 := Z2.out; have z2 := Z3.out; have z3 := Z4.out; have z4 := N4.out; have z5 := Z5.out; have z6 := N5.out; have z7 := Z6.out; have z8 := N6.out; have z9 := Z7.out; have z10 := Z8.out; omega) | exact .inr (by have z0 := N1.out; have z1 := Z2.out; have z2 := Z3.out; have z3 := Z4.out; have z4 := N4.out; have z5 := Z5.out; have z6 := N5.out; have z7 := Z6.out; have z8 := N6.out; have z9 := Z7.out; have z10 := Z8.out; omega))
  have Bg_8 : Hid (BxV w5 w8 #[.int .i64 (bgnA b d t ps ms gs rs x0 x1 x2).b, .int .i64 (bgnA b d t ps ms gs rs x0 x1 x2).d, .slice gp (bgnA b d t ps ms gs rs x0 x1 x2).ps.length gkp, .int .i64 (bgnA b d t ps ms gs rs x0 x1 x2).ttl, .slice gm (bgnA b d t ps ms gs rs x0 x1 x2).ms.length gkm, .slice gg (bgnA b d t ps ms gs rs x0 x1 x2).gs.length gkg, .slice gr (bgnA b d t ps ms gs rs x0 x1 x2).rs.length gkr] 36) := Bg_7.out.mkd HB.out (by first | exact .inl (by have z0 := N1.out; have z1 := Z2.out; have z2 := Z3.out; have z3 := Z4.out; have z4 := N4.out; have z5 := Z5.out; have z6 := N5.out; have z7 := Z6.out; have z8 := N6.out; have z9 := Z7.out; have z10 := Z8.out; omega) | exact .inr (by have z0 := N1.out; have z1 := Z2.out; have z2 := Z3.out; have z3 := Z4.out; have z4 := N4.out; have z5 := Z5.out; have z6 := N5.out; have z7 := Z6.out; have z8 := N6.out; have z9 := Z7.out; have z10 := Z8.out; omega))
  have X_8 : Hid (OwnN (w3.heap.size + 1) w4.heap.size w8 vp vm vg vr ps.length ms.length gs.length rs.length (mrkP 1 ps) (mrkM (kN1 1 ps) ms) (mrk (kN2 1 ps ms) gs gs.length) (mrkR (kN3 1 ps ms gs) rs)) := OM
  clear HB MK BA_7 BEL_7 RW_7 BW_7 X_7 BX_7 Gg_7 Bg_7
  clear OM
  generalize kN4 1 ps ms gs rs = kp at *
  obtain ⟨qBA0, qBA1, qBA2, qBA3, qBA4, qBA5, qBA6⟩ := BA_8.out.n7
  have lBA := BA_8.out.lt
  obtain ⟨qBW0, qBW1, qBW2, qBW3, qBW4, qBW5, qBW6⟩ := BW_8.out.n7
  have lBW := BW_8.out.lt
  obtain ⟨qBX0, qBX1, qBX2, qBX3, qBX4, qBX5, qBX6⟩ := BX_8.out.n7
  have lBX := BX_8.out.lt
  obtain ⟨qBg0, qBg1, qBg2, qBg3, qBg4, qBg5, qBg6⟩ := Bg_8.out.n7
  have lBg := Bg_8.out.lt
  go_wp2_with fail
  refine (eqNet_same _ _ _ gp gm gg gr sp sm sg sr gkp gkm gkg gkr skp skm skg skr (bgnA b d t ps ms gs rs x0 x1 x2).ps (bgnA b d t ps ms gs rs x0 x1 x2).ms (bgnA b d t ps ms gs rs x0 x1 x2).gs (bgnA b d t ps ms gs rs x0 x1 x2).rs _ HBX.out Gg_8.out.at (W0.out.keep RW_8.out)).mono ?_
  rintro e w9 ⟨rfl, HW⟩
  clear qBA0 qBA1 qBA2 qBA3 qBA4 qBA5 qBA6 lBA qBW0 qBW1 qBW2 qBW3 qBW4 qBW5 qBW6 lBW qBX0 qBX1 qBX2 qBX3 qBX4 qBX5 qBX6 lBX qBg0 qBg1 qBg2 qBg3 qBg4 qBg5 qBg6 lBg
  have HB : Hid (Below w8.heap.size w8 w9) := HW
  have Z9 : Hid (w8.heap.size ≤ w9.heap.size) := HB.out.size
  have BA_9 : Hid (BxV w w9 #[.int .i64 b, .int .i64 d, .slice ap ps.length up, .int .i64 t, .slice am ms.length um, .slice ag gs.length ug, .slice ar rs.length ur] 71) := BA_8.out.keep HB.out
  have BEL_9 : Hid (Below w.heap.size w w9) := BEL_8.out.trans (HB.out.mono (by have z0 := N1.out; have z1 := Z2.out; have z2 := Z3.out; have z3 := Z4.out; have z4 := N4.out; have z5 := Z5.out; have z6 := N5.out; have z7 := Z6.out; have z8 := N6.out; have z9 := Z7.out; have z10 := Z8.out; have z11 := Z9.out; omega))
  have RW_9 : Hid (Below w3.heap.size w3 w9) := RW_8.out.trans (HB.out.mono (by have z0 := N1.out; have z1 := Z2.out; have z2 := Z3.out; have z3 := Z4.out; have z4 := N4.out; have z5 := Z5.out; have z6 := N5.out; have z7 := Z6.out; have z8 := N6.out; have z9 := Z7.out; have z10 := Z8.out; have z11 := Z9.out; omega))
  have BW_9 : Hid (BxV w3 w9 #[.int .i64 (bgnA b d t ps ms gs rs x0 x1 x2).b, .int .i64 (bgnA b d t ps ms gs rs x0 x1 x2).d, .slice sp (bgnA b d t ps ms gs rs x0 x1 x2).ps.length skp, .int .i64 (bgnA b d t ps ms gs rs x0 x1 x2).ttl, .slice sm (bgnA b d t ps ms gs rs x0 x1 x2).ms.length skm, .slice sg (bgnA b d t ps ms gs rs x0 x1 x2).gs.length skg, .slice sr (bgnA b d t ps ms gs rs x0 x1 x2).rs.length skr] 36) := BW_8.out.keep HB.out
  have BX_9 : Hid (BxV w4 w9 #[.int .i64 b, .int .i64 d, .slice vp ps.length ps.length, .int .i64 t, .slice vm ms.length ms.length, .slice vg gs.length gs.length, .slice vr rs.length rs.length] 36) := BX_8.out.keep HB.out
  have Gg_9 : Hid (OwnN (w4.heap.size + 1) w5.heap.size w9 gp gm gg gr (bgnA b d t ps ms gs rs x0 x1 x2).ps.length (bgnA b d t ps ms gs rs x0 x1 x2).ms.length (bgnA b d t ps ms gs rs x0 x1 x2).gs.length (bgnA b d t ps ms gs rs x0 x1 x2).rs.length (bgnA b d t ps ms gs rs x0 x1 x2).ps (bgnA b d t ps ms gs rs x0 x1 x2).ms (bgnA b d t ps ms gs rs x0 x1 x2).gs (bgnA b d t ps ms gs rs x0 x1 x2).rs) := Gg_8.out.keep HB.out
  have Bg_9 : Hid (BxV w5 w9 #[.int .i64 (bgnA b d t ps ms gs rs x0 x1 x2).b, .int .i64 (bgnA b d t ps ms gs rs x0 x1 x2).d, .slice gp (bgnA b d t ps ms gs rs x0 x1 x2).ps.length gkp, .int .i64 (bgnA b d t ps ms gs rs x0 x1 x2).ttl, .slice gm (bgnA b d t ps ms gs rs x0 x1 x2).ms.length gkm, .slice gg (bgnA b d t ps ms gs rs x0 x1 x2).gs.length gkg, .slice gr (bgnA b d t ps ms gs rs x0 x1 x2).rs.length gkr] 36) := Bg_8.out.keep HB.out
  have X_9 : Hid (OwnN (w3.heap.size + 1) w4.heap.size w9 vp vm vg vr ps.length ms.length gs.length rs.length (mrkP 1 ps) (mrkM (kN1 1 ps) ms) (mrk (kN2 1 ps ms) gs gs.length) (mrkR (kN3 1 ps ms gs) rs)) := X_8.out.keep HB.out
  clear HB HW BA_8 BEL_8 RW_8 BW_8 BX_8 Gg_8 Bg_8 X_8
  obtain ⟨qBA0, qBA1, qBA2, qBA3, qBA4, qBA5, qBA6⟩ := BA_9.out.n7
  have lBA := BA_9.out.lt
  obtain ⟨qBW0, qBW1, qBW2, qBW3, qBW4, qBW5, qBW6⟩ := BW_9.out.n7
  have lBW := BW_9.out.lt
  obtain ⟨qBX0, qBX1, qBX2, qBX3, qBX4, qBX5, qBX6⟩ := BX_9.out.n7
  have lBX := BX_9.out.lt
  obtain ⟨qBg0, qBg1, qBg2, qBg3, qBg4, qBg5, qBg6⟩ := Bg_9.out.n7
  have lBg := Bg_9.out.lt
  go_wp2_with fail
  refine (markNet_own _ _ _ gp gm gg gr gkp gkm gkg gkr (bgnA b d t ps ms gs rs x0 x1 x2).ps.length (bgnA b d t ps ms gs rs x0 x1 x2).ms.length (bgnA b d t ps ms gs rs x0 x1 x2).gs.length (bgnA b d t ps ms gs rs x0 x1 x2).rs.length (bgnA b d t ps ms gs rs x0 x1 x2).ps (bgnA b d t ps ms gs rs x0 x1 x2).ms (bgnA b d t ps ms gs rs x0 x1 x2).gs (bgnA b d t ps ms gs rs x0 x1 x2).rs (w4.heap.size + 1) w5.heap.size _ 1 HBX.out (by omega) (by omega) (by have z0 := N1.out; have z1 := Z2.out; have z2 := Z3.out; have z3 := Z4.out; have z4 := N4.out; have z5 := Z5.out; have z6 := N5.out; have z7 := Z6.out; have z8 := N6.out; have z9 := Z7.out; have z10 := Z8.out; have z11 := Z9.out; omega) (by have z0 := N1.out; have z1 := Z2.out; have z2 := Z3.out; have z3 := Z4.out; have z4 := N4.out; have z5 := Z5.out; have z6 := N5.out; have z7 := Z6.out; have z8 := N6.out; have z9 := Z7.out; have z10 := Z8.out; have z11 := Z9.out; omega) Gg_9.out).mono ?_
  rintro e w10 ⟨rfl, MK, OM⟩
  clear qBA0 qBA1 qBA2 qBA3 qBA4 qBA5 qBA6 lBA qBW0 qBW1 qBW2 qBW3 qBW4 qBW5 qBW6 lBW qBX0 qBX1 qBX2 qBX3 qBX4 qBX5 qBX6 lBX qBg0 qBg1 qBg2 qBg3 qBg4 qBg5 qBg6 lBg
  have HB : Hid (Mk (w4.heap.size + 1) w5.heap.size w9 w10) := MK
  have Z10 : Hid (w9.heap.size ≤ w10.heap.size) := HB.out.size
  have BA_10 : Hid (BxV w w10 #[.int .i64 b, .int .i64 d, .slice ap ps.length up, .int .i64 t, .slice am ms.length um, .slice ag gs.length ug, .slice ar rs.length ur] 71) := BA_9.out.mkd HB.out (by first | exact .inl (by have z0 := N1.out; have z1 := Z2.out; have z2 := Z3.out; have z3 := Z4.out; have z4 := N4.out; have z5 := Z5.out; have z6 := N5.out; have z7 := Z6.out; have z8 := N6.out; have z9 := Z7.out; have z10 := Z8.out; have z11 := Z9.out; have z12 := Z10.out; omega) | exact .inr (by have z0 := N1.out; have z1 := Z2.out; have z2 := Z3.out; have z3 := Z4.out; have z4 := N4.out; have z5 := Z5.out; have z6 := N5.out; have z7 := Z6.out; have z8 := N6.out; have z9 := Z7.out; have z10 := Z8.out; have z11 := Z9.out; have z12 := Z10.out; omega))
  have BEL_10 : Hid (Below w.heap.size w w10) := HB.out.below _ _ (by have z0 := N1.out; have z1 := Z2.out; have z2 := Z3.out; have z3 := Z4.out; have z4 := N4.out; have z5 := Z5.out; have z6 := N5.out; have z7 := Z6.out; have z8 := N6.out; have z9 := Z7.out; have z10 := Z8.out; have z11 := Z9.out; have z12 := Z10.out; omega) BEL_9.out
  have RW_10 : Hid (Below w3.heap.size w3 w10) := HB.out.below _ _ (by have z0 := N1.out; have z1 := Z2.out; have z2 := Z3.out; have z3 := Z4.out; have z4 := N4.out; have z5 := Z5.out; have z6 := N5.out; have z7 := Z6.out; have z8 := N6.out; have z9 := Z7.out; have z10 := Z8.out; have z11 := Z9.out; have z12 := Z10.out; omega) RW_9.out
  have BW_10 : Hid (BxV w3 w10 #[.int .i64 (bgnA b d t ps ms gs rs x0 x1 x2).b, .int .i64 (bgnA b d t ps ms gs rs x0 x1 x2).d, .slice sp (bgnA b d t ps ms gs rs x0 x1 x2).ps.length skp, .int .i64 (bgnA b d t ps ms gs rs x0 x1 x2).ttl, .slice sm (bgnA b d t ps ms gs rs x0 x1 x2).ms.length skm, .slice sg (bgnA b d t ps ms gs rs x0 x1 x2).gs.length skg, .slice sr (bgnA b d t ps ms gs rs x0 x1 x2).rs.length skr] 36) := BW_9.out.mkd HB.out (by first | exact .inl (by have z0 := N1.out; have z1 := Z2.out; have z2 := Z3.out; have z3 := Z4.out; have z4 := N4.out; have z5 := Z5.out; have z6 := N5.out; have z7 := Z6.out; have z8 := N6.out; have z9 := Z7.out; have z10 := Z8.out; have z11 := Z9.out; have z12 := Z10.out; omega) | exact .inr (by have z0 := N1.out; have z1 := Z2.out; have z2 := Z3.out; have z3 := Z4.out; have z4 := N4.out; have z5 := Z5.out; have z6 := N5.out; have z7 := Z6.out; have z8 := N6.out; have z9 := Z7.out; have z10 := Z8.out; have z11 := Z9.out; have z12 := Z10.out; omega))
  have BX_10 : Hid (BxV w4 w10 #[.int .i64 b, .int .i64 d, .slice vp ps.length ps.length, .int .i64 t, .slice vm ms.length ms.length, .slice vg gs.length gs.length, .slice vr rs.length rs.length] 36) := BX_9.out.mkd HB.out (by first | exact .inl (by have z0 := N1.out; have z1 := Z2.out; have z2 := Z3.out; have z3 := Z4.out; have z4 := N4.out; have z5 := Z5.out; have z6 := N5.out; have z7 := Z6.out; have z8 := N6.out; have z9 := Z7.out; have z10 := Z8.out; have z11 := Z9.out; have z12 := Z10.out; omega) | exact .inr (by have z0 := N1.out; have z1 := Z2.out; have z2 := Z3.out; have z3 := Z4.out; have z4 := N4.out; have z5 := Z5.out; have z6 := N5.out; have z7 := Z6.out; have z8 := N6.out; have z9 := Z7.out; have z10 := Z8.out; have z11 := Z9.out; have z12 := Z10.out; omega))
  have Bg_10 : Hid (BxV w5 w10 #[.int .i64 (bgnA b d t ps ms gs rs x0 x1 x2).b, .int .i64 (bgnA b d t ps ms gs rs x0 x1 x2).d, .slice gp (bgnA b d t ps ms gs rs x0 x1 x2).ps.length gkp, .int .i64 (bgnA b d t ps ms gs rs x0 x1 x2).ttl, .slice gm (bgnA b d t ps ms gs rs x0 x1 x2).ms.length gkm, .slice gg (bgnA b d t ps ms gs rs x0 x1 x2).gs.length gkg, .slice gr (bgnA b d t ps ms gs rs x0 x1 x2).rs.length gkr] 36) := Bg_9.out.mkd HB.out (by first | exact .inl (by have z0 := N1.out; have z1 := Z2.out; have z2 := Z3.out; have z3 := Z4.out; have z4 := N4.out; have z5 := Z5.out; have z6 := N5.out; have z7 := Z6.out; have z8 := N6.out; have z9 := Z7.out; have z10 := Z8.out; have z11 := Z9.out; have z12 := Z10.out; omega) | exact .inr (by have z0 := N1.out; have z1 := Z2.out; have z2 := Z3.out; have z3 := Z4.out; have z4 := N4.out; have z5 := Z5.out; have z6 := N5.out; have z7 := Z6.out; have z8 := N6.out; have z9 := Z7.out; have z10 := Z8.out; have z11 := Z9.out; have z12 := Z10.out; omega))
  have Gg_10 : Hid (OwnN (w4.heap.size + 1) w5.heap.size w10 gp gm gg gr (bgnA b d t ps ms gs rs x0 x1 x2).ps.length (bgnA b d t ps ms gs rs x0 x1 x2).ms.length (bgnA b d t ps ms gs rs x0 x1 x2).gs.length (bgnA b d t ps ms gs rs x0 x1 x2).rs.length (mrkP 1 (bgnA b d t ps ms gs rs x0 x1 x2).ps) (mrkM (kN1 1 (bgnA b d t ps ms gs rs x0 x1 x2).ps) (bgnA b d t ps ms gs rs x0 x1 x2).ms) (mrk (kN2 1 (bgnA b d t ps ms gs rs x0 x1 x2).ps (bgnA b d t ps ms gs rs x0 x1 x2).ms) (bgnA b d t ps ms gs rs x0 x1 x2).gs (bgnA b d t ps ms gs rs x0 x1 x2).gs.length) (mrkR (kN3 1 (bgnA b d t ps ms gs rs x0 x1 x2).ps (bgnA b d t ps ms gs rs x0 x1 x2).ms (bgnA b d t ps ms gs rs x0 x1 x2).gs) (bgnA b d t ps ms gs rs x0 x1 x2).rs)) := OM
  clear HB MK BA_9 BEL_9 RW_9 BW_9 BX_9 Gg_9 Bg_9 X_9
  clear OM
  have hkg := (kN_bd (k := 1) HBX.out (by omega) (by omega)).2.2.2
  obtain ⟨kg, hkgE⟩ : ∃ kg, kg = kN4 1 (bgnA b d t ps ms gs rs x0 x1 x2).ps (bgnA b d t ps ms gs rs x0 x1 x2).ms (bgnA b d t ps ms gs rs x0 x1 x2).gs (bgnA b d t ps ms gs rs x0 x1 x2).rs := ⟨_, rfl⟩
  rw [← hkgE] at hkg ⊢
  have HKG : Hid (kN4 1 (bgnA b d t ps ms gs rs x0 x1 x2).ps (bgnA b d t ps ms gs rs x0 x1 x2).ms (bgnA b d t ps ms gs rs x0 x1 x2).gs (bgnA b d t ps ms gs rs x0 x1 x2).rs = kg) := hkgE.symm
  clear hkgE
  have CHD := heldNet_any (bgnA b d t ps ms gs rs x0 x1 x2).b (bgnA b d t ps ms gs rs x0 x1 x2).d (bgnA b d t ps ms gs rs x0 x1 x2).ttl gp gm gg gr gkp gkm gkg gkr (bgnA b d t ps ms gs rs x0 x1 x2).ps (bgnA b d t ps ms gs rs x0 x1 x2).ms (bgnA b d t ps ms gs rs x0 x1 x2).gs (bgnA b d t ps ms gs rs x0 x1 x2).rs w10 1 HBX.out (by omega) (by omega) Gg_10.out.at
  rw [HKG.out] at CHD
  obtain ⟨qBA0, qBA1, qBA2, qBA3, qBA4, qBA5, qBA6⟩ := BA_10.out.n7
  have lBA := BA_10.out.lt
  obtain ⟨qBW0, qBW1, qBW2, qBW3, qBW4, qBW5, qBW6⟩ := BW_10.out.n7
  have lBW := BW_10.out.lt
  obtain ⟨qBX0, qBX1, qBX2, qBX3, qBX4, qBX5, qBX6⟩ := BX_10.out.n7
  have lBX := BX_10.out.lt
  obtain ⟨qBg0, qBg1, qBg2, qBg3, qBg4, qBg5, qBg6⟩ := Bg_10.out.n7
  have lBg := Bg_10.out.lt
  go_wp2_with fail
  refine (CHD).mono ?_
  rintro e w11 ⟨rfl, HW⟩
  clear qBA0 qBA1 qBA2 qBA3 qBA4 qBA5 qBA6 lBA qBW0 qBW1 qBW2 qBW3 qBW4 qBW5 qBW6 lBW qBX0 qBX1 qBX2 qBX3 qBX4 qBX5 qBX6 lBX qBg0 qBg1 qBg2 qBg3 qBg4 qBg5 qBg6 lBg
  have HB : Hid (Below w10.heap.size w10 w11) := HW
  have Z11 : Hid (w10.heap.size ≤ w11.heap.size) := HB.out.size
  have BA_11 : Hid (BxV w w11 #[.int .i64 b, .int .i64 d, .slice ap ps.length up, .int .i64 t, .slice am ms.length um, .slice ag gs.length ug, .slice ar rs.length ur] 71) := BA_10.out.keep HB.out
  have BEL_11 : Hid (Below w.heap.size w w11) := BEL_10.out.trans (HB.out.mono (by have z0 := N1.out; have z1 := Z2.out; have z2 := Z3.out; have z3 := Z4.out; have z4 := N4.out; have z5 := Z5.out; have z6 := N5.out; have z7 := Z6.out; have z8 := N6.out; have z9 := Z7.out; have z10 := Z8.out; have z11 := Z9.out; have z12 := Z10.out; have z13 := Z11.out; omega))
  have RW_11 : Hid (Below w3.heap.size w3 w11) := RW_10.out.trans (HB.out.mono (by have z0 := N1.out; have z1 := Z2.out; have z2 := Z3.out; have z3 := Z4.out; have z4 := N4.out; have z5 := Z5.out; have z6 := N5.out; have z7 := Z6.out; have z8 := N6.out; have z9 := Z7.out; have z10 := Z8.out; have z11 := Z9.out; have z12 := Z10.out; have z13 := Z11.out; omega))
  have BW_11 : Hid (BxV w3 w11 #[.int .i64 (bgnA b d t ps ms gs rs x0 x1 x2).b, .int .i64 (bgnA b d t ps ms gs rs x0 x1 x2).d, .slice sp (bgnA b d t ps ms gs rs x0 x1 x2).ps.length skp, .int .i64 (bgnA b d t ps ms gs rs x0 x1 x2).ttl, .slice sm (bgnA b d t ps ms gs rs x0 x1 x2).ms.length skm, .slice sg (bgnA b d t ps ms gs rs x0 x1 x2).gs.length skg, .slice sr (bgnA b d t ps ms gs rs x0 x1 x2).rs.length skr] 36) := BW_10.out.keep HB.out
  have BX_11 : Hid (BxV w4 w11 #[.int .i64 b, .int .i64 d, .slice vp ps.length ps.length, .int .i64 t, .slice vm ms.length ms.length, .slice vg gs.length gs.length, .slice vr rs.length rs.length] 36) := BX_10.out.keep HB.out
  have Bg_11 : Hid (BxV w5 w11 #[.int .i64 (bgnA b d t ps ms gs rs x0 x1 x2).b, .int .i64 (bgnA b d t ps ms gs rs x0 x1 x2).d, .slice gp (bgnA b d t ps ms gs rs x0 x1 x2).ps.length gkp, .int .i64 (bgnA b d t ps ms gs rs x0 x1 x2).ttl, .slice gm (bgnA b d t ps ms gs rs x0 x1 x2).ms.length gkm, .slice gg (bgnA b d t ps ms gs rs x0 x1 x2).gs.length gkg, .slice gr (bgnA b d t ps ms gs rs x0 x1 x2).rs.length gkr] 36) := Bg_10.out.keep HB.out
  have Gg_11 : Hid (OwnN (w4.heap.size + 1) w5.heap.size w11 gp gm gg gr (bgnA b d t ps ms gs rs x0 x1 x2).ps.length (bgnA b d t ps ms gs rs x0 x1 x2).ms.length (bgnA b d t ps ms gs rs x0 x1 x2).gs.length (bgnA b d t ps ms gs rs x0 x1 x2).rs.length (mrkP 1 (bgnA b d t ps ms gs rs x0 x1 x2).ps) (mrkM (kN1 1 (bgnA b d t ps ms gs rs x0 x1 x2).ps) (bgnA b d t ps ms gs rs x0 x1 x2).ms) (mrk (kN2 1 (bgnA b d t ps ms gs rs x0 x1 x2).ps (bgnA b d t ps ms gs rs x0 x1 x2).ms) (bgnA b d t ps ms gs rs x0 x1 x2).gs (bgnA b d t ps ms gs rs x0 x1 x2).gs.length) (mrkR (kN3 1 (bgnA b d t ps ms gs rs x0 x1 x2).ps (bgnA b d t ps ms gs rs x0 x1 x2).ms (bgnA b d t ps ms gs rs x0 x1 x2).gs) (bgnA b d t ps ms gs rs x0 x1 x2).rs)) := Gg_10.out.keep HB.out
  clear HB HW BA_10 BEL_10 RW_10 BW_10 BX_10 Bg_10 Gg_10
  clear CHD
  obtain ⟨qBA0, qBA1, qBA2, qBA3, qBA4, qBA5, qBA6⟩ := BA_11.out.n7
  have lBA := BA_11.out.lt
  obtain ⟨qBW0, qBW1, qBW2, qBW3, qBW4, qBW5, qBW6⟩ := BW_11.out.n7
  have lBW := BW_11.out.lt
  obtain ⟨qBX0, qBX1, qBX2, qBX3, qBX4, qBX5, qBX6⟩ := BX_11.out.n7
  have lBX := BX_11.out.lt
  obtain ⟨qBg0, qBg1, qBg2, qBg3, qBg4, qBg5, qBg6⟩ := Bg_11.out.n7
  have lBg := Bg_11.out.lt
  go_wp2_with fail
  refine (toNet_own b d t ap am ag ar up um ug ur ps ms gs rs _ HS.out (HR.out.keep BEL_11.out)).mono ?_
  rintro e w12 ⟨zp, zm, zg, zr, rfl, Oz, HW⟩
  clear qBA0 qBA1 qBA2 qBA3 qBA4 qBA5 qBA6 lBA qBW0 qBW1 qBW2 qBW3 qBW4 qBW5 qBW6 lBW qBX0 qBX1 qBX2 qBX3 qBX4 qBX5 qBX6 lBX qBg0 qBg1 qBg2 qBg3 qBg4 qBg5 qBg6 lBg
  have HB : Hid (Below w11.heap.size w11 w12) := HW
  have Z12 : Hid (w11.heap.size ≤ w12.heap.size) := HB.out.size
  have BA_12 : Hid (BxV w w12 #[.int .i64 b, .int .i64 d, .slice ap ps.length up, .int .i64 t, .slice am ms.length um, .slice ag gs.length ug, .slice ar rs.length ur] 71) := BA_11.out.keep HB.out
  have BEL_12 : Hid (Below w.heap.size w w12) := BEL_11.out.trans (HB.out.mono (by have z0 := N1.out; have z1 := Z2.out; have z2 := Z3.out; have z3 := Z4.out; have z4 := N4.out; have z5 := Z5.out; have z6 := N5.out; have z7 := Z6.out; have z8 := N6.out; have z9 := Z7.out; have z10 := Z8.out; have z11 := Z9.out; have z12 := Z10.out; have z13 := Z11.out; have z14 := Z12.out; omega))
  have RW_12 : Hid (Below w3.heap.size w3 w12) := RW_11.out.trans (HB.out.mono (by have z0 := N1.out; have z1 := Z2.out; have z2 := Z3.out; have z3 := Z4.out; have z4 := N4.out; have z5 := Z5.out; have z6 := N5.out; have z7 := Z6.out; have z8 := N6.out; have z9 := Z7.out; have z10 := Z8.out; have z11 := Z9.out; have z12 := Z10.out; have z13 := Z11.out; have z14 := Z12.out; omega))
  have BW_12 : Hid (BxV w3 w12 #[.int .i64 (bgnA b d t ps ms gs rs x0 x1 x2).b, .int .i64 (bgnA b d t ps ms gs rs x0 x1 x2).d, .slice sp (bgnA b d t ps ms gs rs x0 x1 x2).ps.length skp, .int .i64 (bgnA b d t ps ms gs rs x0 x1 x2).ttl, .slice sm (bgnA b d t ps ms gs rs x0 x1 x2).ms.length skm, .slice sg (bgnA b d t ps ms gs rs x0 x1 x2).gs.length skg, .slice sr (bgnA b d t ps ms gs rs x0 x1 x2).rs.length skr] 36) := BW_11.out.keep HB.out
  have BX_12 : Hid (BxV w4 w12 #[.int .i64 b, .int .i64 d, .slice vp ps.length ps.length, .int .i64 t, .slice vm ms.length ms.length, .slice vg gs.length gs.length, .slice vr rs.length rs.length] 36) := BX_11.out.keep HB.out
  have Bg_12 : Hid (BxV w5 w12 #[.int .i64 (bgnA b d t ps ms gs rs x0 x1 x2).b, .int .i64 (bgnA b d t ps ms gs rs x0 x1 x2).d, .slice gp (bgnA b d t ps ms gs rs x0 x1 x2).ps.length gkp, .int .i64 (bgnA b d t ps ms gs rs x0 x1 x2).ttl, .slice gm (bgnA b d t ps ms gs rs x0 x1 x2).ms.length gkm, .slice gg (bgnA b d t ps ms gs rs x0 x1 x2).gs.length gkg, .slice gr (bgnA b d t ps ms gs rs x0 x1 x2).rs.length gkr] 36) := Bg_11.out.keep HB.out
  have Gg_12 : Hid (OwnN (w4.heap.size + 1) w5.heap.size w12 gp gm gg gr (bgnA b d t ps ms gs rs x0 x1 x2).ps.length (bgnA b d t ps ms gs rs x0 x1 x2).ms.length (bgnA b d t ps ms gs rs x0 x1 x2).gs.length (bgnA b d t ps ms gs rs x0 x1 x2).rs.length (mrkP 1 (bgnA b d t ps ms gs rs x0 x1 x2).ps) (mrkM (kN1 1 (bgnA b d t ps ms gs rs x0 x1 x2).ps) (bgnA b d t ps ms gs rs x0 x1 x2).ms) (mrk (kN2 1 (bgnA b d t ps ms gs rs x0 x1 x2).ps (bgnA b d t ps ms gs rs x0 x1 x2).ms) (bgnA b d t ps ms gs rs x0 x1 x2).gs (bgnA b d t ps ms gs rs x0 x1 x2).gs.length) (mrkR (kN3 1 (bgnA b d t ps ms gs rs x0 x1 x2).ps (bgnA b d t ps ms gs rs x0 x1 x2).ms (bgnA b d t ps ms gs rs x0 x1 x2).gs) (bgnA b d t ps ms gs rs x0 x1 x2).rs)) := Gg_11.out.keep HB.out
  have h_12 : Hid (OwnN w11.heap.size w12.heap.size w12 zp zm zg zr ps.length ms.length gs.length rs.length ps ms gs rs) := Oz
  clear HB HW BA_11 BEL_11 RW_11 BW_11 BX_11 Bg_11 Gg_11
  clear Oz
  obtain ⟨qBA0, qBA1, qBA2, qBA3, qBA4, qBA5, qBA6⟩ := BA_12.out.n7
  have lBA := BA_12.out.lt
  obtain ⟨qBW0, qBW1, qBW2, qBW3, qBW4, qBW5, qBW6⟩ := BW_12.out.n7
  have lBW := BW_12.out.lt
  obtain ⟨qBX0, qBX1, qBX2, qBX3, qBX4, qBX5, qBX6⟩ := BX_12.out.n7
  have lBX := BX_12.out.lt
  obtain ⟨qBg0, qBg1, qBg2, qBg3, qBg4, qBg5, qBg6⟩ := Bg_12.out.n7
  have lBg := Bg_12.out.lt
  go_wp2_with fail
  refine (BeginLook_own b d t zp zm zg zr ps.length ms.length gs.length rs.length ps ms gs rs x0 x1 x2 _ HS.out h_12.out.at).mono ?_
  rintro e w13 ⟨h2p, h2m, h2g, h2r, h2kp, h2km, h2kg, h2kr, rfl, Oh2, HW⟩
  clear qBA0 qBA1 qBA2 qBA3 qBA4 qBA5 qBA6 lBA qBW0 qBW1 qBW2 qBW3 qBW4 qBW5 qBW6 lBW qBX0 qBX1 qBX2 qBX3 qBX4 qBX5 qBX6 lBX qBg0 qBg1 qBg2 qBg3 qBg4 qBg5 qBg6 lBg
  have HB : Hid (Below w12.heap.size w12 w13) := HW
  have Z13 : Hid (w12.heap.size ≤ w13.heap.size) := HB.out.size
  have BA_13 : Hid (BxV w w13 #[.int .i64 b, .int .i64 d, .slice ap ps.length up, .int .i64 t, .slice am ms.length um, .slice ag gs.length ug, .slice ar rs.length ur] 71) := BA_12.out.keep HB.out
  have BEL_13 : Hid (Below w.heap.size w w13) := BEL_12.out.trans (HB.out.mono (by have z0 := N1.out; have z1 := Z2.out; have z2 := Z3.out; have z3 := Z4.out; have z4 := N4.out; have z5 := Z5.out; have z6 := N5.out; have z7 := Z6.out; have z8 := N6.out; have z9 := Z7.out; have z10 := Z8.out; have z11 := Z9.out; have z12 := Z10.out; have z13 := Z11.out; have z14 := Z12.out; have z15 := Z13.out; omega))
  have RW_13 : Hid (Below w3.heap.size w3 w13) := RW_12.out.trans (HB.out.mono (by have z0 := N1.out; have z1 := Z2.out; have z2 := Z3.out; have z3 := Z4.out; have z4 := N4.out; have z5 := Z5.out; have z6 := N5.out; have z7 := Z6.out; have z8 := N6.out; have z9 := Z7.out; have z10 := Z8.out; have z11 := Z9.out; have z12 := Z10.out; have z13 := Z11.out; have z14 := Z12.out; have z15 := Z13.out; omega))
  have BW_13 : Hid (BxV w3 w13 #[.int .i64 (bgnA b d t ps ms gs rs x0 x1 x2).b, .int .i64 (bgnA b d t ps ms gs rs x0 x1 x2).d, .slice sp (bgnA b d t ps ms gs rs x0 x1 x2).ps.length skp, .int .i64 (bgnA b d t ps ms gs rs x0 x1 x2).ttl, .slice sm (bgnA b d t ps ms gs rs x0 x1 x2).ms.length skm, .slice sg (bgnA b d t ps ms gs rs x0 x1 x2).gs.length skg, .slice sr (bgnA b d t ps ms gs rs x0 x1 x2).rs.length skr] 36) := BW_12.out.keep HB.out
  have BX_13 : Hid (BxV w4 w13 #[.int .i64 b, .int .i64 d, .slice vp ps.length ps.length, .int .i64 t, .slice vm ms.length ms.length, .slice vg gs.length gs.length, .slice vr rs.length rs.length] 36) := BX_12.out.keep HB.out
  have Bg_13 : Hid (BxV w5 w13 #[.int .i64 (bgnA b d t ps ms gs rs x0 x1 x2).b, .int .i64 (bgnA b d t ps ms gs rs x0 x1 x2).d, .slice gp (bgnA b d t ps ms gs rs x0 x1 x2).ps.length gkp, .int .i64 (bgnA b d t ps ms gs rs x0 x1 x2).ttl, .slice gm (bgnA b d t ps ms gs rs x0 x1 x2).ms.length gkm, .slice gg (bgnA b d t ps ms gs rs x0 x1 x2).gs.length gkg, .slice gr (bgnA b d t ps ms gs rs x0 x1 x2).rs.length gkr] 36) := Bg_12.out.keep HB.out
  have Gg_13 : Hid (OwnN (w4.heap.size + 1) w5.heap.size w13 gp gm gg gr (bgnA b d t ps ms gs rs x0 x1 x2).ps.length (bgnA b d t ps ms gs rs x0 x1 x2).ms.length (bgnA b d t ps ms gs rs x0 x1 x2).gs.length (bgnA b d t ps ms gs rs x0 x1 x2).rs.length (mrkP 1 (bgnA b d t ps ms gs rs x0 x1 x2).ps) (mrkM (kN1 1 (bgnA b d t ps ms gs rs x0 x1 x2).ps) (bgnA b d t ps ms gs rs x0 x1 x2).ms) (mrk (kN2 1 (bgnA b d t ps ms gs rs x0 x1 x2).ps (bgnA b d t ps ms gs rs x0 x1 x2).ms) (bgnA b d t ps ms gs rs x0 x1 x2).gs (bgnA b d t ps ms gs rs x0 x1 x2).gs.length) (mrkR (kN3 1 (bgnA b d t ps ms gs rs x0 x1 x2).ps (bgnA b d t ps ms gs rs x0 x1 x2).ms (bgnA b d t ps ms gs rs x0 x1 x2).gs) (bgnA b d t ps ms gs rs x0 x1 x2).rs)) := Gg_12.out.keep HB.out
  have Gh2_13 : Hid (OwnN w12.heap.size w13.heap.size w13 h2p h2m h2g h2r (bgnA b d t ps ms gs rs x0 x1 x2).ps.length (bgnA b d t ps ms gs rs x0 x1 x2).ms.length (bgnA b d t ps ms gs rs x0 x1 x2).gs.length (bgnA b d t ps ms gs rs x0 x1 x2).rs.length (bgnA b d t ps ms gs rs x0 x1 x2).ps (bgnA b d t ps ms gs rs x0 x1 x2).ms (bgnA b d t ps ms gs rs x0 x1 x2).gs (bgnA b d t ps ms gs rs x0 x1 x2).rs) := Oh2
  clear HB HW BA_12 BEL_12 RW_12 BW_12 BX_12 Bg_12 Gg_12 h_12
  clear Oh2
  obtain ⟨qBA0, qBA1, qBA2, qBA3, qBA4, qBA5, qBA6⟩ := BA_13.out.n7
  have lBA := BA_13.out.lt
  obtain ⟨qBW0, qBW1, qBW2, qBW3, qBW4, qBW5, qBW6⟩ := BW_13.out.n7
  have lBW := BW_13.out.lt
  obtain ⟨qBX0, qBX1, qBX2, qBX3, qBX4, qBX5, qBX6⟩ := BX_13.out.n7
  have lBX := BX_13.out.lt
  obtain ⟨qBg0, qBg1, qBg2, qBg3, qBg4, qBg5, qBg6⟩ := Bg_13.out.n7
  have lBg := Bg_13.out.lt
  go_wp2_with fail
  refine (eqNet_same _ _ _ h2p h2m h2g h2r sp sm sg sr h2kp h2km h2kg h2kr skp skm skg skr (bgnA b d t ps ms gs rs x0 x1 x2).ps (bgnA b d t ps ms gs rs x0 x1 x2).ms (bgnA b d t ps ms gs rs x0 x1 x2).gs (bgnA b d t ps ms gs rs x0 x1 x2).rs _ HBX.out (Gh2_13.out.at.keep (belA _ _)) (W0.out.keep (RW_13.out.trans ((belA _ _).mono (by have z0 := N1.out; have z1 := Z2.out; have z2 := Z3.out; have z3 := Z4.out; have z4 := N4.out; have z5 := Z5.out; have z6 := N5.out; have z7 := Z6.out; have z8 := N6.out; have z9 := Z7.out; have z10 := Z8.out; have z11 := Z9.out; have z12 := Z10.out; have z13 := Z11.out; have z14 := Z12.out; have z15 := Z13.out; omega))))).mono ?_
  rintro e w14 ⟨rfl, HW⟩
  clear qBA0 qBA1 qBA2 qBA3 qBA4 qBA5 qBA6 lBA qBW0 qBW1 qBW2 qBW3 qBW4 qBW5 qBW6 lBW qBX0 qBX1 qBX2 qBX3 qBX4 qBX5 qBX6 lBX qBg0 qBg1 qBg2 qBg3 qBg4 qBg5 qBg6 lBg
  have HB : Hid (Below w13.heap.size w13 w14) := belt (belA _ _) HW
  have Z14 : Hid (w13.heap.size ≤ w14.heap.size) := HB.out.size
  have N14 : Hid (w13.heap.size < w14.heap.size) := (bxV1 HW).lt
  have BA_14 : Hid (BxV w w14 #[.int .i64 b, .int .i64 d, .slice ap ps.length up, .int .i64 t, .slice am ms.length um, .slice ag gs.length ug, .slice ar rs.length ur] 71) := BA_13.out.keep HB.out
  have BEL_14 : Hid (Below w.heap.size w w14) := BEL_13.out.trans (HB.out.mono (by have z0 := N1.out; have z1 := Z2.out; have z2 := Z3.out; have z3 := Z4.out; have z4 := N4.out; have z5 := Z5.out; have z6 := N5.out; have z7 := Z6.out; have z8 := N6.out; have z9 := Z7.out; have z10 := Z8.out; have z11 := Z9.out; have z12 := Z10.out; have z13 := Z11.out; have z14 := Z12.out; have z15 := Z13.out; have z16 := Z14.out; have z17 := N14.out; omega))
  have RW_14 : Hid (Below w3.heap.size w3 w14) := RW_13.out.trans (HB.out.mono (by have z0 := N1.out; have z1 := Z2.out; have z2 := Z3.out; have z3 := Z4.out; have z4 := N4.out; have z5 := Z5.out; have z6 := N5.out; have z7 := Z6.out; have z8 := N6.out; have z9 := Z7.out; have z10 := Z8.out; have z11 := Z9.out; have z12 := Z10.out; have z13 := Z11.out; have z14 := Z12.out; have z15 := Z13.out; have z16 := Z14.out; have z17 := N14.out; omega))
  have BW_14 : Hid (BxV w3 w14 #[.int .i64 (bgnA b d t ps ms gs rs x0 x1 x2).b, .int .i64 (bgnA b d t ps ms gs rs x0 x1 x2).d, .slice sp (bgnA b d t ps ms gs rs x0 x1 x2).ps.length skp, .int .i64 (bgnA b d t ps ms gs rs x0 x1 x2).ttl, .slice sm (bgnA b d t ps ms gs rs x0 x1 x2).ms.length skm, .slice sg (bgnA b d t ps ms gs rs x0 x1 x2).gs.length skg, .slice sr (bgnA b d t ps ms gs rs x0 x1 x2).rs.length skr] 36) := BW_13.out.keep HB.out
  have BX_14 : Hid (BxV w4 w14 #[.int .i64 b, .int .i64 d, .slice vp ps.length ps.length, .int .i64 t, .slice vm ms.length ms.length, .slice vg gs.length gs.length, .slice vr rs.length rs.length] 36) := BX_13.out.keep HB.out
  have Bg_14 : Hid (BxV w5 w14 #[.int .i64 (bgnA b d t ps ms gs rs x0 x1 x2).b, .int .i64 (bgnA b d t ps ms gs rs x0 x1 x2).d, .slice gp (bgnA b d t ps ms gs rs x0 x1 x2).ps.length gkp, .int .i64 (bgnA b d t ps ms gs rs x0 x1 x2).ttl, .slice gm (bgnA b d t ps ms gs rs x0 x1 x2).ms.length gkm, .slice gg (bgnA b d t ps ms gs rs x0 x1 x2).gs.length gkg, .slice gr (bgnA b d t ps ms gs rs x0 x1 x2).rs.length gkr] 36) := Bg_13.out.keep HB.out
  have Gg_14 : Hid (OwnN (w4.heap.size + 1) w5.heap.size w14 gp gm gg gr (bgnA b d t ps ms gs rs x0 x1 x2).ps.length (bgnA b d t ps ms gs rs x0 x1 x2).ms.length (bgnA b d t ps ms gs rs x0 x1 x2).gs.length (bgnA b d t ps ms gs rs x0 x1 x2).rs.length (mrkP 1 (bgnA b d t ps ms gs rs x0 x1 x2).ps) (mrkM (kN1 1 (bgnA b d t ps ms gs rs x0 x1 x2).ps) (bgnA b d t ps ms gs rs x0 x1 x2).ms) (mrk (kN2 1 (bgnA b d t ps ms gs rs x0 x1 x2).ps (bgnA b d t ps ms gs rs x0 x1 x2).ms) (bgnA b d t ps ms gs rs x0 x1 x2).gs (bgnA b d t ps ms gs rs x0 x1 x2).gs.length) (mrkR (kN3 1 (bgnA b d t ps ms gs rs x0 x1 x2).ps (bgnA b d t ps ms gs rs x0 x1 x2).ms (bgnA b d t ps ms gs rs x0 x1 x2).gs) (bgnA b d t ps ms gs rs x0 x1 x2).rs)) := Gg_13.out.keep HB.out
  have Gh2_14 : Hid (OwnN w12.heap.size w13.heap.size w14 h2p h2m h2g h2r (bgnA b d t ps ms gs rs x0 x1 x2).ps.length (bgnA b d t ps ms gs rs x0 x1 x2).ms.length (bgnA b d t ps ms gs rs x0 x1 x2).gs.length (bgnA b d t ps ms gs rs x0 x1 x2).rs.length (bgnA b d t ps ms gs rs x0 x1 x2).ps (bgnA b d t ps ms gs rs x0 x1 x2).ms (bgnA b d t ps ms gs rs x0 x1 x2).gs (bgnA b d t ps ms gs rs x0 x1 x2).rs) := Gh2_13.out.keep HB.out
  have Bh2_14 : Hid (BxV w13 w14 #[.int .i64 (bgnA b d t ps ms gs rs x0 x1 x2).b, .int .i64 (bgnA b d t ps ms gs rs x0 x1 x2).d, .slice h2p (bgnA b d t ps ms gs rs x0 x1 x2).ps.length h2kp, .int .i64 (bgnA b d t ps ms gs rs x0 x1 x2).ttl, .slice h2m (bgnA b d t ps ms gs rs x0 x1 x2).ms.length h2km, .slice h2g (bgnA b d t ps ms gs rs x0 x1 x2).gs.length h2kg, .slice h2r (bgnA b d t ps ms gs rs x0 x1 x2).rs.length h2kr] 36) := bxV1 HW
  clear HB HW BA_13 BEL_13 RW_13 BW_13 BX_13 Bg_13 Gg_13 Gh2_13
  have CHD := heldNet_any (bgnA b d t ps ms gs rs x0 x1 x2).b (bgnA b d t ps ms gs rs x0 x1 x2).d (bgnA b d t ps ms gs rs x0 x1 x2).ttl gp gm gg gr gkp gkm gkg gkr (bgnA b d t ps ms gs rs x0 x1 x2).ps (bgnA b d t ps ms gs rs x0 x1 x2).ms (bgnA b d t ps ms gs rs x0 x1 x2).gs (bgnA b d t ps ms gs rs x0 x1 x2).rs w14 1 HBX.out (by omega) (by omega) Gg_14.out.at
  rw [HKG.out] at CHD
  obtain ⟨qBA0, qBA1, qBA2, qBA3, qBA4, qBA5, qBA6⟩ := BA_14.out.n7
  have lBA := BA_14.out.lt
  obtain ⟨qBW0, qBW1, qBW2, qBW3, qBW4, qBW5, qBW6⟩ := BW_14.out.n7
  have lBW := BW_14.out.lt
  obtain ⟨qBX0, qBX1, qBX2, qBX3, qBX4, qBX5, qBX6⟩ := BX_14.out.n7
  have lBX := BX_14.out.lt
  obtain ⟨qBg0, qBg1, qBg2, qBg3, qBg4, qBg5, qBg6⟩ := Bg_14.out.n7
  have lBg := Bg_14.out.lt
  obtain ⟨qBh20, qBh21, qBh22, qBh23, qBh24, qBh25, qBh26⟩ := Bh2_14.out.n7
  have lBh2 := Bh2_14.out.lt
  go_wp2_with fail
  refine (CHD).mono ?_
  rintro e w15 ⟨rfl, HW⟩
  clear qBA0 qBA1 qBA2 qBA3 qBA4 qBA5 qBA6 lBA qBW0 qBW1 qBW2 qBW3 qBW4 qBW5 qBW6 lBW qBX0 qBX1 qBX2 qBX3 qBX4 qBX5 qBX6 lBX qBg0 qBg1 qBg2 qBg3 qBg4 qBg5 qBg6 lBg qBh20 qBh21 qBh22 qBh23 qBh24 qBh25 qBh26 lBh2
  have HB : Hid (Below w14.heap.size w14 w15) := HW
  have Z15 : Hid (w14.heap.size ≤ w15.heap.size) := HB.out.size
  have BA_15 : Hid (BxV w w15 #[.int .i64 b, .int .i64 d, .slice ap ps.length up, .int .i64 t, .slice am ms.length um, .slice ag gs.length ug, .slice ar rs.length ur] 71) := BA_14.out.keep HB.out
  have BEL_15 : Hid (Below w.heap.size w w15) := BEL_14.out.trans (HB.out.mono (by have z0 := N1.out; have z1 := Z2.out; have z2 := Z3.out; have z3 := Z4.out; have z4 := N4.out; have z5 := Z5.out; have z6 := N5.out; have z7 := Z6.out; have z8 := N6.out; have z9 := Z7.out; have z10 := Z8.out; have z11 := Z9.out; have z12 := Z10.out; have z13 := Z11.out; have z14 := Z12.out; have z15 := Z13.out; have z16 := Z14.out; have z17 := N14.out; have z18 := Z15.out; omega))
  have RW_15 : Hid (Below w3.heap.size w3 w15) := RW_14.out.trans (HB.out.mono (by have z0 := N1.out; have z1 := Z2.out; have z2 := Z3.out; have z3 := Z4.out; have z4 := N4.out; have z5 := Z5.out; have z6 := N5.out; have z7 := Z6.out; have z8 := N6.out; have z9 := Z7.out; have z10 := Z8.out; have z11 := Z9.out; have z12 := Z10.out; have z13 := Z11.out; have z14 := Z12.out; have z15 := Z13.out; have z16 := Z14.out; have z17 := N14.out; have z18 := Z15.out; omega))
  have BW_15 : Hid (BxV w3 w15 #[.int .i64 (bgnA b d t ps ms gs rs x0 x1 x2).b, .int .i64 (bgnA b d t ps ms gs rs x0 x1 x2).d, .slice sp (bgnA b d t ps ms gs rs x0 x1 x2).ps.length skp, .int .i64 (bgnA b d t ps ms gs rs x0 x1 x2).ttl, .slice sm (bgnA b d t ps ms gs rs x0 x1 x2).ms.length skm, .slice sg (bgnA b d t ps ms gs rs x0 x1 x2).gs.length skg, .slice sr (bgnA b d t ps ms gs rs x0 x1 x2).rs.length skr] 36) := BW_14.out.keep HB.out
  have BX_15 : Hid (BxV w4 w15 #[.int .i64 b, .int .i64 d, .slice vp ps.length ps.length, .int .i64 t, .slice vm ms.length ms.length, .slice vg gs.length gs.length, .slice vr rs.length rs.length] 36) := BX_14.out.keep HB.out
  have Bg_15 : Hid (BxV w5 w15 #[.int .i64 (bgnA b d t ps ms gs rs x0 x1 x2).b, .int .i64 (bgnA b d t ps ms gs rs x0 x1 x2).d, .slice gp (bgnA b d t ps ms gs rs x0 x1 x2).ps.length gkp, .int .i64 (bgnA b d t ps ms gs rs x0 x1 x2).ttl, .slice gm (bgnA b d t ps ms gs rs x0 x1 x2).ms.length gkm, .slice gg (bgnA b d t ps ms gs rs x0 x1 x2).gs.length gkg, .slice gr (bgnA b d t ps ms gs rs x0 x1 x2).rs.length gkr] 36) := Bg_14.out.keep HB.out
  have Gg_15 : Hid (OwnN (w4.heap.size + 1) w5.heap.size w15 gp gm gg gr (bgnA b d t ps ms gs rs x0 x1 x2).ps.length (bgnA b d t ps ms gs rs x0 x1 x2).ms.length (bgnA b d t ps ms gs rs x0 x1 x2).gs.length (bgnA b d t ps ms gs rs x0 x1 x2).rs.length (mrkP 1 (bgnA b d t ps ms gs rs x0 x1 x2).ps) (mrkM (kN1 1 (bgnA b d t ps ms gs rs x0 x1 x2).ps) (bgnA b d t ps ms gs rs x0 x1 x2).ms) (mrk (kN2 1 (bgnA b d t ps ms gs rs x0 x1 x2).ps (bgnA b d t ps ms gs rs x0 x1 x2).ms) (bgnA b d t ps ms gs rs x0 x1 x2).gs (bgnA b d t ps ms gs rs x0 x1 x2).gs.length) (mrkR (kN3 1 (bgnA b d t ps ms gs rs x0 x1 x2).ps (bgnA b d t ps ms gs rs x0 x1 x2).ms (bgnA b d t ps ms gs rs x0 x1 x2).gs) (bgnA b d t ps ms gs rs x0 x1 x2).rs)) := Gg_14.out.keep HB.out
  have Gh2_15 : Hid (OwnN w12.heap.size w13.heap.size w15 h2p h2m h2g h2r (bgnA b d t ps ms gs rs x0 x1 x2).ps.length (bgnA b d t ps ms gs rs x0 x1 x2).ms.length (bgnA b d t ps ms gs rs x0 x1 x2).gs.length (bgnA b d t ps ms gs rs x0 x1 x2).rs.length (bgnA b d t ps ms gs rs x0 x1 x2).ps (bgnA b d t ps ms gs rs x0 x1 x2).ms (bgnA b d t ps ms gs rs x0 x1 x2).gs (bgnA b d t ps ms gs rs x0 x1 x2).rs) := Gh2_14.out.keep HB.out
  have Bh2_15 : Hid (BxV w13 w15 #[.int .i64 (bgnA b d t ps ms gs rs x0 x1 x2).b, .int .i64 (bgnA b d t ps ms gs rs x0 x1 x2).d, .slice h2p (bgnA b d t ps ms gs rs x0 x1 x2).ps.length h2kp, .int .i64 (bgnA b d t ps ms gs rs x0 x1 x2).ttl, .slice h2m (bgnA b d t ps ms gs rs x0 x1 x2).ms.length h2km, .slice h2g (bgnA b d t ps ms gs rs x0 x1 x2).gs.length h2kg, .slice h2r (bgnA b d t ps ms gs rs x0 x1 x2).rs.length h2kr] 36) := Bh2_14.out.keep HB.out
  clear HB HW BA_14 BEL_14 RW_14 BW_14 BX_14 Bg_14 Gg_14 Gh2_14 Bh2_14
  clear CHD
  go_wp2
  go_ret
  exact ⟨rfl, BEL_15.out⟩

set_option maxRecDepth 100000 in
theorem fnExactBeginLook_lifted (os : Os) (started : os.Started) (H : Type) (enc : TypeId × Value → H) :
    ReturnsInHanded {} Tryz.checked os 5 .any (Rows.fnExactBeginLookSpec.pre6 enc Tryz.prog Tryz.f5 Rows.fnExactBeginLookRow.domain false) (Rows.fnExactBeginLookSpec.post enc Tryz.prog Tryz.f5 false true false false) := by
  refine returnsInHanded_of_change (C := Tryz.checked) own started (by kernel_rfl) Tryz.func5
    (ChangeSpec.witness6 (enc := enc) (C := Tryz.checked) false ⟨#[], #[.agg #[.int .i64 0, .int .i64 0, .slice none 0 0, .int .i64 0, .slice none 0 0, .slice none 0 0, .slice none 0 0], .int .i64 0, .int .i64 0, .int .i64 0], []⟩ 8 (by kernel_rfl) (by kernel_rfl) (by kernel_rfl) (by kernel_rfl)) ?_
  intro W base args ds gs before hval0 hW hcnd _
  have hval : ∀ (j : Nat) t v, Tryz.f5.params[j]? = some t → args[j]? = some v → Value.okWide Tryz.prog W .any base t v := hval0
  have hW' := hW
  obtain ⟨p, q, hA0, hV, rfl, hfz, hnd⟩ := hW
  have hA : DataW.TrodAll enc Tryz.prog W 0 (fun _ => true) true Tryz.f5.params.toList args.toList ds p := hA0
  rw [Tryz.params5] at hA hval
  obtain ⟨v0, vs0, d0, ds0, p0, q0, hargs, rfl, rfl, h0, r0⟩ := trodAll_cons hA
  obtain ⟨v1, vs1, d1, ds1, p1, q1, rfl, rfl, rfl, h1, r1⟩ := trodAll_cons r0
  obtain ⟨v2, vs2, d2, ds2, p2, q2, rfl, rfl, rfl, h2, r2⟩ := trodAll_cons r1
  obtain ⟨v3, vs3, d3, ds3, p3, q3, rfl, rfl, rfl, h3, r3⟩ := trodAll_cons r2
  obtain ⟨rfl, rfl, rfl⟩ := trodAll_nil r3
  obtain rfl : args = #[v0, v1, v2, v3] := by cases args; simp_all
  obtain ⟨rfl, rfl⟩ := trodVars_none hV
  have k0 := h0
  have lt0 : ∀ x ∈ p0, x.block < W.heap.size := by obtain ⟨m, hm⟩ := k0; exact DataW.trod_lt m _ _ _ hm
  obtain ⟨b0, g0, t0, ap0, am0, ag0, ar0, cp0, cm0, cg0, cr0, ps0, ms0, gs0, rs0, rfl, hp0, hq0, hg0, hs0, hr0⟩ := open_net (hval 0 71 v0 rfl rfl) h0
  obtain ⟨a1, rfl, rfl, rfl, w1⟩ := open_int Tryz.underlying3 (hval 1 3 v1 rfl rfl) h1
  obtain ⟨a2, rfl, rfl, rfl, w2⟩ := open_int Tryz.underlying3 (hval 2 3 v2 rfl rfl) h2
  obtain ⟨a3, rfl, rfl, rfl, w3⟩ := open_int Tryz.underlying3 (hval 3 3 v3 rfl rfl) h3
  clear hA0 hval0
  refine (wFnExactBeginLook W b0 g0 t0 ap0 am0 ag0 ar0 cp0 cm0 cg0 cr0 ps0 ms0 gs0 rs0 a1 a2 a3 hp0 hq0 hg0 hs0 hr0).mono fun e W' ⟨he, bel⟩ => ?_
  subst he
  exact ⟨_, rfl, _, _, _, [], _, [], hW', trodAll_mk1 (shut_bool Tryz.underlying4 _), (trodAll_cons_mk (Below.trod laidOut (by kernel_rfl) (of_decide_eq_true (by kernel_rfl)) k0 bel lt0) (trodAll_cons_mk (shut_int Tryz.underlying3 w1) (trodAll_cons_mk (shut_int Tryz.underlying3 w2) (trodAll_cons_mk (shut_int Tryz.underlying3 w3) trodAll_mk0)))), rfl, bel.frame _, fun h => by cases h⟩

theorem fnExactBeginLook_holds : Rows.FnExactBeginLookSaid :=
  OpenClaim.holds_of_wide 5 Tryz.f5 rfl rfl rfl rfl rfl rfl rfl ⟨rfl, rfl, rfl, rfl, rfl⟩ rfl rfl rfl rfl rfl (by kernel_rfl) Tryz.func5 (by kernel_rfl)
    (of_decide_eq_true (by kernel_rfl)) (by unfold Func.isWrapper; first | (rw [if_pos (by decide +kernel)]; kernel_rfl) | (rw [if_neg (by decide +kernel)]; exact ⟨rfl, rfl⟩))
    (fun os started H enc _ => fnExactBeginLook_lifted os started H enc)
#print axioms fnExactBeginLook_holds
end Go.Proofs.YtdceimnapbblnaaGreat
