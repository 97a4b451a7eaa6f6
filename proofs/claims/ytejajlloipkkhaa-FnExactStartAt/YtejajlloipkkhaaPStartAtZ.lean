/- For all peers, numbers and keys StartAt answers as its specification, and leaves the peers as they were: no condition. -/
import Derived.Test.YtejajlloipkkhaaJ0Z
namespace Go.Proofs.Ytejajlloipkkhaa
open Go.ChangeShapes Go.WideShapes Go.ChangeAt Go.RowKit
set_option linter.unusedVariables false
set_option maxRecDepth 100000 in
set_option maxHeartbeats 12800000 in
theorem wFnExactStartAt (b0 d0 : Int) (a0 : Option Addr) (cap0 : Nat) (ps0 : List Pr) (x1 : Int) (x2 : Int) (w : World) (hm0 : ps0.length ≤ maxLen) (hr0 : PeersAt w a0 ps0) :
    Calls Try.prog 5 #[.agg #[.int .i64 b0, .int .i64 d0, .slice a0 ps0.length cap0], .int .i64 x1, .int .i64 x2] w fun e w' => e = .returned (.bool true) ∧ Below w.heap.size w w' := by
  have HR0 : Hid (PeersAt w a0 ps0) := hr0
  clear hr0
  go_enter Try.func5, Try.ntmps5
  go_wp2_with fail
  refine (szPeers_any b0 d0 a0 cap0 ps0 _ hm0 (HR0.out.keep (belA _ _))).mono ?_
  rintro e w1 ⟨v1, rfl, hv1, HW⟩
  have BA_1 : Hid (BxV w w1 #[.int .i64 b0, .int .i64 d0, .slice a0 ps0.length cap0] 65) := bxV1 HW
  have BEL_1 : Hid (Below w.heap.size w w1) := belt (belA _ _) HW
  have N1 : Hid (w.heap.size < w1.heap.size) := BA_1.out.lt
  clear HW
  by_cases hneg : v1 < 0
  · go_wp2
    go_ret
    exact ⟨rfl, BEL_1.out⟩
  have HS : Hid (ps0.length + bsum ps0 ≤ 1048576) := by
    rcases hv1 with h | h
    · exact absurd h hneg
    · exact h.2
  clear hv1
  have hp0 : ps0.length ≤ 1048576 := by have := HS.out; omega
  obtain ⟨qBA0, qBA1, qBA2⟩ := BA_1.out.c3
  have lBA := BA_1.out.lt
  go_wp2_with fail
  refine (toPeers_own b0 d0 a0 cap0 ps0 _ HS.out (HR0.out.keep BEL_1.out)).mono ?_
  rintro e w2 ⟨vc0, rfl, Oc0, HW⟩
  clear qBA0 qBA1 qBA2 lBA
  have HB : Hid (Below w1.heap.size w1 w2) := HW
  have Z2 : Hid (w1.heap.size ≤ w2.heap.size) := HB.out.size
  have BA_2 : Hid (BxV w w2 #[.int .i64 b0, .int .i64 d0, .slice a0 ps0.length cap0] 65) := BA_1.out.keep HB.out
  have BEL_2 : Hid (Below w.heap.size w w2) := BEL_1.out.trans (HB.out.mono (by have z0 := N1.out; have z1 := Z2.out; omega))
  have c0_2 : Hid (OwnPs w1.heap.size w2.heap.size w2 vc0 ps0.length ps0) := Oc0
  clear HB HW BA_1 BEL_1
  clear Oc0
  obtain ⟨qBA0, qBA1, qBA2⟩ := BA_2.out.c3
  have lBA := BA_2.out.lt
  go_wp2_with fail
  refine (lStartAt_own b0 d0 vc0 ps0.length ps0 x1 x2 _ hp0 c0_2.out.peersAt).mono ?_
  rintro e w3 ⟨rfl, HW⟩
  clear qBA0 qBA1 qBA2 lBA
  have HB : Hid (Below w2.heap.size w2 w3) := HW
  have Z3 : Hid (w2.heap.size ≤ w3.heap.size) := HB.out.size
  have BA_3 : Hid (BxV w w3 #[.int .i64 b0, .int .i64 d0, .slice a0 ps0.length cap0] 65) := BA_2.out.keep HB.out
  have BEL_3 : Hid (Below w.heap.size w w3) := BEL_2.out.trans (HB.out.mono (by have z0 := N1.out; have z1 := Z2.out; have z2 := Z3.out; omega))
  clear HB HW BA_2 BEL_2 c0_2
  obtain ⟨qBA0, qBA1, qBA2⟩ := BA_3.out.c3
  have lBA := BA_3.out.lt
  go_wp2_with fail
  refine (toPeers_own b0 d0 a0 cap0 ps0 _ HS.out (HR0.out.keep (belt BEL_3.out (belA _ _)))).mono ?_
  rintro e w4 ⟨vx0, rfl, Ox0, HW⟩
  clear qBA0 qBA1 qBA2 lBA
  have HB : Hid (Below w3.heap.size w3 w4) := belt (belA _ _) HW
  have Z4 : Hid (w3.heap.size ≤ w4.heap.size) := HB.out.size
  have N4 : Hid (w3.heap.size < w4.heap.size) := (bxV1 HW).lt
  have BA_4 : Hid (BxV w w4 #[.int .i64 b0, .int .i64 d0, .slice a0 ps0.length cap0] 65) := BA_3.out.keep HB.out
  have BEL_4 : Hid (Below w.heap.size w w4) := BEL_3.out.trans (HB.out.mono (by have z0 := N1.out; have z1 := Z2.out; have z2 := Z3.out; have z3 := Z4.out; have z4 := N4.out; omega))
  have BW_4 : Hid (BxV w3 w4 #[.int .i64 (stV b0 d0 ps0 x1 x2).at_, .int .i64 (stV b0 d0 ps0 x1 x2).imag, .int .i64 (stV b0 d0 ps0 x1 x2).left, .int .i64 (stV b0 d0 ps0 x1 x2).points, .int .i64 (stV b0 d0 ps0 x1 x2).succs, .int .i64 (stV b0 d0 ps0 x1 x2).state, .int .i64 (stV b0 d0 ps0 x1 x2).owner] 32) := bxV1 HW
  have X0_4 : Hid (OwnPs (w3.heap.size + 1) w4.heap.size w4 vx0 ps0.length ps0) := (by have h := Ox0; simp only [World.size_alloc] at h; exact h)
  clear HB HW BA_3 BEL_3
  clear Ox0
  obtain ⟨qBA0, qBA1, qBA2⟩ := BA_4.out.c3
  have lBA := BA_4.out.lt
  obtain ⟨qBW0, qBW1, qBW2, qBW3, qBW4, qBW5, qBW6⟩ := BW_4.out.c7
  have lBW := BW_4.out.lt
  go_wp2_with fail
  refine (StartAt_own b0 d0 vx0 ps0.length ps0 x1 x2 _ hp0 (X0_4.out.peersAt.keep (belA _ _))).mono ?_
  rintro e w5 ⟨rfl, HW⟩
  clear qBA0 qBA1 qBA2 lBA qBW0 qBW1 qBW2 qBW3 qBW4 qBW5 qBW6 lBW
  have HB : Hid (Below w4.heap.size w4 w5) := belt (belA _ _) HW
  have Z5 : Hid (w4.heap.size ≤ w5.heap.size) := HB.out.size
  have N5 : Hid (w4.heap.size < w5.heap.size) := (bxV1 HW).lt
  have BA_5 : Hid (BxV w w5 #[.int .i64 b0, .int .i64 d0, .slice a0 ps0.length cap0] 65) := BA_4.out.keep HB.out
  have BEL_5 : Hid (Below w.heap.size w w5) := BEL_4.out.trans (HB.out.mono (by have z0 := N1.out; have z1 := Z2.out; have z2 := Z3.out; have z3 := Z4.out; have z4 := N4.out; have z5 := Z5.out; have z6 := N5.out; omega))
  have BW_5 : Hid (BxV w3 w5 #[.int .i64 (stV b0 d0 ps0 x1 x2).at_, .int .i64 (stV b0 d0 ps0 x1 x2).imag, .int .i64 (stV b0 d0 ps0 x1 x2).left, .int .i64 (stV b0 d0 ps0 x1 x2).points, .int .i64 (stV b0 d0 ps0 x1 x2).succs, .int .i64 (stV b0 d0 ps0 x1 x2).state, .int .i64 (stV b0 d0 ps0 x1 x2).owner] 32) := BW_4.out.keep HB.out
  have X0_5 : Hid (OwnPs (w3.heap.size + 1) w4.heap.size w5 vx0 ps0.length ps0) := X0_4.out.keep HB.out
  have BX_5 : Hid (BxV w4 w5 #[.int .i64 b0, .int .i64 d0, .slice vx0 ps0.length ps0.length] 28) := bxV1 HW
  clear HB HW BA_4 BEL_4 BW_4 X0_4
  obtain ⟨ok0, hok0⟩ : ∃ z, z = askP b0 d0 ps0 x1 x2 := ⟨_, rfl⟩
  rw [← hok0]
  clear hok0
  have hg0 := bne_self_bool ok0
  obtain ⟨qBA0, qBA1, qBA2⟩ := BA_5.out.c3
  have lBA := BA_5.out.lt
  obtain ⟨qBW0, qBW1, qBW2, qBW3, qBW4, qBW5, qBW6⟩ := BW_5.out.c7
  have lBW := BW_5.out.lt
  obtain ⟨qBX0, qBX1, qBX2⟩ := BX_5.out.c3
  have lBX := BX_5.out.lt
  go_wp2_with fail
  refine (eqWalk_same (stV b0 d0 ps0 x1 x2).at_ (stV b0 d0 ps0 x1 x2).imag (stV b0 d0 ps0 x1 x2).left (stV b0 d0 ps0 x1 x2).points (stV b0 d0 ps0 x1 x2).succs (stV b0 d0 ps0 x1 x2).state (stV b0 d0 ps0 x1 x2).owner _).mono ?_
  rintro e w6 ⟨rfl, HW⟩
  clear qBA0 qBA1 qBA2 lBA qBW0 qBW1 qBW2 qBW3 qBW4 qBW5 qBW6 lBW qBX0 qBX1 qBX2 lBX
  have HB : Hid (Below w5.heap.size w5 w6) := belt (belA _ _) HW
  have Z6 : Hid (w5.heap.size ≤ w6.heap.size) := HB.out.size
  have N6 : Hid (w5.heap.size < w6.heap.size) := (bxV1 HW).lt
  have BA_6 : Hid (BxV w w6 #[.int .i64 b0, .int .i64 d0, .slice a0 ps0.length cap0] 65) := BA_5.out.keep HB.out
  have BEL_6 : Hid (Below w.heap.size w w6) := BEL_5.out.trans (HB.out.mono (by have z0 := N1.out; have z1 := Z2.out; have z2 := Z3.out; have z3 := Z4.out; have z4 := N4.out; have z5 := Z5.out; have z6 := N5.out; have z7 := Z6.out; have z8 := N6.out; omega))
  have BW_6 : Hid (BxV w3 w6 #[.int .i64 (stV b0 d0 ps0 x1 x2).at_, .int .i64 (stV b0 d0 ps0 x1 x2).imag, .int .i64 (stV b0 d0 ps0 x1 x2).left, .int .i64 (stV b0 d0 ps0 x1 x2).points, .int .i64 (stV b0 d0 ps0 x1 x2).succs, .int .i64 (stV b0 d0 ps0 x1 x2).state, .int .i64 (stV b0 d0 ps0 x1 x2).owner] 32) := BW_5.out.keep HB.out
  have X0_6 : Hid (OwnPs (w3.heap.size + 1) w4.heap.size w6 vx0 ps0.length ps0) := X0_5.out.keep HB.out
  have BX_6 : Hid (BxV w4 w6 #[.int .i64 b0, .int .i64 d0, .slice vx0 ps0.length ps0.length] 28) := BX_5.out.keep HB.out
  have Bg_6 : Hid (BxV w5 w6 #[.int .i64 (stV b0 d0 ps0 x1 x2).at_, .int .i64 (stV b0 d0 ps0 x1 x2).imag, .int .i64 (stV b0 d0 ps0 x1 x2).left, .int .i64 (stV b0 d0 ps0 x1 x2).points, .int .i64 (stV b0 d0 ps0 x1 x2).succs, .int .i64 (stV b0 d0 ps0 x1 x2).state, .int .i64 (stV b0 d0 ps0 x1 x2).owner] 32) := bxV1 HW
  clear HB HW BA_5 BEL_5 BW_5 X0_5 BX_5
  obtain ⟨qBA0, qBA1, qBA2⟩ := BA_6.out.c3
  have lBA := BA_6.out.lt
  obtain ⟨qBW0, qBW1, qBW2, qBW3, qBW4, qBW5, qBW6⟩ := BW_6.out.c7
  have lBW := BW_6.out.lt
  obtain ⟨qBX0, qBX1, qBX2⟩ := BX_6.out.c3
  have lBX := BX_6.out.lt
  obtain ⟨qBg0, qBg1, qBg2, qBg3, qBg4, qBg5, qBg6⟩ := Bg_6.out.c7
  have lBg := Bg_6.out.lt
  go_wp2_with fail
  clear qBA0 qBA1 qBA2 lBA qBW0 qBW1 qBW2 qBW3 qBW4 qBW5 qBW6 lBW qBX0 qBX1 qBX2 lBX qBg0 qBg1 qBg2 qBg3 qBg4 qBg5 qBg6 lBg
  have BAa : BxV w w6.drew #[.int .i64 b0, .int .i64 d0, .slice a0 ps0.length cap0] 65 := BA_6.out.keep ((Below.refl _ _).drew)
  have BELa : Below w.heap.size w w6.drew := BEL_6.out.drew
  have BWa : BxV w3 w6.drew #[.int .i64 (stV b0 d0 ps0 x1 x2).at_, .int .i64 (stV b0 d0 ps0 x1 x2).imag, .int .i64 (stV b0 d0 ps0 x1 x2).left, .int .i64 (stV b0 d0 ps0 x1 x2).points, .int .i64 (stV b0 d0 ps0 x1 x2).succs, .int .i64 (stV b0 d0 ps0 x1 x2).state, .int .i64 (stV b0 d0 ps0 x1 x2).owner] 32 := BW_6.out.keep ((Below.refl _ _).drew)
  have X0a : OwnPs (w3.heap.size + 1) w4.heap.size w6.drew vx0 ps0.length ps0 := X0_6.out.keep ((Below.refl _ _).drew)
  have BXa : BxV w4 w6.drew #[.int .i64 b0, .int .i64 d0, .slice vx0 ps0.length ps0.length] 28 := BX_6.out.keep ((Below.refl _ _).drew)
  have Bga : BxV w5 w6.drew #[.int .i64 (stV b0 d0 ps0 x1 x2).at_, .int .i64 (stV b0 d0 ps0 x1 x2).imag, .int .i64 (stV b0 d0 ps0 x1 x2).left, .int .i64 (stV b0 d0 ps0 x1 x2).points, .int .i64 (stV b0 d0 ps0 x1 x2).succs, .int .i64 (stV b0 d0 ps0 x1 x2).state, .int .i64 (stV b0 d0 ps0 x1 x2).owner] 32 := Bg_6.out.keep ((Below.refl _ _).drew)
  go_region_held (fun w' => w'.cell? ⟨w.heap.size, 0, none⟩ = some (.int .i64 b0) ∧ w'.cell? ⟨w.heap.size, 1, none⟩ = some (.int .i64 d0) ∧ w'.cell? ⟨w.heap.size, 2, none⟩ = some (.slice a0 ps0.length cap0) ∧ w'.cell? ⟨w4.heap.size, 0, none⟩ = some (.int .i64 b0) ∧ w'.cell? ⟨w4.heap.size, 1, none⟩ = some (.int .i64 d0) ∧ w'.cell? ⟨w4.heap.size, 2, none⟩ = some (.slice vx0 ps0.length ps0.length)) (with_reducible (first | exact bxv6 BAa BXa | exact bxv6 BAb BXb | exact bxv6 BAc BXc)) (first
    | (go_at_call 40; refine (toPeers_own b0 d0 a0 cap0 ps0 _ HS.out (HR0.out.keep BELa)).mono ?_; rintro e wd ⟨vd, rfl, Od, hwd⟩; have HZb : Hid (w6.heap.size ≤ wd.heap.size) := hwd.size; have BAb := BAa.keep hwd; have BELb := BELa.trans (hwd.mono (show w.heap.size ≤ w6.heap.size from (by have z0 := N1.out; have z1 := Z2.out; have z2 := Z3.out; have z3 := Z4.out; have z4 := N4.out; have z5 := Z5.out; have z6 := N5.out; have z7 := Z6.out; have z8 := N6.out; omega))); have BWb := BWa.keep hwd; have X0b := X0a.keep hwd; have BXb := BXa.keep hwd; have Bgb := Bga.keep hwd)
    | (go_at_call 42; refine (eqPeers_own b0 d0 _ _ _ _ _ ps0 _ rfl hp0 X0b.peersAt Od.peersAt).mono ?_; rintro e w7 ⟨rfl, hwe⟩; have BAc := BAb.keep hwe; have BELc := BELb.trans (hwe.mono (Nat.le_trans (show w.heap.size ≤ w6.heap.size from (by have z0 := N1.out; have z1 := Z2.out; have z2 := Z3.out; have z3 := Z4.out; have z4 := N4.out; have z5 := Z5.out; have z6 := N5.out; have z7 := Z6.out; have z8 := N6.out; omega)) HZb.out)); have BWc := BWb.keep hwe; have X0c := X0b.keep hwe; have BXc := BXb.keep hwe; have Bgc := Bgb.keep hwe; have HZc : Hid (wd.heap.size ≤ w7.heap.size) := hwe.size))
  have Z7 : Hid (w6.heap.size ≤ w7.heap.size) := Nat.le_trans HZb.out HZc.out
  have BA_7 : Hid (BxV w w7 #[.int .i64 b0, .int .i64 d0, .slice a0 ps0.length cap0] 65) := BAc
  have BEL_7 : Hid (Below w.heap.size w w7) := BELc
  have BW_7 : Hid (BxV w3 w7 #[.int .i64 (stV b0 d0 ps0 x1 x2).at_, .int .i64 (stV b0 d0 ps0 x1 x2).imag, .int .i64 (stV b0 d0 ps0 x1 x2).left, .int .i64 (stV b0 d0 ps0 x1 x2).points, .int .i64 (stV b0 d0 ps0 x1 x2).succs, .int .i64 (stV b0 d0 ps0 x1 x2).state, .int .i64 (stV b0 d0 ps0 x1 x2).owner] 32) := BWc
  have X0_7 : Hid (OwnPs (w3.heap.size + 1) w4.heap.size w7 vx0 ps0.length ps0) := X0c
  have BX_7 : Hid (BxV w4 w7 #[.int .i64 b0, .int .i64 d0, .slice vx0 ps0.length ps0.length] 28) := BXc
  have Bg_7 : Hid (BxV w5 w7 #[.int .i64 (stV b0 d0 ps0 x1 x2).at_, .int .i64 (stV b0 d0 ps0 x1 x2).imag, .int .i64 (stV b0 d0 ps0 x1 x2).left, .int .i64 (stV b0 d0 ps0 x1 x2).points, .int .i64 (stV b0 d0 ps0 x1 x2).succs, .int .i64 (stV b0 d0 ps0 x1 x2).state, .int .i64 (stV b0 d0 ps0 x1 x2).owner] 32) := Bgc
  clear hwd hwe Od HZb HZc BAa BAb BAc BELa BELb BELc BWa BWb BWc X0a X0b X0c BXa BXb BXc Bga Bgb Bgc BA_6 BEL_6 BW_6 X0_6 BX_6 Bg_6
  go_wp2
  go_ret
  exact ⟨rfl, BEL_7.out⟩

set_option maxRecDepth 100000 in
theorem fnExactStartAt_lifted (os : Os) (started : os.Started) (H : Type) (enc : TypeId × Value → H) :
    ReturnsInHanded {} Try.checked os 5 .any (Rows.fnExactStartAtSpec.pre6 enc Try.prog Try.f5 Rows.fnExactStartAtRow.domain false) (Rows.fnExactStartAtSpec.post enc Try.prog Try.f5 false true false false) := by
  refine returnsInHanded_of_change (C := Try.checked) own started (by kernel_rfl) Try.func5
    (ChangeSpec.witness6 (enc := enc) (C := Try.checked) false ⟨#[], #[.agg #[.int .i64 0, .int .i64 0, .slice none 0 0], .int .i64 0, .int .i64 0], []⟩ 8 (by kernel_rfl) (by kernel_rfl) (by kernel_rfl) (by kernel_rfl)) ?_
  intro W base args ds gs before hval0 hW hcnd _
  have hval : ∀ (j : Nat) t v, Try.f5.params[j]? = some t → args[j]? = some v → Value.okWide Try.prog W .any base t v := hval0
  have hW' := hW
  obtain ⟨p, q, hA0, hV, rfl, hfz, hnd⟩ := hW
  have hA : DataW.TrodAll enc Try.prog W 0 (fun _ => true) true Try.f5.params.toList args.toList ds p := hA0
  rw [Try.params5] at hA hval
  obtain ⟨v0, vs0, d0, ds0, p0, q0, hargs, rfl, rfl, h0, r0⟩ := trodAll_cons hA
  obtain ⟨v1, vs1, d1, ds1, p1, q1, rfl, rfl, rfl, h1, r1⟩ := trodAll_cons r0
  obtain ⟨v2, vs2, d2, ds2, p2, q2, rfl, rfl, rfl, h2, r2⟩ := trodAll_cons r1
  obtain ⟨rfl, rfl, rfl⟩ := trodAll_nil r2
  obtain rfl : args = #[v0, v1, v2] := by cases args; simp_all
  obtain ⟨rfl, rfl⟩ := trodVars_none hV
  have k0 := h0
  have lt0 : ∀ x ∈ p0, x.block < W.heap.size := by obtain ⟨m, hm⟩ := k0; exact DataW.trod_lt m _ _ _ hm
  obtain ⟨b0, g0, a0, cap0, ps0, rfl, hm0, hc0, hr0⟩ := open_peers (hval 0 65 v0 rfl rfl) h0
  obtain ⟨a1, rfl, rfl, rfl, w1⟩ := open_int Try.underlying3 (hval 1 3 v1 rfl rfl) h1
  obtain ⟨a2, rfl, rfl, rfl, w2⟩ := open_int Try.underlying3 (hval 2 3 v2 rfl rfl) h2
  clear hA0 hval0
  refine (wFnExactStartAt b0 g0 a0 cap0 ps0 a1 a2 W hm0 hr0).mono fun e W' ⟨he, bel⟩ => ?_
  subst he
  exact ⟨_, rfl, _, _, _, [], _, [], hW', trodAll_mk1 (shut_bool Try.underlying4 _), (trodAll_cons_mk (Below.trod laidOut (by kernel_rfl) (of_decide_eq_true (by kernel_rfl)) k0 bel lt0) (trodAll_cons_mk (shut_int Try.underlying3 w1) (trodAll_cons_mk (shut_int Try.underlying3 w2) trodAll_mk0))), rfl, bel.frame _, fun h => by cases h⟩

theorem fnExactStartAt_holds : Rows.FnExactStartAtSaid :=
  OpenClaim.holds_of_wide 5 Try.f5 rfl rfl rfl rfl rfl rfl rfl ⟨rfl, rfl, rfl, rfl, rfl⟩ rfl rfl rfl rfl rfl (by kernel_rfl) Try.func5 (by kernel_rfl)
    (of_decide_eq_true (by kernel_rfl)) (by unfold Func.isWrapper; first | (rw [if_pos (by decide +kernel)]; kernel_rfl) | (rw [if_neg (by decide +kernel)]; exact ⟨rfl, rfl⟩))
    (fun os started H enc _ => fnExactStartAt_lifted os started H enc)
#print axioms fnExactStartAt_holds
end Go.Proofs.Ytejajlloipkkhaa
