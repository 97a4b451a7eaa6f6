/- For all peers BoundOf answers as its specification, and leaves the peers as they were: no condition. -/
import Derived.Test.YtejajlloipkkhaaJ0Z
namespace Go.Proofs.Ytejajlloipkkhaa
open Go.ChangeShapes Go.WideShapes Go.ChangeAt Go.RowKit
set_option linter.unusedVariables false
set_option maxRecDepth 100000 in
set_option maxHeartbeats 12800000 in
theorem wFnExactBoundOf (b0 d0 : Int) (a0 : Option Addr) (cap0 : Nat) (ps0 : List Pr) (w : World) (hm0 : ps0.length ≤ maxLen) (hr0 : PeersAt w a0 ps0) :
    Calls Try.prog 9 #[.agg #[.int .i64 b0, .int .i64 d0, .slice a0 ps0.length cap0]] w fun e w' => e = .returned (.bool true) ∧ Below w.heap.size w w' := by
  have HR0 : Hid (PeersAt w a0 ps0) := hr0
  clear hr0
  go_enter Try.func9, Try.ntmps9
  go_wp2_with fail
  refine (szPeers_any b0 d0 a0 cap0 ps0 _ hm0 (HR0.out.keep (belA _ _))).mono ?_
  rintro e w1 ⟨v1, rfl, hv1, HW⟩
  have BA_1 : Hid (BxV w w1 #[.int .i64 b0, .int .i64 d0, .slice a0 ps0.length cap0] 65) := bxV1 HW
  have BEL_1 : Hid (Below w.heap.size w w1) := belt (belA _ _) HW
  have N1 : Hid (w.heap.size < w1.heap.size) := BA_1.out.lt
  clear HW
  by_cases hneg : v1 < 0
  · go_wp2
    go_ret
    exact ⟨rfl, BEL_1.out⟩
  have HS : Hid (ps0.length + bsum ps0 ≤ 1048576) := by
    rcases hv1 with h | h
    · exact absurd h hneg
    · exact h.2
  clear hv1
  have hp0 : ps0.length ≤ 1048576 := by have := HS.out; omega
  obtain ⟨qBA0, qBA1, qBA2⟩ := BA_1.out.c3
  have lBA := BA_1.out.lt
  go_wp2_with fail
  refine (toPeers_own b0 d0 a0 cap0 ps0 _ HS.out (HR0.out.keep BEL_1.out)).mono ?_
  rintro e w2 ⟨vc0, rfl, Oc0, HW⟩
  clear qBA0 qBA1 qBA2 lBA
  have HB : Hid (Below w1.heap.size w1 w2) := HW
  have Z2 : Hid (w1.heap.size ≤ w2.heap.size) := HB.out.size
  have BA_2 : Hid (BxV w w2 #[.int .i64 b0, .int .i64 d0, .slice a0 ps0.length cap0] 65) := BA_1.out.keep HB.out
  have BEL_2 : Hid (Below w.heap.size w w2) := BEL_1.out.trans (HB.out.mono (by have z0 := N1.out; have z1 := Z2.out; omega))
  have c0_2 : Hid (OwnPs w1.heap.size w2.heap.size w2 vc0 ps0.length ps0) := Oc0
  clear HB HW BA_1 BEL_1
  clear Oc0
  obtain ⟨qBA0, qBA1, qBA2⟩ := BA_2.out.c3
  have lBA := BA_2.out.lt
  go_wp2_with fail
  refine (lBoundOf_any b0 d0 vc0 ps0.length ps0 _ hp0 c0_2.out.peersAt).mono ?_
  rintro e w3 ⟨rfl, HW⟩
  clear qBA0 qBA1 qBA2 lBA
  have HB : Hid (Below w2.heap.size w2 w3) := HW
  have Z3 : Hid (w2.heap.size ≤ w3.heap.size) := HB.out.size
  have BA_3 : Hid (BxV w w3 #[.int .i64 b0, .int .i64 d0, .slice a0 ps0.length cap0] 65) := BA_2.out.keep HB.out
  have BEL_3 : Hid (Below w.heap.size w w3) := BEL_2.out.trans (HB.out.mono (by have z0 := N1.out; have z1 := Z2.out; have z2 := Z3.out; omega))
  clear HB HW BA_2 BEL_2 c0_2
  obtain ⟨qBA0, qBA1, qBA2⟩ := BA_3.out.c3
  have lBA := BA_3.out.lt
  go_wp2_with fail
  refine (toPeers_own b0 d0 a0 cap0 ps0 _ HS.out (HR0.out.keep BEL_3.out)).mono ?_
  rintro e w4 ⟨vx0, rfl, Ox0, HW⟩
  clear qBA0 qBA1 qBA2 lBA
  have HB : Hid (Below w3.heap.size w3 w4) := HW
  have Z4 : Hid (w3.heap.size ≤ w4.heap.size) := HB.out.size
  have BA_4 : Hid (BxV w w4 #[.int .i64 b0, .int .i64 d0, .slice a0 ps0.length cap0] 65) := BA_3.out.keep HB.out
  have BEL_4 : Hid (Below w.heap.size w w4) := BEL_3.out.trans (HB.out.mono (by have z0 := N1.out; have z1 := Z2.out; have z2 := Z3.out; have z3 := Z4.out; omega))
  have X0_4 : Hid (OwnPs w3.heap.size w4.heap.size w4 vx0 ps0.length ps0) := Ox0
  clear HB HW BA_3 BEL_3
  clear Ox0
  obtain ⟨qBA0, qBA1, qBA2⟩ := BA_4.out.c3
  have lBA := BA_4.out.lt
  go_wp2_with fail
  refine (BoundOf_any b0 d0 vx0 ps0.length ps0 _ hp0 (X0_4.out.peersAt.keep (belA _ _))).mono ?_
  rintro e w5 ⟨rfl, HW⟩
  clear qBA0 qBA1 qBA2 lBA
  have HB : Hid (Below w4.heap.size w4 w5) := belt (belA _ _) HW
  have Z5 : Hid (w4.heap.size ≤ w5.heap.size) := HB.out.size
  have N5 : Hid (w4.heap.size < w5.heap.size) := (bxV1 HW).lt
  have BA_5 : Hid (BxV w w5 #[.int .i64 b0, .int .i64 d0, .slice a0 ps0.length cap0] 65) := BA_4.out.keep HB.out
  have BEL_5 : Hid (Below w.heap.size w w5) := BEL_4.out.trans (HB.out.mono (by have z0 := N1.out; have z1 := Z2.out; have z2 := Z3.out; have z3 := Z4.out; have z4 := Z5.out; have z5 := N5.out; omega))
  have X0_5 : Hid (OwnPs w3.heap.size w4.heap.size w5 vx0 ps0.length ps0) := X0_4.out.keep HB.out
  have BX_5 : Hid (BxV w4 w5 #[.int .i64 b0, .int .i64 d0, .slice vx0 ps0.length ps0.length] 28) := bxV1 HW
  clear HB HW BA_4 BEL_4 X0_4
  generalize bndV b0 d0 ps0 = ok0
  have hg0 := bne_self_int ok0
  generalize goodP b0 d0 ps0 = ok1
  have hg1 := bne_self_bool ok1
  obtain ⟨qBA0, qBA1, qBA2⟩ := BA_5.out.c3
  have lBA := BA_5.out.lt
  obtain ⟨qBX0, qBX1, qBX2⟩ := BX_5.out.c3
  have lBX := BX_5.out.lt
  go_wp2_with fail
  clear qBA0 qBA1 qBA2 lBA qBX0 qBX1 qBX2 lBX
  have BAa : BxV w w5.drew #[.int .i64 b0, .int .i64 d0, .slice a0 ps0.length cap0] 65 := BA_5.out.keep ((Below.refl _ _).drew)
  have BELa : Below w.heap.size w w5.drew := BEL_5.out.drew
  have X0a : OwnPs w3.heap.size w4.heap.size w5.drew vx0 ps0.length ps0 := X0_5.out.keep ((Below.refl _ _).drew)
  have BXa : BxV w4 w5.drew #[.int .i64 b0, .int .i64 d0, .slice vx0 ps0.length ps0.length] 28 := BX_5.out.keep ((Below.refl _ _).drew)
  go_region_held (fun w' => w'.cell? ⟨w.heap.size, 0, none⟩ = some (.int .i64 b0) ∧ w'.cell? ⟨w.heap.size, 1, none⟩ = some (.int .i64 d0) ∧ w'.cell? ⟨w.heap.size, 2, none⟩ = some (.slice a0 ps0.length cap0) ∧ w'.cell? ⟨w4.heap.size, 0, none⟩ = some (.int .i64 b0) ∧ w'.cell? ⟨w4.heap.size, 1, none⟩ = some (.int .i64 d0) ∧ w'.cell? ⟨w4.heap.size, 2, none⟩ = some (.slice vx0 ps0.length ps0.length)) (with_reducible (first | exact bxv6 BAa BXa | exact bxv6 BAb BXb | exact bxv6 BAc BXc)) (first
    | (go_at_call 40; refine (toPeers_own b0 d0 a0 cap0 ps0 _ HS.out (HR0.out.keep BELa)).mono ?_; rintro e wd ⟨vd, rfl, Od, hwd⟩; have HZb : Hid (w5.heap.size ≤ wd.heap.size) := hwd.size; have BAb := BAa.keep hwd; have BELb := BELa.trans (hwd.mono (show w.heap.size ≤ w5.heap.size from (by have z0 := N1.out; have z1 := Z2.out; have z2 := Z3.out; have z3 := Z4.out; have z4 := Z5.out; have z5 := N5.out; omega))); have X0b := X0a.keep hwd; have BXb := BXa.keep hwd)
    | (go_at_call 42; refine (eqPeers_own b0 d0 _ _ _ _ _ ps0 _ rfl hp0 X0b.peersAt Od.peersAt).mono ?_; rintro e w6 ⟨rfl, hwe⟩; have BAc := BAb.keep hwe; have BELc := BELb.trans (hwe.mono (Nat.le_trans (show w.heap.size ≤ w5.heap.size from (by have z0 := N1.out; have z1 := Z2.out; have z2 := Z3.out; have z3 := Z4.out; have z4 := Z5.out; have z5 := N5.out; omega)) HZb.out)); have X0c := X0b.keep hwe; have BXc := BXb.keep hwe; have HZc : Hid (wd.heap.size ≤ w6.heap.size) := hwe.size))
  have Z6 : Hid (w5.heap.size ≤ w6.heap.size) := Nat.le_trans HZb.out HZc.out
  have BA_6 : Hid (BxV w w6 #[.int .i64 b0, .int .i64 d0, .slice a0 ps0.length cap0] 65) := BAc
  have BEL_6 : Hid (Below w.heap.size w w6) := BELc
  have X0_6 : Hid (OwnPs w3.heap.size w4.heap.size w6 vx0 ps0.length ps0) := X0c
  have BX_6 : Hid (BxV w4 w6 #[.int .i64 b0, .int .i64 d0, .slice vx0 ps0.length ps0.length] 28) := BXc
  clear hwd hwe Od HZb HZc BAa BAb BAc BELa BELb BELc X0a X0b X0c BXa BXb BXc BA_5 BEL_5 X0_5 BX_5
  go_wp2
  go_ret
  exact ⟨rfl, BEL_6.out⟩

set_option maxRecDepth 100000 in
theorem fnExactBoundOf_lifted (os : Os) (started : os.Started) (H : Type) (enc : TypeId × Value → H) :
    ReturnsInHanded {} Try.checked os 9 .any (Rows.fnExactBoundOfSpec.pre6 enc Try.prog Try.f9 Rows.fnExactBoundOfRow.domain false) (Rows.fnExactBoundOfSpec.post enc Try.prog Try.f9 false true false false) := by
  refine returnsInHanded_of_change (C := Try.checked) own started (by kernel_rfl) Try.func9
    (ChangeSpec.witness6 (enc := enc) (C := Try.checked) false ⟨#[], #[.agg #[.int .i64 0, .int .i64 0, .slice none 0 0]], []⟩ 8 (by kernel_rfl) (by kernel_rfl) (by kernel_rfl) (by kernel_rfl)) ?_
  intro W base args ds gs before hval0 hW hcnd _
  have hval : ∀ (j : Nat) t v, Try.f9.params[j]? = some t → args[j]? = some v → Value.okWide Try.prog W .any base t v := hval0
  have hW' := hW
  obtain ⟨p, q, hA0, hV, rfl, hfz, hnd⟩ := hW
  have hA : DataW.TrodAll enc Try.prog W 0 (fun _ => true) true Try.f9.params.toList args.toList ds p := hA0
  rw [Try.params9] at hA hval
  obtain ⟨v0, vs0, d0, ds0, p0, q0, hargs, rfl, rfl, h0, r0⟩ := trodAll_cons hA
  obtain ⟨rfl, rfl, rfl⟩ := trodAll_nil r0
  obtain rfl : args = #[v0] := by cases args; simp_all
  obtain ⟨rfl, rfl⟩ := trodVars_none hV
  have k0 := h0
  have lt0 : ∀ x ∈ p0, x.block < W.heap.size := by obtain ⟨m, hm⟩ := k0; exact DataW.trod_lt m _ _ _ hm
  obtain ⟨b0, g0, a0, cap0, ps0, rfl, hm0, hc0, hr0⟩ := open_peers (hval 0 65 v0 rfl rfl) h0
  clear hA0 hval0
  refine (wFnExactBoundOf b0 g0 a0 cap0 ps0 W hm0 hr0).mono fun e W' ⟨he, bel⟩ => ?_
  subst he
  exact ⟨_, rfl, _, _, _, [], _, [], hW', trodAll_mk1 (shut_bool Try.underlying4 _), (trodAll_cons_mk (Below.trod laidOut (by kernel_rfl) (of_decide_eq_true (by kernel_rfl)) k0 bel lt0) trodAll_mk0), rfl, bel.frame _, fun h => by cases h⟩

theorem fnExactBoundOf_holds : Rows.FnExactBoundOfSaid :=
  OpenClaim.holds_of_wide 9 Try.f9 rfl rfl rfl rfl rfl rfl rfl ⟨rfl, rfl, rfl, rfl, rfl⟩ rfl rfl rfl rfl rfl (by kernel_rfl) Try.func9 (by kernel_rfl)
    (of_decide_eq_true (by kernel_rfl)) (by unfold Func.isWrapper; first | (rw [if_pos (by decide +kernel)]; kernel_rfl) | (rw [if_neg (by decide +kernel)]; exact ⟨rfl, rfl⟩))
    (fun os started H enc _ => fnExactBoundOf_lifted os started H enc)
#print axioms fnExactBoundOf_holds
end Go.Proofs.Ytejajlloipkkhaa
