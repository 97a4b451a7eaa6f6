/- For all peers, keys and walks GoodWalk answers as its specification, and leaves the peers as they were: no condition. -/
import Derived.Test.YtejajlloipkkhaaG7Z
namespace Go.Proofs.Ytejajlloipkkhaa
open Go.ChangeShapes Go.WideShapes Go.ChangeAt Go.RowKit
set_option linter.unusedVariables false
theorem bxk10 {w wr : World} {g : Nat} {x y z y0 y1 y2 y3 y4 y5 y6 : Value} {T T' : TypeId} (h : BxV w wr #[x, y, z] T) (k : Bk wr g #[y0, y1, y2, y3, y4, y5, y6] T') : wr.cell? ⟨w.heap.size, 0, none⟩ = some x ∧ wr.cell? ⟨w.heap.size, 1, none⟩ = some y ∧ wr.cell? ⟨w.heap.size, 2, none⟩ = some z ∧ wr.cell? ⟨g, 0, none⟩ = some y0 ∧ wr.cell? ⟨g, 1, none⟩ = some y1 ∧ wr.cell? ⟨g, 2, none⟩ = some y2 ∧ wr.cell? ⟨g, 3, none⟩ = some y3 ∧ wr.cell? ⟨g, 4, none⟩ = some y4 ∧ wr.cell? ⟨g, 5, none⟩ = some y5 ∧ wr.cell? ⟨g, 6, none⟩ = some y6 :=
  ⟨h.c3.1, h.c3.2.1, h.c3.2.2, k.cell 0, k.cell 1, k.cell 2, k.cell 3, k.cell 4, k.cell 5, k.cell 6⟩
set_option maxRecDepth 100000 in
set_option maxHeartbeats 12800000 in
theorem wFnExactGoodWalk (b0 d0 : Int) (a0 : Option Addr) (cap0 : Nat) (ps0 : List Pr) (x1 : Int) (y20 y21 y22 y23 y24 y25 y26 : Int) (w : World) (hm0 : ps0.length ≤ maxLen) (hr0 : PeersAt w a0 ps0) :
    Calls Try.prog 6 #[.agg #[.int .i64 b0, .int .i64 d0, .slice a0 ps0.length cap0], .int .i64 x1, .agg #[.int .i64 y20, .int .i64 y21, .int .i64 y22, .int .i64 y23, .int .i64 y24, .int .i64 y25, .int .i64 y26]] w fun e w' => e = .returned (.bool true) ∧ Below w.heap.size w w' := by
  have HR0 : Hid (PeersAt w a0 ps0) := hr0
  clear hr0
  go_enter Try.func6, Try.ntmps6
  go_wp2_with fail
  refine (szPeers_any b0 d0 a0 cap0 ps0 _ hm0 (HR0.out.keep (belt (belA _ _) (belA _ _)))).mono ?_
  rintro e w1 ⟨v1, rfl, hv1, HW⟩
  have BA1 : Hid (BxV w w1 #[.int .i64 b0, .int .i64 d0, .slice a0 ps0.length cap0] 65) := bxV1 (belt (belA _ _) HW)
  have BK1 : Hid (Bk w1 (w.heap.size + 1) #[.int .i64 y20, .int .i64 y21, .int .i64 y22, .int .i64 y23, .int .i64 y24, .int .i64 y25, .int .i64 y26] 71) := bk2 HW
  have BL1 : Hid (Below w.heap.size w w1) := belt (belt (belA _ _) (belA _ _)) HW
  clear HW
  by_cases hneg : v1 < 0
  · go_wp2
    go_ret
    exact ⟨rfl, BL1.out⟩
  have HS : Hid (ps0.length + bsum ps0 ≤ 1048576) := by
    rcases hv1 with h | h
    · exact absurd h hneg
    · exact h.2
  clear hv1
  have hp0 : ps0.length ≤ 1048576 := by have := HS.out; omega
  go_wp2_with fail
  have BAa := BA1.out.keep ((Below.refl _ _).drew)
  have BKa := BK1.out.keep ((Below.refl _ _).drew)
  have BELa := BL1.out.drew
  go_region_held (fun w' => w'.cell? ⟨w.heap.size, 0, none⟩ = some (.int .i64 b0) ∧ w'.cell? ⟨w.heap.size, 1, none⟩ = some (.int .i64 d0) ∧ w'.cell? ⟨w.heap.size, 2, none⟩ = some (.slice a0 ps0.length cap0) ∧ w'.cell? ⟨w.heap.size + 1, 0, none⟩ = some (.int .i64 y20) ∧ w'.cell? ⟨w.heap.size + 1, 1, none⟩ = some (.int .i64 y21) ∧ w'.cell? ⟨w.heap.size + 1, 2, none⟩ = some (.int .i64 y22) ∧ w'.cell? ⟨w.heap.size + 1, 3, none⟩ = some (.int .i64 y23) ∧ w'.cell? ⟨w.heap.size + 1, 4, none⟩ = some (.int .i64 y24) ∧ w'.cell? ⟨w.heap.size + 1, 5, none⟩ = some (.int .i64 y25) ∧ w'.cell? ⟨w.heap.size + 1, 6, none⟩ = some (.int .i64 y26)) (with_reducible (first | exact bxk10 BAa BKa | exact bxk10 BAb BKb | exact bxk10 BAc BKc | exact bxk10 BAd BKd)) (first
    | (go_at_call 40; refine (toPeers_own b0 d0 a0 cap0 ps0 _ HS.out (HR0.out.keep BELa)).mono ?_; rintro e wb ⟨vc0, rfl, Oc0, hwb⟩; have BAb := BAa.keep hwb; have BKb := BKa.keep hwb; have BELb := belt BELa hwb)
    | (go_at_call 43; refine (toWalk_any y20 y21 y22 y23 y24 y25 y26 _).mono ?_; rintro e wc ⟨rfl, hwc⟩; have BAc := BAb.keep hwc; have BKc := BKb.keep hwc; have BELc := belt BELb hwc; have Oc1 := Oc0.keep hwc)
    | (go_at_call 29; refine (lGoodWalk_own b0 d0 vc0 ps0.length ps0 x1 ⟨y20, y21, y22, y23, y24, y25, y26⟩ _ hp0 Oc1.peersAt).mono ?_; rintro e w2 ⟨rfl, hwd⟩; have BAd := BAc.keep hwd; have BKd := BKc.keep hwd; have BELd := belt BELc hwd))
  have BA2 : Hid (BxV w w2 #[.int .i64 b0, .int .i64 d0, .slice a0 ps0.length cap0] 65) := BAd
  have BK2 : Hid (Bk w2 (w.heap.size + 1) #[.int .i64 y20, .int .i64 y21, .int .i64 y22, .int .i64 y23, .int .i64 y24, .int .i64 y25, .int .i64 y26] 71) := BKd
  have BL2 : Hid (Below w.heap.size w w2) := BELd
  clear BAa BAb BAc BAd BKa BKb BKc BKd BELa BELb BELc BELd hwb hwc hwd Oc0 Oc1 BA1 BK1 BL1
  obtain ⟨q0, q1, q2⟩ := BA2.out.c3
  go_wp2_with fail
  refine (toPeers_own b0 d0 a0 cap0 ps0 _ HS.out (HR0.out.keep BL2.out)).mono ?_
  rintro e w3 ⟨vx0, rfl, Ox0, HW⟩
  clear q0 q1 q2
  have BA3 : Hid (BxV w w3 #[.int .i64 b0, .int .i64 d0, .slice a0 ps0.length cap0] 65) := BA2.out.keep HW
  have BK3 : Hid (Bk w3 (w.heap.size + 1) #[.int .i64 y20, .int .i64 y21, .int .i64 y22, .int .i64 y23, .int .i64 y24, .int .i64 y25, .int .i64 y26] 71) := BK2.out.keep HW
  have BL3 : Hid (Below w.heap.size w w3) := belt BL2.out HW
  have X3 : Hid (OwnPs w2.heap.size w3.heap.size w3 vx0 ps0.length ps0) := Ox0
  clear BA2 BK2 BL2 HW Ox0
  go_upto_region 7 with (fail)
  have HBX : Hid (BxV w3 (w3.alloc (.cells #[.int .i64 b0, .int .i64 d0, .slice vx0 ps0.length ps0.length] 28)) #[.int .i64 b0, .int .i64 d0, .slice vx0 ps0.length ps0.length] 28) := ⟨heap_alloc_new _ _⟩
  have BXa := HBX.out.keep ((Below.refl _ _).drew)
  have BAa := (BA3.out.keep (belA w3 (.cells #[.int .i64 b0, .int .i64 d0, .slice vx0 ps0.length ps0.length] 28))).keep ((Below.refl _ _).drew)
  have BKa := (BK3.out.keep (belA w3 (.cells #[.int .i64 b0, .int .i64 d0, .slice vx0 ps0.length ps0.length] 28))).keep ((Below.refl _ _).drew)
  have BELa := (belt BL3.out (belA w3 (.cells #[.int .i64 b0, .int .i64 d0, .slice vx0 ps0.length ps0.length] 28))).drew
  have Xa := (X3.out.keep (belA w3 (.cells #[.int .i64 b0, .int .i64 d0, .slice vx0 ps0.length ps0.length] 28))).keep ((Below.refl _ _).drew)
  go_region_held (fun w' => w'.cell? ⟨w3.heap.size, 0, none⟩ = some (.int .i64 b0) ∧ w'.cell? ⟨w3.heap.size, 1, none⟩ = some (.int .i64 d0) ∧ w'.cell? ⟨w3.heap.size, 2, none⟩ = some (.slice vx0 ps0.length ps0.length) ∧ w'.cell? ⟨w.heap.size + 1, 0, none⟩ = some (.int .i64 y20) ∧ w'.cell? ⟨w.heap.size + 1, 1, none⟩ = some (.int .i64 y21) ∧ w'.cell? ⟨w.heap.size + 1, 2, none⟩ = some (.int .i64 y22) ∧ w'.cell? ⟨w.heap.size + 1, 3, none⟩ = some (.int .i64 y23) ∧ w'.cell? ⟨w.heap.size + 1, 4, none⟩ = some (.int .i64 y24) ∧ w'.cell? ⟨w.heap.size + 1, 5, none⟩ = some (.int .i64 y25) ∧ w'.cell? ⟨w.heap.size + 1, 6, none⟩ = some (.int .i64 y26)) (with_reducible (first | exact bxk10 BXa BKa | exact bxk10 BXb BKb | exact bxk10 BXc BKc)) (first
    | (go_at_call 43; refine (toWalk_any y20 y21 y22 y23 y24 y25 y26 _).mono ?_; rintro e wb ⟨rfl, hwb⟩; have BAb := BAa.keep hwb; have BKb := BKa.keep hwb; have BELb := belt BELa hwb; have BXb := BXa.keep hwb; have Xb := Xa.keep hwb)
    | (go_at_call 28; refine (GoodWalk_own b0 d0 vx0 ps0.length ps0 x1 ⟨y20, y21, y22, y23, y24, y25, y26⟩ _ hp0 Xb.peersAt).mono ?_; rintro e w4 ⟨rfl, hwc⟩; have BAc := BAb.keep hwc; have BKc := BKb.keep hwc; have BELc := belt BELb hwc; have BXc := BXb.keep hwc; have Xc := Xb.keep hwc))
  have BA4 : Hid (BxV w w4 #[.int .i64 b0, .int .i64 d0, .slice a0 ps0.length cap0] 65) := BAc
  have BL4 : Hid (Below w.heap.size w w4) := BELc
  have BX4 : Hid (BxV w3 w4 #[.int .i64 b0, .int .i64 d0, .slice vx0 ps0.length ps0.length] 28) := BXc
  have X4 : Hid (OwnPs w2.heap.size w3.heap.size w4 vx0 ps0.length ps0) := Xc
  clear BAa BAb BAc BKa BKb BKc BELa BELb BELc BXa BXb BXc Xa Xb Xc hwb hwc BA3 BK3 BL3 X3 HBX
  generalize goodW b0 d0 ps0 x1 ⟨y20, y21, y22, y23, y24, y25, y26⟩ = ok0
  have hg0 := bne_self_bool ok0
  go_wp2_with fail
  have BAa := BA4.out.keep ((Below.refl _ _).drew)
  have BXa := BX4.out.keep ((Below.refl _ _).drew)
  have BELa := BL4.out.drew
  have Xa := X4.out.keep ((Below.refl _ _).drew)
  go_region_held (fun w' => w'.cell? ⟨w.heap.size, 0, none⟩ = some (.int .i64 b0) ∧ w'.cell? ⟨w.heap.size, 1, none⟩ = some (.int .i64 d0) ∧ w'.cell? ⟨w.heap.size, 2, none⟩ = some (.slice a0 ps0.length cap0) ∧ w'.cell? ⟨w3.heap.size, 0, none⟩ = some (.int .i64 b0) ∧ w'.cell? ⟨w3.heap.size, 1, none⟩ = some (.int .i64 d0) ∧ w'.cell? ⟨w3.heap.size, 2, none⟩ = some (.slice vx0 ps0.length ps0.length)) (with_reducible (first | exact bxv6 BAa BXa | exact bxv6 BAb BXb | exact bxv6 BAc BXc)) (first
    | (go_at_call 40; refine (toPeers_own b0 d0 a0 cap0 ps0 _ HS.out (HR0.out.keep BELa)).mono ?_; rintro e wd ⟨vd, rfl, Od, hwd⟩; have BAb := BAa.keep hwd; have BXb := BXa.keep hwd; have BELb := belt BELa hwd; have Xb := Xa.keep hwd)
    | (go_at_call 42; refine (eqPeers_own b0 d0 _ _ _ _ _ ps0 _ rfl hp0 Xb.peersAt Od.peersAt).mono ?_; rintro e w5 ⟨rfl, hwe⟩; have BAc := BAb.keep hwe; have BXc := BXb.keep hwe; have BELc := belt BELb hwe))
  have BL5 : Hid (Below w.heap.size w w5) := BELc
  clear BAa BAb BAc BXa BXb BXc BELa BELb BELc Xa Xb hwd hwe Od
  go_wp2
  go_ret
  exact ⟨rfl, BL5.out⟩

set_option maxRecDepth 100000 in
theorem fnExactGoodWalk_lifted (os : Os) (started : os.Started) (H : Type) (enc : TypeId × Value → H) :
    ReturnsInHanded {} Try.checked os 6 .any (Rows.fnExactGoodWalkSpec.pre6 enc Try.prog Try.f6 Rows.fnExactGoodWalkRow.domain false) (Rows.fnExactGoodWalkSpec.post enc Try.prog Try.f6 false true false false) := by
  refine returnsInHanded_of_change (C := Try.checked) own started (by kernel_rfl) Try.func6
    (ChangeSpec.witness6 (enc := enc) (C := Try.checked) false ⟨#[], #[.agg #[.int .i64 0, .int .i64 0, .slice none 0 0], .int .i64 0, .agg #[.int .i64 0, .int .i64 0, .int .i64 0, .int .i64 0, .int .i64 0, .int .i64 0, .int .i64 0]], []⟩ 8 (by kernel_rfl) (by kernel_rfl) (by kernel_rfl) (by kernel_rfl)) ?_
  intro W base args ds gs before hval0 hW hcnd _
  have hval : ∀ (j : Nat) t v, Try.f6.params[j]? = some t → args[j]? = some v → Value.okWide Try.prog W .any base t v := hval0
  have hW' := hW
  obtain ⟨p, q, hA0, hV, rfl, hfz, hnd⟩ := hW
  have hA : DataW.TrodAll enc Try.prog W 0 (fun _ => true) true Try.f6.params.toList args.toList ds p := hA0
  rw [Try.params6] at hA hval
  obtain ⟨v0, vs0, d0, ds0, p0, q0, hargs, rfl, rfl, h0, r0⟩ := trodAll_cons hA
  obtain ⟨v1, vs1, d1, ds1, p1, q1, rfl, rfl, rfl, h1, r1⟩ := trodAll_cons r0
  obtain ⟨v2, vs2, d2, ds2, p2, q2, rfl, rfl, rfl, h2, r2⟩ := trodAll_cons r1
  obtain ⟨rfl, rfl, rfl⟩ := trodAll_nil r2
  obtain rfl : args = #[v0, v1, v2] := by cases args; simp_all
  obtain ⟨rfl, rfl⟩ := trodVars_none hV
  have k0 := h0
  have lt0 : ∀ x ∈ p0, x.block < W.heap.size := by obtain ⟨m, hm⟩ := k0; exact DataW.trod_lt m _ _ _ hm
  obtain ⟨b0, g0, a0, cap0, ps0, rfl, hm0, hc0, hr0⟩ := open_peers (hval 0 65 v0 rfl rfl) h0
  obtain ⟨a1, rfl, rfl, rfl, w1⟩ := open_int Try.underlying3 (hval 1 3 v1 rfl rfl) h1
  have k2 := h2
  have lt2 : ∀ x ∈ p2, x.block < W.heap.size := by obtain ⟨m, hm⟩ := k2; exact DataW.trod_lt m _ _ _ hm
  obtain ⟨n20, n21, n22, n23, n24, n25, n26, rfl⟩ := open_walk (hval 2 71 v2 rfl rfl) h2
  clear hA0 hval0
  refine (wFnExactGoodWalk b0 g0 a0 cap0 ps0 a1 n20 n21 n22 n23 n24 n25 n26 W hm0 hr0).mono fun e W' ⟨he, bel⟩ => ?_
  subst he
  exact ⟨_, rfl, _, _, _, [], _, [], hW', trodAll_mk1 (shut_bool Try.underlying4 _), (trodAll_cons_mk (Below.trod laidOut (by kernel_rfl) (of_decide_eq_true (by kernel_rfl)) k0 bel lt0) (trodAll_cons_mk (shut_int Try.underlying3 w1) (trodAll_cons_mk (Below.trod laidOut (by kernel_rfl) (of_decide_eq_true (by kernel_rfl)) k2 bel lt2) trodAll_mk0))), rfl, bel.frame _, fun h => by cases h⟩

theorem fnExactGoodWalk_holds : Rows.FnExactGoodWalkSaid :=
  OpenClaim.holds_of_wide 6 Try.f6 rfl rfl rfl rfl rfl rfl rfl ⟨rfl, rfl, rfl, rfl, rfl⟩ rfl rfl rfl rfl rfl (by kernel_rfl) Try.func6 (by kernel_rfl)
    (of_decide_eq_true (by kernel_rfl)) (by unfold Func.isWrapper; first | (rw [if_pos (by decide +kernel)]; kernel_rfl) | (rw [if_neg (by decide +kernel)]; exact ⟨rfl, rfl⟩))
    (fun os started H enc _ => fnExactGoodWalk_lifted os started H enc)
#print axioms fnExactGoodWalk_holds
end Go.Proofs.Ytejajlloipkkhaa
