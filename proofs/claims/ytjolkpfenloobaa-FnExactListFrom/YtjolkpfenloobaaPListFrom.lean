/- For every space, list and numbers ListFrom answers as its specification, in memory of its own, and leaves the list as it was: no condition. -/
import Derived.Test.YtjolkpfenloobaaS5
import Derived.Test.YtjolkpfenloobaaU3
namespace Go.Proofs.Ytjolkpfenloobaa
open Go.ChangeShapes Go.WideShapes Go.ChangeAt Go.RowKit
set_option linter.unusedVariables false

set_option maxHeartbeats 3200000 in
theorem wFnExactListFrom (b d : Int) (a : Option Addr) (cap : Nat) (zs : List Int) (x : Int) (many : Int) (w : World) (hm : zs.length ≤ maxLen) (hr0 : RowAt w a zs) :
    Calls Try.prog 8 #[.agg #[.int .i64 b, .int .i64 d], .slice a zs.length cap, .int .i64 x, .int .i64 many] w fun e w' => e = .returned (.bool true) ∧ Below w.heap.size w w' := by
  have hr : Hid (RowAt w a zs) := hr0
  clear hr0
  unfold maxLen at hm
  by_cases hbig : 1048576 < zs.length
  · go_enter Try.func8, Try.ntmps8
    go_wp2
    go_ret
    exact ⟨rfl, (Below.refl _ _).alloc (Nat.le_refl _) _⟩
  · have hm2 : zs.length ≤ 1048576 := by omega
    have hmx : zs.length ≤ maxLen := by unfold maxLen; omega
    have hsame : sameB zs zs = true := decide_eq_true rfl
    have hs0 : sameB [] [] = true := rfl
    cases hx : okF b d zs x many
    ·
      go_enter Try.func8, Try.ntmps8
      go_wp2_with fail
      refine (toSpace_any _ _ _).mono ?_
      rintro e w1 ⟨rfl, hw1⟩
      have bx1 := Bx.first hw1
      obtain ⟨k10, k11, z1⟩ := bx1.at
      go_wp2_with fail
      refine (toIntS_any _ _ zs _ hm2 (hr.out.keep bx1.old)).mono ?_
      rintro e w2 ⟨rfl, ow2⟩
      have hw2 := ow2.bel
      have bx2 := bx1.step hw2
      obtain ⟨k20, k21, z2⟩ := bx2.at
      go_wp2_with fail
      refine (lListFrom_row b d _ _ zs x many _ hmx (Nat.le_refl _) (rowAt_of_row ow2.row)).mono ?_
      rintro e w3 ⟨v3, rfl, hw3, dv3⟩
      have bx3 := bx2.step hw3
      obtain ⟨k30, k31, z3⟩ := bx3.at
      rcases dv3 with ⟨_, rfl⟩ | ⟨hc, _⟩
      rotate_left
      · rw [hx] at hc; cases hc
      go_wp2_with fail
      refine (toIntS_any _ _ zs _ hm2 (hr.out.keep bx3.old)).mono ?_
      rintro e w4 ⟨rfl, ow4⟩
      have hw4 := ow4.bel
      have bx4 := bx3.step hw4
      obtain ⟨k40, k41, z4⟩ := bx4.at
      go_wp2_with fail
      refine (toSpace_any _ _ _).mono ?_
      rintro e w5 ⟨rfl, hw5⟩
      have bx5 := bx4.step hw5
      obtain ⟨k50, k51, z5⟩ := bx5.at
      have ow5 := ow4.keep hw5
      go_wp2_with fail
      refine (ListFrom_row b d _ _ zs x many _ hmx (Nat.le_refl _) (rowAt_of_row ow5.row)).mono ?_
      rintro e w6 ⟨v6, rfl, hw6, dv6⟩
      have bx6 := bx5.step hw6
      obtain ⟨k60, k61, z6⟩ := bx6.at
      rcases dv6 with ⟨_, rfl⟩ | ⟨hc, _⟩
      rotate_left
      · rw [hx] at hc; cases hc
      have ow6 := ow5.keep hw6
      go_wp2_with fail
      refine (eqIntS_any none none 0 0 [] [] _ (by simp [maxLen]) (.inl rfl) (.inl rfl)).mono ?_
      rintro e w7 ⟨rfl, hw7⟩
      have bx7 := bx6.step hw7
      obtain ⟨k70, k71, z7⟩ := bx7.at
      have ow7 := ow6.keep hw7
      go_wp2_with fail
      refine (toIntS_any _ _ zs _ hm2 (hr.out.keep bx7.old)).mono ?_
      rintro e w8 ⟨rfl, oc8⟩
      have hw8 := oc8.bel
      have bx8 := bx7.step hw8
      obtain ⟨k80, k81, z8⟩ := bx8.at
      have ow8 := ow7.keep hw8
      go_wp2_with fail
      refine (eqIntS_any _ _ _ _ zs zs _ hmx (rowAt_of_row ow8.row) (rowAt_of_row oc8.row)).mono ?_
      rintro e w9 ⟨rfl, hw9⟩
      have bx9 := bx8.step hw9
      obtain ⟨k90, k91, z9⟩ := bx9.at
      have ow9 := ow8.keep hw9
      have hsz3 := bx3.at.2.2
      go_wp2_with fail
      refine (markIntS_any w3 w3.heap.size _ zs 1 _ hm2 (by omega) (by omega) ow9).mono ?_
      rintro e w10 ⟨rfl, ow10, on10⟩
      have bx10 := bx9.only on10 hsz3
      obtain ⟨k100, k101, z10⟩ := bx10.at
      go_wp2_with fail
      refine (eqIntS_any none none 0 0 [] [] _ (by simp [maxLen]) (.inl rfl) (.inl rfl)).mono ?_
      rintro e w11 ⟨rfl, hw11⟩
      have bx11 := bx10.step hw11
      obtain ⟨k110, k111, z11⟩ := bx11.at
      go_wp2_with fail
      refine (markIntS_nil _ _).mono ?_
      rintro e w12 ⟨rfl, he12⟩
      subst he12
      go_wp2_with fail
      refine (heldIntS_any none 0 [] 1 _ (by simp) (by omega) (by omega) (.inl rfl) (fun i hi => by simp at hi)).mono ?_
      rintro e w13 ⟨rfl, he13⟩
      subst he13
      go_wp2_with fail
      refine (toSpace_any _ _ _).mono ?_
      rintro e w14 ⟨rfl, hw14⟩
      have bx14 := bx11.step hw14
      obtain ⟨k140, k141, z14⟩ := bx14.at
      go_wp2_with fail
      refine (toIntS_any _ _ zs _ hm2 (hr.out.keep bx14.old)).mono ?_
      rintro e w15 ⟨rfl, ow15⟩
      have hw15 := ow15.bel
      have bx15 := bx14.step hw15
      obtain ⟨k150, k151, z15⟩ := bx15.at
      go_wp2_with fail
      refine (ListFrom_row b d _ _ zs x many _ hmx (Nat.le_refl _) (rowAt_of_row ow15.row)).mono ?_
      rintro e w16 ⟨v16, rfl, hw16, dv16⟩
      have bx16 := bx15.step hw16
      obtain ⟨k160, k161, z16⟩ := bx16.at
      rcases dv16 with ⟨_, rfl⟩ | ⟨hc, _⟩
      rotate_left
      · rw [hx] at hc; cases hc
      go_wp2_with fail
      refine (eqIntS_any none none 0 0 [] [] _ (by simp [maxLen]) (.inl rfl) (.inl rfl)).mono ?_
      rintro e w17 ⟨rfl, hw17⟩
      have bx17 := bx16.step hw17
      obtain ⟨k170, k171, z17⟩ := bx17.at
      go_wp2_with fail
      refine (heldIntS_any none 0 [] 1 _ (by simp) (by omega) (by omega) (.inl rfl) (fun i hi => by simp at hi)).mono ?_
      rintro e w18 ⟨rfl, he18⟩
      subst he18
      go_wp2
      go_ret
      exact ⟨rfl, bx17.old⟩
    ·
      have h16 : many.toNat ≤ 16 := by
        unfold okF at hx
        rw [Bool.and_eq_true] at hx
        have := inB_true hx.2
        omega
      obtain ⟨LL, hLL⟩ : ∃ LL, LL = lstL zs x many.toNat := ⟨_, rfl⟩
      obtain ⟨nn, hnn⟩ : ∃ nn : Nat, nn = many.toNat := ⟨_, rfl⟩
      have HLN : Hid (LL.length = nn) := by rw [hLL, hnn]; exact lstL_len zs x _
      have hnn2 : nn ≤ 1048576 := by omega
      have HLL : Hid (LL = lstL zs x many.toNat) := hLL
      have HNN : Hid (nn = many.toNat) := hnn
      clear hLL hnn
      have hsm : sameB LL LL = true := decide_eq_true rfl
      have hl1 : LL.length ≤ 1048576 := by rw [HLN.out]; omega
      have hl2 : LL.length ≤ maxLen := by rw [HLN.out]; unfold maxLen; omega
      have HL1 : Hid (LL.length ≤ 1048576) := hl1
      have HL2 : Hid (LL.length ≤ maxLen) := hl2
      clear hl1 hl2
      go_enter Try.func8, Try.ntmps8
      go_wp2_with fail
      refine (toSpace_any _ _ _).mono ?_
      rintro e w1 ⟨rfl, hw1⟩
      have bx1 := Bx.first hw1
      obtain ⟨k10, k11, z1⟩ := bx1.at
      go_wp2_with fail
      refine (toIntS_any _ _ zs _ hm2 (hr.out.keep bx1.old)).mono ?_
      rintro e w2 ⟨rfl, ow2⟩
      have hw2 := ow2.bel
      have bx2 := bx1.step hw2
      obtain ⟨k20, k21, z2⟩ := bx2.at
      go_wp2_with fail
      refine (lListFrom_row b d _ _ zs x many _ hmx (Nat.le_refl _) (rowAt_of_row ow2.row)).mono ?_
      rintro e w3 ⟨v3, rfl, hw3, dv3⟩
      have bx3 := bx2.step hw3
      obtain ⟨k30, k31, z3⟩ := bx3.at
      rcases dv3 with ⟨hc, _⟩ | ⟨_, a3, cp3, rfl, rw3⟩
      · rw [hx] at hc; cases hc
      rw [← HLL.out] at rw3
      rw [← HNN.out]
      have R3 : Hid (RowAt w3 a3 LL) := rw3
      clear rw3
      go_wp2_with fail
      refine (toIntS_any _ _ zs _ hm2 (hr.out.keep bx3.old)).mono ?_
      rintro e w4 ⟨rfl, ow4⟩
      have hw4 := ow4.bel
      have bx4 := bx3.step hw4
      obtain ⟨k40, k41, z4⟩ := bx4.at
      go_wp2_with fail
      refine (toSpace_any _ _ _).mono ?_
      rintro e w5 ⟨rfl, hw5⟩
      have bx5 := bx4.step hw5
      obtain ⟨k50, k51, z5⟩ := bx5.at
      have ow5 := ow4.keep hw5
      go_wp2_with fail
      refine (ListFrom_row b d _ _ zs x many _ hmx (Nat.le_refl _) (rowAt_of_row ow5.row)).mono ?_
      rintro e w6 ⟨v6, rfl, hw6, dv6⟩
      have bx6 := bx5.step hw6
      obtain ⟨k60, k61, z6⟩ := bx6.at
      rcases dv6 with ⟨hc, _⟩ | ⟨_, g6, cp6, rfl, os6⟩
      · rw [hx] at hc; cases hc
      rw [← HLL.out] at os6
      rw [← HNN.out]
      have ow6 := ow5.keep hw6
      have b36 : Hid (Below w3.heap.size w3 w6) := belt (belt hw4 hw5) hw6
      have c7 := eqIntS_any (some ⟨g6, 0, none⟩) a3 cp6 cp3 LL LL w6 HL2.out os6.rowAt (R3.out.keep b36.out)
      rw [HLN.out] at c7
      go_wp2_with fail
      refine c7.mono ?_
      rintro e w7 ⟨rfl, hw7⟩
      clear c7
      have bx7 := bx6.step hw7
      obtain ⟨k70, k71, z7⟩ := bx7.at
      have ow7 := ow6.keep hw7
      have os7 := os6.keep hw7
      have b37 : Hid (Below w3.heap.size w3 w7) := belt b36.out hw7
      go_wp2_with fail
      refine (toIntS_any _ _ zs _ hm2 (hr.out.keep bx7.old)).mono ?_
      rintro e w8 ⟨rfl, oc8⟩
      have hw8 := oc8.bel
      have bx8 := bx7.step hw8
      obtain ⟨k80, k81, z8⟩ := bx8.at
      have ow8 := ow7.keep hw8
      have os8 := os7.keep hw8
      have b38 : Hid (Below w3.heap.size w3 w8) := belt b37.out hw8
      go_wp2_with fail
      refine (eqIntS_any _ _ _ _ zs zs _ hmx (rowAt_of_row ow8.row) (rowAt_of_row oc8.row)).mono ?_
      rintro e w9 ⟨rfl, hw9⟩
      have bx9 := bx8.step hw9
      obtain ⟨k90, k91, z9⟩ := bx9.at
      have ow9 := ow8.keep hw9
      have os9 := os8.keep hw9
      have b39 : Hid (Below w3.heap.size w3 w9) := belt b38.out hw9
      have hsz3 := bx3.at.2.2
      have hs45 : w3.heap.size < g6 := by have h1 := ow4.lt; have h2 := hw5.size; have h3 := os6.lo; omega
      go_wp2_with fail
      refine (markIntS_any w3 w3.heap.size _ zs 1 _ hm2 (by omega) (by omega) ow9).mono ?_
      rintro e w10 ⟨rfl, ow10, on10⟩
      have bx10 := bx9.only on10 hsz3
      obtain ⟨k100, k101, z10⟩ := bx10.at
      have os10 := os9.only on10 (by omega)
      have b310 : Hid (Below w3.heap.size w3 w10) := on10.below b39.out (Nat.le_refl _)
      have c11 := eqIntS_any (some ⟨g6, 0, none⟩) a3 cp6 cp3 LL LL w10 HL2.out os10.rowAt (R3.out.keep b310.out)
      rw [HLN.out] at c11
      go_wp2_with fail
      refine c11.mono ?_
      rintro e w11 ⟨rfl, hw11⟩
      clear c11
      have bx11 := bx10.step hw11
      obtain ⟨k110, k111, z11⟩ := bx11.at
      have os11 := os10.keep hw11
      have b311 : Hid (Below w3.heap.size w3 w11) := belt b310.out hw11
      have c12 := markOwn_any w5.heap.size g6 cp6 LL 1 w11 HL1.out (by omega) (by omega) os11
      rw [HLN.out] at c12
      go_wp2_with fail
      refine c12.mono ?_
      rintro e w12 ⟨rfl, os12, on12⟩
      clear c12
      have bx12 := bx11.only on12 (by omega)
      obtain ⟨k120, k121, z12⟩ := bx12.at
      have b312 : Hid (Below w3.heap.size w3 w12) := on12.below b311.out (by omega)
      obtain ⟨hml, hmk⟩ := mrk_at' (k0 := 1) HLN.out
      have HML : Hid ((mrk 1 LL nn).length = nn) := hml
      have HMK : Hid (∀ i, i < (mrk 1 LL nn).length → (mrk 1 LL nn).getD i 0 = 1 + (i : Int)) := hmk
      clear hml hmk
      have c13 := heldIntS_any (some ⟨g6, 0, none⟩) cp6 (mrk 1 LL nn) 1 w12 (by rw [HML.out]; omega) (by omega) (by omega) os12.rowAt HMK.out
      rw [HML.out] at c13
      go_wp2_with fail
      refine c13.mono ?_
      rintro e w13 ⟨rfl, he13⟩
      have he13 := he13.symm
      subst he13
      clear c13
      go_wp2_with fail
      refine (toSpace_any _ _ _).mono ?_
      rintro e w14 ⟨rfl, hw14⟩
      have bx14 := bx12.step hw14
      obtain ⟨k140, k141, z14⟩ := bx14.at
      have os14 := os12.keep hw14
      have b314 : Hid (Below w3.heap.size w3 w14) := belt b312.out hw14
      go_wp2_with fail
      refine (toIntS_any _ _ zs _ hm2 (hr.out.keep bx14.old)).mono ?_
      rintro e w15 ⟨rfl, ow15⟩
      have hw15 := ow15.bel
      have bx15 := bx14.step hw15
      obtain ⟨k150, k151, z15⟩ := bx15.at
      have os15 := os14.keep hw15
      have b315 : Hid (Below w3.heap.size w3 w15) := belt b314.out hw15
      go_wp2_with fail
      refine (ListFrom_row b d _ _ zs x many _ hmx (Nat.le_refl _) (rowAt_of_row ow15.row)).mono ?_
      rintro e w16 ⟨v16, rfl, hw16, dv16⟩
      have bx16 := bx15.step hw16
      obtain ⟨k160, k161, z16⟩ := bx16.at
      rcases dv16 with ⟨hc, _⟩ | ⟨_, g16, cp16, rfl, os_16⟩
      · rw [hx] at hc; cases hc
      rw [← HLL.out] at os_16
      rw [← HNN.out]
      have os16 := os15.keep hw16
      have b316 : Hid (Below w3.heap.size w3 w16) := belt b315.out hw16
      have c17 := eqIntS_any (some ⟨g16, 0, none⟩) a3 cp16 cp3 LL LL w16 HL2.out os_16.rowAt (R3.out.keep b316.out)
      rw [HLN.out] at c17
      go_wp2_with fail
      refine c17.mono ?_
      rintro e w17 ⟨rfl, hw17⟩
      clear c17
      have bx17 := bx16.step hw17
      obtain ⟨k170, k171, z17⟩ := bx17.at
      have os17 := os16.keep hw17
      have c18 := heldIntS_any (some ⟨g6, 0, none⟩) cp6 (mrk 1 LL nn) 1 w17 (by rw [HML.out]; omega) (by omega) (by omega) os17.rowAt HMK.out
      rw [HML.out] at c18
      go_wp2_with fail
      refine c18.mono ?_
      rintro e w18 ⟨rfl, he18⟩
      have he18 := he18.symm
      subst he18
      clear c18
      go_wp2
      go_ret
      exact ⟨rfl, bx17.old⟩

set_option maxRecDepth 100000 in
theorem fnExactListFrom_lifted (os : Os) (started : os.Started) (H : Type) (enc : TypeId × Value → H) :
    ReturnsInHanded {} Try.checked os 8 .any (Rows.fnExactListFromSpec.pre6 enc Try.prog Try.f8 Rows.fnExactListFromRow.domain false) (Rows.fnExactListFromSpec.post enc Try.prog Try.f8 false true false false) := by
  refine returnsInHanded_of_change (C := Try.checked) own started (by kernel_rfl) Try.func8
    (ChangeSpec.witness6 (enc := enc) (C := Try.checked) false ⟨#[], #[.agg #[.int .i64 0, .int .i64 0], .slice none 0 0, .int .i64 0, .int .i64 0], []⟩ 8 (by kernel_rfl) (by kernel_rfl) (by kernel_rfl) (by kernel_rfl)) ?_
  intro W base args ds gs before hval0 hW hcnd _
  have hval : ∀ (j : Nat) t v, Try.f8.params[j]? = some t → args[j]? = some v → Value.okWide Try.prog W .any base t v := hval0
  have hW' := hW
  obtain ⟨p, q, hA0, hV, rfl, hfz, hnd⟩ := hW
  have hA : DataW.TrodAll enc Try.prog W 0 (fun _ => true) true Try.f8.params.toList args.toList ds p := hA0
  rw [Try.params8] at hA hval
  obtain ⟨v0, vs0, d0, ds0, p0, q0, hargs, rfl, rfl, h0, r0⟩ := trodAll_cons hA
  obtain ⟨v1, vs1, d1, ds1, p1, q1, rfl, rfl, rfl, h1, r1⟩ := trodAll_cons r0
  obtain ⟨v2, vs2, d2, ds2, p2, q2, rfl, rfl, rfl, h2, r2⟩ := trodAll_cons r1
  obtain ⟨v3, vs3, d3, ds3, p3, q3, rfl, rfl, rfl, h3, r3⟩ := trodAll_cons r2
  obtain ⟨rfl, rfl, rfl⟩ := trodAll_nil r3
  obtain rfl : args = #[v0, v1, v2, v3] := by cases args; simp_all
  obtain ⟨rfl, rfl⟩ := trodVars_none hV
  have k0 := h0
  have lt0 : ∀ x ∈ p0, x.block < W.heap.size := by obtain ⟨m, hm⟩ := k0; exact DataW.trod_lt m _ _ _ hm
  obtain ⟨c0, c1, y0, y1, m, rfl, hd0, hp0, hy0, hy1⟩ := Joins.open_agg2 Try.underlying36 (by kernel_rfl) cellsS (hval 0 36 v0 rfl rfl) h0
  obtain ⟨a, e0, _, wa⟩ := DataW.trod_int Try.underlying3 hy0
  obtain ⟨b, e1, _, wb⟩ := DataW.trod_int Try.underlying3 hy1
  simp at e0 e1
  subst e0 e1
  obtain ⟨a1, len1, cap1, rfl⟩ := okWide_slice Try.underlying26 (hval 1 26 v1 rfl rfl)
  have k1 := h1
  have lt1 : ∀ x ∈ p1, x.block < W.heap.size := by obtain ⟨m, hm⟩ := k1; exact DataW.trod_lt m _ _ _ hm
  obtain ⟨z1, w1⟩ : ∃ zs, IsRow .i64 W a1 len1 cap1 zs := by
    obtain ⟨fuel, hf⟩ := h1
    rcases open_ints Try.underlying26 Try.underlying3 (by kernel_rfl) hf with ⟨hcs, _⟩ | ⟨x, l, c, zs, hcs, _, hl, hm, hz, _, hcell, hwz⟩
    · simp [Value.cells] at hcs
      obtain ⟨rfl, rfl, rfl⟩ := hcs
      exact ⟨[], .inl ⟨rfl, rfl, rfl, rfl⟩⟩
    · simp [Value.cells] at hcs
      obtain ⟨rfl, rfl, rfl⟩ := hcs
      exact ⟨zs, .inr ⟨_, rfl, hl, hm, by simpa using hz, hcell, hwz⟩⟩
  obtain ⟨a2, rfl, rfl, rfl, w2⟩ := open_int Try.underlying3 (hval 2 3 v2 rfl rfl) h2
  obtain ⟨a3, rfl, rfl, rfl, w3⟩ := open_int Try.underlying3 (hval 3 3 v3 rfl rfl) h3
  clear hA0 hval0
  obtain ⟨ys, hyl, hym, hyr⟩ := isRow_rowAt w1
  subst hyl
  refine (wFnExactListFrom a b a1 cap1 ys a2 a3 W hym hyr).mono fun e W' ⟨he, bel⟩ => ?_
  subst he
  exact ⟨_, rfl, _, _, _, [], _, [], hW', trodAll_mk1 (shut_bool Try.underlying4 _), (trodAll_cons_mk (Below.trod laidOut (by kernel_rfl) (of_decide_eq_true (by kernel_rfl)) k0 bel lt0) (trodAll_cons_mk (Below.trod laidOut (by kernel_rfl) (of_decide_eq_true (by kernel_rfl)) k1 bel lt1) (trodAll_cons_mk (shut_int Try.underlying3 w2) (trodAll_cons_mk (shut_int Try.underlying3 w3) trodAll_mk0)))), rfl, bel.frame _, fun h => by cases h⟩

theorem fnExactListFrom_holds : Rows.FnExactListFromSaid :=
  OpenClaim.holds_of_wide 8 Try.f8 rfl rfl rfl rfl rfl rfl rfl ⟨rfl, rfl, rfl, rfl, rfl⟩ rfl rfl rfl rfl rfl (by kernel_rfl) Try.func8 (by kernel_rfl)
    (of_decide_eq_true (by kernel_rfl)) (by unfold Func.isWrapper; first | (rw [if_pos (by decide +kernel)]; kernel_rfl) | (rw [if_neg (by decide +kernel)]; exact ⟨rfl, rfl⟩))
    (fun os started H enc _ => fnExactListFrom_lifted os started H enc)
#print axioms fnExactListFrom_holds
end Go.Proofs.Ytjolkpfenloobaa
