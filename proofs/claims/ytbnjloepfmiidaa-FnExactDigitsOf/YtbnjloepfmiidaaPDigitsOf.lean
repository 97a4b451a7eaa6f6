/- For every space and number DigitsOf answers as its specification, in memory of its own: no condition. -/
import Derived.Test.YtbnjloepfmiidaaK0
import Derived.Test.YtbnjloepfmiidaaA9
namespace Go.Proofs.Ytbnjloepfmiidaa
open Go.ChangeShapes Go.WideShapes Go.ChangeAt Go.RowKit
set_option linter.unusedVariables false

theorem Only.keep2 {g bk : Nat} {w w' : World} {u v : Value} (h : Only g w w') (hne : ¬ bk = g) (hl : bk < w.heap.size) (h0 : w.cell? ⟨bk, 0, none⟩ = some u) (h1 : w.cell? ⟨bk, 1, none⟩ = some v) :
    w'.cell? ⟨bk, 0, none⟩ = some u ∧ w'.cell? ⟨bk, 1, none⟩ = some v ∧ bk < w'.heap.size :=
  ⟨(World.cell?_of_block (w := w) (h.block bk hne)).trans h0, (World.cell?_of_block (w := w) (h.block bk hne)).trans h1, by rw [h.size]; exact hl⟩
theorem mrk_at {k0 : Int} {zs : List Int} {n : Nat} (h : zs.length = n) : (mrk k0 zs n).length = n ∧ ∀ i, i < (mrk k0 zs n).length → (mrk k0 zs n).getD i 0 = k0 + (i : Int) := by
  subst h
  exact ⟨mrk_len (Nat.le_refl _), fun i hi => mrk_get (by rwa [mrk_len (Nat.le_refl _)] at hi)⟩
theorem row_keep {w w1 : World} {g : Nat} {o : Obj} (h : w.heap[g]? = some o) (hb : Below w.heap.size w w1) : w1.heap[g]? = some o :=
  (hb.block g (Array.getElem?_eq_some_iff.1 h).1).trans h

set_option maxHeartbeats 1600000 in
theorem wFnExactDigitsOf (b d x : Int) (w : World) :
    Calls Try.prog 10 #[.agg #[.int .i64 b, .int .i64 d], .int .i64 x] w fun e w' => e = .returned (.bool true) ∧ Below w.heap.size w w' := by
  cases hx : numB b d x
  ·
    have hs0 : sameB [] [] = true := rfl
    go_enter Try.func10, Try.ntmps10
    go_wp2_with fail
    refine (toSpace_any _ _ _).mono ?_
    rintro e w1 ⟨rfl, hw1⟩
    obtain ⟨k10, k11, z1⟩ := keep2 (bk := w.heap.size) (u := .int .i64 b) (v := .int .i64 d) hw1 (by simp; try omega) (by simp) (by simp)
    go_wp2_with fail
    refine (lDigitsOf_any _ _ _ _).mono ?_
    rintro e w2 ⟨v2, rfl, hw2, dv2⟩
    obtain ⟨k20, k21, z2⟩ := keep2 hw2 z1 k10 k11
    rcases dv2 with ⟨_, rfl⟩ | ⟨hc, _⟩
    rotate_left
    · rw [hx] at hc; cases hc
    go_wp2_with fail
    refine (toSpace_any _ _ _).mono ?_
    rintro e w3 ⟨rfl, hw3⟩
    obtain ⟨k30, k31, z3⟩ := keep2 hw3 z2 k20 k21
    go_wp2_with fail
    refine (DigitsOf_any _ _ _ _).mono ?_
    rintro e w4 ⟨v4, rfl, hw4, dv4⟩
    obtain ⟨k40, k41, z4⟩ := keep2 hw4 z3 k30 k31
    rcases dv4 with ⟨_, rfl⟩ | ⟨hc, _⟩
    rotate_left
    · rw [hx] at hc; cases hc
    go_wp2_with fail
    refine (eqIntS_any none none 0 0 [] [] _ (by simp [maxLen]) (.inl rfl) (.inl rfl)).mono ?_
    rintro e w5 ⟨rfl, hw5⟩
    obtain ⟨k50, k51, z5⟩ := keep2 hw5 z4 k40 k41
    go_wp2_with fail
    refine (markIntS_nil _ _).mono ?_
    rintro e w6 ⟨rfl, rfl⟩
    go_wp2_with fail
    refine (heldIntS_any none 0 [] 1 _ (by simp) (by omega) (by omega) (.inl rfl) (fun i hi => by simp at hi)).mono ?_
    rintro e w7 ⟨rfl, rfl⟩
    go_wp2_with fail
    refine (toSpace_any _ _ _).mono ?_
    rintro e w8 ⟨rfl, hw8⟩
    go_wp2_with fail
    refine (DigitsOf_any _ _ _ _).mono ?_
    rintro e w9 ⟨v9, rfl, hw9, dv9⟩
    rcases dv9 with ⟨_, rfl⟩ | ⟨hc, _⟩
    rotate_left
    · rw [hx] at hc; cases hc
    go_wp2_with fail
    refine (eqIntS_any none none 0 0 [] [] _ (by simp [maxLen]) (.inl rfl) (.inl rfl)).mono ?_
    rintro e w10 ⟨rfl, hw10⟩
    go_wp2_with fail
    refine (heldIntS_any none 0 [] 1 _ (by simp) (by omega) (by omega) (.inl rfl) (fun i hi => by simp at hi)).mono ?_
    rintro e w11 ⟨rfl, rfl⟩
    go_wp2
    go_ret
    exact ⟨rfl, belt (belt (belt (belt (belt (belt (belt (bel1 hw1 (by simp; try omega)) hw2) hw3) hw4) hw5) hw8) hw9) hw10⟩
  ·
    obtain ⟨hg, x1, x2⟩ := numB_true hx
    obtain ⟨hb1, hb2, hd1, hd2, _⟩ := gsB_true hg
    obtain ⟨_, q1, q2⟩ := cnt_bd hb1 hb2 hd1 hd2
    have hln : (digL (cnt b d) (sz d) x).length = cnt b d := digL_len _ _ _
    have hsm : sameB (digL (cnt b d) (sz d) x) (digL (cnt b d) (sz d) x) = true := decide_eq_true rfl
    have hl1 : (digL (cnt b d) (sz d) x).length ≤ 1048576 := by omega
    have hl2 : (digL (cnt b d) (sz d) x).length ≤ maxLen := by unfold maxLen; omega
    have HLN : Hid ((digL (cnt b d) (sz d) x).length = cnt b d) := hln
    clear hln
    go_enter Try.func10, Try.ntmps10
    go_wp2_with fail
    refine (toSpace_any _ _ _).mono ?_
    rintro e w1 ⟨rfl, hw1⟩
    obtain ⟨k10, k11, z1⟩ := keep2 (bk := w.heap.size) (u := .int .i64 b) (v := .int .i64 d) hw1 (by simp; try omega) (by simp) (by simp)
    go_wp2_with fail
    refine (lDigitsOf_any _ _ _ _).mono ?_
    rintro e w2 ⟨v2, rfl, hw2, dv2⟩
    obtain ⟨k20, k21, z2⟩ := keep2 hw2 z1 k10 k11
    rcases dv2 with ⟨hc, _⟩ | ⟨_, g2, rfl, ow2⟩
    · rw [hx] at hc; cases hc
    go_wp2_with fail
    refine (toSpace_any _ _ _).mono ?_
    rintro e w3 ⟨rfl, hw3⟩
    obtain ⟨k30, k31, z3⟩ := keep2 hw3 z2 k20 k21
    go_wp2_with fail
    refine (DigitsOf_any _ _ _ _).mono ?_
    rintro e w4 ⟨v4, rfl, hw4, dv4⟩
    obtain ⟨k40, k41, z4⟩ := keep2 hw4 z3 k30 k31
    rcases dv4 with ⟨hc, _⟩ | ⟨_, g4, rfl, ow4⟩
    · rw [hx] at hc; cases hc
    have r2 := row_keep (row_keep ow2.row hw3) hw4
    have c5 := eqIntS_any (some ⟨g4, 0, none⟩) (some ⟨g2, 0, none⟩) (cnt b d) (cnt b d) (digL (cnt b d) (sz d) x) (digL (cnt b d) (sz d) x) w4 hl2 (rowAt_of_row ow4.row) (rowAt_of_row r2)
    rw [HLN.out] at c5
    have R2 : Hid _ := r2
    clear r2
    go_wp2_with fail
    refine c5.mono ?_
    rintro e w5 ⟨rfl, hw5⟩
    obtain ⟨k50, k51, z5⟩ := keep2 hw5 z4 k40 k41
    clear c5
    have ow5 := ow4.keep hw5
    have R5 : Hid _ := row_keep R2.out hw5
    have c6 := markIntS_any w3 g4 (cnt b d) (digL (cnt b d) (sz d) x) 1 w5 hl1 (by omega) (by omega) ow5
    rw [HLN.out] at c6
    go_wp2_with fail
    refine c6.mono ?_
    rintro e w6 ⟨rfl, ow6, on6⟩
    clear c6
    have hlt2 := ow2.lt
    have hge4 := ow4.lo
    have hs3 := hw3.size
    have hne : ¬ g2 = g4 := by omega
    have hne0 : ¬ w.heap.size = g4 := by omega
    obtain ⟨k60, k61, z6⟩ := on6.keep2 hne0 z5 k50 k51
    have R6 : Hid _ := (on6.block g2 hne).trans R5.out
    obtain ⟨hml, hmk⟩ := mrk_at (k0 := 1) HLN.out
    have HML : Hid _ := hml
    have HMK : Hid _ := hmk
    clear hml hmk
    have c7 := heldIntS_any (some ⟨g4, 0, none⟩) (cnt b d) (mrk 1 (digL (cnt b d) (sz d) x) (cnt b d)) 1 w6 (by rw [HML.out]; omega) (by omega) (by omega) (rowAt_of_row ow6.row) HMK.out
    rw [HML.out] at c7
    go_wp2_with fail
    refine c7.mono ?_
    rintro e w7 ⟨rfl, rfl⟩
    clear c7
    go_wp2_with fail
    refine (toSpace_any _ _ _).mono ?_
    rintro e w8 ⟨rfl, hw8⟩
    obtain ⟨k80, k81, z8⟩ := keep2 hw8 z6 k60 k61
    go_wp2_with fail
    refine (DigitsOf_any _ _ _ _).mono ?_
    rintro e w9 ⟨v9, rfl, hw9, dv9⟩
    rcases dv9 with ⟨hc, _⟩ | ⟨_, g9, rfl, ow9⟩
    · rw [hx] at hc; cases hc
    have r9 := row_keep (row_keep R6.out hw8) hw9
    have c10 := eqIntS_any (some ⟨g9, 0, none⟩) (some ⟨g2, 0, none⟩) (cnt b d) (cnt b d) (digL (cnt b d) (sz d) x) (digL (cnt b d) (sz d) x) w9 hl2 (rowAt_of_row ow9.row) (rowAt_of_row r9)
    rw [HLN.out] at c10
    clear r9
    go_wp2_with fail
    refine c10.mono ?_
    rintro e w10 ⟨rfl, hw10⟩
    clear c10
    have r10 := row_keep (row_keep (row_keep ow6.row hw8) hw9) hw10
    have c11 := heldIntS_any (some ⟨g4, 0, none⟩) (cnt b d) (mrk 1 (digL (cnt b d) (sz d) x) (cnt b d)) 1 w10 (by rw [HML.out]; omega) (by omega) (by omega) (rowAt_of_row r10) HMK.out
    rw [HML.out] at c11
    clear r10
    go_wp2_with fail
    refine c11.mono ?_
    rintro e w11 ⟨rfl, rfl⟩
    clear c11
    go_wp2
    go_ret
    exact ⟨rfl, belt (belt (belt (on6.below (belt (belt (belt (belt (bel1 hw1 (by simp; try omega)) hw2) hw3) hw4) hw5) (by omega)) hw8) hw9) hw10⟩

set_option maxRecDepth 100000 in
theorem fnExactDigitsOf_lifted (os : Os) (started : os.Started) (H : Type) (enc : TypeId × Value → H) :
    ReturnsInHanded {} Try.checked os 10 .any (Rows.fnExactDigitsOfSpec.pre6 enc Try.prog Try.f10 Rows.fnExactDigitsOfRow.domain false) (Rows.fnExactDigitsOfSpec.post enc Try.prog Try.f10 false true false false) := by
  refine returnsInHanded_of_change (C := Try.checked) own started (by kernel_rfl) Try.func10
    (ChangeSpec.witness6 (enc := enc) (C := Try.checked) false ⟨#[], #[.agg #[.int .i64 0, .int .i64 0], .int .i64 0], []⟩ 8 (by kernel_rfl) (by kernel_rfl) (by kernel_rfl) (by kernel_rfl)) ?_
  intro W base args ds gs before hval0 hW hcnd _
  have hval : ∀ (j : Nat) t v, Try.f10.params[j]? = some t → args[j]? = some v → Value.okWide Try.prog W .any base t v := hval0
  have hW' := hW
  obtain ⟨p, q, hA0, hV, rfl, hfz, hnd⟩ := hW
  have hA : DataW.TrodAll enc Try.prog W 0 (fun _ => true) true Try.f10.params.toList args.toList ds p := hA0
  rw [Try.params10] at hA hval
  obtain ⟨v0, vs0, d0, ds0, p0, q0, hargs, rfl, rfl, h0, r0⟩ := trodAll_cons hA
  obtain ⟨v1, vs1, d1, ds1, p1, q1, rfl, rfl, rfl, h1, r1⟩ := trodAll_cons r0
  obtain ⟨rfl, rfl, rfl⟩ := trodAll_nil r1
  obtain rfl : args = #[v0, v1] := by cases args; simp_all
  obtain ⟨rfl, rfl⟩ := trodVars_none hV
  have k0 := h0
  have lt0 : ∀ x ∈ p0, x.block < W.heap.size := by obtain ⟨m, hm⟩ := k0; exact DataW.trod_lt m _ _ _ hm
  obtain ⟨c0, c1, y0, y1, m, rfl, hd0, hp0, hy0, hy1⟩ := Joins.open_agg2 Try.underlying44 (by kernel_rfl) cellsS (hval 0 44 v0 rfl rfl) h0
  obtain ⟨a, e0, _, wa⟩ := DataW.trod_int Try.underlying3 hy0
  obtain ⟨b, e1, _, wb⟩ := DataW.trod_int Try.underlying3 hy1
  simp at e0 e1
  subst e0 e1
  obtain ⟨a1, rfl, rfl, rfl, w1⟩ := open_int Try.underlying3 (hval 1 3 v1 rfl rfl) h1
  clear hA0 hval0
  refine (wFnExactDigitsOf a b a1 W).mono fun e W' ⟨he, bel⟩ => ?_
  subst he
  exact ⟨_, rfl, _, _, _, [], _, [], hW', trodAll_mk1 (shut_bool Try.underlying4 _), (trodAll_cons_mk (Below.trod laidOut (by kernel_rfl) (of_decide_eq_true (by kernel_rfl)) k0 bel lt0) (trodAll_cons_mk (shut_int Try.underlying3 w1) trodAll_mk0)), rfl, bel.frame _, fun h => by cases h⟩

theorem fnExactDigitsOf_holds : Rows.FnExactDigitsOfSaid :=
  OpenClaim.holds_of_wide 10 Try.f10 rfl rfl rfl rfl rfl rfl rfl ⟨rfl, rfl, rfl, rfl, rfl⟩ rfl rfl rfl rfl rfl (by kernel_rfl) Try.func10 (by kernel_rfl)
    (of_decide_eq_true (by kernel_rfl)) (by unfold Func.isWrapper; first | (rw [if_pos (by decide +kernel)]; kernel_rfl) | (rw [if_neg (by decide +kernel)]; exact ⟨rfl, rfl⟩))
    (fun os started H enc _ => fnExactDigitsOf_lifted os started H enc)
#print axioms fnExactDigitsOf_holds
end Go.Proofs.Ytbnjloepfmiidaa
