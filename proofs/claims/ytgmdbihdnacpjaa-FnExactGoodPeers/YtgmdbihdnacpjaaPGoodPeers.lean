/- For all peers GoodPeers answers as its specification: no condition. -/
import Derived.Test.YtgmdbihdnacpjaaW7
import Derived.Test.YtgmdbihdnacpjaaQ5
namespace Go.Proofs.Ytgmdbihdnacpjaa
open Go.ChangeShapes Go.WideShapes Go.ChangeAt Go.RowKit
set_option linter.unusedVariables false
set_option maxHeartbeats 3200000 in
theorem wFnExactGoodPeers (b d : Int) (a : Option Addr) (cap : Nat) (ps : List Pr) (w : World) (hm : ps.length ≤ maxLen) (hr : PeersAt w a ps) :
    Calls Try.prog 4 #[.agg #[.int .i64 b, .int .i64 d, .slice a ps.length cap]] w fun e w' => e = .returned (.bool true) ∧ Below w.heap.size w w' := by
  have hr1 := hr.alloc (.cells #[.int .i64 b, .int .i64 d, .slice a ps.length cap] 46)
  have HR : Hid (PeersAt w a ps) := hr
  clear hr
  go_enter Try.func4, Try.ntmps4
  go_wp2_with fail
  refine (szPeers_any b d a cap ps _ hm hr1).mono ?_
  rintro e w1 ⟨v, rfl, hv, hw1⟩
  have BX : Hid (BxP w w1 b d (.slice a ps.length cap)) := bxP1 hw1 (by simp)
  clear hr1 hw1
  by_cases hneg : v < 0
  · go_wp2
    go_ret
    exact ⟨rfl, BX.out.bel⟩
  · have hb : ps.length + bsum ps ≤ 1048576 := by
      rcases hv with h | h
      · exact absurd h hneg
      · exact h.2
    clear hv
    have hm2 : ps.length ≤ 1048576 := by omega
    obtain ⟨_, _, q0, q1, q2⟩ := BX.out
    go_wp2_with fail
    refine (toPeers_any b d a cap ps _ hb (HR.out.keep BX.out.bel)).mono ?_
    rintro e w2 ⟨g2, rfl, ⟨L2, hL2, ow2⟩, hw2⟩
    have BX2 : Hid (BxP w w2 b d (.slice a ps.length cap)) := BX.out.keep hw2
    have HP2 : Hid (PeersAt w2 (some ⟨g2, 0, none⟩) ps) := by have := ow2.peersAt; rw [hL2] at this; exact this
    clear ow2 hL2 hw2 q0 q1 q2 BX
    go_wp2_with fail
    refine (lGoodPeers_any b d _ _ ps _ hm2 HP2.out).mono ?_
    rintro e w3 ⟨rfl, hw3⟩
    have BX3 : Hid (BxP w w3 b d (.slice a ps.length cap)) := BX2.out.keep hw3
    obtain ⟨_, _, q0, q1, q2⟩ := BX3.out
    clear BX2 HP2 hw3
    go_wp2_with fail
    refine (toPeers_any b d a cap ps _ hb (HR.out.keep BX3.out.bel)).mono ?_
    rintro e w4 ⟨g4, rfl, ⟨L4, hL4, ow4⟩, hw4⟩
    have BX4 : Hid (BxP w w4 b d (.slice a ps.length cap)) := BX3.out.keep hw4
    have HP4 : Hid (PeersAt w4 (some ⟨g4, 0, none⟩) ps) := by have := ow4.peersAt; rw [hL4] at this; exact this
    clear ow4 hL4 hw4 q0 q1 q2 BX3
    go_wp2_with fail
    have hr5 := HP4.out.alloc (.cells #[.int .i64 b, .int .i64 d, .slice (some ⟨g4, 0, none⟩) ps.length ps.length] 28)
    refine (GoodPeers_any b d _ _ ps _ hm2 hr5).mono ?_
    rintro e w5 ⟨rfl, hw5⟩
    have XB5 : Hid (BxP w4 w5 b d (.slice (some ⟨g4, 0, none⟩) ps.length ps.length)) := bxP1 hw5 (by simp)
    have BX5 : Hid (BxP w w5 b d (.slice a ps.length cap)) := BX4.out.keep XB5.out.bel
    have HP5 : Hid (PeersAt w5 (some ⟨g4, 0, none⟩) ps) := HP4.out.keep XB5.out.bel
    obtain ⟨_, _, q0, q1, q2⟩ := BX5.out
    obtain ⟨_, _, y0, y1, y2⟩ := XB5.out
    clear hr5 hw5 HP4 BX4
    generalize goodP b d ps = gp
    have hgg : (gp != gp) = false := by cases gp <;> rfl
    go_wp2_with fail
    clear q0 q1 q2 y0 y1 y2
    have sta := BX5.out.keep ((Below.refl _ _).drew)
    have xta := XB5.out.keep ((Below.refl _ _).drew)
    have pta := HP5.out.keep ((Below.refl _ _).drew)
    go_region_held (fun w' => w'.cell? ⟨w.heap.size, 0, none⟩ = some (.int .i64 b) ∧ w'.cell? ⟨w.heap.size, 1, none⟩ = some (.int .i64 d) ∧ w'.cell? ⟨w.heap.size, 2, none⟩ = some (.slice a ps.length cap) ∧ w'.cell? ⟨w4.heap.size, 0, none⟩ = some (.int .i64 b) ∧ w'.cell? ⟨w4.heap.size, 1, none⟩ = some (.int .i64 d) ∧ w'.cell? ⟨w4.heap.size, 2, none⟩ = some (.slice (some ⟨g4, 0, none⟩) ps.length ps.length)) (with_reducible (first | exact qq6 sta xta | exact qq6 stb xtb | exact qq6 stc xtc)) (first
      | (go_at_call 23; refine (toPeers_any b d a cap ps _ hb (HR.out.keep sta.bel)).mono ?_; rintro e w6 ⟨g6, rfl, ⟨L6, hL6, ow6⟩, hw6⟩; have stb := sta.keep hw6; have xtb := xta.keep hw6; have pp6 := ow6.peersAt; rw [hL6] at pp6; have pq6 := pta.keep hw6; clear ow6 hL6)
      | (go_at_call 24; refine (eqPeers_same b d _ _ _ _ ps _ hm2 pq6 pp6).mono ?_; rintro e w7 ⟨rfl, hw7⟩; have stc := stb.keep hw7; have xtc := xtb.keep hw7))
    all_goals (go_wp2; go_ret; exact ⟨rfl, stc.bel⟩)

set_option maxRecDepth 100000 in
theorem fnExactGoodPeers_lifted (os : Os) (started : os.Started) (H : Type) (enc : TypeId × Value → H) :
    ReturnsInHanded {} Try.checked os 4 .any (Rows.fnExactGoodPeersSpec.pre6 enc Try.prog Try.f4 Rows.fnExactGoodPeersRow.domain false) (Rows.fnExactGoodPeersSpec.post enc Try.prog Try.f4 false true false false) := by
  refine returnsInHanded_of_change (C := Try.checked) own started (by kernel_rfl) Try.func4
    (ChangeSpec.witness6 (enc := enc) (C := Try.checked) false ⟨#[], #[.agg #[.int .i64 0, .int .i64 0, .slice none 0 0]], []⟩ 8 (by kernel_rfl) (by kernel_rfl) (by kernel_rfl) (by kernel_rfl)) ?_
  intro W base args ds gs before hval0 hW hcnd _
  have hval : ∀ (j : Nat) t v, Try.f4.params[j]? = some t → args[j]? = some v → Value.okWide Try.prog W .any base t v := hval0
  have hW' := hW
  obtain ⟨p, q, hA0, hV, rfl, hfz, hnd⟩ := hW
  have hA : DataW.TrodAll enc Try.prog W 0 (fun _ => true) true Try.f4.params.toList args.toList ds p := hA0
  rw [Try.params4] at hA hval
  obtain ⟨v0, vs0, d0, ds0, p0, q0, hargs, rfl, rfl, h0, r0⟩ := trodAll_cons hA
  obtain ⟨rfl, rfl, rfl⟩ := trodAll_nil r0
  obtain rfl : args = #[v0] := by cases args; simp_all
  obtain ⟨rfl, rfl⟩ := trodVars_none hV
  have k0 := h0
  have lt0 : ∀ x ∈ p0, x.block < W.heap.size := by obtain ⟨m, hm⟩ := k0; exact DataW.trod_lt m _ _ _ hm
  obtain ⟨b0, g0, a0, cap0, ps0, rfl, hm0, hc0, hr0⟩ := open_peers (hval 0 46 v0 rfl rfl) h0
  clear hA0 hval0
  refine (wFnExactGoodPeers b0 g0 a0 cap0 ps0 W hm0 hr0).mono fun e W' ⟨he, bel⟩ => ?_
  subst he
  exact ⟨_, rfl, _, _, _, [], _, [], hW', trodAll_mk1 (shut_bool Try.underlying4 _), (trodAll_cons_mk (Below.trod laidOut (by kernel_rfl) (of_decide_eq_true (by kernel_rfl)) k0 bel lt0) trodAll_mk0), rfl, bel.frame _, fun h => by cases h⟩

theorem fnExactGoodPeers_holds : Rows.FnExactGoodPeersSaid :=
  OpenClaim.holds_of_wide 4 Try.f4 rfl rfl rfl rfl rfl rfl rfl ⟨rfl, rfl, rfl, rfl, rfl⟩ rfl rfl rfl rfl rfl (by kernel_rfl) Try.func4 (by kernel_rfl)
    (of_decide_eq_true (by kernel_rfl)) (by unfold Func.isWrapper; first | (rw [if_pos (by decide +kernel)]; kernel_rfl) | (rw [if_neg (by decide +kernel)]; exact ⟨rfl, rfl⟩))
    (fun os started H enc _ => fnExactGoodPeers_lifted os started H enc)
#print axioms fnExactGoodPeers_holds
end Go.Proofs.Ytgmdbihdnacpjaa
