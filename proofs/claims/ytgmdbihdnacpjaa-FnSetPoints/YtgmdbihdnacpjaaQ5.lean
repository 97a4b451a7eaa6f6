/- GoodPeers, in the program. -/
import Derived.Test.YtgmdbihdnacpjaaQ0
namespace Go.Proofs.Ytgmdbihdnacpjaa
open Go.RowKit
set_option linter.unusedVariables false

set_option maxHeartbeats 3200000 in
theorem GoodPeers_any (b d : Int) (a : Option Addr) (cap : Nat) (ps : List Pr) (w : World) (hm : ps.length ≤ 1048576) (hr : PeersAt w a ps) :
    Calls Try.prog 16 #[.agg #[.int .i64 b, .int .i64 d, .slice a ps.length cap]] w fun e w' => e = .returned (.bool (goodP b d ps)) ∧ Below w.heap.size w w' := by
  have hil := idsP_len ps
  have hr1 := hr.alloc (.cells #[.int .i64 b, .int .i64 d, .slice a ps.length cap] 28)
  by_cases hbig : 16 < ps.length
  · have hv : goodP b d ps = false := by unfold goodP; rw [ringB_len (by omega)]; rfl
    rw [hv]
    go_enter Try.func16, Try.ntmps16
    go_wp2
    go_ret
    exact ⟨rfl, (Below.refl _ _).alloc (Nat.le_refl _) _⟩
  · have l16 : ps.length ≤ 16 := by omega
    have CI := idsOf_any w.heap.size a cap ps (w.alloc (.cells #[.int .i64 b, .int .i64 d, .slice a ps.length cap] 28)) hm (by simp) (by go_simp) hr1
    have HR : Hid (PeersAt w a ps) := hr
    clear hr hr1
    cases hg : ringB b d (idsP ps)
    · have hv : Hid (goodP b d ps = false) := by unfold Hid goodP; rw [hg]; rfl
      go_enter Try.func16, Try.ntmps16
      go_wp2_with fail
      refine CI.mono ?_
      rintro e w1 ⟨rfl, ow1⟩
      clear CI
      have BX1 : Hid (BxP w w1 b d (.slice a ps.length cap)) := bxP1 ow1.bel (by simp)
      have HI1 : Hid (RowAt w1 (some ⟨w.heap.size + 1, 0, none⟩) (idsP ps)) := by have := rowAt_of_row ow1.row; simp only [World.size_alloc] at this; exact this
      have CR := GoodRing_any b d (some ⟨w.heap.size + 1, 0, none⟩) ps.length (idsP ps) w1 (by unfold maxLen; omega) HI1.out
      rw [hg, hil] at CR
      obtain ⟨_, _, q0, q1, q2⟩ := BX1.out
      clear ow1
      go_wp2_with fail
      refine CR.mono ?_
      rintro e w2 ⟨rfl, hw2⟩
      go_wp2
      go_ret
      exact ⟨ret_bool hv.out.symm, belt BX1.out.bel hw2⟩
    · have R := ringB_true hg
      have l1 := R.l1
      rw [hil] at l1
      have RR : Hid (Ring b d (idsP ps)) := R
      have HG : Hid (ringB b d (idsP ps) = true) := hg
      have hg1 := hg
      clear R hg
      go_enter Try.func16, Try.ntmps16
      go_wp2_with fail
      refine CI.mono ?_
      rintro e w1 ⟨rfl, ow1⟩
      clear CI
      have BX1 : Hid (BxP w w1 b d (.slice a ps.length cap)) := bxP1 ow1.bel (by simp)
      have HI1 : Hid (RowAt w1 (some ⟨w.heap.size + 1, 0, none⟩) (idsP ps)) := by have := rowAt_of_row ow1.row; simp only [World.size_alloc] at this; exact this
      have CR := GoodRing_any b d (some ⟨w.heap.size + 1, 0, none⟩) ps.length (idsP ps) w1 (by unfold maxLen; omega) HI1.out
      rw [hg1, hil] at CR
      obtain ⟨_, _, q0, q1, q2⟩ := BX1.out
      clear ow1 hg1
      go_wp2_with fail
      refine CR.mono ?_
      rintro e w2 ⟨rfl, hw2⟩
      clear CR q0 q1 q2
      have BX2 : Hid (BxP w w2 b d (.slice a ps.length cap)) := BX1.out.keep hw2
      have HI2 : Hid (RowAt w2 (some ⟨w.heap.size + 1, 0, none⟩) (idsP ps)) := HI1.out.keep hw2
      clear BX1 HI1 hw2
      obtain ⟨_, _, _, _, q2⟩ := BX2.out
      go_wp2_with fail
      go_loopw [18] (fun vi wr => ∃ (k : Nat), k ≤ ps.length ∧ vi = .int .i64 k ∧ Hid (BxP w wr b d (.slice a ps.length cap)) ∧ Hid (RowAt wr (some ⟨w.heap.size + 1, 0, none⟩) (idsP ps)) ∧ Hid (∀ i, i < k → prB (idsP ps) (ps.getD i pr0) = true)) (fun vi _ => ps.length - (intOf vi).toNat)
      case atStart => exact ⟨0, Nat.zero_le _, rfl, BX2, HI2, fun i hi => by omega⟩
      case round =>
        obtain ⟨k, hk, rfl, BX, HI, HS⟩ := hrel
        clear BX2 HI2 q2
        obtain ⟨_, qlt, _, _, q2⟩ := BX.out
        have HB : Hid (Below w.heap.size w wr) := BX.out.bel
        by_cases hlt : k < ps.length
        · obtain ⟨bk, off, rfl⟩ := peersAt_form HR.out (by omega)
          obtain ⟨hbk, hpk⟩ := peersAt_cell (HR.out.keep HB.out) (by omega)
          have C := isPeer_any (some ⟨w.heap.size + 1, 0, none⟩) ps.length (idsP ps) bk (off + k * 4) (ps.getD k pr0) wr (by omega) (by omega) HI.out hbk (hpk k hlt)
          rw [prI_eq RR.out, hil] at C
          clear hpk
          cases hp : prB (idsP ps) (ps.getD k pr0)
          · rw [hp] at C
            have hv : Hid (goodP b d ps = false) := goodP_no hlt (by rw [hp]; simp)
            clear hp
            go_wp2_with fail
            refine C.mono ?_
            rintro e w3 ⟨rfl, hw3⟩
            go_wp2
            go_ret
            exact ⟨ret_bool hv.out.symm, belt HB.out hw3⟩
          · rw [hp] at C
            have HS2 : Hid (∀ i, i < k + 1 → prB (idsP ps) (ps.getD i pr0) = true) := fun i hi => by
              by_cases he : i = k
              · subst he; exact hp
              · exact HS.out i (by omega)
            clear hp
            go_wp2_with fail
            refine C.mono ?_
            rintro e w3 ⟨rfl, hw3⟩
            have BX3 : Hid (BxP w w3 b d (.slice (some ⟨bk, off, none⟩) ps.length cap)) := BX.out.keep hw3
            have HI3 : Hid (RowAt w3 (some ⟨w.heap.size + 1, 0, none⟩) (idsP ps)) := HI.out.keep hw3
            go_wp2
            go_roundw
            case rel => exact ⟨k + 1, by omega, by go_num, BX3, HI3, HS2⟩
            case measure => simp [intOf]; omega
        · have hv : Hid (goodP b d ps = true) := goodP_yes HG.out (fun i hi => HS.out i (by omega))
          go_wp2
          go_ret
          exact ⟨ret_bool hv.out.symm, HB.out⟩
end Go.Proofs.Ytgmdbihdnacpjaa
