/- SetPoint's answers in one form. -/
import Derived.Test.YtgmdbihdnacpjaaQ8
import Derived.Test.YtgmdbihdnacpjaaX8
namespace Go.Proofs.Ytgmdbihdnacpjaa
open Go.RowKit
set_option linter.unusedVariables false
def spR (b d : Int) (ps : List Pr) (x pt : Int) (bs : List Int) : List Pr := if spOk b d ps x pt bs = true then spL ps x pt bs else []
theorem spOk_parts {b d : Int} {ps : List Pr} {x pt : Int} {bs : List Int} (h : spOk b d ps x pt bs = true) : goodP b d ps = true ∧ memI (idsP ps) x = true ∧ memI (idsP ps) pt = true ∧ bokB (idsP ps) bs = true := by
  unfold spOk at h
  simp only [Bool.and_eq_true] at h
  exact ⟨h.1.1.1, h.1.1.2, h.1.2, h.2⟩
theorem spL_good {b d : Int} {ps : List Pr} {x pt : Int} {bs : List Int} (h : spOk b d ps x pt bs = true) : goodP b d (spL ps x pt bs) = true := by
  obtain ⟨h1, h2, h3, h4⟩ := spOk_parts h
  rw [sp_good h1 h2, h3, h4]; rfl
theorem goodP_big {b d : Int} {ps : List Pr} (h : goodP b d ps = true) : ps.length + bsum ps ≤ 64 := by
  obtain ⟨R, hp⟩ := goodP_true h
  have l2 := R.l2
  rw [idsP_len] at l2
  have hb := bsum_le (c := 3) (ps := ps) (fun p hp' => by
    obtain ⟨i, hi, rfl⟩ := List.getElem_of_mem hp'
    have := (prB_parts.1 (hp i hi)).2.2.1
    simpa [List.getD_eq_getElem?_getD, hi] using this)
  omega
theorem spR_big (b d : Int) (ps : List Pr) (x pt : Int) (bs : List Int) : (spR b d ps x pt bs).length + bsum (spR b d ps x pt bs) ≤ 1048576 := by
  unfold spR
  split
  · rename_i h
    have := goodP_big (spL_good h)
    omega
  · simp [bsum]
theorem SetPoint_own (b d : Int) (a : Option Addr) (cap : Nat) (ps : List Pr) (x pt : Int) (ab : Option Addr) (cb : Nat) (bs : List Int) (w : World) (hm : ps.length ≤ 1048576) (hr : PeersAt w a ps) (hmb : bs.length ≤ 1048576) (hrb : RowAt w ab bs) :
    Calls Try.prog 13 #[.agg #[.int .i64 b, .int .i64 d, .slice a ps.length cap], .int .i64 x, .int .i64 pt, .slice ab bs.length cb] w fun e w' => ∃ b' d' a' n' c, e = .returned (.tuple #[.agg #[.int .i64 b', .int .i64 d', .slice a' n' c], .bool (spOk b d ps x pt bs)]) ∧ (spR b d ps x pt bs).length = n' ∧ (b', d') = spcOf (spOk b d ps x pt bs) b d ∧ OwnPs w.heap.size w'.heap.size w' a' n' (spR b d ps x pt bs) ∧ Below w.heap.size w w' := by
  refine (SetPoint_any b d a cap ps x pt ab cb bs w hm hr hmb hrb).mono ?_
  rintro e w1 ⟨v, rfl, hw, ⟨hg, rfl⟩ | ⟨hg, g, L, rfl, hL, os⟩⟩
  · rw [hg]
    have e0 : spR b d ps x pt bs = [] := by unfold spR; rw [hg]; rfl
    rw [e0]
    exact ⟨_, _, _, _, _, rfl, rfl, rfl, ownPs_nil _ _ _ _, hw⟩
  · rw [hg]
    have e0 : spR b d ps x pt bs = spL ps x pt bs := by unfold spR; rw [hg]; rfl
    rw [e0]
    exact ⟨_, _, _, _, _, rfl, spL_len _ _ _ _, rfl, ⟨spL_len _ _ _ _, .inr ⟨g, L, rfl, hL, os⟩⟩, hw⟩
theorem row_none {w : World} {bs : List Int} (h : RowAt w none bs) : bs = [] := by
  rcases h with h | ⟨_, _, h, _⟩
  · exact h
  · cases h
theorem lSetPoint_own (b d : Int) (a : Option Addr) (cap : Nat) (ps : List Pr) (x pt : Int) (ab : Option Addr) (cb : Nat) (bs : List Int) (w : World) (hm : ps.length ≤ 1048576) (hr : PeersAt w a ps) (hmb : bs.length ≤ 1048576) (hrb : RowAt w ab bs) :
    Calls Try.prog 14 #[.agg #[.int .i64 b, .int .i64 d, .slice a ps.length cap], .int .i64 x, .int .i64 pt, .slice ab bs.length bs.length] w fun e w' => ∃ b' d' a' n' c, e = .returned (.tuple #[.agg #[.int .i64 b', .int .i64 d', .slice a' n' c], .bool (spOk b d ps x pt bs)]) ∧ (spR b d ps x pt bs).length = n' ∧ (b', d') = spcOf (spOk b d ps x pt bs) b d ∧ PeersAt w' a' (spR b d ps x pt bs) ∧ Below w.heap.size w w' := by
  refine (lSetPoint_any b d a cap ps x pt ab bs.length bs w hm hr hmb hrb (fun h => by subst h; rw [row_none hrb]; rfl)).mono ?_
  rintro e w1 ⟨v, rfl, hw, ⟨hg, rfl⟩ | ⟨hg, a0, cp, rfl, os⟩⟩
  · rw [hg]
    have e0 : spR b d ps x pt bs = [] := by unfold spR; rw [hg]; rfl
    rw [e0]
    exact ⟨_, _, _, _, _, rfl, rfl, rfl, .inl rfl, hw⟩
  · rw [hg]
    have e0 : spR b d ps x pt bs = spL ps x pt bs := by unfold spR; rw [hg]; rfl
    rw [e0]
    exact ⟨_, _, _, _, _, rfl, spL_len _ _ _ _, rfl, os, hw⟩
end Go.Proofs.Ytgmdbihdnacpjaa
