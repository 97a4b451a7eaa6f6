/- Digits: base, count, ShiftIn on both sides. -/
import Derived.Test.YtpgngfdhnoonjaaA4
namespace Go.Proofs.Ytpgngfdhnoonjaa
open Go.RowKit
set_option linter.unusedVariables false

def digB (b d x : Int) : Bool := gsB b d && inB x 0 (sz d - 1)
theorem digB_true {b d x : Int} (h : digB b d x = true) : gsB b d = true ∧ 0 ≤ x ∧ x < sz d := by
  unfold digB at h
  rw [Bool.and_eq_true] at h
  have := inB_true h.2
  exact ⟨h.1, by omega, by omega⟩
theorem digB_yes {b d x : Int} (h : gsB b d = true) (h1 : 0 ≤ x) (h2 : x < sz d) : digB b d x = true := by
  unfold digB; rw [h, inB_yes (by omega) (by omega)]; rfl
theorem digB_no {b d x : Int} (h : gsB b d = false) : digB b d x = false := by unfold digB; rw [h]; rfl
theorem digB_out {b d x : Int} (h : ¬ (0 ≤ x ∧ x < sz d)) : digB b d x = false := by unfold digB; rw [inB_no (by omega)]; simp
def sOk (b d x g : Int) : Bool := numB b d x && digB b d g
def shf (b d x g : Int) : Int := (x * sz d + g) % sz b
def sVal (b d x g : Int) : Int := if sOk b d x g = true then shf b d x g else 0
theorem mul_bd {x y : Int} (h1 : 0 ≤ x) (h2 : x ≤ 4096) (h3 : 0 ≤ y) (h4 : y ≤ 4096) : 0 ≤ x * y ∧ x * y ≤ 16777216 :=
  ⟨Int.mul_nonneg h1 h3, Int.le_trans (Int.mul_le_mul h2 h4 h3 (by omega)) (by omega)⟩
theorem shf_bd {b : Int} (d x g : Int) (h1 : 1 ≤ b) (h2 : b ≤ 12) : 0 ≤ shf b d x g ∧ shf b d x g < sz b := by
  have := sz_bd h1 h2
  exact ⟨Int.emod_nonneg _ (by omega), Int.emod_lt_of_pos _ (by omega)⟩

theorem shl_eq {b d x g : Int} (hb1 : 1 ≤ b) (hb2 : b ≤ 12) (hd1 : 1 ≤ d) (hd2 : d ≤ 12) (h1 : 0 ≤ x) (h2 : x < sz b) (h3 : 0 ≤ g) (h4 : g < sz d) :
    (wrap64 (wrap64 (x * 2 ^ d.toNat) + g)).tmod (sz b) = shf b d x g := by
  obtain ⟨hs1, hs2⟩ := sz_bd hb1 hb2
  obtain ⟨hs3, hs4⟩ := sz_bd hd1 hd2
  obtain ⟨hm1, hm2⟩ := mul_bd h1 (by omega) (by omega : 0 ≤ sz d) hs4
  have e1 : wrap64 (x * 2 ^ d.toNat) = x * sz d := IntWalk.wrap64_in (x * sz d) (by omega)
  have e2 : wrap64 (x * sz d + g) = x * sz d + g := IntWalk.wrap64_in (x * sz d + g) (by omega)
  rw [e1, e2, Int.tmod_eq_emod_of_nonneg (by omega)]
  rfl
end Go.Proofs.Ytpgngfdhnoonjaa
