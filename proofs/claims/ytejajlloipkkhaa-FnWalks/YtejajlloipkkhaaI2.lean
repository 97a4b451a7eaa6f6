/- The best number to begin with: all digits that are left, shifted in, make the key. -/
import Derived.Test.YtejajlloipkkhaaJ0Z
namespace Go.Proofs.Ytejajlloipkkhaa
open Go.RowKit
set_option linter.unusedVariables false
/-- z has all digits of the key but the last l -/
structure ZI (b d k z l : Int) : Prop where
  z1 : 0 ≤ z
  z2 : z < sz b
  eq : z % sz ((b / d - l) * d) = k / sz (l * d)
theorem ZI.step {b d k z l : Int} (hg : gsB b d = true) (k1 : 0 ≤ k) (hl1 : 1 ≤ l) (hl2 : l ≤ b / d) (h : ZI b d k z l) : ZI b d k (shf b d z (dgt4 d k l)) (l - 1) := by
  obtain ⟨b1, b2, _, _, _⟩ := gsB_true hg
  obtain ⟨s1, s2⟩ := shf_rng b d z (dgt4 d k l) b1 b2
  exact ⟨s1, s2, shift_more hg hl1 hl2 k1 h.eq⟩
theorem ZI.fin {b d k z : Int} (hg : gsB b d = true) (h : ZI b d k z 0) : z = k := by
  have e := h.eq
  rw [Int.sub_zero, bits_eq hg, Int.zero_mul, sz_zero, Int.ediv_one, Int.emod_eq_of_lt h.z1 h.z2] at e
  exact e
theorem best_begin {b d f t k : Int} (h : bstOk b d f t k = true) : ∃ m : Nat, (bstV b d f t k).2 = (m : Int) ∧ m ≤ cnt b d ∧ ZI b d k (bstV b d f t k).1 (m : Int) ∧ gsB b d = true ∧ numB b d f = true ∧ numB b d t = true ∧ numB b d k = true ∧ numB b d (bstV b d f t k).1 = true ∧ (¬ f = t → ¬ (bstV b d f t k).1 = f → arcB b t (bstV b d f t k).1 f = false) := by
  have h0 := h
  unfold bstOk at h0
  simp only [Bool.and_eq_true] at h0
  obtain ⟨⟨hf, ht⟩, hk⟩ := h0
  obtain ⟨hg, f1, f2⟩ := numB_true hf
  obtain ⟨_, t1, t2⟩ := numB_true ht
  obtain ⟨_, k1, k2⟩ := numB_true hk
  obtain ⟨b1, b2, d1, d2, _⟩ := gsB_true hg
  obtain ⟨hc, c1, c2⟩ := cnt_bd b1 b2 d1 d2
  have eV : bstV b d f t k = bestI b d f t k := by unfold bstV; rw [if_pos h]
  rw [eV]
  obtain ⟨n, n1, n2, e1, e2, e3, e4, _⟩ := bestI_prop hg f1 f2 t1 t2 k1 k2
  have hm : (((b / d - n).toNat : Nat) : Int) = b / d - n := Int.toNat_of_nonneg (by omega)
  refine ⟨(b / d - n).toNat, by rw [hm]; exact e1, by omega, ⟨e2, e3, ?_⟩, hg, hf, ht, hk, ?_, fun hft hi => best_arc hg f1 f2 t1 t2 k1 k2 hft hi⟩
  · rw [hm, show b / d - (b / d - n) = n by omega]
    exact e4
  · unfold numB
    rw [hg]
    exact inB_yes e2 (by omega)
theorem digB_dgt {b d k l : Int} (hg : gsB b d = true) : digB b d (dgt4 d k l) = true := by
  obtain ⟨h1, h2⟩ := dgt4_bd d k l
  unfold digB
  rw [hg]
  exact inB_yes h1 (by omega)
end Go.Proofs.Ytejajlloipkkhaa
