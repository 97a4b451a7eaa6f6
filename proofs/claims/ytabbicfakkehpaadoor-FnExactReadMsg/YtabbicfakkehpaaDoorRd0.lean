/- A text's bytes and its numbers of two; how long a kind's frame is; the faults of a text ahead of its numbers. -/
import Derived.Test.YtabbicfakkehpaaDoorSf1
import Derived.Test.YtabbicfakkehpaaDoorF9
namespace Go.Proofs.YtabbicfakkehpaaDoor
open Go.RowKit Go.Deep
set_option linter.unusedVariables false
set_option linter.unusedSimpArgs false
def bt (s : ByteArray) (i : Nat) : Int := if h : i < s.size then (s[i].toNat : Int) else 0
theorem bt_eq {s : ByteArray} {i : Nat} (h : i < s.size) : bt s i = (s[i].toNat : Int) := by unfold bt; rw [dif_pos h]
theorem bt_bd (s : ByteArray) (i : Nat) : 0 ≤ bt s i ∧ bt s i ≤ 255 := by
  unfold bt
  split
  · rename_i h
    have := UInt8.toNat_lt s[i]
    omega
  · omega
def a2 (s : ByteArray) (i : Nat) : Int := bt s i * 256 + bt s (i + 1)
theorem a2_bd (s : ByteArray) (i : Nat) : 0 ≤ a2 s i ∧ a2 s i ≤ 65535 := by
  have := bt_bd s i
  have := bt_bd s (i + 1)
  unfold a2
  omega
theorem lAt_any (s : ByteArray) (i : Nat) (w : World) (h : i + 1 < s.size) (hs : s.size ≤ 1048576) :
    Calls Tryd.prog 22 #[.string s, .int .i64 i] w fun e w' => e = .returned (.int .i64 (a2 s i)) ∧ Below w.heap.size w w' := by
  have h0 : i < s.size := by omega
  have hv : Hid (a2 s i = (s[i].toNat : Int) * 256 + (s[i + 1].toNat : Int)) := by unfold Hid a2; rw [bt_eq h0, bt_eq h]
  have hb := UInt8.toNat_lt s[i]
  have hb1 := UInt8.toNat_lt s[i + 1]
  go_enter Tryd.func22, Tryd.ntmps22
  have p1 : (0 : Int) ≤ (i : Int) + 1 := by omega
  have p2 : (i : Int) + 1 < (s.size : Int) := by omega
  go_wp2
  go_quiet (fail)
  go_wp2
  go_ret
  exact ⟨ret_int hv.out.symm, below_drewN (Below.refl _ _) _⟩
/-- how long the fields of a kind are when the first j of them are counted -/
def lnj (k many : Int) (j : Nat) : Int := 6 + 2 * (j : Int) + (if k = 5 ∧ j = 2 then 2 * many - 1 else 0)
def flong (k many : Int) : Int := lnj k many (fld k).length
theorem fld_five (k : Int) (j : Nat) (hj : j < (fld k).length) : (fld k).getD j 0 = 5 ↔ (k = 5 ∧ j = 1) := by
  have hl := fld_big k
  have h4 : j = 0 ∨ j = 1 ∨ j = 2 ∨ j = 3 := by omega
  unfold fld at hj ⊢
  rcases h4 with rfl | rfl | rfl | rfl <;> repeat' split at hj
  all_goals simp at hj
  all_goals (repeat' split)
  all_goals simp
  all_goals omega
theorem lnj_zero (k many : Int) : lnj k many 0 = 6 := by unfold lnj; rw [if_neg (by omega)]; rfl
theorem fld_5len {k : Int} (h : k = 5) : (fld k).length = 2 := by subst h; rfl
set_option maxHeartbeats 800000 in
theorem lLong_any (k many : Int) (w : World) (h0 : 0 ≤ many) (h1 : many ≤ 255) :
    Calls Tryd.prog 12 #[.int .i64 k, .int .i64 many] w fun e w' => e = .returned (.int .i64 (flong k many)) ∧ Below w.heap.size w w' := by
  obtain ⟨F, hF⟩ : ∃ F, Hid (fld k = F) := ⟨_, rfl⟩
  have hF4 : F.length ≤ 4 := by rw [← hF.out]; exact fld_big k
  have h5 : Hid (∀ j, j < F.length → (F.getD j 0 = 5 ↔ (k = 5 ∧ j = 1))) := fun j hj => by rw [← hF.out] at hj ⊢; exact fld_five k j hj
  have h2 : k = 5 → F.length = 2 := fun h => by rw [← hF.out]; exact fld_5len h
  have hv : Hid (flong k many = lnj k many F.length) := by unfold Hid flong; rw [hF.out]
  go_enter Tryd.func12, Tryd.ntmps12
  go_wp2_with fail
  refine (lfieldsOf_any k _).mono ?_
  rintro e w1 ⟨aF, nF, cF, rfl, hnF, hcF, oF, hw⟩
  rw [hF.out] at hnF oF
  subst hnF
  have HF : Hid (RowAt w1 aF F) := oF.rowAt
  have HB : Hid (Below w.heap.size w w1) := hw
  clear oF hw hF hcF
  go_wp2_with fail
  go_loop [5, 11] (fun vn vi => ∃ j : Nat, j ≤ F.length ∧ vi = .int .i64 j ∧ vn = .int .i64 (lnj k many j)) (fun vn vi => F.length - (intOf vi).toNat)
  case atStart => exact ⟨0, by omega, rfl, by rw [lnj_zero]⟩
  case round =>
    obtain ⟨j, hj, rfl, rfl⟩ := hrel
    by_cases hlt : j < F.length
    · obtain ⟨bk, off, rfl⟩ := rowAt_form HF.out (by omega)
      have hc1 := (rowAt_cell HF.out (by omega)).2 j hlt
      have hb := h5.out j hlt
      by_cases hx : F.getD j 0 = 5
      · have hk := hb.1 hx
        have he : (F.getD j 0 == 5) = true := beq_iff_eq.2 hx
        have hs : Hid (lnj k many (j + 1) = lnj k many j + (1 + 2 * many)) := by
          unfold Hid lnj; rw [if_pos ⟨hk.1, by omega⟩, if_neg (by omega)]; omega
        have hb2 : 0 ≤ lnj k many j ∧ lnj k many j ≤ 1000 := by unfold lnj; rw [if_neg (by omega)]; omega
        clear hx hb hk
        generalize F.getD j 0 = z at hc1 he
        generalize lnj k many j = n at hs hb2
        obtain ⟨b1, b2⟩ := hb2
        go_wp2
        go_round
        case rel => exact ⟨j + 1, by omega, by go_num, by rw [hs.out]⟩
        case measure => simp [intOf]; omega
      · have hk : ¬ (k = 5 ∧ j = 1) := fun h => hx (hb.2 h)
        have he : (F.getD j 0 == 5) = false := beq_eq_false_iff_ne.2 hx
        have hs : Hid (lnj k many (j + 1) = lnj k many j + 2) := by
          have n1 : ¬ (k = 5 ∧ j + 1 = 2) := fun h => hk ⟨h.1, by omega⟩
          have n2 : ¬ (k = 5 ∧ j = 2) := fun h => by have := h2 h.1; omega
          unfold Hid lnj; rw [if_neg n1, if_neg n2]; omega
        have hb2 : 0 ≤ lnj k many j ∧ lnj k many j ≤ 1000 := by
          have n2 : ¬ (k = 5 ∧ j = 2) := fun h => by have := h2 h.1; omega
          unfold lnj; rw [if_neg n2]; omega
        clear hx hb hk
        generalize F.getD j 0 = z at hc1 he
        generalize lnj k many j = n at hs hb2
        obtain ⟨b1, b2⟩ := hb2
        go_wp2
        go_round
        case rel => exact ⟨j + 1, by omega, by go_num, by rw [hs.out]⟩
        case measure => simp [intOf]; omega
    · have : j = F.length := by omega
      subst this
      rw [← hv.out]
      go_wp2
      go_ret
      exact ⟨rfl, HB.out⟩
end Go.Proofs.YtabbicfakkehpaaDoor
