/- The faults of a text ahead of its numbers. -/
import Derived.Test.YtabbicfakkehpaaDoorRd0
namespace Go.Proofs.YtabbicfakkehpaaDoor
open Go.RowKit Go.Deep
set_option linter.unusedVariables false
set_option linter.unusedSimpArgs false
def faV (p c : Int) : Value := .iface 98 (.agg #[.int .i64 p, .iface 44 (.agg #[.int .i64 c])])
/-- no fault, or one with that code -/
def FaB (ok : Bool) (c : Int) (v : Value) : Prop := (ok = true ∧ v = .nilIface) ∨ (ok = false ∧ ∃ p, v = faV p c)
theorem faultAt_any (p c : Int) (w : World) : Calls Tryd.prog 38 #[.int .i64 p, .int .i64 c] w fun e w' => e = .returned (faV p c) ∧ w' = w := by
  go_enter Tryd.func38, Tryd.ntmps38
  go_wp2
  go_ret
  exact ⟨rfl, rfl⟩
/-- short: 1, long: 2, else none -/
def lenC (s : ByteArray) : Int := if whB s = false then 1 else 2
def lenB (s : ByteArray) : Bool := whB s && decide (s.size ≤ fb s) && decide (s.size ≤ 64)
theorem lengthFault_any (s : ByteArray) (w : World) (hs : s.size ≤ 1048576) : Calls Tryd.prog 27 #[.string s] w fun e w' => (∃ v, e = .returned v ∧ FaB (lenB s) (lenC s) v) ∧ Below w.heap.size w w' := by
  cases hw : whB s
  · have h1 : Hid (lenB s = false) := by unfold Hid lenB; rw [hw]; rfl
    have h2 : Hid (lenC s = 1) := by unfold Hid lenC; rw [hw]; rfl
    go_enter Tryd.func27, Tryd.ntmps27
    go_wp2_with (first | (go_at_call 37; refine (isWhole_any _ _ hs).mono ?_; rintro e w1 ⟨rfl, rfl⟩; rw [hw]) | (go_at_call 38; refine (faultAt_any _ _ _).mono ?_; rintro e w1 ⟨rfl, rfl⟩))
    go_ret
    exact ⟨⟨_, rfl, .inr ⟨h1.out, _, by rw [h2.out]; rfl⟩⟩, Below.refl _ _⟩
  have h0 : 0 < s.size ∧ fb s ≤ s.size := of_decide_eq_true hw
  have hb := fb_bd s
  have h2 : Hid (lenC s = 2) := by unfold Hid lenC; rw [hw]; rfl
  by_cases h3 : s.size ≤ fb s
  · by_cases h4 : s.size ≤ 64
    · have h1 : Hid (lenB s = true) := by unfold Hid lenB; rw [hw, decide_eq_true h3, decide_eq_true h4]; rfl
      go_enter Tryd.func27, Tryd.ntmps27
      go_wp2_with (first | (go_at_call 37; refine (isWhole_any _ _ hs).mono ?_; rintro e w1 ⟨rfl, rfl⟩; rw [hw]) | (go_at_call 39; refine (frameBytes_any _ _ h0.1 hs).mono ?_; rintro e w1 ⟨rfl, rfl⟩) | (go_at_call 38; refine (faultAt_any _ _ _).mono ?_; rintro e w1 ⟨rfl, rfl⟩))
      go_ret
      exact ⟨⟨_, rfl, .inl ⟨h1.out, rfl⟩⟩, Below.refl _ _⟩
    · have h1 : Hid (lenB s = false) := by unfold Hid lenB; rw [hw, decide_eq_true h3, decide_eq_false h4]; rfl
      go_enter Tryd.func27, Tryd.ntmps27
      go_wp2_with (first | (go_at_call 37; refine (isWhole_any _ _ hs).mono ?_; rintro e w1 ⟨rfl, rfl⟩; rw [hw]) | (go_at_call 39; refine (frameBytes_any _ _ h0.1 hs).mono ?_; rintro e w1 ⟨rfl, rfl⟩) | (go_at_call 38; refine (faultAt_any _ _ _).mono ?_; rintro e w1 ⟨rfl, rfl⟩))
      go_ret
      exact ⟨⟨_, rfl, .inr ⟨h1.out, _, by rw [h2.out]; rfl⟩⟩, Below.refl _ _⟩
  · have h1 : Hid (lenB s = false) := by unfold Hid lenB; rw [hw, decide_eq_false h3]; rfl
    go_enter Tryd.func27, Tryd.ntmps27
    go_wp2_with (first | (go_at_call 37; refine (isWhole_any _ _ hs).mono ?_; rintro e w1 ⟨rfl, rfl⟩; rw [hw]) | (go_at_call 39; refine (frameBytes_any _ _ h0.1 hs).mono ?_; rintro e w1 ⟨rfl, rfl⟩) | (go_at_call 38; refine (faultAt_any _ _ _).mono ?_; rintro e w1 ⟨rfl, rfl⟩))
    go_ret
    exact ⟨⟨_, rfl, .inr ⟨h1.out, _, by rw [h2.out]; rfl⟩⟩, Below.refl _ _⟩
def knB (s : ByteArray) : Bool := decide (2 < s.size) && kdB (bt s 1)
theorem kindFault_any (s : ByteArray) (w : World) (hs : s.size ≤ 1048576) : Calls Tryd.prog 28 #[.string s] w fun e w' => (∃ v, e = .returned v ∧ FaB (knB s) 3 v) ∧ Below w.heap.size w w' := by
  by_cases h : 2 < s.size
  · have h1 : 1 < s.size := by omega
    have hb := bt_eq h1
    have hx := UInt8.toNat_lt s[1]
    cases hk : kdB (bt s 1)
    · have hv : Hid (knB s = false) := by unfold Hid knB; rw [hk]; simp
      go_enter Tryd.func28, Tryd.ntmps28
      go_wp2_with (first | (go_at_call 40; rw [← hb]; refine (isKind_any _ _).mono ?_; rintro e w1 ⟨rfl, rfl⟩; rw [hk]) | (go_at_call 38; refine (faultAt_any _ _ _).mono ?_; rintro e w1 ⟨rfl, rfl⟩))
      go_ret
      exact ⟨⟨_, rfl, .inr ⟨hv.out, _, rfl⟩⟩, Below.refl _ _⟩
    · have hv : Hid (knB s = true) := by unfold Hid knB; rw [hk, decide_eq_true h]; rfl
      go_enter Tryd.func28, Tryd.ntmps28
      go_wp2_with (first | (go_at_call 40; rw [← hb]; refine (isKind_any _ _).mono ?_; rintro e w1 ⟨rfl, rfl⟩; rw [hk]) | (go_at_call 38; refine (faultAt_any _ _ _).mono ?_; rintro e w1 ⟨rfl, rfl⟩))
      go_ret
      exact ⟨⟨_, rfl, .inl ⟨hv.out, rfl⟩⟩, Below.refl _ _⟩
  · have hv : Hid (knB s = false) := by unfold Hid knB; rw [decide_eq_false h]; rfl
    go_enter Tryd.func28, Tryd.ntmps28
    go_wp2_with (first | (go_at_call 38; refine (faultAt_any _ _ _).mono ?_; rintro e w1 ⟨rfl, rfl⟩))
    go_ret
    exact ⟨⟨_, rfl, .inr ⟨hv.out, _, rfl⟩⟩, Below.refl _ _⟩
/-- the number of a list's entries, as far as it is told -/
def many (s : ByteArray) : Int := if bt s 1 = 5 ∧ 9 < s.size then bt s 9 else 0
def fmB (s : ByteArray) : Bool := decide (many s ≤ 4 ∧ (s.size : Int) - 1 = flong (bt s 1) (many s))
theorem many_bd (s : ByteArray) : 0 ≤ many s ∧ many s ≤ 255 := by
  unfold many
  split
  · exact bt_bd s 9
  · omega
theorem fmB_short {s : ByteArray} (hk : bt s 1 = 5) (h : ¬ 9 < s.size) : fmB s = false := by
  refine decide_eq_false (fun h1 => ?_)
  have hm : many s = 0 := by unfold many; rw [if_neg (fun k => h k.2)]
  have := h1.2
  rw [hm] at this
  unfold flong lnj at this
  rw [fld_5len hk, if_pos ⟨hk, rfl⟩] at this
  omega
theorem fmB_big {s : ByteArray} (hk : bt s 1 = 5) (h : 9 < s.size) (h4 : ¬ bt s 9 ≤ 4) : fmB s = false := by
  refine decide_eq_false (fun h1 => ?_)
  have hm : many s = bt s 9 := by unfold many; rw [if_pos ⟨hk, h⟩]
  have := h1.1
  omega
set_option maxHeartbeats 1600000 in
theorem formFault_any (s : ByteArray) (w : World) (hs : s.size ≤ 1048576) (hs2 : 2 < s.size) : Calls Tryd.prog 29 #[.string s] w fun e w' => (∃ v, e = .returned v ∧ FaB (fmB s) 5 v) ∧ Below w.heap.size w w' := by
  have h1 : 1 < s.size := by omega
  have hx := UInt8.toNat_lt s[1]
  obtain ⟨k, hk⟩ : ∃ k, Hid (bt s 1 = k) := ⟨_, rfl⟩
  have hxk : Hid ((s[1].toNat : Int) = k) := by unfold Hid; rw [← bt_eq h1]; exact hk.out
  obtain ⟨F, hF⟩ : ∃ F, Hid (fld k = F) := ⟨_, rfl⟩
  have hF4 : F.length ≤ 4 := by rw [← hF.out]; exact fld_big k
  have h5 : Hid (∀ j, j < F.length → (F.getD j 0 = 5 ↔ (k = 5 ∧ j = 1))) := fun j hj => by rw [← hF.out] at hj ⊢; exact fld_five k j hj
  have h2 : k = 5 → F.length = 2 := fun h => by rw [← hF.out]; exact fld_5len h
  have hm := many_bd s
  have hfo : Hid (many s ≤ 4 → (fmB s = decide ((s.size : Int) - 1 = lnj k (many s) F.length))) := by
    intro h4
    unfold fmB flong
    rw [hk.out, hF.out]
    by_cases hq : (s.size : Int) - 1 = lnj k (many s) F.length
    · rw [decide_eq_true hq]; exact decide_eq_true ⟨h4, hq⟩
    · rw [decide_eq_false hq]; exact decide_eq_false (fun z => hq z.2)
  have hsh : Hid (k = 5 → ¬ 9 < s.size → fmB s = false) := fun a b => fmB_short (hk.out.trans a) b
  have hbg : Hid (k = 5 → 9 < s.size → ¬ bt s 9 ≤ 4 → fmB s = false) := fun a b c => fmB_big (hk.out.trans a) b c
  have hme : Hid (k = 5 → 9 < s.size → many s = bt s 9) := fun a b => by unfold many; rw [if_pos ⟨hk.out.trans a, b⟩]
  have hmn : Hid (¬ k = 5 → many s = 0) := fun a => by unfold many; rw [if_neg (fun z => a (hk.out.symm.trans z.1))]
  generalize many s = M at *
  go_enter Tryd.func29, Tryd.ntmps29
  go_wp2_with fail
  rw [hxk.out]
  refine (fieldsOf_any k _).mono ?_
  rintro e w1 ⟨aF, nF, cF, rfl, hnF, hcF, oF, hw⟩
  rw [hF.out] at hnF oF
  subst hnF
  have HF : Hid (RowAt w1 aF F) := oF.rowAt
  have HB : Hid (Below w.heap.size w w1) := hw
  clear oF hw hF hcF hk
  go_wp2_with fail
  go_loop [3, 11] (fun vn vi => ∃ j : Nat, j ≤ F.length ∧ vi = .int .i64 j ∧ vn = .int .i64 (lnj k M j + 1) ∧ Hid (k = 5 ∧ j = 2 → M ≤ 4)) (fun vn vi => F.length - (intOf vi).toNat)
  case atStart => exact ⟨0, by omega, rfl, by rw [lnj_zero]; rfl, fun h => by omega⟩
  case round =>
    obtain ⟨j, hj, rfl, rfl, hJ⟩ := hrel
    by_cases hlt : j < F.length
    · obtain ⟨bk, off, rfl⟩ := rowAt_form HF.out (by omega)
      have hc1 := (rowAt_cell HF.out (by omega)).2 j hlt
      have hb := h5.out j hlt
      have n2 : ¬ (k = 5 ∧ j = 2) := fun h => by have := h2 h.1; omega
      have hl : Hid (lnj k M j = 6 + 2 * (j : Int)) := by unfold Hid lnj; rw [if_neg n2]; omega
      by_cases hx : F.getD j 0 = 5
      · have hkj := hb.1 hx
        have he : (F.getD j 0 == 5) = true := beq_iff_eq.2 hx
        obtain ⟨hk5, rfl⟩ := hkj
        have hl9 : lnj k M 1 + 1 = 9 := by rw [hl.out]; rfl
        rw [hl9]
        clear hx hb hl hl9
        generalize F.getD 1 0 = z at hc1 he
        by_cases h9 : 9 < s.size
        · have hy := UInt8.toNat_lt s[9]
          have hbt := bt_eq h9
          by_cases h4 : bt s 9 ≤ 4
          · have hM := hme.out hk5 h9
            have h4' : s[9].toNat ≤ 4 := by omega
            have K5 : Hid (k = 5) := hk5
            have K2 : Hid (F.length = 2) := h2 hk5
            have KM : Hid (M = (s[9].toNat : Int)) := by unfold Hid; omega
            clear hk5 h2 hsh hbg hme hmn hfo hM hbt h4 hm
            go_wp2
            go_round
            case rel =>
              have hq : lnj k M 2 = 6 + 2 * ((2 : Nat) : Int) + (2 * M - 1) := by unfold lnj; rw [if_pos ⟨K5.out, rfl⟩]
              exact ⟨2, by have := K2.out; omega, rfl, by rw [hq]; have := KM.out; go_num, fun _ => by have := KM.out; omega⟩
            case measure => simp [intOf]; omega
          · have hv := hbg.out hk5 h9 (by omega)
            have h4' : ¬ s[9].toNat ≤ 4 := by omega
            go_wp2_with (first | (go_at_call 38; refine (faultAt_any _ _ _).mono ?_; rintro e w2 ⟨rfl, rfl⟩))
            go_ret
            exact ⟨⟨_, rfl, .inr ⟨hv, _, rfl⟩⟩, HB.out⟩
        · have hv := hsh.out hk5 h9
          go_wp2_with (first | (go_at_call 38; refine (faultAt_any _ _ _).mono ?_; rintro e w2 ⟨rfl, rfl⟩))
          go_ret
          exact ⟨⟨_, rfl, .inr ⟨hv, _, rfl⟩⟩, HB.out⟩
      · have hkj : ¬ (k = 5 ∧ j = 1) := fun h => hx (hb.2 h)
        have he : (F.getD j 0 == 5) = false := beq_eq_false_iff_ne.2 hx
        have n1 : ¬ (k = 5 ∧ j + 1 = 2) := fun h => hkj ⟨h.1, by omega⟩
        have hl1 : Hid (lnj k M (j + 1) = 6 + 2 * (j : Int) + 2) := by unfold Hid lnj; rw [if_neg n1]; omega
        rw [hl.out]
        clear hx hb
        generalize F.getD j 0 = z at hc1 he
        go_wp2
        go_round
        case rel => exact ⟨j + 1, by omega, by go_num, by rw [hl1.out]; go_num, fun h => absurd h n1⟩
        case measure => simp [intOf]; omega
    · have : j = F.length := by omega
      subst this
      have HM : Hid (M ≤ 4) := by
        unfold Hid
        by_cases hk5 : k = 5
        · exact hJ.out ⟨hk5, h2 hk5⟩
        · have := hmn.out hk5; omega
      have hb2 : 0 ≤ lnj k M F.length ∧ lnj k M F.length ≤ 1000 := by
        unfold lnj; split <;> omega
      have hfo2 : Hid _ := hfo.out HM.out
      clear hfo hsh hbg hme hmn hJ h2 hj hlt
      generalize lnj k M F.length = n at *
      obtain ⟨b1, b2⟩ := hb2
      by_cases hq : (s.size : Int) - 1 = n
      · have hv : Hid (fmB s = true) := hfo2.out.trans (decide_eq_true hq)
        have hq2 : n + 1 = (s.size : Int) := by omega
        clear hq hfo2
        go_wp2
        go_ret
        exact ⟨⟨_, rfl, .inl ⟨hv.out, rfl⟩⟩, HB.out⟩
      · have hv : Hid (fmB s = false) := hfo2.out.trans (decide_eq_false hq)
        have hq2 : ¬ n + 1 = (s.size : Int) := by omega
        clear hq hfo2
        go_wp2_with (first | (go_at_call 38; refine (faultAt_any _ _ _).mono ?_; rintro e w2 ⟨rfl, rfl⟩))
        all_goals go_ret
        all_goals exact ⟨⟨_, rfl, .inr ⟨hv.out, _, rfl⟩⟩, HB.out⟩
end Go.Proofs.YtabbicfakkehpaaDoor
