/- The contracts of the specification's functions on a ring. -/
import Derived.Test.YtejajlloipkkhaaR1
import Derived.Test.YtejajlloipkkhaaA4
namespace Go.Proofs.Ytejajlloipkkhaa
open Go.RowKit
set_option linter.unusedVariables false

set_option maxHeartbeats 1600000 in
theorem lrising_any (a : Option Addr) (cap : Nat) (zs : List Int) (lo hi : Int) (w : World) (hm : zs.length ≤ maxLen) (hr : RowAt w a zs) :
    Calls Try.prog 122 #[.slice a zs.length cap, .int .i64 lo, .int .i64 hi] w fun e w' => e = .returned (.bool (risB zs lo hi)) ∧ w' = w := by
  unfold maxLen at hm
  have HR : Hid (RowAt w a zs) := hr
  clear hr
  go_enter Try.func122, Try.ntmps122
  go_wp2_with fail
  go_loop [11] (fun v => ∃ k : Nat, k ≤ zs.length ∧ v = .int .i64 k ∧ Hid (∀ i, i < k → (lo ≤ zs.getD i 0 ∧ zs.getD i 0 ≤ hi) ∧ (0 < i → zs.getD (i - 1) 0 < zs.getD i 0))) (fun v => zs.length - (intOf v).toNat)
  case atStart => exact ⟨0, Nat.zero_le _, rfl, fun i hi => by omega⟩
  case round =>
    obtain ⟨k, hk, rfl, hs⟩ := hrel
    by_cases hlt : k < zs.length
    · obtain ⟨bk, off, rfl⟩ := rowAt_form HR.out (by omega)
      have hc1 := (rowAt_cell HR.out (by omega)).2 k hlt
      cases hn : inB (zs.getD k 0) lo hi
      · have hv : Hid (risB zs lo hi = false) := risB_no hlt (fun g => inB_false hn g.1)
        generalize zs.getD k 0 = z at hc1 hn
        go_wp2_with (go_at_call 54; refine (lin_any _ _ _ _).mono ?_; rintro e w1 ⟨rfl, rfl⟩)
        go_ret
        exact ⟨ret_bool hv.out.symm, rfl⟩
      · by_cases h0 : 0 < k
        · have hc2 := (rowAt_cell HR.out (by omega)).2 (k - 1) (by omega)
          by_cases hx : zs.getD (k - 1) 0 < zs.getD k 0
          · have hn2 : Hid (∀ i, i < k + 1 → (lo ≤ zs.getD i 0 ∧ zs.getD i 0 ≤ hi) ∧ (0 < i → zs.getD (i - 1) 0 < zs.getD i 0)) := fun i hi => by
              by_cases he : i = k
              · subst he; exact ⟨inB_true hn, fun _ => hx⟩
              · exact hs.out i (by omega)
            generalize zs.getD k 0 = z at hc1 hn hx
            generalize zs.getD (k - 1) 0 = y at hc2 hx
            go_wp2_with (go_at_call 54; refine (lin_any _ _ _ _).mono ?_; rintro e w1 ⟨rfl, rfl⟩)
            go_round
            case rel => exact ⟨k + 1, by omega, by go_num, hn2⟩
            case measure => simp [intOf]; omega
          · have hv : Hid (risB zs lo hi = false) := risB_no hlt (fun g => hx (g.2 h0))
            generalize zs.getD k 0 = z at hc1 hn hx
            generalize zs.getD (k - 1) 0 = y at hc2 hx
            go_wp2_with (go_at_call 54; refine (lin_any _ _ _ _).mono ?_; rintro e w1 ⟨rfl, rfl⟩)
            go_ret
            exact ⟨ret_bool hv.out.symm, rfl⟩
        · have hn2 : Hid (∀ i, i < k + 1 → (lo ≤ zs.getD i 0 ∧ zs.getD i 0 ≤ hi) ∧ (0 < i → zs.getD (i - 1) 0 < zs.getD i 0)) := fun i hi => by
            obtain rfl : i = k := by omega
            exact ⟨inB_true hn, fun h => by omega⟩
          generalize zs.getD k 0 = z at hc1 hn
          go_wp2_with (go_at_call 54; refine (lin_any _ _ _ _).mono ?_; rintro e w1 ⟨rfl, rfl⟩)
          go_round
          case rel => exact ⟨k + 1, by omega, by go_num, hn2⟩
          case measure => simp [intOf]; omega
    · have hv : Hid (risB zs lo hi = true) := risB_yes (fun i hi => hs.out i (by omega))
      go_wp2
      go_ret
      exact ⟨ret_bool hv.out.symm, rfl⟩

set_option maxHeartbeats 800000 in
theorem lhas_any (a : Option Addr) (cap : Nat) (zs : List Int) (x : Int) (w : World) (hm : zs.length ≤ maxLen) (hr : RowAt w a zs) :
    Calls Try.prog 93 #[.slice a zs.length cap, .int .i64 x] w fun e w' => e = .returned (.bool (hasB zs x)) ∧ w' = w := by
  unfold maxLen at hm
  have HR : Hid (RowAt w a zs) := hr
  clear hr
  go_enter Try.func93, Try.ntmps93
  go_wp2_with fail
  go_loop [9] (fun v => ∃ k : Nat, k ≤ zs.length ∧ v = .int .i64 k ∧ Hid (∀ i, i < k → ¬ zs.getD i 0 = x)) (fun v => zs.length - (intOf v).toNat)
  case atStart => exact ⟨0, Nat.zero_le _, rfl, fun i hi => by omega⟩
  case round =>
    obtain ⟨k, hk, rfl, hs⟩ := hrel
    by_cases hlt : k < zs.length
    · obtain ⟨bk, off, rfl⟩ := rowAt_form HR.out (by omega)
      have hc1 := (rowAt_cell HR.out (by omega)).2 k hlt
      by_cases hx : zs.getD k 0 = x
      · have hv : Hid (hasB zs x = true) := decide_eq_true ⟨k, hlt, hx⟩
        have he : (zs.getD k 0 == x) = true := beq_iff_eq.2 hx
        clear hx
        generalize zs.getD k 0 = z at hc1 he
        go_wp2
        go_ret
        exact ⟨ret_bool hv.out.symm, rfl⟩
      · have hn : Hid (∀ i, i < k + 1 → ¬ zs.getD i 0 = x) := fun i hi => by
          by_cases he : i = k
          · subst he; exact hx
          · exact hs.out i (by omega)
        have he : (zs.getD k 0 == x) = false := by simp only [beq_eq_false_iff_ne, ne_eq]; exact hx
        clear hx
        generalize zs.getD k 0 = z at hc1 he
        go_wp2
        go_round
        case rel => exact ⟨k + 1, by omega, by go_num, hn⟩
        case measure => simp [intOf]; omega
    · have hv : Hid (hasB zs x = false) := decide_eq_false (fun ⟨i, hi, he⟩ => hs.out i (by omega) he)
      go_wp2
      go_ret
      exact ⟨ret_bool hv.out.symm, rfl⟩

set_option maxHeartbeats 1600000 in
theorem lring_any (b d : Int) (a : Option Addr) (cap : Nat) (zs : List Int) (w : World) (hm : zs.length ≤ maxLen) (hr : RowAt w a zs) :
    Calls Try.prog 98 #[.agg #[.int .i64 b, .int .i64 d], .slice a zs.length cap] w fun e w' => e = .returned (.bool (ringB b d zs)) ∧ Below w.heap.size w w' := by
  have HR : Hid (RowAt w a zs) := hr
  clear hr
  unfold ringB
  cases hg : gsB b d
  · go_enter Try.func98, Try.ntmps98
    go_wp2_with (go_at_call 100; refine (lspace_any _ _ _).mono ?_; rintro e w1 ⟨rfl, hw1⟩)
    go_ret
    exact ⟨rfl, bel1 hw1 (by simp)⟩
  · obtain ⟨hb1, hb2, _, _, _⟩ := gsB_true hg
    obtain ⟨hs1, hs2⟩ := sz_bd hb1 hb2
    cases hl : inB (zs.length : Int) 1 16
    · go_enter Try.func98, Try.ntmps98
      go_wp2_with (first | (go_at_call 100; refine (lspace_any _ _ _).mono ?_; rintro e w1 ⟨rfl, hw1⟩; have hc1 := bcell hw1) | (go_at_call 54; refine (lin_any _ _ _ _).mono ?_; rintro e w2 ⟨rfl, rfl⟩))
      go_ret
      exact ⟨rfl, bel1 hw1 (by simp)⟩
    · cases hv : risB zs 0 (sz b - 1)
      all_goals
        go_enter Try.func98, Try.ntmps98
        go_wp2_with (first | (go_at_call 100; refine (lspace_any _ _ _).mono ?_; rintro e w1 ⟨rfl, hw1⟩; have hc1 := bcell hw1) | (go_at_call 54; refine (lin_any _ _ _ _).mono ?_; rintro e w2 ⟨rfl, rfl⟩) | (go_at_call 76; refine (lsize_any _ _ _ hb1 hb2).mono ?_; rintro e w3 ⟨rfl, hw3⟩) | (go_at_call 122; refine (lrising_any a cap zs _ _ _ hm (HR.out.keep (belt (bel1 hw1 (by simp)) hw3))).mono ?_; rintro e w4 ⟨rfl, rfl⟩))
        go_ret
        exact ⟨rfl, belt (bel1 hw1 (by simp)) hw3⟩

def askB (b d : Int) (zs : List Int) (x : Int) : Bool := ringB b d zs && numB b d x

end Go.Proofs.Ytejajlloipkkhaa
