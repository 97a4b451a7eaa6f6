/- The contracts of the list checks of the specification, and of DistOf, InArc, Between on both sides. -/
import Derived.Test.YtpgngfdhnoonjaaA2
namespace Go.Proofs.Ytpgngfdhnoonjaa
open Go.RowKit
set_option linter.unusedVariables false

/-- a slice of ints that reads as zs -/
def RowAt (w : World) (a : Option Addr) (zs : List Int) : Prop :=
  zs = [] ∨ ∃ b off, a = some ⟨b, off, none⟩ ∧ b < w.heap.size ∧ ∀ i, i < zs.length → w.cell? ⟨b, off + i, none⟩ = some (.int .i64 (zs.getD i 0))

theorem RowAt.keep {w w1 : World} {a : Option Addr} {zs : List Int} (h : RowAt w a zs) (hb : Below w.heap.size w w1) : RowAt w1 a zs := by
  rcases h with h | ⟨b, off, ha, hl, hc⟩
  · exact .inl h
  · exact .inr ⟨b, off, ha, Nat.lt_of_lt_of_le hl hb.size, fun i hi => (hb.cell (p := ⟨b, off + i, none⟩) hl).trans (hc i hi)⟩

def allB (zs : List Int) (lo hi : Int) : Bool := zs.all fun n => inB n lo hi
theorem allB_take {zs : List Int} {lo hi : Int} {k : Nat} (hk : k < zs.length) (h : allB (zs.take k) lo hi = true) (h1 : inB (zs.getD k 0) lo hi = true) : allB (zs.take (k + 1)) lo hi = true := by
  unfold allB at *
  rw [List.take_succ_eq_append_getElem hk, List.all_append, h]
  simpa [List.getD_eq_getElem?_getD, List.getElem?_eq_getElem hk] using h1
theorem allB_false {zs : List Int} {lo hi : Int} {k : Nat} (hk : k < zs.length) (h1 : inB (zs.getD k 0) lo hi = false) : allB zs lo hi = false := by
  unfold allB
  rw [List.all_eq_false]
  refine ⟨zs.getD k 0, ?_, by rw [h1]; decide⟩
  simp [List.getD_eq_getElem?_getD, List.getElem?_eq_getElem hk]

set_option maxHeartbeats 800000 in
theorem lall_some (b off cap : Nat) (zs : List Int) (lo hi : Int) (w : World) (hm : zs.length ≤ maxLen) (hc : ∀ i, i < zs.length → w.cell? ⟨b, off + i, none⟩ = some (.int .i64 (zs.getD i 0))) :
    Calls Try.prog 73 #[.slice (some ⟨b, off, none⟩) zs.length cap, .int .i64 lo, .int .i64 hi] w fun e w' => e = .returned (.bool (allB zs lo hi)) ∧ w' = w := by
  unfold maxLen at hm
  go_enter Try.func73, Try.ntmps73
  go_wp2
  go_loop [11] (fun i => ∃ k : Nat, k ≤ zs.length ∧ i = .int .i64 k ∧ allB (zs.take k) lo hi = true) (fun i => zs.length - (intOf i).toNat)
  case atStart => exact ⟨0, Nat.zero_le _, rfl, rfl⟩
  case round =>
    obtain ⟨k, hk, rfl, hr⟩ := hrel
    have HR : Hid (allB (zs.take k) lo hi = true) := hr
    clear hr
    by_cases hlt : k < zs.length
    · have hcell : w.cell? ⟨b, off + k, none⟩ = some (.int .i64 (zs.getD k 0)) := hc k hlt
      clear hc
      cases hin : inB (zs.getD k 0) lo hi
      · have hv : Hid (allB zs lo hi = false) := allB_false hlt hin
        generalize zs.getD k 0 = z at hcell hin
        go_wp2_with (go_at_call 54; refine (lin_any _ _ _ _).mono ?_; rintro e w' ⟨rfl, rfl⟩)
        go_ret
        exact ⟨ret_bool hv.out.symm, rfl⟩
      · have hv : Hid (allB (zs.take (k + 1)) lo hi = true) := allB_take hlt HR.out hin
        generalize zs.getD k 0 = z at hcell hin
        go_wp2_with (go_at_call 54; refine (lin_any _ _ _ _).mono ?_; rintro e w' ⟨rfl, rfl⟩)
        go_round
        case rel => exact ⟨k + 1, by omega, by go_num, hv.out⟩
        case measure => simp [intOf]; omega
    · have hv : Hid (allB zs lo hi = true) := by have := HR.out; rwa [List.take_of_length_le (by omega)] at this
      go_wp2
      go_ret
      exact ⟨ret_bool hv.out.symm, rfl⟩

theorem lall_nil (lo hi : Int) (w : World) :
    Calls Try.prog 73 #[.slice none 0 0, .int .i64 lo, .int .i64 hi] w fun e w' => e = .returned (.bool (allB [] lo hi)) ∧ w' = w := by
  go_enter Try.func73, Try.ntmps73
  go_wp2
  go_loop [11] (fun i => i = .int .i64 0) (fun i => 0)
  case atStart => rfl
  case round =>
    subst hrel
    go_wp2
    go_ret
    exact ⟨rfl, rfl⟩
end Go.Proofs.Ytpgngfdhnoonjaa
