/- SameMsg on both sides, and two messages that are the same held against each other. -/
import Derived.Test.YtabbicfakkehpaaDoorF2
namespace Go.Proofs.YtabbicfakkehpaaDoor
open Go.RowKit
set_option linter.unusedVariables false
def hdB (x0 x1 x2 x3 x4 x5 x6 x7 y0 y1 y2 y3 y4 y5 y6 y7 : Int) : Bool := decide (x0 = y0 ∧ x1 = y1 ∧ x2 = y2 ∧ x3 = y3 ∧ x4 = y4 ∧ x5 = y5 ∧ x6 = y6 ∧ x7 = y7)
theorem hdB_yes (x0 x1 x2 x3 x4 x5 x6 x7 : Int) : hdB x0 x1 x2 x3 x4 x5 x6 x7 x0 x1 x2 x3 x4 x5 x6 x7 = true := decide_eq_true ⟨rfl, rfl, rfl, rfl, rfl, rfl, rfl, rfl⟩
theorem hdB_true {x0 x1 x2 x3 x4 x5 x6 x7 y0 y1 y2 y3 y4 y5 y6 y7 : Int} (h : hdB x0 x1 x2 x3 x4 x5 x6 x7 y0 y1 y2 y3 y4 y5 y6 y7 = true) : x0 = y0 ∧ x1 = y1 ∧ x2 = y2 ∧ x3 = y3 ∧ x4 = y4 ∧ x5 = y5 ∧ x6 = y6 ∧ x7 = y7 := of_decide_eq_true h
theorem hdB_no0 {x0 x1 x2 x3 x4 x5 x6 x7 y0 y1 y2 y3 y4 y5 y6 y7 : Int} (b : Bool) (h : ¬ x0 = y0) : (hdB x0 x1 x2 x3 x4 x5 x6 x7 y0 y1 y2 y3 y4 y5 y6 y7 && b) = false := by rw [show hdB x0 x1 x2 x3 x4 x5 x6 x7 y0 y1 y2 y3 y4 y5 y6 y7 = false from decide_eq_false (fun k => h k.1)]; rfl
theorem hdB_no1 {x0 x1 x2 x3 x4 x5 x6 x7 y0 y1 y2 y3 y4 y5 y6 y7 : Int} (b : Bool) (h : ¬ x1 = y1) : (hdB x0 x1 x2 x3 x4 x5 x6 x7 y0 y1 y2 y3 y4 y5 y6 y7 && b) = false := by rw [show hdB x0 x1 x2 x3 x4 x5 x6 x7 y0 y1 y2 y3 y4 y5 y6 y7 = false from decide_eq_false (fun k => h k.2.1)]; rfl
theorem hdB_no2 {x0 x1 x2 x3 x4 x5 x6 x7 y0 y1 y2 y3 y4 y5 y6 y7 : Int} (b : Bool) (h : ¬ x2 = y2) : (hdB x0 x1 x2 x3 x4 x5 x6 x7 y0 y1 y2 y3 y4 y5 y6 y7 && b) = false := by rw [show hdB x0 x1 x2 x3 x4 x5 x6 x7 y0 y1 y2 y3 y4 y5 y6 y7 = false from decide_eq_false (fun k => h k.2.2.1)]; rfl
theorem hdB_no3 {x0 x1 x2 x3 x4 x5 x6 x7 y0 y1 y2 y3 y4 y5 y6 y7 : Int} (b : Bool) (h : ¬ x3 = y3) : (hdB x0 x1 x2 x3 x4 x5 x6 x7 y0 y1 y2 y3 y4 y5 y6 y7 && b) = false := by rw [show hdB x0 x1 x2 x3 x4 x5 x6 x7 y0 y1 y2 y3 y4 y5 y6 y7 = false from decide_eq_false (fun k => h k.2.2.2.1)]; rfl
theorem hdB_no4 {x0 x1 x2 x3 x4 x5 x6 x7 y0 y1 y2 y3 y4 y5 y6 y7 : Int} (b : Bool) (h : ¬ x4 = y4) : (hdB x0 x1 x2 x3 x4 x5 x6 x7 y0 y1 y2 y3 y4 y5 y6 y7 && b) = false := by rw [show hdB x0 x1 x2 x3 x4 x5 x6 x7 y0 y1 y2 y3 y4 y5 y6 y7 = false from decide_eq_false (fun k => h k.2.2.2.2.1)]; rfl
theorem hdB_no5 {x0 x1 x2 x3 x4 x5 x6 x7 y0 y1 y2 y3 y4 y5 y6 y7 : Int} (b : Bool) (h : ¬ x5 = y5) : (hdB x0 x1 x2 x3 x4 x5 x6 x7 y0 y1 y2 y3 y4 y5 y6 y7 && b) = false := by rw [show hdB x0 x1 x2 x3 x4 x5 x6 x7 y0 y1 y2 y3 y4 y5 y6 y7 = false from decide_eq_false (fun k => h k.2.2.2.2.2.1)]; rfl
theorem hdB_no6 {x0 x1 x2 x3 x4 x5 x6 x7 y0 y1 y2 y3 y4 y5 y6 y7 : Int} (b : Bool) (h : ¬ x6 = y6) : (hdB x0 x1 x2 x3 x4 x5 x6 x7 y0 y1 y2 y3 y4 y5 y6 y7 && b) = false := by rw [show hdB x0 x1 x2 x3 x4 x5 x6 x7 y0 y1 y2 y3 y4 y5 y6 y7 = false from decide_eq_false (fun k => h k.2.2.2.2.2.2.1)]; rfl
theorem hdB_no7 {x0 x1 x2 x3 x4 x5 x6 x7 y0 y1 y2 y3 y4 y5 y6 y7 : Int} (b : Bool) (h : ¬ x7 = y7) : (hdB x0 x1 x2 x3 x4 x5 x6 x7 y0 y1 y2 y3 y4 y5 y6 y7 && b) = false := by rw [show hdB x0 x1 x2 x3 x4 x5 x6 x7 y0 y1 y2 y3 y4 y5 y6 y7 = false from decide_eq_false (fun k => h k.2.2.2.2.2.2.2)]; rfl
set_option maxHeartbeats 1600000 in
theorem eqMsg_own (x0 x1 x2 x3 x4 x5 x6 x7 : Int) (a a' : Option Addr) (cap cap' n : Nat) (l : List Int) (w : World) (hn : l.length = n) (hm : n ≤ 1048576) (hx : RowAt w a l) (hy : RowAt w a' l) :
    Calls Tryd.prog 7 #[.agg #[.int .i64 x0, .int .i64 x1, .int .i64 x2, .int .i64 x3, .int .i64 x4, .int .i64 x5, .int .i64 x6, .int .i64 x7, .slice a n cap], .agg #[.int .i64 x0, .int .i64 x1, .int .i64 x2, .int .i64 x3, .int .i64 x4, .int .i64 x5, .int .i64 x6, .int .i64 x7, .slice a' n cap']] w fun e w' => e = .returned (.bool true) ∧ Below w.heap.size w w' := by
  have HX : Hid (RowAt w a l) := hx
  have HY : Hid (RowAt w a' l) := hy
  clear hx hy
  go_enter Tryd.func7, Tryd.ntmps7
  go_wp2_with (go_at_call 18; refine (eqIntS_own a a' cap cap' n l _ hn hm (HX.out.keep (((Below.refl _ _).alloc (Nat.le_refl _) _).alloc (by simp) _)) (HY.out.keep (((Below.refl _ _).alloc (Nat.le_refl _) _).alloc (by simp) _))).mono ?_; rintro e w1 ⟨rfl, hw⟩)
  go_ret
  exact ⟨rfl, bel2 hw (by simp; try omega)⟩
end Go.Proofs.YtabbicfakkehpaaDoor
