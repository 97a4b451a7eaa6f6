/- SameMsg on both sides, and two messages that are the same held against each other. -/
import Derived.Test.YtpgngfdhnoonjaaF2
namespace Go.Proofs.Ytpgngfdhnoonjaa.Wire
open Go.RowKit
set_option linter.unusedVariables false
def hdB (x0 x1 x2 x3 x4 x5 x6 x7 y0 y1 y2 y3 y4 y5 y6 y7 : Int) : Bool := decide (x0 = y0 ∧ x1 = y1 ∧ x2 = y2 ∧ x3 = y3 ∧ x4 = y4 ∧ x5 = y5 ∧ x6 = y6 ∧ x7 = y7)
theorem hdB_yes (x0 x1 x2 x3 x4 x5 x6 x7 : Int) : hdB x0 x1 x2 x3 x4 x5 x6 x7 x0 x1 x2 x3 x4 x5 x6 x7 = true := decide_eq_true ⟨rfl, rfl, rfl, rfl, rfl, rfl, rfl, rfl⟩
theorem hdB_true {x0 x1 x2 x3 x4 x5 x6 x7 y0 y1 y2 y3 y4 y5 y6 y7 : Int} (h : hdB x0 x1 x2 x3 x4 x5 x6 x7 y0 y1 y2 y3 y4 y5 y6 y7 = true) : x0 = y0 ∧ x1 = y1 ∧ x2 = y2 ∧ x3 = y3 ∧ x4 = y4 ∧ x5 = y5 ∧ x6 = y6 ∧ x7 = y7 := of_decide_eq_true h
theorem hdB_no0 {x0 x1 x2 x3 x4 x5 x6 x7 y0 y1 y2 y3 y4 y5 y6 y7 : Int} (b : Bool) (h : ¬ x0 = y0) : (hdB x0 x1 x2 x3 x4 x5 x6 x7 y0 y1 y2 y3 y4 y5 y6 y7 && b) = false := by rw [show hdB x0 x1 x2 x3 x4 x5 x6 x7 y0 y1 y2 y3 y4 y5 y6 y7 = false from decide_eq_false (fun k => h k.1)]; rfl
theorem hdB_no1 {x0 x1 x2 x3 x4 x5 x6 x7 y0 y1 y2 y3 y4 y5 y6 y7 : Int} (b : Bool) (h : ¬ x1 = y1) : (hdB x0 x1 x2 x3 x4 x5 x6 x7 y0 y1 y2 y3 y4 y5 y6 y7 && b) = false := by rw [show hdB x0 x1 x2 x3 x4 x5 x6 x7 y0 y1 y2 y3 y4 y5 y6 y7 = false from decide_eq_false (fun k => h k.2.1)]; rfl
theorem hdB_no2 {x0 x1 x2 x3 x4 x5 x6 x7 y0 y1 y2 y3 y4 y5 y6 y7 : Int} (b : Bool) (h : ¬ x2 = y2) : (hdB x0 x1 x2 x3 x4 x5 x6 x7 y0 y1 y2 y3 y4 y5 y6 y7 && b) = false := by rw [show hdB x0 x1 x2 x3 x4 x5 x6 x7 y0 y1 y2 y3 y4 y5 y6 y7 = false from decide_eq_false (fun k => h k.2.2.1)]; rfl
theorem hdB_no3 {x0 x1 x2 x3 x4 x5 x6 x7 y0 y1 y2 y3 y4 y5 y6 y7 : Int} (b : Bool) (h : ¬ x3 = y3) : (hdB x0 x1 x2 x3 x4 x5 x6 x7 y0 y1 y2 y3 y4 y5 y6 y7 && b) = false := by rw [show hdB x0 x1 x2 x3 x4 x5 x6 x7 y0 y1 y2 y3 y4 y5 y6 y7 = false from decide_eq_false (fun k => h k.2.2.2.1)]; rfl
theorem hdB_no4 {x0 x1 x2 x3 x4 x5 x6 x7 y0 y1 y2 y3 y4 y5 y6 y7 : Int} (b : Bool) (h : ¬ x4 = y4) : (hdB x0 x1 x2 x3 x4 x5 x6 x7 y0 y1 y2 y3 y4 y5 y6 y7 && b) = false := by rw [show hdB x0 x1 x2 x3 x4 x5 x6 x7 y0 y1 y2 y3 y4 y5 y6 y7 = false from decide_eq_false (fun k => h k.2.2.2.2.1)]; rfl
theorem hdB_no5 {x0 x1 x2 x3 x4 x5 x6 x7 y0 y1 y2 y3 y4 y5 y6 y7 : Int} (b : Bool) (h : ¬ x5 = y5) : (hdB x0 x1 x2 x3 x4 x5 x6 x7 y0 y1 y2 y3 y4 y5 y6 y7 && b) = false := by rw [show hdB x0 x1 x2 x3 x4 x5 x6 x7 y0 y1 y2 y3 y4 y5 y6 y7 = false from decide_eq_false (fun k => h k.2.2.2.2.2.1)]; rfl
theorem hdB_no6 {x0 x1 x2 x3 x4 x5 x6 x7 y0 y1 y2 y3 y4 y5 y6 y7 : Int} (b : Bool) (h : ¬ x6 = y6) : (hdB x0 x1 x2 x3 x4 x5 x6 x7 y0 y1 y2 y3 y4 y5 y6 y7 && b) = false := by rw [show hdB x0 x1 x2 x3 x4 x5 x6 x7 y0 y1 y2 y3 y4 y5 y6 y7 = false from decide_eq_false (fun k => h k.2.2.2.2.2.2.1)]; rfl
theorem hdB_no7 {x0 x1 x2 x3 x4 x5 x6 x7 y0 y1 y2 y3 y4 y5 y6 y7 : Int} (b : Bool) (h : ¬ x7 = y7) : (hdB x0 x1 x2 x3 x4 x5 x6 x7 y0 y1 y2 y3 y4 y5 y6 y7 && b) = false := by rw [show hdB x0 x1 x2 x3 x4 x5 x6 x7 y0 y1 y2 y3 y4 y5 y6 y7 = false from decide_eq_false (fun k => h k.2.2.2.2.2.2.2)]; rfl
end Go.Proofs.Ytpgngfdhnoonjaa.Wire
