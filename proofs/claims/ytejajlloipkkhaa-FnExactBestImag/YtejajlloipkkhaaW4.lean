/- The specification's sameness of peers. -/
import Derived.Test.YtejajlloipkkhaaW3
namespace Go.Proofs.Ytejajlloipkkhaa
open Go.RowKit
set_option linter.unusedVariables false
def smP (p q : Pr) : Bool := decide (p.id = q.id ∧ p.succ = q.succ ∧ p.point = q.point) && sameB p.backs q.backs
def sameP (ps qs : List Pr) : Bool := decide (ps.length = qs.length) && decide (∀ i, i < ps.length → smP (ps.getD i pr0) (qs.getD i pr0) = true)
theorem smP_parts {p q : Pr} : smP p q = true ↔ p.id = q.id ∧ p.succ = q.succ ∧ p.point = q.point ∧ sameB p.backs q.backs = true := by
  unfold smP
  simp only [Bool.and_eq_true, decide_eq_true_eq, and_assoc]
theorem sameP_no {ps qs : List Pr} {k : Nat} (hk : k < ps.length) (h : ¬ smP (ps.getD k pr0) (qs.getD k pr0) = true) : sameP ps qs = false := by
  unfold sameP
  rw [decide_eq_false (p := ∀ i, i < ps.length → smP (ps.getD i pr0) (qs.getD i pr0) = true) (fun hh => h (hh k hk)), Bool.and_false]
theorem sameP_yes {ps qs : List Pr} (hl : ps.length = qs.length) (h : ∀ i, i < ps.length → smP (ps.getD i pr0) (qs.getD i pr0) = true) : sameP ps qs = true := by
  unfold sameP
  rw [decide_eq_true hl, decide_eq_true h]; rfl
end Go.Proofs.Ytejajlloipkkhaa
