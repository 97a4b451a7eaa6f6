/- A region whose order is fixed, in a class of worlds: a quiet walk of it serves. -/
import Derived.Test.YtejajlloipkkhaaJ0Z
namespace Go.Proofs.Ytejajlloipkkhaa
open Go.RowKit
set_option linter.unusedVariables false
theorem list_of_quiet {P : Program} {ops : Array Oper} {C : World → Prop} {Q : Exit → Act → World → Prop} : ∀ (l : List Oper) (a : Act) (w : World), C w → wpQuiet P ops C (fun a' => ∀ w', C w' → Q .normal a' w') l a → wpList P ops Q l a w
  | [], a, w, hw, h => h w hw
  | o :: l, a, w, hw, h => by
    unfold wpQuiet at h
    unfold wpList
    by_cases hwd : Region.wanted o (yielded ops a.tmps) = true
    · rw [if_pos hwd] at h ⊢
      exact .inl (Oper.wp_of_quiet hw (fun a' w' hw' hk => list_of_quiet l a' w' hw' hk) h)
    · rw [if_neg hwd] at h ⊢
      exact list_of_quiet l _ w hw h
theorem region_kin_seq {P : Program} {id : Nat} {Q : Exit → Act → World → Prop} {a : Act} {w : World} {l : List Oper} (B : Nat)
    (h : Nonempty (Kin B w) → wpQuiet P l.toArray (fun w' => ∃ p : Kin B w, w' = p.v) (fun a' => ∀ w', (∃ p : Kin B w, w' = p.v) → Q .normal a' w') l a) : (Code.region id l.toArray false).wp P Q a w :=
  wp_region_lit (list_of_quiet (C := fun w' => ∃ p : Kin B w, w' = p.v) l a w ⟨⟨w, Below.refl _ _⟩, rfl⟩ (h ⟨⟨w, Below.refl _ _⟩⟩))
end Go.Proofs.Ytejajlloipkkhaa
