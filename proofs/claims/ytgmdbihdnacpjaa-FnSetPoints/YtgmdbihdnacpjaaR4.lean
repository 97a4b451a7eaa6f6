/- The exported functions of chapter 2 that answer a number, in the program and in its specification. -/
import Derived.Test.YtgmdbihdnacpjaaR3
namespace Go.Proofs.Ytgmdbihdnacpjaa
open Go.RowKit
set_option linter.unusedVariables false

def oVal (b d : Int) (zs : List Int) (x v : Int) : Int := if askB b d zs x = true then v else 0
def okG (b d : Int) (zs : List Int) (x : Int) : Bool := ringB b d zs && memI zs x
def gVal (b d : Int) (zs : List Int) (x v : Int) : Int := if okG b d zs x = true then v else 0
theorem okG_ask {b d : Int} {zs : List Int} {x : Int} (h : okG b d zs x = true) : askB b d zs x = true ∧ hasB zs x = true ∧ Ring b d zs ∧ 0 ≤ x ∧ x < sz b := by
  unfold okG at h
  rw [Bool.and_eq_true] at h
  have R := ringB_true h.1
  obtain ⟨j, hj, rfl⟩ := mem_place R h.2
  have r := R.rng j hj
  refine ⟨?_, ?_, R, r.1, r.2⟩
  · unfold askB; rw [h.1, numB_yes R.gs r.1 r.2]; rfl
  · rw [← mem_has R]; exact h.2
theorem okG_no {b d : Int} {zs : List Int} {x : Int} (h : okG b d zs x = false) : askB b d zs x = false ∨ (askB b d zs x = true ∧ hasB zs x = false) := by
  cases ha : askB b d zs x
  · exact .inl rfl
  · refine .inr ⟨rfl, ?_⟩
    unfold askB at ha
    rw [Bool.and_eq_true] at ha
    unfold okG at h
    rw [ha.1, Bool.true_and] at h
    rw [← mem_has (ringB_true ha.1)]; exact h

end Go.Proofs.Ytgmdbihdnacpjaa
