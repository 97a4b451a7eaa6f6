/- DigitsOf on both sides: the digits, the highest first, in new memory. -/
import Derived.Test.YtejajlloipkkhaaA6
import Derived.Test.YtejajlloipkkhaaA7
namespace Go.Proofs.Ytejajlloipkkhaa
open Go.RowKit
set_option linter.unusedVariables false

/-- digits that are made from behind -/
def drow (n j : Nat) (done : List Int) : List Int := List.replicate j 0 ++ done
theorem drow_set {n j : Nat} {done : List Int} (v : Int) : (drow n (j + 1) done).set j v = drow n j (v :: done) := by
  unfold drow
  rw [List.replicate_succ', List.append_assoc, List.set_append_right _ _ (by simp)]
  simp

theorem BoxAt.put {w wr : World} {b d : Int} (h : BoxAt w wr b d) {g : Nat} (hg : w.heap.size < g) (i : Nat) (v : Value) : BoxAt w (wr.setCell ⟨g, i, none⟩ v) b d := by
  have hb : (wr.setCell ⟨g, i, none⟩ v).heap[w.heap.size]? = wr.heap[w.heap.size]? := heap_setCell_other _ _ _ _ (by simp; omega)
  exact ⟨h.bel.setCell (by simp; omega) _, (World.cell?_of_block (w := wr) hb).trans h.c0, (World.cell?_of_block (w := wr) hb).trans h.c1, by simpa [World.setCell] using h.lt⟩

def gOk (b d x : Int) : Bool := numB b d x
/-- a list of digits that is answered: nil where there is none, else in a block of its own -/
def DigV (b d x : Int) (w w' : World) (v : Value) : Prop :=
  (numB b d x = false ∧ v = .slice none 0 0) ∨ (numB b d x = true ∧ ∃ g, v = .slice (some ⟨g, 0, none⟩) (cnt b d) (cnt b d) ∧ OwnZ w w' g (digL (cnt b d) (sz d) x))

end Go.Proofs.Ytejajlloipkkhaa
