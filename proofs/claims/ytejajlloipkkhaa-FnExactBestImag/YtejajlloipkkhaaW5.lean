/- The specification's IsIdeal. -/
import Derived.Test.YtejajlloipkkhaaW4
namespace Go.Proofs.Ytejajlloipkkhaa
open Go.RowKit
set_option linter.unusedVariables false
theorem goodP_true {b d : Int} {ps : List Pr} (h : goodP b d ps = true) : Ring b d (idsP ps) ∧ ∀ i, i < ps.length → prB (idsP ps) (ps.getD i pr0) = true := by
  unfold goodP at h
  rw [Bool.and_eq_true] at h
  exact ⟨ringB_true h.1, of_decide_eq_true h.2⟩
def idlB (b d : Int) (ps : List Pr) : Bool := goodP b d ps && sameP ps (idealL b d (idsP ps) (ps.getD 0 pr0).backs.length)
structure ISt (w wr : World) (b d : Int) (bk off n cap : Nat) (v : Value) : Prop where
  bx : BxP w wr b d (.slice (some ⟨bk, off, none⟩) n cap)
  lt : bk < wr.heap.size
  c3 : wr.cell? ⟨bk, off + 3, none⟩ = some v
theorem ISt.keep {w wr w1 : World} {b d : Int} {bk off n cap : Nat} {v : Value} (h : ISt w wr b d bk off n cap v) (hb : Below wr.heap.size wr w1) : ISt w w1 b d bk off n cap v :=
  ⟨h.bx.keep hb, Nat.lt_of_lt_of_le h.lt hb.size, (hb.cell (p := ⟨bk, off + 3, none⟩) h.lt).trans h.c3⟩
theorem ISt.qq {w wr : World} {b d : Int} {bk off n cap : Nat} {v : Value} (h : ISt w wr b d bk off n cap v) : wr.cell? ⟨w.heap.size, 0, none⟩ = some (.int .i64 b) ∧ wr.cell? ⟨w.heap.size, 1, none⟩ = some (.int .i64 d) ∧ wr.cell? ⟨w.heap.size, 2, none⟩ = some (.slice (some ⟨bk, off, none⟩) n cap) ∧ wr.cell? ⟨bk, off + 3, none⟩ = some v := ⟨h.bx.c0, h.bx.c1, h.bx.c2, h.c3⟩
end Go.Proofs.Ytejajlloipkkhaa
