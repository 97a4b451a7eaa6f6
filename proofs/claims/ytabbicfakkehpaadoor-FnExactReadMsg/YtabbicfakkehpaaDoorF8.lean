/- GoodMsg of the program. -/
import Derived.Test.YtabbicfakkehpaaDoorF7
namespace Go.Proofs.YtabbicfakkehpaaDoor
open Go.RowKit Go.Deep
set_option linter.unusedVariables false
set_option linter.unusedSimpArgs false
/-- onlyFields at work: block g is the message, the next two are the answer and the copy -/
structure OFS (w wr : World) (P : Array Value) (T : Nat) (aF : Option Addr) (nF : Nat) (F : List Int) : Prop where
  bel : Below w.heap.size w wr
  kr : Bk wr w.heap.size #[.int .i64 0, .int .i64 0, .int .i64 0, .int .i64 0, .int .i64 0, .int .i64 0, .int .i64 0, .int .i64 0, .slice none 0 0] 26
  kx : Bk wr (w.heap.size + 1) P 26
  fl : OwnLs (w.heap.size + 2) T wr aF nF F
theorem OFS.put {w wr : World} {P : Array Value} {T : Nat} {aF : Option Addr} {nF : Nat} {F : List Int} (h : OFS w wr P T aF nF F) (i : Nat) (v : Value) : OFS w (wr.setCell ⟨w.heap.size + 1, i, none⟩ v) (P.setIfInBounds i v) T aF nF F :=
  ⟨h.bel.setCell (p := ⟨w.heap.size + 1, i, none⟩) (by simp) v, h.kr.oth (by omega) i v, h.kx.set i v, h.fl.blocks (fun k h1 h2 h3 => heap_setCell_other _ _ _ _ (by simp; omega))⟩
end Go.Proofs.YtabbicfakkehpaaDoor
