/- What the laws over lists share: the box of the space, and what has been kept since. -/
import Derived.Test.YtgmdbihdnacpjaaK1
import Derived.Test.YtgmdbihdnacpjaaS4
namespace Go.Proofs.Ytgmdbihdnacpjaa
open Go.RowKit
set_option linter.unusedVariables false

/-- the boxed space, and all that lay below it, are as they were -/
structure Bx (w : World) (b d : Int) (wk : World) : Prop where
  bel : Below (w.heap.size + 1) (w.alloc (.cells #[.int .i64 b, .int .i64 d] 43)) wk
theorem Bx.at {w wk : World} {b d : Int} (h : Bx w b d wk) : wk.cell? ⟨w.heap.size, 0, none⟩ = some (.int .i64 b) ∧ wk.cell? ⟨w.heap.size, 1, none⟩ = some (.int .i64 d) ∧ w.heap.size < wk.heap.size :=
  ⟨(h.bel.cell (p := ⟨w.heap.size, 0, none⟩) (by simp)).trans (by simp), (h.bel.cell (p := ⟨w.heap.size, 1, none⟩) (by simp)).trans (by simp), by have := h.bel.size; simp at this; omega⟩
theorem Bx.old {w wk : World} {b d : Int} (h : Bx w b d wk) : Below w.heap.size w wk := bel1 h.bel (by omega)
theorem Bx.step {w wk w' : World} {b d : Int} (h : Bx w b d wk) (hw : Below wk.heap.size wk w') : Bx w b d w' :=
  ⟨h.bel.trans (hw.mono (by have := h.at.2.2; omega))⟩
theorem Bx.first {w w1 : World} {b d : Int} (h : Below (w.alloc (.cells #[.int .i64 b, .int .i64 d] 43)).heap.size (w.alloc (.cells #[.int .i64 b, .int .i64 d] 43)) w1) : Bx w b d w1 := ⟨h.mono (by simp)⟩
theorem Bx.only {w wk w' : World} {b d : Int} {g : Nat} (h : Bx w b d wk) (ho : Only g wk w') (hg : w.heap.size < g) : Bx w b d w' :=
  ⟨h.bel.trans ⟨ho.os, ho.tape, ho.output, by rw [ho.size]; exact Nat.le_refl _, fun k hk => ho.block k (by omega)⟩⟩
theorem mrk_at' {k0 : Int} {zs : List Int} {n : Nat} (h : zs.length = n) : (mrk k0 zs n).length = n ∧ ∀ i, i < (mrk k0 zs n).length → (mrk k0 zs n).getD i 0 = k0 + (i : Int) := by
  subst h
  exact ⟨mrk_len (Nat.le_refl _), fun i hi => mrk_get (by rwa [mrk_len (Nat.le_refl _)] at hi)⟩
end Go.Proofs.Ytgmdbihdnacpjaa
