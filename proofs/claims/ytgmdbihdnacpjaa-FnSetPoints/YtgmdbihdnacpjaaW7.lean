/- What the laws over peers share: the specification's GoodPeers; two boxes read. -/
import Derived.Test.YtgmdbihdnacpjaaW6
namespace Go.Proofs.Ytgmdbihdnacpjaa
open Go.RowKit
set_option linter.unusedVariables false
set_option maxHeartbeats 800000 in
theorem lGoodPeers_any (b d : Int) (a : Option Addr) (cap : Nat) (ps : List Pr) (w : World) (hm : ps.length ≤ 1048576) (hr : PeersAt w a ps) :
    Calls Try.prog 22 #[.agg #[.int .i64 b, .int .i64 d, .slice a ps.length cap]] w fun e w' => e = .returned (.bool (goodP b d ps)) ∧ Below w.heap.size w w' := by
  have hr1 := hr.alloc (.cells #[.int .i64 b, .int .i64 d, .slice a ps.length cap] 28)
  go_enter Try.func22, Try.ntmps22
  go_wp2_with fail
  refine (lgood_any b d a cap ps _ hm hr1).mono ?_
  rintro e w1 ⟨rfl, hw1⟩
  go_wp2
  go_ret
  exact ⟨rfl, bel1 hw1 (by simp)⟩
theorem qq6 {w w4 wr : World} {b d b' d' : Int} {v v' : Value} (h : BxP w wr b d v) (x : BxP w4 wr b' d' v') : wr.cell? ⟨w.heap.size, 0, none⟩ = some (.int .i64 b) ∧ wr.cell? ⟨w.heap.size, 1, none⟩ = some (.int .i64 d) ∧ wr.cell? ⟨w.heap.size, 2, none⟩ = some v ∧ wr.cell? ⟨w4.heap.size, 0, none⟩ = some (.int .i64 b') ∧ wr.cell? ⟨w4.heap.size, 1, none⟩ = some (.int .i64 d') ∧ wr.cell? ⟨w4.heap.size, 2, none⟩ = some v' := ⟨h.c0, h.c1, h.c2, x.c0, x.c1, x.c2⟩
end Go.Proofs.Ytgmdbihdnacpjaa
