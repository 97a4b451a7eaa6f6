/-
  No cell of these rows narrows 'for every input' (looked for: loops, veiled, ifaces, maps, wideKeys, modest, calm, conditions, laid).
  DERIVED. THE GIVEN ROWS OF THIS SEAT. 9 by the template 'for every input the law returns true; each argument reads behind the call as it read before'; 0 by the template 'total and deterministic' (their statements: YtejajlloipkkhaaTotals.lean).
  GIVEN WITH THE SEED: the statements are not yours to turn. If you find one false, say at which input.
  Laid BY PROGRAM, IN A SANDBOX (cutbox-rows.mjs): the forced cells as the released guide's own fill.sh prints them over the translation 5f6fae52c8859d7c… (all of the seat's roots in one cut). By AI agents, Wed Nov 11 2026. No macro, syntax, notation, axiom, sorry.
-/
import Derived.Test.YtejajlloipkkhaaChecked
import GoSem.Claim
import GoSem.ClaimJoined
import GoSem.ClaimMapViews
import Derived.JoinedTies
import Derived.KernelRfl
namespace Go.Proofs.Ytejajlloipkkhaa
/- THE CELL 'sum', in the pinned program and in every row, IS THE sha256 OF THE DUMP (.gsa) THAT YtejajlloipkkhaaProg.lean LOADS. Nothing in Lean hashes anything: it is a label: what it is worth is what the hold of that sum in a sandbox is worth. -/
noncomputable def Try.pinned : Pinned := { name := "ytejajlloipkkhaa", sum := "5f6fae52c8859d7c47416126f13e88283e18dc05c73dbd97a131bce36eb84e53", checked := Try.checked }
namespace Rows
def none {H : Type} : Left H := { results := [], args := [] }

/-- 'laws.FnRoutes': WHATEVER THE INPUT: true; the input reads as it did. -/
def fnRoutesSpec : ChangeSpec := { name := "fnRoutes", fn := fun _ => fun
  | [d1, d2] => { results := [.lit (.bool true)], args := [d1, d2] }
  | _ => none }
def fnRoutesRow : OpenClaim := { program := "ytejajlloipkkhaa", sum := "5f6fae52c8859d7c47416126f13e88283e18dc05c73dbd97a131bce36eb84e53", func := "loop.example/g00749/laws.FnRoutes", spec := "fnRoutes", apart := false }
def FnRoutesSaid : Prop := fnRoutesRow.holds Try.pinned (OpenSpec.ofChange fnRoutesSpec)

/-- ITS FALSE NEIGHBOUR: 'it returns false'. Refute it at one input. -/
def fnRoutesWrong : ChangeSpec := { name := "fnRoutes", fn := fun _ => fun
  | [d1, d2] => { results := [.lit (.bool false)], args := [d1, d2] }
  | _ => none }
def FnRoutesWrongFalsely : Prop := fnRoutesRow.holds Try.pinned (OpenSpec.ofChange fnRoutesWrong)

/-- 'laws.FnWalks': WHATEVER THE INPUT: true; the input reads as it did. -/
def fnWalksSpec : ChangeSpec := { name := "fnWalks", fn := fun _ => fun
  | [d1, d2] => { results := [.lit (.bool true)], args := [d1, d2] }
  | _ => none }
def fnWalksRow : OpenClaim := { program := "ytejajlloipkkhaa", sum := "5f6fae52c8859d7c47416126f13e88283e18dc05c73dbd97a131bce36eb84e53", func := "loop.example/g00749/laws.FnWalks", spec := "fnWalks", apart := false }
def FnWalksSaid : Prop := fnWalksRow.holds Try.pinned (OpenSpec.ofChange fnWalksSpec)

/-- ITS FALSE NEIGHBOUR: 'it returns false'. Refute it at one input. -/
def fnWalksWrong : ChangeSpec := { name := "fnWalks", fn := fun _ => fun
  | [d1, d2] => { results := [.lit (.bool false)], args := [d1, d2] }
  | _ => none }
def FnWalksWrongFalsely : Prop := fnWalksRow.holds Try.pinned (OpenSpec.ofChange fnWalksWrong)

/-- 'laws.FnExactStartAt': WHATEVER THE INPUT: true; the input reads as it did. -/
def fnExactStartAtSpec : ChangeSpec := { name := "fnExactStartAt", fn := fun _ => fun
  | [d1, d2, d3] => { results := [.lit (.bool true)], args := [d1, d2, d3] }
  | _ => none }
def fnExactStartAtRow : OpenClaim := { program := "ytejajlloipkkhaa", sum := "5f6fae52c8859d7c47416126f13e88283e18dc05c73dbd97a131bce36eb84e53", func := "loop.example/g00749/laws.FnExactStartAt", spec := "fnExactStartAt", apart := false }
def FnExactStartAtSaid : Prop := fnExactStartAtRow.holds Try.pinned (OpenSpec.ofChange fnExactStartAtSpec)

/-- ITS FALSE NEIGHBOUR: 'it returns false'. Refute it at one input. -/
def fnExactStartAtWrong : ChangeSpec := { name := "fnExactStartAt", fn := fun _ => fun
  | [d1, d2, d3] => { results := [.lit (.bool false)], args := [d1, d2, d3] }
  | _ => none }
def FnExactStartAtWrongFalsely : Prop := fnExactStartAtRow.holds Try.pinned (OpenSpec.ofChange fnExactStartAtWrong)

/-- 'laws.FnExactGoodWalk': WHATEVER THE INPUT: true; the input reads as it did. -/
def fnExactGoodWalkSpec : ChangeSpec := { name := "fnExactGoodWalk", fn := fun _ => fun
  | [d1, d2, d3] => { results := [.lit (.bool true)], args := [d1, d2, d3] }
  | _ => none }
def fnExactGoodWalkRow : OpenClaim := { program := "ytejajlloipkkhaa", sum := "5f6fae52c8859d7c47416126f13e88283e18dc05c73dbd97a131bce36eb84e53", func := "loop.example/g00749/laws.FnExactGoodWalk", spec := "fnExactGoodWalk", apart := false }
def FnExactGoodWalkSaid : Prop := fnExactGoodWalkRow.holds Try.pinned (OpenSpec.ofChange fnExactGoodWalkSpec)

/-- ITS FALSE NEIGHBOUR: 'it returns false'. Refute it at one input. -/
def fnExactGoodWalkWrong : ChangeSpec := { name := "fnExactGoodWalk", fn := fun _ => fun
  | [d1, d2, d3] => { results := [.lit (.bool false)], args := [d1, d2, d3] }
  | _ => none }
def FnExactGoodWalkWrongFalsely : Prop := fnExactGoodWalkRow.holds Try.pinned (OpenSpec.ofChange fnExactGoodWalkWrong)

/-- 'laws.FnExactStepWalk': WHATEVER THE INPUT: true; the input reads as it did. -/
def fnExactStepWalkSpec : ChangeSpec := { name := "fnExactStepWalk", fn := fun _ => fun
  | [d1, d2, d3, d4] => { results := [.lit (.bool true)], args := [d1, d2, d3, d4] }
  | _ => none }
def fnExactStepWalkRow : OpenClaim := { program := "ytejajlloipkkhaa", sum := "5f6fae52c8859d7c47416126f13e88283e18dc05c73dbd97a131bce36eb84e53", func := "loop.example/g00749/laws.FnExactStepWalk", spec := "fnExactStepWalk", apart := false }
def FnExactStepWalkSaid : Prop := fnExactStepWalkRow.holds Try.pinned (OpenSpec.ofChange fnExactStepWalkSpec)

/-- ITS FALSE NEIGHBOUR: 'it returns false'. Refute it at one input. -/
def fnExactStepWalkWrong : ChangeSpec := { name := "fnExactStepWalk", fn := fun _ => fun
  | [d1, d2, d3, d4] => { results := [.lit (.bool false)], args := [d1, d2, d3, d4] }
  | _ => none }
def FnExactStepWalkWrongFalsely : Prop := fnExactStepWalkRow.holds Try.pinned (OpenSpec.ofChange fnExactStepWalkWrong)

/-- 'laws.FnExactRouteOf': WHATEVER THE INPUT: true; the input reads as it did. -/
def fnExactRouteOfSpec : ChangeSpec := { name := "fnExactRouteOf", fn := fun _ => fun
  | [d1, d2, d3, d4] => { results := [.lit (.bool true)], args := [d1, d2, d3, d4] }
  | _ => none }
def fnExactRouteOfRow : OpenClaim := { program := "ytejajlloipkkhaa", sum := "5f6fae52c8859d7c47416126f13e88283e18dc05c73dbd97a131bce36eb84e53", func := "loop.example/g00749/laws.FnExactRouteOf", spec := "fnExactRouteOf", apart := false }
def FnExactRouteOfSaid : Prop := fnExactRouteOfRow.holds Try.pinned (OpenSpec.ofChange fnExactRouteOfSpec)

/-- ITS FALSE NEIGHBOUR: 'it returns false'. Refute it at one input. -/
def fnExactRouteOfWrong : ChangeSpec := { name := "fnExactRouteOf", fn := fun _ => fun
  | [d1, d2, d3, d4] => { results := [.lit (.bool false)], args := [d1, d2, d3, d4] }
  | _ => none }
def FnExactRouteOfWrongFalsely : Prop := fnExactRouteOfRow.holds Try.pinned (OpenSpec.ofChange fnExactRouteOfWrong)

/-- 'laws.FnExactBoundOf': WHATEVER THE INPUT: true; the input reads as it did. -/
def fnExactBoundOfSpec : ChangeSpec := { name := "fnExactBoundOf", fn := fun _ => fun
  | [d] => { results := [.lit (.bool true)], args := [d] }
  | _ => none }
def fnExactBoundOfRow : OpenClaim := { program := "ytejajlloipkkhaa", sum := "5f6fae52c8859d7c47416126f13e88283e18dc05c73dbd97a131bce36eb84e53", func := "loop.example/g00749/laws.FnExactBoundOf", spec := "fnExactBoundOf", apart := false }
def FnExactBoundOfSaid : Prop := fnExactBoundOfRow.holds Try.pinned (OpenSpec.ofChange fnExactBoundOfSpec)

/-- ITS FALSE NEIGHBOUR: 'it returns false'. Refute it at one input. -/
def fnExactBoundOfWrong : ChangeSpec := { name := "fnExactBoundOf", fn := fun _ => fun
  | [d] => { results := [.lit (.bool false)], args := [d] }
  | _ => none }
def FnExactBoundOfWrongFalsely : Prop := fnExactBoundOfRow.holds Try.pinned (OpenSpec.ofChange fnExactBoundOfWrong)

/-- 'laws.FnExactBestImag': WHATEVER THE INPUT: true; the input reads as it did. -/
def fnExactBestImagSpec : ChangeSpec := { name := "fnExactBestImag", fn := fun _ => fun
  | [d1, d2, d3, d4] => { results := [.lit (.bool true)], args := [d1, d2, d3, d4] }
  | _ => none }
def fnExactBestImagRow : OpenClaim := { program := "ytejajlloipkkhaa", sum := "5f6fae52c8859d7c47416126f13e88283e18dc05c73dbd97a131bce36eb84e53", func := "loop.example/g00749/laws.FnExactBestImag", spec := "fnExactBestImag", apart := false }
def FnExactBestImagSaid : Prop := fnExactBestImagRow.holds Try.pinned (OpenSpec.ofChange fnExactBestImagSpec)

/-- ITS FALSE NEIGHBOUR: 'it returns false'. Refute it at one input. -/
def fnExactBestImagWrong : ChangeSpec := { name := "fnExactBestImag", fn := fun _ => fun
  | [d1, d2, d3, d4] => { results := [.lit (.bool false)], args := [d1, d2, d3, d4] }
  | _ => none }
def FnExactBestImagWrongFalsely : Prop := fnExactBestImagRow.holds Try.pinned (OpenSpec.ofChange fnExactBestImagWrong)

/-- 'laws.FnExactHopsIn': WHATEVER THE INPUT: true; the input reads as it did. -/
def fnExactHopsInSpec : ChangeSpec := { name := "fnExactHopsIn", fn := fun _ => fun
  | [d1, d2] => { results := [.lit (.bool true)], args := [d1, d2] }
  | _ => none }
def fnExactHopsInRow : OpenClaim := { program := "ytejajlloipkkhaa", sum := "5f6fae52c8859d7c47416126f13e88283e18dc05c73dbd97a131bce36eb84e53", func := "loop.example/g00749/laws.FnExactHopsIn", spec := "fnExactHopsIn", apart := false }
def FnExactHopsInSaid : Prop := fnExactHopsInRow.holds Try.pinned (OpenSpec.ofChange fnExactHopsInSpec)

/-- ITS FALSE NEIGHBOUR: 'it returns false'. Refute it at one input. -/
def fnExactHopsInWrong : ChangeSpec := { name := "fnExactHopsIn", fn := fun _ => fun
  | [d1, d2] => { results := [.lit (.bool false)], args := [d1, d2] }
  | _ => none }
def FnExactHopsInWrongFalsely : Prop := fnExactHopsInRow.holds Try.pinned (OpenSpec.ofChange fnExactHopsInWrong)

/- THE SECOND FORM. 'bulk': how many values and letters a reading holds, each counted each time it is reached (what is shared counts as often as it is met; a slice's spare places count too). A statement '..UptoSaid' is the law's where the arguments, and the package variables that the reading takes, are together of bulk at most 1048576: NARROWER than '..Said'. Prove '..Said' where nothing that the law and all that it calls make is longer than what came in: it says more and counts as full. Else prove '..UptoSaid'. A law counts once. -/
mutual
def uptoBulk {H : Type} : DataW H → Nat
  | .lit (.string bytes) => bytes.length + 1
  | .lit _ => 1
  | .nil => 1
  | .ptr d => uptoBulk d + 1
  | .slice elems spare => uptoBulkAll elems + uptoBulkAll spare + 1
  | .agg parts => uptoBulkAll parts + 1
  | .iface _ d => uptoBulk d + 1
  | .map entries => uptoBulkEntries entries + 1
  | .held _ => 1
def uptoBulkAll {H : Type} : List (DataW H) → Nat
  | [] => 0
  | d :: r => uptoBulk d + uptoBulkAll r
def uptoBulkEntries {H : Type} : List (Lit × DataW H) → Nat
  | [] => 0
  | x :: r => uptoBulkEntry x + uptoBulkEntries r
def uptoBulkEntry {H : Type} : Lit × DataW H → Nat
  | (.string bytes, d) => bytes.length + uptoBulk d + 1
  | (_, d) => uptoBulk d + 1
 end
def uptoSmall : (H : Type) → List (DataW H) → Bool := fun _ ds => decide (uptoBulkAll ds ≤ 1048576)
def OpenSpec.upto (s : _root_.Go.ChangeSpec) : _root_.Go.OpenSpec := { _root_.Go.OpenSpec.ofChange s with cond := some uptoSmall }

/-- 'laws.FnRoutes', WHERE WHAT IT READS IS OF BULK AT MOST 1048576: true; the input reads as it did. -/
def fnRoutesUptoRow : OpenClaim := { program := "ytejajlloipkkhaa", sum := "5f6fae52c8859d7c47416126f13e88283e18dc05c73dbd97a131bce36eb84e53", func := "loop.example/g00749/laws.FnRoutes", spec := "fnRoutes", apart := false, narrowed := true }
def FnRoutesUptoSaid : Prop := fnRoutesUptoRow.holds Try.pinned (OpenSpec.upto fnRoutesSpec)

/-- 'laws.FnWalks', WHERE WHAT IT READS IS OF BULK AT MOST 1048576: true; the input reads as it did. -/
def fnWalksUptoRow : OpenClaim := { program := "ytejajlloipkkhaa", sum := "5f6fae52c8859d7c47416126f13e88283e18dc05c73dbd97a131bce36eb84e53", func := "loop.example/g00749/laws.FnWalks", spec := "fnWalks", apart := false, narrowed := true }
def FnWalksUptoSaid : Prop := fnWalksUptoRow.holds Try.pinned (OpenSpec.upto fnWalksSpec)

/-- 'laws.FnExactStartAt', WHERE WHAT IT READS IS OF BULK AT MOST 1048576: true; the input reads as it did. -/
def fnExactStartAtUptoRow : OpenClaim := { program := "ytejajlloipkkhaa", sum := "5f6fae52c8859d7c47416126f13e88283e18dc05c73dbd97a131bce36eb84e53", func := "loop.example/g00749/laws.FnExactStartAt", spec := "fnExactStartAt", apart := false, narrowed := true }
def FnExactStartAtUptoSaid : Prop := fnExactStartAtUptoRow.holds Try.pinned (OpenSpec.upto fnExactStartAtSpec)

/-- 'laws.FnExactGoodWalk', WHERE WHAT IT READS IS OF BULK AT MOST 1048576: true; the input reads as it did. -/
def fnExactGoodWalkUptoRow : OpenClaim := { program := "ytejajlloipkkhaa", sum := "5f6fae52c8859d7c47416126f13e88283e18dc05c73dbd97a131bce36eb84e53", func := "loop.example/g00749/laws.FnExactGoodWalk", spec := "fnExactGoodWalk", apart := false, narrowed := true }
def FnExactGoodWalkUptoSaid : Prop := fnExactGoodWalkUptoRow.holds Try.pinned (OpenSpec.upto fnExactGoodWalkSpec)

/-- 'laws.FnExactStepWalk', WHERE WHAT IT READS IS OF BULK AT MOST 1048576: true; the input reads as it did. -/
def fnExactStepWalkUptoRow : OpenClaim := { program := "ytejajlloipkkhaa", sum := "5f6fae52c8859d7c47416126f13e88283e18dc05c73dbd97a131bce36eb84e53", func := "loop.example/g00749/laws.FnExactStepWalk", spec := "fnExactStepWalk", apart := false, narrowed := true }
def FnExactStepWalkUptoSaid : Prop := fnExactStepWalkUptoRow.holds Try.pinned (OpenSpec.upto fnExactStepWalkSpec)

/-- 'laws.FnExactRouteOf', WHERE WHAT IT READS IS OF BULK AT MOST 1048576: true; the input reads as it did. -/
def fnExactRouteOfUptoRow : OpenClaim := { program := "ytejajlloipkkhaa", sum := "5f6fae52c8859d7c47416126f13e88283e18dc05c73dbd97a131bce36eb84e53", func := "loop.example/g00749/laws.FnExactRouteOf", spec := "fnExactRouteOf", apart := false, narrowed := true }
def FnExactRouteOfUptoSaid : Prop := fnExactRouteOfUptoRow.holds Try.pinned (OpenSpec.upto fnExactRouteOfSpec)

/-- 'laws.FnExactBoundOf', WHERE WHAT IT READS IS OF BULK AT MOST 1048576: true; the input reads as it did. -/
def fnExactBoundOfUptoRow : OpenClaim := { program := "ytejajlloipkkhaa", sum := "5f6fae52c8859d7c47416126f13e88283e18dc05c73dbd97a131bce36eb84e53", func := "loop.example/g00749/laws.FnExactBoundOf", spec := "fnExactBoundOf", apart := false, narrowed := true }
def FnExactBoundOfUptoSaid : Prop := fnExactBoundOfUptoRow.holds Try.pinned (OpenSpec.upto fnExactBoundOfSpec)

/-- 'laws.FnExactBestImag', WHERE WHAT IT READS IS OF BULK AT MOST 1048576: true; the input reads as it did. -/
def fnExactBestImagUptoRow : OpenClaim := { program := "ytejajlloipkkhaa", sum := "5f6fae52c8859d7c47416126f13e88283e18dc05c73dbd97a131bce36eb84e53", func := "loop.example/g00749/laws.FnExactBestImag", spec := "fnExactBestImag", apart := false, narrowed := true }
def FnExactBestImagUptoSaid : Prop := fnExactBestImagUptoRow.holds Try.pinned (OpenSpec.upto fnExactBestImagSpec)

/-- 'laws.FnExactHopsIn', WHERE WHAT IT READS IS OF BULK AT MOST 1048576: true; the input reads as it did. -/
def fnExactHopsInUptoRow : OpenClaim := { program := "ytejajlloipkkhaa", sum := "5f6fae52c8859d7c47416126f13e88283e18dc05c73dbd97a131bce36eb84e53", func := "loop.example/g00749/laws.FnExactHopsIn", spec := "fnExactHopsIn", apart := false, narrowed := true }
def FnExactHopsInUptoSaid : Prop := fnExactHopsInUptoRow.holds Try.pinned (OpenSpec.upto fnExactHopsInSpec)

end Rows
end Go.Proofs.Ytejajlloipkkhaa
