/-
  No cell of these rows narrows 'for every input' (looked for: loops, veiled, ifaces, maps, wideKeys, modest, calm, conditions, laid).
  DERIVED. THE GIVEN ROWS OF THIS SEAT. 10 by the template 'for every input the law returns true; each argument reads behind the call as it read before'; 0 by the template 'total and deterministic' (their statements: YtbnjloepfmiidaaTotals.lean).
  GIVEN WITH THE SEED: the statements are not yours to turn. If you find one false, say at which input.
  Laid BY PROGRAM, IN A SANDBOX (cutbox-rows.mjs): the forced cells as the released guide's own fill.sh prints them over the translation 40beae10adec0b1f… (all of the seat's roots in one cut). By AI agents, Wed Nov 11 2026. No macro, syntax, notation, axiom, sorry.
-/
import Derived.Test.YtbnjloepfmiidaaChecked
import GoSem.Claim
import GoSem.ClaimJoined
import GoSem.ClaimMapViews
import Derived.JoinedTies
import Derived.KernelRfl
namespace Go.Proofs.Ytbnjloepfmiidaa
/- THE CELL 'sum', in the pinned program and in every row, IS THE sha256 OF THE DUMP (.gsa) THAT YtbnjloepfmiidaaProg.lean LOADS. Nothing in Lean hashes anything: it is a label: what it is worth is what the hold of that sum in a sandbox is worth. -/
noncomputable def Try.pinned : Pinned := { name := "ytbnjloepfmiidaa", sum := "40beae10adec0b1f9fa369700bc2bc95adae4b30890bf2a5dbf5625738f47f80", checked := Try.checked }
namespace Rows
def none {H : Type} : Left H := { results := [], args := [] }

/-- 'laws.FnArcs': WHATEVER THE INPUT: true; the input reads as it did. -/
def fnArcsSpec : ChangeSpec := { name := "fnArcs", fn := fun _ => fun
  | [d1, d2] => { results := [.lit (.bool true)], args := [d1, d2] }
  | _ => none }
def fnArcsRow : OpenClaim := { program := "ytbnjloepfmiidaa", sum := "40beae10adec0b1f9fa369700bc2bc95adae4b30890bf2a5dbf5625738f47f80", func := "loop.example/g00749/laws.FnArcs", spec := "fnArcs", apart := false }
def FnArcsSaid : Prop := fnArcsRow.holds Try.pinned (OpenSpec.ofChange fnArcsSpec)

/-- ITS FALSE NEIGHBOUR: 'it returns false'. Refute it at one input. -/
def fnArcsWrong : ChangeSpec := { name := "fnArcs", fn := fun _ => fun
  | [d1, d2] => { results := [.lit (.bool false)], args := [d1, d2] }
  | _ => none }
def FnArcsWrongFalsely : Prop := fnArcsRow.holds Try.pinned (OpenSpec.ofChange fnArcsWrong)

/-- 'laws.FnDigits': WHATEVER THE INPUT: true; the input reads as it did. -/
def fnDigitsSpec : ChangeSpec := { name := "fnDigits", fn := fun _ => fun
  | [d1, d2] => { results := [.lit (.bool true)], args := [d1, d2] }
  | _ => none }
def fnDigitsRow : OpenClaim := { program := "ytbnjloepfmiidaa", sum := "40beae10adec0b1f9fa369700bc2bc95adae4b30890bf2a5dbf5625738f47f80", func := "loop.example/g00749/laws.FnDigits", spec := "fnDigits", apart := false }
def FnDigitsSaid : Prop := fnDigitsRow.holds Try.pinned (OpenSpec.ofChange fnDigitsSpec)

/-- ITS FALSE NEIGHBOUR: 'it returns false'. Refute it at one input. -/
def fnDigitsWrong : ChangeSpec := { name := "fnDigits", fn := fun _ => fun
  | [d1, d2] => { results := [.lit (.bool false)], args := [d1, d2] }
  | _ => none }
def FnDigitsWrongFalsely : Prop := fnDigitsRow.holds Try.pinned (OpenSpec.ofChange fnDigitsWrong)

/-- 'laws.FnExactGoodSpace': WHATEVER THE INPUT: true; the input reads as it did. -/
def fnExactGoodSpaceSpec : ChangeSpec := { name := "fnExactGoodSpace", fn := fun _ => fun
  | [d] => { results := [.lit (.bool true)], args := [d] }
  | _ => none }
def fnExactGoodSpaceRow : OpenClaim := { program := "ytbnjloepfmiidaa", sum := "40beae10adec0b1f9fa369700bc2bc95adae4b30890bf2a5dbf5625738f47f80", func := "loop.example/g00749/laws.FnExactGoodSpace", spec := "fnExactGoodSpace", apart := false }
def FnExactGoodSpaceSaid : Prop := fnExactGoodSpaceRow.holds Try.pinned (OpenSpec.ofChange fnExactGoodSpaceSpec)

/-- ITS FALSE NEIGHBOUR: 'it returns false'. Refute it at one input. -/
def fnExactGoodSpaceWrong : ChangeSpec := { name := "fnExactGoodSpace", fn := fun _ => fun
  | [d] => { results := [.lit (.bool false)], args := [d] }
  | _ => none }
def FnExactGoodSpaceWrongFalsely : Prop := fnExactGoodSpaceRow.holds Try.pinned (OpenSpec.ofChange fnExactGoodSpaceWrong)

/-- 'laws.FnExactDistOf': WHATEVER THE INPUT: true; the input reads as it did. -/
def fnExactDistOfSpec : ChangeSpec := { name := "fnExactDistOf", fn := fun _ => fun
  | [d1, d2, d3] => { results := [.lit (.bool true)], args := [d1, d2, d3] }
  | _ => none }
def fnExactDistOfRow : OpenClaim := { program := "ytbnjloepfmiidaa", sum := "40beae10adec0b1f9fa369700bc2bc95adae4b30890bf2a5dbf5625738f47f80", func := "loop.example/g00749/laws.FnExactDistOf", spec := "fnExactDistOf", apart := false }
def FnExactDistOfSaid : Prop := fnExactDistOfRow.holds Try.pinned (OpenSpec.ofChange fnExactDistOfSpec)

/-- ITS FALSE NEIGHBOUR: 'it returns false'. Refute it at one input. -/
def fnExactDistOfWrong : ChangeSpec := { name := "fnExactDistOf", fn := fun _ => fun
  | [d1, d2, d3] => { results := [.lit (.bool false)], args := [d1, d2, d3] }
  | _ => none }
def FnExactDistOfWrongFalsely : Prop := fnExactDistOfRow.holds Try.pinned (OpenSpec.ofChange fnExactDistOfWrong)

/-- 'laws.FnExactInArc': WHATEVER THE INPUT: true; the input reads as it did. -/
def fnExactInArcSpec : ChangeSpec := { name := "fnExactInArc", fn := fun _ => fun
  | [d1, d2, d3, d4] => { results := [.lit (.bool true)], args := [d1, d2, d3, d4] }
  | _ => none }
def fnExactInArcRow : OpenClaim := { program := "ytbnjloepfmiidaa", sum := "40beae10adec0b1f9fa369700bc2bc95adae4b30890bf2a5dbf5625738f47f80", func := "loop.example/g00749/laws.FnExactInArc", spec := "fnExactInArc", apart := false }
def FnExactInArcSaid : Prop := fnExactInArcRow.holds Try.pinned (OpenSpec.ofChange fnExactInArcSpec)

/-- ITS FALSE NEIGHBOUR: 'it returns false'. Refute it at one input. -/
def fnExactInArcWrong : ChangeSpec := { name := "fnExactInArc", fn := fun _ => fun
  | [d1, d2, d3, d4] => { results := [.lit (.bool false)], args := [d1, d2, d3, d4] }
  | _ => none }
def FnExactInArcWrongFalsely : Prop := fnExactInArcRow.holds Try.pinned (OpenSpec.ofChange fnExactInArcWrong)

/-- 'laws.FnExactBetween': WHATEVER THE INPUT: true; the input reads as it did. -/
def fnExactBetweenSpec : ChangeSpec := { name := "fnExactBetween", fn := fun _ => fun
  | [d1, d2, d3, d4] => { results := [.lit (.bool true)], args := [d1, d2, d3, d4] }
  | _ => none }
def fnExactBetweenRow : OpenClaim := { program := "ytbnjloepfmiidaa", sum := "40beae10adec0b1f9fa369700bc2bc95adae4b30890bf2a5dbf5625738f47f80", func := "loop.example/g00749/laws.FnExactBetween", spec := "fnExactBetween", apart := false }
def FnExactBetweenSaid : Prop := fnExactBetweenRow.holds Try.pinned (OpenSpec.ofChange fnExactBetweenSpec)

/-- ITS FALSE NEIGHBOUR: 'it returns false'. Refute it at one input. -/
def fnExactBetweenWrong : ChangeSpec := { name := "fnExactBetween", fn := fun _ => fun
  | [d1, d2, d3, d4] => { results := [.lit (.bool false)], args := [d1, d2, d3, d4] }
  | _ => none }
def FnExactBetweenWrongFalsely : Prop := fnExactBetweenRow.holds Try.pinned (OpenSpec.ofChange fnExactBetweenWrong)

/-- 'laws.FnExactShiftIn': WHATEVER THE INPUT: true; the input reads as it did. -/
def fnExactShiftInSpec : ChangeSpec := { name := "fnExactShiftIn", fn := fun _ => fun
  | [d1, d2, d3] => { results := [.lit (.bool true)], args := [d1, d2, d3] }
  | _ => none }
def fnExactShiftInRow : OpenClaim := { program := "ytbnjloepfmiidaa", sum := "40beae10adec0b1f9fa369700bc2bc95adae4b30890bf2a5dbf5625738f47f80", func := "loop.example/g00749/laws.FnExactShiftIn", spec := "fnExactShiftIn", apart := false }
def FnExactShiftInSaid : Prop := fnExactShiftInRow.holds Try.pinned (OpenSpec.ofChange fnExactShiftInSpec)

/-- ITS FALSE NEIGHBOUR: 'it returns false'. Refute it at one input. -/
def fnExactShiftInWrong : ChangeSpec := { name := "fnExactShiftIn", fn := fun _ => fun
  | [d1, d2, d3] => { results := [.lit (.bool false)], args := [d1, d2, d3] }
  | _ => none }
def FnExactShiftInWrongFalsely : Prop := fnExactShiftInRow.holds Try.pinned (OpenSpec.ofChange fnExactShiftInWrong)

/-- 'laws.FnExactDigitsOf': WHATEVER THE INPUT: true; the input reads as it did. -/
def fnExactDigitsOfSpec : ChangeSpec := { name := "fnExactDigitsOf", fn := fun _ => fun
  | [d1, d2] => { results := [.lit (.bool true)], args := [d1, d2] }
  | _ => none }
def fnExactDigitsOfRow : OpenClaim := { program := "ytbnjloepfmiidaa", sum := "40beae10adec0b1f9fa369700bc2bc95adae4b30890bf2a5dbf5625738f47f80", func := "loop.example/g00749/laws.FnExactDigitsOf", spec := "fnExactDigitsOf", apart := false }
def FnExactDigitsOfSaid : Prop := fnExactDigitsOfRow.holds Try.pinned (OpenSpec.ofChange fnExactDigitsOfSpec)

/-- ITS FALSE NEIGHBOUR: 'it returns false'. Refute it at one input. -/
def fnExactDigitsOfWrong : ChangeSpec := { name := "fnExactDigitsOf", fn := fun _ => fun
  | [d1, d2] => { results := [.lit (.bool false)], args := [d1, d2] }
  | _ => none }
def FnExactDigitsOfWrongFalsely : Prop := fnExactDigitsOfRow.holds Try.pinned (OpenSpec.ofChange fnExactDigitsOfWrong)

/-- 'laws.FnExactFromDigits': WHATEVER THE INPUT: true; the input reads as it did. -/
def fnExactFromDigitsSpec : ChangeSpec := { name := "fnExactFromDigits", fn := fun _ => fun
  | [d1, d2] => { results := [.lit (.bool true)], args := [d1, d2] }
  | _ => none }
def fnExactFromDigitsRow : OpenClaim := { program := "ytbnjloepfmiidaa", sum := "40beae10adec0b1f9fa369700bc2bc95adae4b30890bf2a5dbf5625738f47f80", func := "loop.example/g00749/laws.FnExactFromDigits", spec := "fnExactFromDigits", apart := false }
def FnExactFromDigitsSaid : Prop := fnExactFromDigitsRow.holds Try.pinned (OpenSpec.ofChange fnExactFromDigitsSpec)

/-- ITS FALSE NEIGHBOUR: 'it returns false'. Refute it at one input. -/
def fnExactFromDigitsWrong : ChangeSpec := { name := "fnExactFromDigits", fn := fun _ => fun
  | [d1, d2] => { results := [.lit (.bool false)], args := [d1, d2] }
  | _ => none }
def FnExactFromDigitsWrongFalsely : Prop := fnExactFromDigitsRow.holds Try.pinned (OpenSpec.ofChange fnExactFromDigitsWrong)

/-- 'laws.FnExactOverlapOf': WHATEVER THE INPUT: true; the input reads as it did. -/
def fnExactOverlapOfSpec : ChangeSpec := { name := "fnExactOverlapOf", fn := fun _ => fun
  | [d1, d2, d3] => { results := [.lit (.bool true)], args := [d1, d2, d3] }
  | _ => none }
def fnExactOverlapOfRow : OpenClaim := { program := "ytbnjloepfmiidaa", sum := "40beae10adec0b1f9fa369700bc2bc95adae4b30890bf2a5dbf5625738f47f80", func := "loop.example/g00749/laws.FnExactOverlapOf", spec := "fnExactOverlapOf", apart := false }
def FnExactOverlapOfSaid : Prop := fnExactOverlapOfRow.holds Try.pinned (OpenSpec.ofChange fnExactOverlapOfSpec)

/-- ITS FALSE NEIGHBOUR: 'it returns false'. Refute it at one input. -/
def fnExactOverlapOfWrong : ChangeSpec := { name := "fnExactOverlapOf", fn := fun _ => fun
  | [d1, d2, d3] => { results := [.lit (.bool false)], args := [d1, d2, d3] }
  | _ => none }
def FnExactOverlapOfWrongFalsely : Prop := fnExactOverlapOfRow.holds Try.pinned (OpenSpec.ofChange fnExactOverlapOfWrong)

/- THE SECOND FORM. 'bulk': how many values and letters a reading holds, each counted each time it is reached (what is shared counts as often as it is met; a slice's spare places count too). A statement '..UptoSaid' is the law's where the arguments, and the package variables that the reading takes, are together of bulk at most 1048576: NARROWER than '..Said'. Prove '..Said' where nothing that the law and all that it calls make is longer than what came in: it says more and counts as full. Else prove '..UptoSaid'. A law counts once. -/
mutual
def uptoBulk {H : Type} : DataW H → Nat
  | .lit (.string bytes) => bytes.length + 1
  | .lit _ => 1
  | .nil => 1
  | .ptr d => uptoBulk d + 1
  | .slice elems spare => uptoBulkAll elems + uptoBulkAll spare + 1
  | .agg parts => uptoBulkAll parts + 1
  | .iface _ d => uptoBulk d + 1
  | .map entries => uptoBulkEntries entries + 1
  | .held _ => 1
def uptoBulkAll {H : Type} : List (DataW H) → Nat
  | [] => 0
  | d :: r => uptoBulk d + uptoBulkAll r
def uptoBulkEntries {H : Type} : List (Lit × DataW H) → Nat
  | [] => 0
  | x :: r => uptoBulkEntry x + uptoBulkEntries r
def uptoBulkEntry {H : Type} : Lit × DataW H → Nat
  | (.string bytes, d) => bytes.length + uptoBulk d + 1
  | (_, d) => uptoBulk d + 1
 end
def uptoSmall : (H : Type) → List (DataW H) → Bool := fun _ ds => decide (uptoBulkAll ds ≤ 1048576)
def OpenSpec.upto (s : _root_.Go.ChangeSpec) : _root_.Go.OpenSpec := { _root_.Go.OpenSpec.ofChange s with cond := some uptoSmall }

/-- 'laws.FnArcs', WHERE WHAT IT READS IS OF BULK AT MOST 1048576: true; the input reads as it did. -/
def fnArcsUptoRow : OpenClaim := { program := "ytbnjloepfmiidaa", sum := "40beae10adec0b1f9fa369700bc2bc95adae4b30890bf2a5dbf5625738f47f80", func := "loop.example/g00749/laws.FnArcs", spec := "fnArcs", apart := false, narrowed := true }
def FnArcsUptoSaid : Prop := fnArcsUptoRow.holds Try.pinned (OpenSpec.upto fnArcsSpec)

/-- 'laws.FnDigits', WHERE WHAT IT READS IS OF BULK AT MOST 1048576: true; the input reads as it did. -/
def fnDigitsUptoRow : OpenClaim := { program := "ytbnjloepfmiidaa", sum := "40beae10adec0b1f9fa369700bc2bc95adae4b30890bf2a5dbf5625738f47f80", func := "loop.example/g00749/laws.FnDigits", spec := "fnDigits", apart := false, narrowed := true }
def FnDigitsUptoSaid : Prop := fnDigitsUptoRow.holds Try.pinned (OpenSpec.upto fnDigitsSpec)

/-- 'laws.FnExactGoodSpace', WHERE WHAT IT READS IS OF BULK AT MOST 1048576: true; the input reads as it did. -/
def fnExactGoodSpaceUptoRow : OpenClaim := { program := "ytbnjloepfmiidaa", sum := "40beae10adec0b1f9fa369700bc2bc95adae4b30890bf2a5dbf5625738f47f80", func := "loop.example/g00749/laws.FnExactGoodSpace", spec := "fnExactGoodSpace", apart := false, narrowed := true }
def FnExactGoodSpaceUptoSaid : Prop := fnExactGoodSpaceUptoRow.holds Try.pinned (OpenSpec.upto fnExactGoodSpaceSpec)

/-- 'laws.FnExactDistOf', WHERE WHAT IT READS IS OF BULK AT MOST 1048576: true; the input reads as it did. -/
def fnExactDistOfUptoRow : OpenClaim := { program := "ytbnjloepfmiidaa", sum := "40beae10adec0b1f9fa369700bc2bc95adae4b30890bf2a5dbf5625738f47f80", func := "loop.example/g00749/laws.FnExactDistOf", spec := "fnExactDistOf", apart := false, narrowed := true }
def FnExactDistOfUptoSaid : Prop := fnExactDistOfUptoRow.holds Try.pinned (OpenSpec.upto fnExactDistOfSpec)

/-- 'laws.FnExactInArc', WHERE WHAT IT READS IS OF BULK AT MOST 1048576: true; the input reads as it did. -/
def fnExactInArcUptoRow : OpenClaim := { program := "ytbnjloepfmiidaa", sum := "40beae10adec0b1f9fa369700bc2bc95adae4b30890bf2a5dbf5625738f47f80", func := "loop.example/g00749/laws.FnExactInArc", spec := "fnExactInArc", apart := false, narrowed := true }
def FnExactInArcUptoSaid : Prop := fnExactInArcUptoRow.holds Try.pinned (OpenSpec.upto fnExactInArcSpec)

/-- 'laws.FnExactBetween', WHERE WHAT IT READS IS OF BULK AT MOST 1048576: true; the input reads as it did. -/
def fnExactBetweenUptoRow : OpenClaim := { program := "ytbnjloepfmiidaa", sum := "40beae10adec0b1f9fa369700bc2bc95adae4b30890bf2a5dbf5625738f47f80", func := "loop.example/g00749/laws.FnExactBetween", spec := "fnExactBetween", apart := false, narrowed := true }
def FnExactBetweenUptoSaid : Prop := fnExactBetweenUptoRow.holds Try.pinned (OpenSpec.upto fnExactBetweenSpec)

/-- 'laws.FnExactShiftIn', WHERE WHAT IT READS IS OF BULK AT MOST 1048576: true; the input reads as it did. -/
def fnExactShiftInUptoRow : OpenClaim := { program := "ytbnjloepfmiidaa", sum := "40beae10adec0b1f9fa369700bc2bc95adae4b30890bf2a5dbf5625738f47f80", func := "loop.example/g00749/laws.FnExactShiftIn", spec := "fnExactShiftIn", apart := false, narrowed := true }
def FnExactShiftInUptoSaid : Prop := fnExactShiftInUptoRow.holds Try.pinned (OpenSpec.upto fnExactShiftInSpec)

/-- 'laws.FnExactDigitsOf', WHERE WHAT IT READS IS OF BULK AT MOST 1048576: true; the input reads as it did. -/
def fnExactDigitsOfUptoRow : OpenClaim := { program := "ytbnjloepfmiidaa", sum := "40beae10adec0b1f9fa369700bc2bc95adae4b30890bf2a5dbf5625738f47f80", func := "loop.example/g00749/laws.FnExactDigitsOf", spec := "fnExactDigitsOf", apart := false, narrowed := true }
def FnExactDigitsOfUptoSaid : Prop := fnExactDigitsOfUptoRow.holds Try.pinned (OpenSpec.upto fnExactDigitsOfSpec)

/-- 'laws.FnExactFromDigits', WHERE WHAT IT READS IS OF BULK AT MOST 1048576: true; the input reads as it did. -/
def fnExactFromDigitsUptoRow : OpenClaim := { program := "ytbnjloepfmiidaa", sum := "40beae10adec0b1f9fa369700bc2bc95adae4b30890bf2a5dbf5625738f47f80", func := "loop.example/g00749/laws.FnExactFromDigits", spec := "fnExactFromDigits", apart := false, narrowed := true }
def FnExactFromDigitsUptoSaid : Prop := fnExactFromDigitsUptoRow.holds Try.pinned (OpenSpec.upto fnExactFromDigitsSpec)

/-- 'laws.FnExactOverlapOf', WHERE WHAT IT READS IS OF BULK AT MOST 1048576: true; the input reads as it did. -/
def fnExactOverlapOfUptoRow : OpenClaim := { program := "ytbnjloepfmiidaa", sum := "40beae10adec0b1f9fa369700bc2bc95adae4b30890bf2a5dbf5625738f47f80", func := "loop.example/g00749/laws.FnExactOverlapOf", spec := "fnExactOverlapOf", apart := false, narrowed := true }
def FnExactOverlapOfUptoSaid : Prop := fnExactOverlapOfUptoRow.holds Try.pinned (OpenSpec.upto fnExactOverlapOfSpec)

end Rows
end Go.Proofs.Ytbnjloepfmiidaa
