/-
  No cell of these rows narrows 'for every input' (looked for: loops, veiled, ifaces, maps, wideKeys, modest, calm, conditions, laid).
  DERIVED. THE GIVEN ROWS OF THIS SEAT. 10 by the template 'for every input the law returns true; each argument reads behind the call as it read before'; 0 by the template 'total and deterministic' (their statements: YtjolkpfenloobaaTotals.lean).
  GIVEN WITH THE SEED: the statements are not yours to turn. If you find one false, say at which input.
  Laid BY PROGRAM, IN A SANDBOX (cutbox-rows.mjs): the forced cells as the released guide's own fill.sh prints them over the translation 9814a7b21fbae605… (all of the seat's roots in one cut). By AI agents, Wed Nov 11 2026. No macro, syntax, notation, axiom, sorry.
-/
import Derived.Test.YtjolkpfenloobaaChecked
import GoSem.Claim
import GoSem.ClaimJoined
import GoSem.ClaimMapViews
import Derived.JoinedTies
import Derived.KernelRfl
namespace Go.Proofs.Ytjolkpfenloobaa
/- THE CELL 'sum', in the pinned program and in every row, IS THE sha256 OF THE DUMP (.gsa) THAT YtjolkpfenloobaaProg.lean LOADS. Nothing in Lean hashes anything: it is a label: what it is worth is what the hold of that sum in a sandbox is worth. -/
noncomputable def Try.pinned : Pinned := { name := "ytjolkpfenloobaa", sum := "9814a7b21fbae60513f19a30099e083de06fc27aa9047b8eb7d38aad4103cb5f", checked := Try.checked }
namespace Rows
def none {H : Type} : Left H := { results := [], args := [] }

/-- 'laws.FnOwners': WHATEVER THE INPUT: true; the input reads as it did. -/
def fnOwnersSpec : ChangeSpec := { name := "fnOwners", fn := fun _ => fun
  | [d1, d2] => { results := [.lit (.bool true)], args := [d1, d2] }
  | _ => none }
def fnOwnersRow : OpenClaim := { program := "ytjolkpfenloobaa", sum := "9814a7b21fbae60513f19a30099e083de06fc27aa9047b8eb7d38aad4103cb5f", func := "loop.example/g00749/laws.FnOwners", spec := "fnOwners", apart := false }
def FnOwnersSaid : Prop := fnOwnersRow.holds Try.pinned (OpenSpec.ofChange fnOwnersSpec)

/-- ITS FALSE NEIGHBOUR: 'it returns false'. Refute it at one input. -/
def fnOwnersWrong : ChangeSpec := { name := "fnOwners", fn := fun _ => fun
  | [d1, d2] => { results := [.lit (.bool false)], args := [d1, d2] }
  | _ => none }
def FnOwnersWrongFalsely : Prop := fnOwnersRow.holds Try.pinned (OpenSpec.ofChange fnOwnersWrong)

/-- 'laws.FnExactGoodRing': WHATEVER THE INPUT: true; the input reads as it did. -/
def fnExactGoodRingSpec : ChangeSpec := { name := "fnExactGoodRing", fn := fun _ => fun
  | [d1, d2] => { results := [.lit (.bool true)], args := [d1, d2] }
  | _ => none }
def fnExactGoodRingRow : OpenClaim := { program := "ytjolkpfenloobaa", sum := "9814a7b21fbae60513f19a30099e083de06fc27aa9047b8eb7d38aad4103cb5f", func := "loop.example/g00749/laws.FnExactGoodRing", spec := "fnExactGoodRing", apart := false }
def FnExactGoodRingSaid : Prop := fnExactGoodRingRow.holds Try.pinned (OpenSpec.ofChange fnExactGoodRingSpec)

/-- ITS FALSE NEIGHBOUR: 'it returns false'. Refute it at one input. -/
def fnExactGoodRingWrong : ChangeSpec := { name := "fnExactGoodRing", fn := fun _ => fun
  | [d1, d2] => { results := [.lit (.bool false)], args := [d1, d2] }
  | _ => none }
def FnExactGoodRingWrongFalsely : Prop := fnExactGoodRingRow.holds Try.pinned (OpenSpec.ofChange fnExactGoodRingWrong)

/-- 'laws.FnExactOwnerOf': WHATEVER THE INPUT: true; the input reads as it did. -/
def fnExactOwnerOfSpec : ChangeSpec := { name := "fnExactOwnerOf", fn := fun _ => fun
  | [d1, d2, d3] => { results := [.lit (.bool true)], args := [d1, d2, d3] }
  | _ => none }
def fnExactOwnerOfRow : OpenClaim := { program := "ytjolkpfenloobaa", sum := "9814a7b21fbae60513f19a30099e083de06fc27aa9047b8eb7d38aad4103cb5f", func := "loop.example/g00749/laws.FnExactOwnerOf", spec := "fnExactOwnerOf", apart := false }
def FnExactOwnerOfSaid : Prop := fnExactOwnerOfRow.holds Try.pinned (OpenSpec.ofChange fnExactOwnerOfSpec)

/-- ITS FALSE NEIGHBOUR: 'it returns false'. Refute it at one input. -/
def fnExactOwnerOfWrong : ChangeSpec := { name := "fnExactOwnerOf", fn := fun _ => fun
  | [d1, d2, d3] => { results := [.lit (.bool false)], args := [d1, d2, d3] }
  | _ => none }
def FnExactOwnerOfWrongFalsely : Prop := fnExactOwnerOfRow.holds Try.pinned (OpenSpec.ofChange fnExactOwnerOfWrong)

/-- 'laws.FnExactNextOf': WHATEVER THE INPUT: true; the input reads as it did. -/
def fnExactNextOfSpec : ChangeSpec := { name := "fnExactNextOf", fn := fun _ => fun
  | [d1, d2, d3] => { results := [.lit (.bool true)], args := [d1, d2, d3] }
  | _ => none }
def fnExactNextOfRow : OpenClaim := { program := "ytjolkpfenloobaa", sum := "9814a7b21fbae60513f19a30099e083de06fc27aa9047b8eb7d38aad4103cb5f", func := "loop.example/g00749/laws.FnExactNextOf", spec := "fnExactNextOf", apart := false }
def FnExactNextOfSaid : Prop := fnExactNextOfRow.holds Try.pinned (OpenSpec.ofChange fnExactNextOfSpec)

/-- ITS FALSE NEIGHBOUR: 'it returns false'. Refute it at one input. -/
def fnExactNextOfWrong : ChangeSpec := { name := "fnExactNextOf", fn := fun _ => fun
  | [d1, d2, d3] => { results := [.lit (.bool false)], args := [d1, d2, d3] }
  | _ => none }
def FnExactNextOfWrongFalsely : Prop := fnExactNextOfRow.holds Try.pinned (OpenSpec.ofChange fnExactNextOfWrong)

/-- 'laws.FnExactPrevOf': WHATEVER THE INPUT: true; the input reads as it did. -/
def fnExactPrevOfSpec : ChangeSpec := { name := "fnExactPrevOf", fn := fun _ => fun
  | [d1, d2, d3] => { results := [.lit (.bool true)], args := [d1, d2, d3] }
  | _ => none }
def fnExactPrevOfRow : OpenClaim := { program := "ytjolkpfenloobaa", sum := "9814a7b21fbae60513f19a30099e083de06fc27aa9047b8eb7d38aad4103cb5f", func := "loop.example/g00749/laws.FnExactPrevOf", spec := "fnExactPrevOf", apart := false }
def FnExactPrevOfSaid : Prop := fnExactPrevOfRow.holds Try.pinned (OpenSpec.ofChange fnExactPrevOfSpec)

/-- ITS FALSE NEIGHBOUR: 'it returns false'. Refute it at one input. -/
def fnExactPrevOfWrong : ChangeSpec := { name := "fnExactPrevOf", fn := fun _ => fun
  | [d1, d2, d3] => { results := [.lit (.bool false)], args := [d1, d2, d3] }
  | _ => none }
def FnExactPrevOfWrongFalsely : Prop := fnExactPrevOfRow.holds Try.pinned (OpenSpec.ofChange fnExactPrevOfWrong)

/-- 'laws.FnExactListFrom': WHATEVER THE INPUT: true; the input reads as it did. -/
def fnExactListFromSpec : ChangeSpec := { name := "fnExactListFrom", fn := fun _ => fun
  | [d1, d2, d3, d4] => { results := [.lit (.bool true)], args := [d1, d2, d3, d4] }
  | _ => none }
def fnExactListFromRow : OpenClaim := { program := "ytjolkpfenloobaa", sum := "9814a7b21fbae60513f19a30099e083de06fc27aa9047b8eb7d38aad4103cb5f", func := "loop.example/g00749/laws.FnExactListFrom", spec := "fnExactListFrom", unfollowed := true, recurses := true, apart := false }
def FnExactListFromSaid : Prop := fnExactListFromRow.holds Try.pinned (OpenSpec.ofChange fnExactListFromSpec)

/-- ITS FALSE NEIGHBOUR: 'it returns false'. Refute it at one input. -/
def fnExactListFromWrong : ChangeSpec := { name := "fnExactListFrom", fn := fun _ => fun
  | [d1, d2, d3, d4] => { results := [.lit (.bool false)], args := [d1, d2, d3, d4] }
  | _ => none }
def FnExactListFromWrongFalsely : Prop := fnExactListFromRow.holds Try.pinned (OpenSpec.ofChange fnExactListFromWrong)

/-- 'laws.FnExactGapOf': WHATEVER THE INPUT: true; the input reads as it did. -/
def fnExactGapOfSpec : ChangeSpec := { name := "fnExactGapOf", fn := fun _ => fun
  | [d1, d2, d3] => { results := [.lit (.bool true)], args := [d1, d2, d3] }
  | _ => none }
def fnExactGapOfRow : OpenClaim := { program := "ytjolkpfenloobaa", sum := "9814a7b21fbae60513f19a30099e083de06fc27aa9047b8eb7d38aad4103cb5f", func := "loop.example/g00749/laws.FnExactGapOf", spec := "fnExactGapOf", apart := false }
def FnExactGapOfSaid : Prop := fnExactGapOfRow.holds Try.pinned (OpenSpec.ofChange fnExactGapOfSpec)

/-- ITS FALSE NEIGHBOUR: 'it returns false'. Refute it at one input. -/
def fnExactGapOfWrong : ChangeSpec := { name := "fnExactGapOf", fn := fun _ => fun
  | [d1, d2, d3] => { results := [.lit (.bool false)], args := [d1, d2, d3] }
  | _ => none }
def FnExactGapOfWrongFalsely : Prop := fnExactGapOfRow.holds Try.pinned (OpenSpec.ofChange fnExactGapOfWrong)

/-- 'laws.FnExactKeysOf': WHATEVER THE INPUT: true; the input reads as it did. -/
def fnExactKeysOfSpec : ChangeSpec := { name := "fnExactKeysOf", fn := fun _ => fun
  | [d1, d2, d3] => { results := [.lit (.bool true)], args := [d1, d2, d3] }
  | _ => none }
def fnExactKeysOfRow : OpenClaim := { program := "ytjolkpfenloobaa", sum := "9814a7b21fbae60513f19a30099e083de06fc27aa9047b8eb7d38aad4103cb5f", func := "loop.example/g00749/laws.FnExactKeysOf", spec := "fnExactKeysOf", apart := false }
def FnExactKeysOfSaid : Prop := fnExactKeysOfRow.holds Try.pinned (OpenSpec.ofChange fnExactKeysOfSpec)

/-- ITS FALSE NEIGHBOUR: 'it returns false'. Refute it at one input. -/
def fnExactKeysOfWrong : ChangeSpec := { name := "fnExactKeysOf", fn := fun _ => fun
  | [d1, d2, d3] => { results := [.lit (.bool false)], args := [d1, d2, d3] }
  | _ => none }
def FnExactKeysOfWrongFalsely : Prop := fnExactKeysOfRow.holds Try.pinned (OpenSpec.ofChange fnExactKeysOfWrong)

/-- 'laws.FnExactJoinRing': WHATEVER THE INPUT: true; the input reads as it did. -/
def fnExactJoinRingSpec : ChangeSpec := { name := "fnExactJoinRing", fn := fun _ => fun
  | [d1, d2, d3] => { results := [.lit (.bool true)], args := [d1, d2, d3] }
  | _ => none }
def fnExactJoinRingRow : OpenClaim := { program := "ytjolkpfenloobaa", sum := "9814a7b21fbae60513f19a30099e083de06fc27aa9047b8eb7d38aad4103cb5f", func := "loop.example/g00749/laws.FnExactJoinRing", spec := "fnExactJoinRing", apart := false }
def FnExactJoinRingSaid : Prop := fnExactJoinRingRow.holds Try.pinned (OpenSpec.ofChange fnExactJoinRingSpec)

/-- ITS FALSE NEIGHBOUR: 'it returns false'. Refute it at one input. -/
def fnExactJoinRingWrong : ChangeSpec := { name := "fnExactJoinRing", fn := fun _ => fun
  | [d1, d2, d3] => { results := [.lit (.bool false)], args := [d1, d2, d3] }
  | _ => none }
def FnExactJoinRingWrongFalsely : Prop := fnExactJoinRingRow.holds Try.pinned (OpenSpec.ofChange fnExactJoinRingWrong)

/-- 'laws.FnExactLeaveRing': WHATEVER THE INPUT: true; the input reads as it did. -/
def fnExactLeaveRingSpec : ChangeSpec := { name := "fnExactLeaveRing", fn := fun _ => fun
  | [d1, d2, d3] => { results := [.lit (.bool true)], args := [d1, d2, d3] }
  | _ => none }
def fnExactLeaveRingRow : OpenClaim := { program := "ytjolkpfenloobaa", sum := "9814a7b21fbae60513f19a30099e083de06fc27aa9047b8eb7d38aad4103cb5f", func := "loop.example/g00749/laws.FnExactLeaveRing", spec := "fnExactLeaveRing", apart := false }
def FnExactLeaveRingSaid : Prop := fnExactLeaveRingRow.holds Try.pinned (OpenSpec.ofChange fnExactLeaveRingSpec)

/-- ITS FALSE NEIGHBOUR: 'it returns false'. Refute it at one input. -/
def fnExactLeaveRingWrong : ChangeSpec := { name := "fnExactLeaveRing", fn := fun _ => fun
  | [d1, d2, d3] => { results := [.lit (.bool false)], args := [d1, d2, d3] }
  | _ => none }
def FnExactLeaveRingWrongFalsely : Prop := fnExactLeaveRingRow.holds Try.pinned (OpenSpec.ofChange fnExactLeaveRingWrong)

/- THE SECOND FORM. 'bulk': how many values and letters a reading holds, each counted each time it is reached (what is shared counts as often as it is met; a slice's spare places count too). A statement '..UptoSaid' is the law's where the arguments, and the package variables that the reading takes, are together of bulk at most 1048576: NARROWER than '..Said'. Prove '..Said' where nothing that the law and all that it calls make is longer than what came in: it says more and counts as full. Else prove '..UptoSaid'. A law counts once. -/
mutual
def uptoBulk {H : Type} : DataW H → Nat
  | .lit (.string bytes) => bytes.length + 1
  | .lit _ => 1
  | .nil => 1
  | .ptr d => uptoBulk d + 1
  | .slice elems spare => uptoBulkAll elems + uptoBulkAll spare + 1
  | .agg parts => uptoBulkAll parts + 1
  | .iface _ d => uptoBulk d + 1
  | .map entries => uptoBulkEntries entries + 1
  | .held _ => 1
def uptoBulkAll {H : Type} : List (DataW H) → Nat
  | [] => 0
  | d :: r => uptoBulk d + uptoBulkAll r
def uptoBulkEntries {H : Type} : List (Lit × DataW H) → Nat
  | [] => 0
  | x :: r => uptoBulkEntry x + uptoBulkEntries r
def uptoBulkEntry {H : Type} : Lit × DataW H → Nat
  | (.string bytes, d) => bytes.length + uptoBulk d + 1
  | (_, d) => uptoBulk d + 1
 end
def uptoSmall : (H : Type) → List (DataW H) → Bool := fun _ ds => decide (uptoBulkAll ds ≤ 1048576)
def OpenSpec.upto (s : _root_.Go.ChangeSpec) : _root_.Go.OpenSpec := { _root_.Go.OpenSpec.ofChange s with cond := some uptoSmall }

/-- 'laws.FnOwners', WHERE WHAT IT READS IS OF BULK AT MOST 1048576: true; the input reads as it did. -/
def fnOwnersUptoRow : OpenClaim := { program := "ytjolkpfenloobaa", sum := "9814a7b21fbae60513f19a30099e083de06fc27aa9047b8eb7d38aad4103cb5f", func := "loop.example/g00749/laws.FnOwners", spec := "fnOwners", apart := false, narrowed := true }
def FnOwnersUptoSaid : Prop := fnOwnersUptoRow.holds Try.pinned (OpenSpec.upto fnOwnersSpec)

/-- 'laws.FnExactGoodRing', WHERE WHAT IT READS IS OF BULK AT MOST 1048576: true; the input reads as it did. -/
def fnExactGoodRingUptoRow : OpenClaim := { program := "ytjolkpfenloobaa", sum := "9814a7b21fbae60513f19a30099e083de06fc27aa9047b8eb7d38aad4103cb5f", func := "loop.example/g00749/laws.FnExactGoodRing", spec := "fnExactGoodRing", apart := false, narrowed := true }
def FnExactGoodRingUptoSaid : Prop := fnExactGoodRingUptoRow.holds Try.pinned (OpenSpec.upto fnExactGoodRingSpec)

/-- 'laws.FnExactOwnerOf', WHERE WHAT IT READS IS OF BULK AT MOST 1048576: true; the input reads as it did. -/
def fnExactOwnerOfUptoRow : OpenClaim := { program := "ytjolkpfenloobaa", sum := "9814a7b21fbae60513f19a30099e083de06fc27aa9047b8eb7d38aad4103cb5f", func := "loop.example/g00749/laws.FnExactOwnerOf", spec := "fnExactOwnerOf", apart := false, narrowed := true }
def FnExactOwnerOfUptoSaid : Prop := fnExactOwnerOfUptoRow.holds Try.pinned (OpenSpec.upto fnExactOwnerOfSpec)

/-- 'laws.FnExactNextOf', WHERE WHAT IT READS IS OF BULK AT MOST 1048576: true; the input reads as it did. -/
def fnExactNextOfUptoRow : OpenClaim := { program := "ytjolkpfenloobaa", sum := "9814a7b21fbae60513f19a30099e083de06fc27aa9047b8eb7d38aad4103cb5f", func := "loop.example/g00749/laws.FnExactNextOf", spec := "fnExactNextOf", apart := false, narrowed := true }
def FnExactNextOfUptoSaid : Prop := fnExactNextOfUptoRow.holds Try.pinned (OpenSpec.upto fnExactNextOfSpec)

/-- 'laws.FnExactPrevOf', WHERE WHAT IT READS IS OF BULK AT MOST 1048576: true; the input reads as it did. -/
def fnExactPrevOfUptoRow : OpenClaim := { program := "ytjolkpfenloobaa", sum := "9814a7b21fbae60513f19a30099e083de06fc27aa9047b8eb7d38aad4103cb5f", func := "loop.example/g00749/laws.FnExactPrevOf", spec := "fnExactPrevOf", apart := false, narrowed := true }
def FnExactPrevOfUptoSaid : Prop := fnExactPrevOfUptoRow.holds Try.pinned (OpenSpec.upto fnExactPrevOfSpec)

/-- 'laws.FnExactListFrom', WHERE WHAT IT READS IS OF BULK AT MOST 1048576: true; the input reads as it did. -/
def fnExactListFromUptoRow : OpenClaim := { program := "ytjolkpfenloobaa", sum := "9814a7b21fbae60513f19a30099e083de06fc27aa9047b8eb7d38aad4103cb5f", func := "loop.example/g00749/laws.FnExactListFrom", spec := "fnExactListFrom", unfollowed := true, recurses := true, apart := false, narrowed := true }
def FnExactListFromUptoSaid : Prop := fnExactListFromUptoRow.holds Try.pinned (OpenSpec.upto fnExactListFromSpec)

/-- 'laws.FnExactGapOf', WHERE WHAT IT READS IS OF BULK AT MOST 1048576: true; the input reads as it did. -/
def fnExactGapOfUptoRow : OpenClaim := { program := "ytjolkpfenloobaa", sum := "9814a7b21fbae60513f19a30099e083de06fc27aa9047b8eb7d38aad4103cb5f", func := "loop.example/g00749/laws.FnExactGapOf", spec := "fnExactGapOf", apart := false, narrowed := true }
def FnExactGapOfUptoSaid : Prop := fnExactGapOfUptoRow.holds Try.pinned (OpenSpec.upto fnExactGapOfSpec)

/-- 'laws.FnExactKeysOf', WHERE WHAT IT READS IS OF BULK AT MOST 1048576: true; the input reads as it did. -/
def fnExactKeysOfUptoRow : OpenClaim := { program := "ytjolkpfenloobaa", sum := "9814a7b21fbae60513f19a30099e083de06fc27aa9047b8eb7d38aad4103cb5f", func := "loop.example/g00749/laws.FnExactKeysOf", spec := "fnExactKeysOf", apart := false, narrowed := true }
def FnExactKeysOfUptoSaid : Prop := fnExactKeysOfUptoRow.holds Try.pinned (OpenSpec.upto fnExactKeysOfSpec)

/-- 'laws.FnExactJoinRing', WHERE WHAT IT READS IS OF BULK AT MOST 1048576: true; the input reads as it did. -/
def fnExactJoinRingUptoRow : OpenClaim := { program := "ytjolkpfenloobaa", sum := "9814a7b21fbae60513f19a30099e083de06fc27aa9047b8eb7d38aad4103cb5f", func := "loop.example/g00749/laws.FnExactJoinRing", spec := "fnExactJoinRing", apart := false, narrowed := true }
def FnExactJoinRingUptoSaid : Prop := fnExactJoinRingUptoRow.holds Try.pinned (OpenSpec.upto fnExactJoinRingSpec)

/-- 'laws.FnExactLeaveRing', WHERE WHAT IT READS IS OF BULK AT MOST 1048576: true; the input reads as it did. -/
def fnExactLeaveRingUptoRow : OpenClaim := { program := "ytjolkpfenloobaa", sum := "9814a7b21fbae60513f19a30099e083de06fc27aa9047b8eb7d38aad4103cb5f", func := "loop.example/g00749/laws.FnExactLeaveRing", spec := "fnExactLeaveRing", apart := false, narrowed := true }
def FnExactLeaveRingUptoSaid : Prop := fnExactLeaveRingUptoRow.holds Try.pinned (OpenSpec.upto fnExactLeaveRingSpec)

end Rows
end Go.Proofs.Ytjolkpfenloobaa
