/-
  No cell of these rows narrows 'for every input' (looked for: loops, veiled, ifaces, maps, wideKeys, modest, calm, conditions, laid).
  DERIVED. THE GIVEN ROWS OF THIS SEAT. 8 by the template 'for every input the law returns true; each argument reads behind the call as it read before'; 0 by the template 'total and deterministic' (their statements: YtgmdbihdnacpjaaTotals.lean).
  GIVEN WITH THE SEED: the statements are not yours to turn. If you find one false, say at which input.
  Laid BY PROGRAM, IN A SANDBOX (cutbox-rows.mjs): the forced cells as the released guide's own fill.sh prints them over the translation f79d19ad7dd910b1… (all of the seat's roots in one cut). By AI agents, Wed Nov 11 2026. No macro, syntax, notation, axiom, sorry.
-/
import Derived.Test.YtgmdbihdnacpjaaChecked
import GoSem.Claim
import GoSem.ClaimJoined
import GoSem.ClaimMapViews
import Derived.JoinedTies
import Derived.KernelRfl
namespace Go.Proofs.Ytgmdbihdnacpjaa
/- THE CELL 'sum', in the pinned program and in every row, IS THE sha256 OF THE DUMP (.gsa) THAT YtgmdbihdnacpjaaProg.lean LOADS. Nothing in Lean hashes anything: it is a label: what it is worth is what the hold of that sum in a sandbox is worth. -/
noncomputable def Try.pinned : Pinned := { name := "ytgmdbihdnacpjaa", sum := "f79d19ad7dd910b1f724d2fb76931455e2bb120b96e14da8d76a719cb29b3e23", checked := Try.checked }
namespace Rows
def none {H : Type} : Left H := { results := [], args := [] }

/-- 'laws.FnSetPoints': WHATEVER THE INPUT: true; the input reads as it did. -/
def fnSetPointsSpec : ChangeSpec := { name := "fnSetPoints", fn := fun _ => fun
  | [d1, d2] => { results := [.lit (.bool true)], args := [d1, d2] }
  | _ => none }
def fnSetPointsRow : OpenClaim := { program := "ytgmdbihdnacpjaa", sum := "f79d19ad7dd910b1f724d2fb76931455e2bb120b96e14da8d76a719cb29b3e23", func := "loop.example/g00749/laws.FnSetPoints", spec := "fnSetPoints", apart := false }
def FnSetPointsSaid : Prop := fnSetPointsRow.holds Try.pinned (OpenSpec.ofChange fnSetPointsSpec)

/-- ITS FALSE NEIGHBOUR: 'it returns false'. Refute it at one input. -/
def fnSetPointsWrong : ChangeSpec := { name := "fnSetPoints", fn := fun _ => fun
  | [d1, d2] => { results := [.lit (.bool false)], args := [d1, d2] }
  | _ => none }
def FnSetPointsWrongFalsely : Prop := fnSetPointsRow.holds Try.pinned (OpenSpec.ofChange fnSetPointsWrong)

/-- 'laws.FnExactGoodPeers': WHATEVER THE INPUT: true; the input reads as it did. -/
def fnExactGoodPeersSpec : ChangeSpec := { name := "fnExactGoodPeers", fn := fun _ => fun
  | [d] => { results := [.lit (.bool true)], args := [d] }
  | _ => none }
def fnExactGoodPeersRow : OpenClaim := { program := "ytgmdbihdnacpjaa", sum := "f79d19ad7dd910b1f724d2fb76931455e2bb120b96e14da8d76a719cb29b3e23", func := "loop.example/g00749/laws.FnExactGoodPeers", spec := "fnExactGoodPeers", apart := false }
def FnExactGoodPeersSaid : Prop := fnExactGoodPeersRow.holds Try.pinned (OpenSpec.ofChange fnExactGoodPeersSpec)

/-- ITS FALSE NEIGHBOUR: 'it returns false'. Refute it at one input. -/
def fnExactGoodPeersWrong : ChangeSpec := { name := "fnExactGoodPeers", fn := fun _ => fun
  | [d] => { results := [.lit (.bool false)], args := [d] }
  | _ => none }
def FnExactGoodPeersWrongFalsely : Prop := fnExactGoodPeersRow.holds Try.pinned (OpenSpec.ofChange fnExactGoodPeersWrong)

/-- 'laws.FnExactIdealPeers': WHATEVER THE INPUT: true; the input reads as it did. -/
def fnExactIdealPeersSpec : ChangeSpec := { name := "fnExactIdealPeers", fn := fun _ => fun
  | [d1, d2, d3] => { results := [.lit (.bool true)], args := [d1, d2, d3] }
  | _ => none }
def fnExactIdealPeersRow : OpenClaim := { program := "ytgmdbihdnacpjaa", sum := "f79d19ad7dd910b1f724d2fb76931455e2bb120b96e14da8d76a719cb29b3e23", func := "loop.example/g00749/laws.FnExactIdealPeers", spec := "fnExactIdealPeers", apart := false }
def FnExactIdealPeersSaid : Prop := fnExactIdealPeersRow.holds Try.pinned (OpenSpec.ofChange fnExactIdealPeersSpec)

/-- ITS FALSE NEIGHBOUR: 'it returns false'. Refute it at one input. -/
def fnExactIdealPeersWrong : ChangeSpec := { name := "fnExactIdealPeers", fn := fun _ => fun
  | [d1, d2, d3] => { results := [.lit (.bool false)], args := [d1, d2, d3] }
  | _ => none }
def FnExactIdealPeersWrongFalsely : Prop := fnExactIdealPeersRow.holds Try.pinned (OpenSpec.ofChange fnExactIdealPeersWrong)

/-- 'laws.FnExactPointOf': WHATEVER THE INPUT: true; the input reads as it did. -/
def fnExactPointOfSpec : ChangeSpec := { name := "fnExactPointOf", fn := fun _ => fun
  | [d1, d2, d3] => { results := [.lit (.bool true)], args := [d1, d2, d3] }
  | _ => none }
def fnExactPointOfRow : OpenClaim := { program := "ytgmdbihdnacpjaa", sum := "f79d19ad7dd910b1f724d2fb76931455e2bb120b96e14da8d76a719cb29b3e23", func := "loop.example/g00749/laws.FnExactPointOf", spec := "fnExactPointOf", apart := false }
def FnExactPointOfSaid : Prop := fnExactPointOfRow.holds Try.pinned (OpenSpec.ofChange fnExactPointOfSpec)

/-- ITS FALSE NEIGHBOUR: 'it returns false'. Refute it at one input. -/
def fnExactPointOfWrong : ChangeSpec := { name := "fnExactPointOf", fn := fun _ => fun
  | [d1, d2, d3] => { results := [.lit (.bool false)], args := [d1, d2, d3] }
  | _ => none }
def FnExactPointOfWrongFalsely : Prop := fnExactPointOfRow.holds Try.pinned (OpenSpec.ofChange fnExactPointOfWrong)

/-- 'laws.FnExactIsIdeal': WHATEVER THE INPUT: true; the input reads as it did. -/
def fnExactIsIdealSpec : ChangeSpec := { name := "fnExactIsIdeal", fn := fun _ => fun
  | [d] => { results := [.lit (.bool true)], args := [d] }
  | _ => none }
def fnExactIsIdealRow : OpenClaim := { program := "ytgmdbihdnacpjaa", sum := "f79d19ad7dd910b1f724d2fb76931455e2bb120b96e14da8d76a719cb29b3e23", func := "loop.example/g00749/laws.FnExactIsIdeal", spec := "fnExactIsIdeal", apart := false }
def FnExactIsIdealSaid : Prop := fnExactIsIdealRow.holds Try.pinned (OpenSpec.ofChange fnExactIsIdealSpec)

/-- ITS FALSE NEIGHBOUR: 'it returns false'. Refute it at one input. -/
def fnExactIsIdealWrong : ChangeSpec := { name := "fnExactIsIdeal", fn := fun _ => fun
  | [d] => { results := [.lit (.bool false)], args := [d] }
  | _ => none }
def FnExactIsIdealWrongFalsely : Prop := fnExactIsIdealRow.holds Try.pinned (OpenSpec.ofChange fnExactIsIdealWrong)

/-- 'laws.FnExactSetPoint': WHATEVER THE INPUT: true; the input reads as it did. -/
def fnExactSetPointSpec : ChangeSpec := { name := "fnExactSetPoint", fn := fun _ => fun
  | [d1, d2, d3, d4] => { results := [.lit (.bool true)], args := [d1, d2, d3, d4] }
  | _ => none }
def fnExactSetPointRow : OpenClaim := { program := "ytgmdbihdnacpjaa", sum := "f79d19ad7dd910b1f724d2fb76931455e2bb120b96e14da8d76a719cb29b3e23", func := "loop.example/g00749/laws.FnExactSetPoint", spec := "fnExactSetPoint", apart := false }
def FnExactSetPointSaid : Prop := fnExactSetPointRow.holds Try.pinned (OpenSpec.ofChange fnExactSetPointSpec)

/-- ITS FALSE NEIGHBOUR: 'it returns false'. Refute it at one input. -/
def fnExactSetPointWrong : ChangeSpec := { name := "fnExactSetPoint", fn := fun _ => fun
  | [d1, d2, d3, d4] => { results := [.lit (.bool false)], args := [d1, d2, d3, d4] }
  | _ => none }
def FnExactSetPointWrongFalsely : Prop := fnExactSetPointRow.holds Try.pinned (OpenSpec.ofChange fnExactSetPointWrong)

/-- 'laws.FnExactCrowdOf': WHATEVER THE INPUT: true; the input reads as it did. -/
def fnExactCrowdOfSpec : ChangeSpec := { name := "fnExactCrowdOf", fn := fun _ => fun
  | [d1, d2] => { results := [.lit (.bool true)], args := [d1, d2] }
  | _ => none }
def fnExactCrowdOfRow : OpenClaim := { program := "ytgmdbihdnacpjaa", sum := "f79d19ad7dd910b1f724d2fb76931455e2bb120b96e14da8d76a719cb29b3e23", func := "loop.example/g00749/laws.FnExactCrowdOf", spec := "fnExactCrowdOf", apart := false }
def FnExactCrowdOfSaid : Prop := fnExactCrowdOfRow.holds Try.pinned (OpenSpec.ofChange fnExactCrowdOfSpec)

/-- ITS FALSE NEIGHBOUR: 'it returns false'. Refute it at one input. -/
def fnExactCrowdOfWrong : ChangeSpec := { name := "fnExactCrowdOf", fn := fun _ => fun
  | [d1, d2] => { results := [.lit (.bool false)], args := [d1, d2] }
  | _ => none }
def FnExactCrowdOfWrongFalsely : Prop := fnExactCrowdOfRow.holds Try.pinned (OpenSpec.ofChange fnExactCrowdOfWrong)

/-- 'laws.FnExactMembersOf': WHATEVER THE INPUT: true; the input reads as it did. -/
def fnExactMembersOfSpec : ChangeSpec := { name := "fnExactMembersOf", fn := fun _ => fun
  | [d] => { results := [.lit (.bool true)], args := [d] }
  | _ => none }
def fnExactMembersOfRow : OpenClaim := { program := "ytgmdbihdnacpjaa", sum := "f79d19ad7dd910b1f724d2fb76931455e2bb120b96e14da8d76a719cb29b3e23", func := "loop.example/g00749/laws.FnExactMembersOf", spec := "fnExactMembersOf", apart := false }
def FnExactMembersOfSaid : Prop := fnExactMembersOfRow.holds Try.pinned (OpenSpec.ofChange fnExactMembersOfSpec)

/-- ITS FALSE NEIGHBOUR: 'it returns false'. Refute it at one input. -/
def fnExactMembersOfWrong : ChangeSpec := { name := "fnExactMembersOf", fn := fun _ => fun
  | [d] => { results := [.lit (.bool false)], args := [d] }
  | _ => none }
def FnExactMembersOfWrongFalsely : Prop := fnExactMembersOfRow.holds Try.pinned (OpenSpec.ofChange fnExactMembersOfWrong)

/- THE SECOND FORM. 'bulk': how many values and letters a reading holds, each counted each time it is reached (what is shared counts as often as it is met; a slice's spare places count too). A statement '..UptoSaid' is the law's where the arguments, and the package variables that the reading takes, are together of bulk at most 1048576: NARROWER than '..Said'. Prove '..Said' where nothing that the law and all that it calls make is longer than what came in: it says more and counts as full. Else prove '..UptoSaid'. A law counts once. -/
mutual
def uptoBulk {H : Type} : DataW H → Nat
  | .lit (.string bytes) => bytes.length + 1
  | .lit _ => 1
  | .nil => 1
  | .ptr d => uptoBulk d + 1
  | .slice elems spare => uptoBulkAll elems + uptoBulkAll spare + 1
  | .agg parts => uptoBulkAll parts + 1
  | .iface _ d => uptoBulk d + 1
  | .map entries => uptoBulkEntries entries + 1
  | .held _ => 1
def uptoBulkAll {H : Type} : List (DataW H) → Nat
  | [] => 0
  | d :: r => uptoBulk d + uptoBulkAll r
def uptoBulkEntries {H : Type} : List (Lit × DataW H) → Nat
  | [] => 0
  | x :: r => uptoBulkEntry x + uptoBulkEntries r
def uptoBulkEntry {H : Type} : Lit × DataW H → Nat
  | (.string bytes, d) => bytes.length + uptoBulk d + 1
  | (_, d) => uptoBulk d + 1
 end
def uptoSmall : (H : Type) → List (DataW H) → Bool := fun _ ds => decide (uptoBulkAll ds ≤ 1048576)
def OpenSpec.upto (s : _root_.Go.ChangeSpec) : _root_.Go.OpenSpec := { _root_.Go.OpenSpec.ofChange s with cond := some uptoSmall }

/-- 'laws.FnSetPoints', WHERE WHAT IT READS IS OF BULK AT MOST 1048576: true; the input reads as it did. -/
def fnSetPointsUptoRow : OpenClaim := { program := "ytgmdbihdnacpjaa", sum := "f79d19ad7dd910b1f724d2fb76931455e2bb120b96e14da8d76a719cb29b3e23", func := "loop.example/g00749/laws.FnSetPoints", spec := "fnSetPoints", apart := false, narrowed := true }
def FnSetPointsUptoSaid : Prop := fnSetPointsUptoRow.holds Try.pinned (OpenSpec.upto fnSetPointsSpec)

/-- 'laws.FnExactGoodPeers', WHERE WHAT IT READS IS OF BULK AT MOST 1048576: true; the input reads as it did. -/
def fnExactGoodPeersUptoRow : OpenClaim := { program := "ytgmdbihdnacpjaa", sum := "f79d19ad7dd910b1f724d2fb76931455e2bb120b96e14da8d76a719cb29b3e23", func := "loop.example/g00749/laws.FnExactGoodPeers", spec := "fnExactGoodPeers", apart := false, narrowed := true }
def FnExactGoodPeersUptoSaid : Prop := fnExactGoodPeersUptoRow.holds Try.pinned (OpenSpec.upto fnExactGoodPeersSpec)

/-- 'laws.FnExactIdealPeers', WHERE WHAT IT READS IS OF BULK AT MOST 1048576: true; the input reads as it did. -/
def fnExactIdealPeersUptoRow : OpenClaim := { program := "ytgmdbihdnacpjaa", sum := "f79d19ad7dd910b1f724d2fb76931455e2bb120b96e14da8d76a719cb29b3e23", func := "loop.example/g00749/laws.FnExactIdealPeers", spec := "fnExactIdealPeers", apart := false, narrowed := true }
def FnExactIdealPeersUptoSaid : Prop := fnExactIdealPeersUptoRow.holds Try.pinned (OpenSpec.upto fnExactIdealPeersSpec)

/-- 'laws.FnExactPointOf', WHERE WHAT IT READS IS OF BULK AT MOST 1048576: true; the input reads as it did. -/
def fnExactPointOfUptoRow : OpenClaim := { program := "ytgmdbihdnacpjaa", sum := "f79d19ad7dd910b1f724d2fb76931455e2bb120b96e14da8d76a719cb29b3e23", func := "loop.example/g00749/laws.FnExactPointOf", spec := "fnExactPointOf", apart := false, narrowed := true }
def FnExactPointOfUptoSaid : Prop := fnExactPointOfUptoRow.holds Try.pinned (OpenSpec.upto fnExactPointOfSpec)

/-- 'laws.FnExactIsIdeal', WHERE WHAT IT READS IS OF BULK AT MOST 1048576: true; the input reads as it did. -/
def fnExactIsIdealUptoRow : OpenClaim := { program := "ytgmdbihdnacpjaa", sum := "f79d19ad7dd910b1f724d2fb76931455e2bb120b96e14da8d76a719cb29b3e23", func := "loop.example/g00749/laws.FnExactIsIdeal", spec := "fnExactIsIdeal", apart := false, narrowed := true }
def FnExactIsIdealUptoSaid : Prop := fnExactIsIdealUptoRow.holds Try.pinned (OpenSpec.upto fnExactIsIdealSpec)

/-- 'laws.FnExactSetPoint', WHERE WHAT IT READS IS OF BULK AT MOST 1048576: true; the input reads as it did. -/
def fnExactSetPointUptoRow : OpenClaim := { program := "ytgmdbihdnacpjaa", sum := "f79d19ad7dd910b1f724d2fb76931455e2bb120b96e14da8d76a719cb29b3e23", func := "loop.example/g00749/laws.FnExactSetPoint", spec := "fnExactSetPoint", apart := false, narrowed := true }
def FnExactSetPointUptoSaid : Prop := fnExactSetPointUptoRow.holds Try.pinned (OpenSpec.upto fnExactSetPointSpec)

/-- 'laws.FnExactCrowdOf', WHERE WHAT IT READS IS OF BULK AT MOST 1048576: true; the input reads as it did. -/
def fnExactCrowdOfUptoRow : OpenClaim := { program := "ytgmdbihdnacpjaa", sum := "f79d19ad7dd910b1f724d2fb76931455e2bb120b96e14da8d76a719cb29b3e23", func := "loop.example/g00749/laws.FnExactCrowdOf", spec := "fnExactCrowdOf", apart := false, narrowed := true }
def FnExactCrowdOfUptoSaid : Prop := fnExactCrowdOfUptoRow.holds Try.pinned (OpenSpec.upto fnExactCrowdOfSpec)

/-- 'laws.FnExactMembersOf', WHERE WHAT IT READS IS OF BULK AT MOST 1048576: true; the input reads as it did. -/
def fnExactMembersOfUptoRow : OpenClaim := { program := "ytgmdbihdnacpjaa", sum := "f79d19ad7dd910b1f724d2fb76931455e2bb120b96e14da8d76a719cb29b3e23", func := "loop.example/g00749/laws.FnExactMembersOf", spec := "fnExactMembersOf", apart := false, narrowed := true }
def FnExactMembersOfUptoSaid : Prop := fnExactMembersOfUptoRow.holds Try.pinned (OpenSpec.upto fnExactMembersOfSpec)

end Rows
end Go.Proofs.Ytgmdbihdnacpjaa
