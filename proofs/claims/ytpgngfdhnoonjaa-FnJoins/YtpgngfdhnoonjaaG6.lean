/- A region that draws its order: some operations one by one, the rest in a class of worlds. -/
import Derived.Test.YtpgngfdhnoonjaaG1
import Derived.Deep.RegionHeld
namespace Go.Proofs.Ytpgngfdhnoonjaa
open Go.RowKit
set_option linter.unusedVariables false
section
variable {P : Program} {Q : Exit → Act → World → Prop} {S C : World → Prop} {ops : Array Oper}
theorem held_of_anyq {Qa : Act → Prop} (hCS : ∀ w, C w → S w) (hQ : ∀ a w, C w → Qa a → Q .normal a w) : ∀ (fuel : Nat) (listed : Array Bool) (a : Act) (w : World), C w → wpAnyQ P .any ops C Qa fuel listed a → wpAnyH P .any ops Q S fuel listed a w
  | 0, _, _, _, hw, h => ⟨h.1, hQ _ _ hw h.2⟩
  | fuel + 1, _, _, _, hw, h => ⟨fun h0 => hQ _ _ hw (h.1 h0), fun i hi => wpOp_of_qOp hw (fun a' w' hw' hh => ⟨hCS _ hw', held_of_anyq hCS hQ fuel _ a' w' hw' hh⟩) (h.2 i hi)⟩
/-- from operation k on in a class of worlds -/
theorem held_quiet {w : World} {a : Act} {listed : Array Bool} {L : List Oper} (k n : Nat) (hCS : ∀ w, C w → S w) (hs : Region.noSelect L.toArray = true) (hn : (L.drop k).length = n) (hB : Region.lexFrom .any L.toArray (L.drop k).length k listed = true) (hw : C w)
    (h : wpQuiet P L.toArray C (fun a' => ∀ w', C w' → Q .normal a' w') (L.drop k) a) : wpAnyH P .any L.toArray Q S n listed a w := by
  subst hn
  exact held_of_anyq hCS (fun a' w' hw' hq => hq w' hw') _ _ _ _ hw (wpAnyQ_lex hs (L.drop k) k listed a (fun j => by rw [List.getElem?_drop, List.getElem?_toArray]) hB h)
/-- the class of worlds in which nothing below a block has turned -/
def KinS (B : Nat) (w : World) : World → Prop := fun w' => ∃ p : Kin B w, w' = p.v
theorem kinS_sub {B B2 : Nat} {w w2 : World} (hb : Below B w w2) (hB : B ≤ B2) : ∀ w', (∃ p : Kin B2 w2, w' = p.v) → KinS B w w' := fun w' ⟨p, hp⟩ => ⟨⟨p.v, hb.trans (p.bel.mono hB)⟩, hp⟩
theorem kinS_of {B : Nat} {w w' : World} (hb : Below B w w') : KinS B w w' := ⟨⟨w', hb⟩, rfl⟩
theorem kinS_self (B : Nat) (w : World) : KinS B w w.drew := ⟨⟨w.drew, (Below.refl _ _).drew⟩, rfl⟩
end
end Go.Proofs.Ytpgngfdhnoonjaa
