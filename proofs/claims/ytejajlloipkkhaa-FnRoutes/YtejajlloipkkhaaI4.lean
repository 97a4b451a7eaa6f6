/- The code of a function from one of its regions on. -/
import Derived.Test.YtejajlloipkkhaaJ0Z
namespace Go.Proofs.Ytejajlloipkkhaa
set_option linter.unusedVariables false
def codeAt (n : Nat) : Code → Bool
  | .region i _ _ => i == n
  | .seq a _ => codeAt n a
  | _ => false
def codeFrom (n : Nat) : Code → Option Code
  | .seq a b => if codeAt n (.seq a b) then some (.seq a b) else match codeFrom n b with
    | some c => some c
    | none => codeFrom n a
  | .block _ c => codeFrom n c
  | .scope c => codeFrom n c
  | .cond _ a b => match codeFrom n a with
    | some c => some c
    | none => codeFrom n b
  | _ => none
def codeReg (n : Nat) : Code → Option Code
  | .region i o f => if i == n then some (.region i o f) else none
  | .seq a b => match codeReg n a with
    | some c => some c
    | none => codeReg n b
  | .block _ c => codeReg n c
  | .scope c => codeReg n c
  | .cond _ a b => match codeReg n a with
    | some c => some c
    | none => codeReg n b
  | _ => none
end Go.Proofs.Ytejajlloipkkhaa
