/- Ways through the ring: what a walk, a step and a route are, in numbers. -/
import Derived.Test.YtejajlloipkkhaaW5
import Derived.Test.YtejajlloipkkhaaQ0
namespace Go.Proofs.Ytejajlloipkkhaa
open Go.RowKit
set_option linter.unusedVariables false
/-- how far it is up to the first number whose last n digits are the first n of the key -/
def up4 (b d f k n : Int) : Int := (k / sz ((b / d - n) * d) - f % sz (n * d) + sz (n * d)) % sz (n * d)
def best (b d f m k : Int) : Nat → Int × Int
  | 0 => (f, b / d)
  | n + 1 => if up4 b d f k (n + 1 : Nat) < m then ((f + up4 b d f k (n + 1 : Nat)) % sz b, b / d - (n + 1 : Nat)) else best b d f m k n
def bestI (b d f t k : Int) : Int × Int := best b d f (rnd b f t) k (cnt b d)
structure Wk where
  at_ : Int
  imag : Int
  left : Int
  points : Int
  succs : Int
  state : Int
  owner : Int
def wk0 : Wk := ⟨0, 0, 0, 0, 0, 0, 0⟩
def Wk.cells (v : Wk) : Array Value := #[.int .i64 v.at_, .int .i64 v.imag, .int .i64 v.left, .int .i64 v.points, .int .i64 v.succs, .int .i64 v.state, .int .i64 v.owner]
def prN : Pr := ⟨-1, 0, 0, []⟩
def peerI : List Pr → Int → Pr
  | [], _ => prN
  | p :: ps, x => if p.id = x then p else peerI ps x
def dgt4 (d k l : Int) : Int := k / sz ((l - 1) * d) % sz d
def stp (b d : Int) (ps : List Pr) (k ttl : Int) (v : Wk) : Wk :=
  if k = v.at_ then ⟨v.at_, v.imag, v.left, v.points, v.succs, 1, v.at_⟩
  else if arcB b v.at_ k (peerI ps v.at_).succ = true then ⟨v.at_, v.imag, v.left, v.points, v.succs, 1, (peerI ps v.at_).succ⟩
  else if ttl ≤ v.points + v.succs then ⟨v.at_, v.imag, v.left, v.points, v.succs, 2, v.owner⟩
  else if 0 < v.left ∧ (v.imag = v.at_ ∨ btwB b v.at_ v.imag (peerI ps v.at_).succ = true) then ⟨(peerI ps v.at_).point, shf b d v.imag (dgt4 d k v.left), v.left - 1, v.points + 1, v.succs, v.state, v.owner⟩
  else ⟨(peerI ps v.at_).succ, v.imag, v.left, v.points, v.succs + 1, v.state, v.owner⟩
def askP (b d : Int) (ps : List Pr) (x k : Int) : Bool := goodP b d ps && hasB (idsP ps) x && numB b d k
def stt (b d : Int) (ps : List Pr) (x k : Int) : Wk := ⟨x, (bestI b d x (peerI ps x).succ k).1, (bestI b d x (peerI ps x).succ k).2, 0, 0, 0, 0⟩
def wkB (b d : Int) (ps : List Pr) (v : Wk) : Bool := numB b d v.imag && inB v.left 0 (b / d) && inB v.points 0 1000 && inB v.succs 0 1000 && inB v.state 0 2 && (if v.state = 1 then hasB (idsP ps) v.owner else decide (v.owner = 0))
def goodW (b d : Int) (ps : List Pr) (k : Int) (v : Wk) : Bool := askP b d ps v.at_ k && wkB b d ps v
def rtW (b d : Int) (ps : List Pr) (k ttl : Int) : Nat → Wk → Wk
  | 0, v => v
  | n + 1, v => if v.state = 0 then rtW b d ps k ttl n (stp b d ps k ttl v) else v
def rtL (b d : Int) (ps : List Pr) (k ttl : Int) : Nat → Wk → List Int
  | 0, _ => []
  | n + 1, v => if v.state = 0 then (if v.points + v.succs < (stp b d ps k ttl v).points + (stp b d ps k ttl v).succs then [(stp b d ps k ttl v).at_] else []) ++ rtL b d ps k ttl n (stp b d ps k ttl v) else []
def bndI (b d : Int) (n : Nat) : Int := b / d + (b / d + 1) * ((n : Int) - 1)
theorem peerI_mem : ∀ (ps : List Pr) (x : Int), hasB (idsP ps) x = true → (peerI ps x).id = x ∧ ∃ i, i < ps.length ∧ peerI ps x = ps.getD i pr0
  | [], x, h => by
    have := of_decide_eq_true h
    obtain ⟨i, hi, _⟩ := this
    simp [idsP] at hi
  | p :: ps, x, h => by
    unfold peerI
    by_cases he : p.id = x
    · rw [if_pos he]
      exact ⟨he, 0, by simp, by simp⟩
    · rw [if_neg he]
      have h2 : hasB (idsP ps) x = true := by
        obtain ⟨i, hi, hx⟩ := of_decide_eq_true h
        cases i with
        | zero => exact absurd (by simpa [idsP] using hx) he
        | succ i => exact decide_eq_true ⟨i, by simpa [idsP] using hi, by simpa [idsP] using hx⟩
      obtain ⟨h3, i, hi, h4⟩ := peerI_mem ps x h2
      exact ⟨h3, i + 1, by simpa using hi, by simpa using h4⟩
/-- of good peers: what a peer's numbers are -/
theorem peerI_good {b d : Int} {ps : List Pr} (hg : goodP b d ps = true) {x : Int} (hx : hasB (idsP ps) x = true) : (peerI ps x).id = x ∧ (peerI ps x).succ = nxtI (idsP ps) x ∧ hasB (idsP ps) (peerI ps x).point = true := by
  obtain ⟨h1, i, hi, h2⟩ := peerI_mem ps x hx
  have := prB_parts.1 ((goodP_true hg).2 i hi)
  rw [← h2] at this
  exact ⟨h1, by rw [this.1, h1], this.2.1⟩
theorem has_rng {b d : Int} {zs : List Int} (R : Ring b d zs) {x : Int} (h : hasB zs x = true) : 0 ≤ x ∧ x < sz b := by
  obtain ⟨i, hi, rfl⟩ := of_decide_eq_true h
  exact R.rng i hi
theorem askP_parts {b d : Int} {ps : List Pr} {x k : Int} (h : askP b d ps x k = true) : goodP b d ps = true ∧ hasB (idsP ps) x = true ∧ 0 ≤ k ∧ k < sz b := by
  unfold askP at h
  simp only [Bool.and_eq_true] at h
  obtain ⟨_, h1, h2⟩ := numB_true h.2
  exact ⟨h.1.1, h.1.2, h1, h2⟩
theorem nxt_has {b d : Int} {zs : List Int} (R : Ring b d zs) (x : Int) : hasB zs (nxtI zs x) = true := decide_eq_true ⟨uptI zs x % zs.length, Nat.mod_lt _ (by have := R.l1; omega), rfl⟩
end Go.Proofs.Ytejajlloipkkhaa
