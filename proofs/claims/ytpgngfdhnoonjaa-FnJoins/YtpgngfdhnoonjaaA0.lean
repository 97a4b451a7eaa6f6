/- A class of worlds for a region that draws its order: all those in which nothing below a block has turned; and the plain mathematics of chapter 1. -/
import Derived.Test.YtpgngfdhnoonjaaChecked
import Derived.WalkKit
import Derived.Below
import Derived.BigQuiet
namespace Go.Proofs.Ytpgngfdhnoonjaa
open Go.RowKit
set_option linter.unusedVariables false

structure Kin (B : Nat) (w : World) where
  v : World
  bel : Below B w v

theorem kinNe (B : Nat) (w : World) : Nonempty (Kin B w) := ⟨⟨w, Below.refl _ _⟩⟩

theorem region_kin {P : Program} {id : Nat} {Q : Exit → Act → World → Prop} {a : Act} {w : World} {l : List Oper} (B : Nat) (hm : P.follows .mixedOrders = true) (hB : Region.lexB .any l.toArray = true)
    (h : Nonempty (Kin B w) → wpQuiet P l.toArray (fun w' => ∃ p : Kin B w, w' = p.v) (fun a' => ∀ w', (∃ p : Kin B w, w' = p.v) → Q .normal a' w') l a) : (Code.region id l.toArray true).wp P Q a w :=
  wp_region_quiet (C := fun w' => ∃ p : Kin B w, w' = p.v) hm hB ⟨⟨w.drew, (Below.refl _ _).drew⟩, rfl⟩ (by simpa using h (kinNe B w))

theorem kin_of {P : Program} {f : FuncId} {args : Array Value} {B : Nat} {w : World} {p : Kin B w} {v : Value} (hB : B ≤ w.heap.size)
    (h : Calls P f args p.v fun e w' => e = .returned v ∧ Below p.v.heap.size p.v w') : Calls P f args p.v fun e w'' => e = .returned v ∧ ∃ q : Kin B w, w'' = q.v :=
  h.mono fun _ w' ⟨he, hb⟩ => ⟨he, ⟨w', p.bel.trans (hb.mono (Nat.le_trans hB p.bel.size))⟩, rfl⟩

theorem kin_same {P : Program} {f : FuncId} {args : Array Value} {B : Nat} {w : World} {p : Kin B w} {v : Value}
    (h : Calls P f args p.v fun e w' => e = .returned v ∧ w' = p.v) : Calls P f args p.v fun e w'' => e = .returned v ∧ ∃ q : Kin B w, w'' = q.v :=
  h.mono fun _ w' ⟨he, hb⟩ => ⟨he, p, hb⟩

theorem kin_cell {B : Nat} {w : World} {b o : Nat} {x : Value} (hb : b < B) (h : w.cell? ⟨b, o, none⟩ = some x) (p : Kin B w) : p.v.cell? ⟨b, o, none⟩ = some x :=
  (p.bel.cell (p := ⟨b, o, none⟩) hb).trans h

theorem bcell {W w1 : World} (hb : Below W.heap.size W w1) : ∀ b o, b < W.heap.size → w1.cell? ⟨b, o, none⟩ = W.cell? ⟨b, o, none⟩ :=
  fun b o h => hb.cell (p := ⟨b, o, none⟩) h

theorem bel1 {w w1 : World} {o : Obj} {n : Nat} (h : Below n (w.alloc o) w1) (hn : w.heap.size ≤ n) : Below w.heap.size w w1 := ((Below.refl _ _).alloc (Nat.le_refl _) _).trans (h.mono hn)
theorem bel2 {w w1 : World} {o q : Obj} {n : Nat} (h : Below n ((w.alloc o).alloc q) w1) (hn : w.heap.size ≤ n) : Below w.heap.size w w1 := (((Below.refl _ _).alloc (Nat.le_refl _) _).alloc (by simp) _).trans (h.mono hn)
theorem belt {w w1 w2 : World} (h : Below w.heap.size w w1) (k : Below w1.heap.size w1 w2) : Below w.heap.size w w2 := h.trans (k.mono h.size)
/-- a boxed struct of two fields behind a call -/
theorem keep2 {W w1 : World} {bk : Nat} {u v : Value} (hb : Below W.heap.size W w1) (hl : bk < W.heap.size) (h0 : W.cell? ⟨bk, 0, none⟩ = some u) (h1 : W.cell? ⟨bk, 1, none⟩ = some v) :
    w1.cell? ⟨bk, 0, none⟩ = some u ∧ w1.cell? ⟨bk, 1, none⟩ = some v ∧ bk < w1.heap.size :=
  ⟨(hb.cell (p := ⟨bk, 0, none⟩) hl).trans h0, (hb.cell (p := ⟨bk, 1, none⟩) hl).trans h1, Nat.lt_of_lt_of_le hl hb.size⟩

theorem ret_int {k : IntKind} {a b : Int} (h : a = b) : Ending.returned (.int k a) = .returned (.int k b) := by rw [h]
theorem ret_bool {a b : Bool} (h : a = b) : Ending.returned (.bool a) = .returned (.bool b) := by rw [h]

def gsB (b d : Int) : Bool := decide (1 ≤ b ∧ b ≤ 12 ∧ 1 ≤ d ∧ d ≤ b ∧ b % d = 0)
theorem gsB_true {b d : Int} (h : gsB b d = true) : 1 ≤ b ∧ b ≤ 12 ∧ 1 ≤ d ∧ d ≤ b ∧ b % d = 0 := of_decide_eq_true h
theorem gsB_yes {b d : Int} (h1 : 1 ≤ b) (h2 : b ≤ 12) (h3 : 1 ≤ d) (h4 : d ≤ b) (h5 : b % d = 0) : gsB b d = true := decide_eq_true ⟨h1, h2, h3, h4, h5⟩
theorem gsB_no {b d : Int} (h : ¬ (1 ≤ b ∧ b ≤ 12 ∧ 1 ≤ d ∧ d ≤ b ∧ b % d = 0)) : gsB b d = false := decide_eq_false h
def inB (n lo hi : Int) : Bool := decide (lo ≤ n ∧ n ≤ hi)
theorem inB_yes {n lo hi : Int} (h1 : lo ≤ n) (h2 : n ≤ hi) : inB n lo hi = true := decide_eq_true ⟨h1, h2⟩
theorem inB_no {n lo hi : Int} (h : ¬ (lo ≤ n ∧ n ≤ hi)) : inB n lo hi = false := decide_eq_false h
theorem inB_true {n lo hi : Int} (h : inB n lo hi = true) : lo ≤ n ∧ n ≤ hi := of_decide_eq_true h
theorem inB_false {n lo hi : Int} (h : inB n lo hi = false) : ¬ (lo ≤ n ∧ n ≤ hi) := of_decide_eq_false h
def sz (b : Int) : Int := 2 ^ b.toNat
theorem sz_bd {b : Int} (h1 : 1 ≤ b) (h2 : b ≤ 12) : 2 ≤ sz b ∧ sz b ≤ 4096 := by
  have : b = 1 ∨ b = 2 ∨ b = 3 ∨ b = 4 ∨ b = 5 ∨ b = 6 ∨ b = 7 ∨ b = 8 ∨ b = 9 ∨ b = 10 ∨ b = 11 ∨ b = 12 := by omega
  rcases this with h | h | h | h | h | h | h | h | h | h | h | h <;> subst h <;> decide +kernel
theorem wrap_sz {b : Int} (h1 : 1 ≤ b) (h2 : b ≤ 12) : wrap64 (2 ^ b.toNat) = sz b := by
  have h := sz_bd h1 h2
  exact IntWalk.wrap64_in (sz b) (by omega)
def numB (b d x : Int) : Bool := gsB b d && inB x 0 (sz b - 1)
theorem numB_true {b d x : Int} (h : numB b d x = true) : gsB b d = true ∧ 0 ≤ x ∧ x < sz b := by
  unfold numB at h
  rw [Bool.and_eq_true] at h
  have := inB_true h.2
  exact ⟨h.1, by omega, by omega⟩
theorem numB_yes {b d x : Int} (h : gsB b d = true) (h1 : 0 ≤ x) (h2 : x < sz b) : numB b d x = true := by
  unfold numB; rw [h, inB_yes (by omega) (by omega)]; rfl
theorem numB_no {b d x : Int} (h : gsB b d = false) : numB b d x = false := by unfold numB; rw [h]; rfl
theorem numB_out {b d x : Int} (h : ¬ (0 ≤ x ∧ x < sz b)) : numB b d x = false := by unfold numB; rw [inB_no (by omega)]; simp
def dist (b x y : Int) : Int := (y - x + sz b) % sz b
theorem dist_eq {b x y : Int} (h1 : 0 ≤ x) (h2 : x < sz b) (h3 : 0 ≤ y) (h4 : y < sz b) : dist b x y = if x ≤ y then y - x else y - x + sz b := by
  unfold dist
  split
  · rw [Int.add_emod_right]; exact Int.emod_eq_of_lt (by omega) (by omega)
  · exact Int.emod_eq_of_lt (by omega) (by omega)
theorem dist_bd {b : Int} (x y : Int) (h1 : 1 ≤ b) (h2 : b ≤ 12) : 0 ≤ dist b x y ∧ dist b x y < sz b := by
  have := sz_bd h1 h2
  exact ⟨Int.emod_nonneg _ (by omega), Int.emod_lt_of_pos _ (by omega)⟩
def arcB (b f x t : Int) : Bool := decide (f = t ∨ (¬ x = f ∧ dist b f x ≤ dist b f t))
def btwB (b f x t : Int) : Bool := decide ((¬ x = f ∧ ¬ x = t) ∧ (f = t ∨ (¬ x = f ∧ dist b f x ≤ dist b f t)))
def plc (b f x t : Int) : Int := if x = f ∧ x = t then 4 else if x = f then 1 else if x = t then 3 else if f = t ∨ dist b f x < dist b f t then 2 else 0
theorem dist_inj {b f x t : Int} (f1 : 0 ≤ f) (f2 : f < sz b) (x1 : 0 ≤ x) (x2 : x < sz b) (t1 : 0 ≤ t) (t2 : t < sz b) (h : dist b f x = dist b f t) : x = t := by
  rw [dist_eq f1 f2 x1 x2, dist_eq f1 f2 t1 t2] at h
  split at h <;> split at h <;> omega
theorem plc_arc {b f x t : Int} (f1 : 0 ≤ f) (f2 : f < sz b) (x1 : 0 ≤ x) (x2 : x < sz b) (t1 : 0 ≤ t) (t2 : t < sz b) :
    ((plc b f x t = 2 ∨ plc b f x t = 3 ∨ plc b f x t = 4) ∧ arcB b f x t = true) ∨ ((plc b f x t = 0 ∨ plc b f x t = 1) ∧ arcB b f x t = false) := by
  unfold plc arcB
  by_cases h1 : x = f
  · by_cases h2 : x = t
    · left; rw [if_pos ⟨h1, h2⟩]; exact ⟨Or.inr (Or.inr rfl), decide_eq_true (Or.inl (by omega))⟩
    · right; rw [if_neg (by omega), if_pos h1]; exact ⟨Or.inr rfl, decide_eq_false (by omega)⟩
  · by_cases h2 : x = t
    · left; rw [if_neg (by omega), if_neg h1, if_pos h2]; exact ⟨Or.inr (Or.inl rfl), decide_eq_true (Or.inr ⟨h1, by rw [h2]; exact Int.le_refl _⟩)⟩
    · rw [if_neg (by omega), if_neg h1, if_neg h2]
      have hi := mt (dist_inj f1 f2 x1 x2 t1 t2) h2
      by_cases h3 : f = t ∨ dist b f x < dist b f t
      · left; rw [if_pos h3]; refine ⟨Or.inl rfl, decide_eq_true ?_⟩; omega
      · right; rw [if_neg h3]; refine ⟨Or.inl rfl, decide_eq_false ?_⟩; omega
theorem plc_btw {b f x t : Int} (f1 : 0 ≤ f) (f2 : f < sz b) (x1 : 0 ≤ x) (x2 : x < sz b) (t1 : 0 ≤ t) (t2 : t < sz b) :
    (plc b f x t = 2 ∧ btwB b f x t = true) ∨ (¬ plc b f x t = 2 ∧ btwB b f x t = false) := by
  unfold plc btwB
  by_cases h1 : x = f
  · by_cases h2 : x = t
    · right; rw [if_pos ⟨h1, h2⟩]; exact ⟨by decide, decide_eq_false (by omega)⟩
    · right; rw [if_neg (by omega), if_pos h1]; exact ⟨by decide, decide_eq_false (by omega)⟩
  · by_cases h2 : x = t
    · right; rw [if_neg (by omega), if_neg h1, if_pos h2]; exact ⟨by decide, decide_eq_false (by omega)⟩
    · rw [if_neg (by omega), if_neg h1, if_neg h2]
      have hi := mt (dist_inj f1 f2 x1 x2 t1 t2) h2
      by_cases h3 : f = t ∨ dist b f x < dist b f t
      · left; rw [if_pos h3]; refine ⟨rfl, decide_eq_true ?_⟩; omega
      · right; rw [if_neg h3]; refine ⟨by decide, decide_eq_false ?_⟩; omega
end Go.Proofs.Ytpgngfdhnoonjaa
