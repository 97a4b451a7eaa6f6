/- A class of worlds for a region that draws its order: all those in which nothing below a block has turned; and the plain mathematics of chapter 1. The contracts of the smallest functions of chapter 1, in the program and in its specification: what each answers, and that nothing old has turned. The contracts of the functions on arcs, in the program and in its specification. The contracts of the list checks of the specification, and of DistOf, InArc, Between on both sides. DistOf, InArc, Between: the program and its specification answer the same. Digits: base, count, ShiftIn on both sides. What the laws' proofs share: the copy of a space, and the specification's GoodSpace. The plain mathematics of digits. The laws' own helpers on lists of ints: copied, compared, marked, looked at again. FromDigits on both sides: of so many digits the number. A list of ints that came in. The mathematics of a ring: members that rise, whose a number is, who is next, who is ahead, how far it is. The contracts of the program's own functions on a ring: what each answers; nothing old has turned. The contracts of the specification's functions on a ring. The specification's owner, next one, one ahead and gap. The exported functions of chapter 2 that answer a number, in the program and in its specification. Lists of ints that a call owns: read, marked, looked at again. JoinRing, in the program. -/
import Derived.Test.YtdceimnapbblnaaGreatChecked
import Derived.WalkKit
import Derived.Below
import Derived.BigQuiet
import Derived.Test.YtdceimnapbblnaaGreatRows
import Derived.ProofKit
import Derived.OpenShut
import Derived.ChangeOld
import Derived.Lib.SmallJoins
import Derived.Laws.Rows
import Derived.Laws.Tables
import Derived.Deep.OwnRows
import Derived.WalkSmall
import Derived.ArgAppend
import Derived.Laws.OwnMore
import Derived.Laws.AppendOwnNone
import Derived.Maps.AppendAt
namespace Go.Proofs.YtdceimnapbblnaaGreat
open Go.RowKit
set_option linter.unusedVariables false

structure Kin (B : Nat) (w : World) where
  v : World
  bel : Below B w v

theorem kinNe (B : Nat) (w : World) : Nonempty (Kin B w) := ⟨⟨w, Below.refl _ _⟩⟩

theorem region_kin {P : Program} {id : Nat} {Q : Exit → Act → World → Prop} {a : Act} {w : World} {l : List Oper} (B : Nat) (hm : P.follows .mixedOrders = true) (hB : Region.lexB .any l.toArray = true)
    (h : Nonempty (Kin B w) → wpQuiet P l.toArray (fun w' => ∃ p : Kin B w, w' = p.v) (fun a' => ∀ w', (∃ p : Kin B w, w' = p.v) → Q .normal a' w') l a) : (Code.region id l.toArray true).wp P Q a w :=
  wp_region_quiet (C := fun w' => ∃ p : Kin B w, w' = p.v) hm hB ⟨⟨w.drew, (Below.refl _ _).drew⟩, rfl⟩ (by simpa using h (kinNe B w))

theorem kin_of {P : Program} {f : FuncId} {args : Array Value} {B : Nat} {w : World} {p : Kin B w} {v : Value} (hB : B ≤ w.heap.size)
    (h : Calls P f args p.v fun e w' => e = .returned v ∧ Below p.v.heap.size p.v w') : Calls P f args p.v fun e w'' => e = .returned v ∧ ∃ q : Kin B w, w'' = q.v :=
  h.mono fun _ w' ⟨he, hb⟩ => ⟨he, ⟨w', p.bel.trans (hb.mono (Nat.le_trans hB p.bel.size))⟩, rfl⟩

theorem kin_same {P : Program} {f : FuncId} {args : Array Value} {B : Nat} {w : World} {p : Kin B w} {v : Value}
    (h : Calls P f args p.v fun e w' => e = .returned v ∧ w' = p.v) : Calls P f args p.v fun e w'' => e = .returned v ∧ ∃ q : Kin B w, w'' = q.v :=
  h.mono fun _ w' ⟨he, hb⟩ => ⟨he, p, hb⟩

theorem kin_cell {B : Nat} {w : World} {b o : Nat} {x : Value} (hb : b < B) (h : w.cell? ⟨b, o, none⟩ = some x) (p : Kin B w) : p.v.cell? ⟨b, o, none⟩ = some x :=
  (p.bel.cell (p := ⟨b, o, none⟩) hb).trans h

theorem bcell {W w1 : World} (hb : Below W.heap.size W w1) : ∀ b o, b < W.heap.size → w1.cell? ⟨b, o, none⟩ = W.cell? ⟨b, o, none⟩ :=
  fun b o h => hb.cell (p := ⟨b, o, none⟩) h

theorem bel1 {w w1 : World} {o : Obj} {n : Nat} (h : Below n (w.alloc o) w1) (hn : w.heap.size ≤ n) : Below w.heap.size w w1 := ((Below.refl _ _).alloc (Nat.le_refl _) _).trans (h.mono hn)
theorem bel2 {w w1 : World} {o q : Obj} {n : Nat} (h : Below n ((w.alloc o).alloc q) w1) (hn : w.heap.size ≤ n) : Below w.heap.size w w1 := (((Below.refl _ _).alloc (Nat.le_refl _) _).alloc (by simp) _).trans (h.mono hn)
theorem belt {w w1 w2 : World} (h : Below w.heap.size w w1) (k : Below w1.heap.size w1 w2) : Below w.heap.size w w2 := h.trans (k.mono h.size)
/-- a boxed struct of two fields behind a call -/
theorem keep2 {W w1 : World} {bk : Nat} {u v : Value} (hb : Below W.heap.size W w1) (hl : bk < W.heap.size) (h0 : W.cell? ⟨bk, 0, none⟩ = some u) (h1 : W.cell? ⟨bk, 1, none⟩ = some v) :
    w1.cell? ⟨bk, 0, none⟩ = some u ∧ w1.cell? ⟨bk, 1, none⟩ = some v ∧ bk < w1.heap.size :=
  ⟨(hb.cell (p := ⟨bk, 0, none⟩) hl).trans h0, (hb.cell (p := ⟨bk, 1, none⟩) hl).trans h1, Nat.lt_of_lt_of_le hl hb.size⟩

theorem ret_int {k : IntKind} {a b : Int} (h : a = b) : Ending.returned (.int k a) = .returned (.int k b) := by rw [h]
theorem ret_bool {a b : Bool} (h : a = b) : Ending.returned (.bool a) = .returned (.bool b) := by rw [h]

def gsB (b d : Int) : Bool := decide (1 ≤ b ∧ b ≤ 12 ∧ 1 ≤ d ∧ d ≤ b ∧ b % d = 0)
theorem gsB_true {b d : Int} (h : gsB b d = true) : 1 ≤ b ∧ b ≤ 12 ∧ 1 ≤ d ∧ d ≤ b ∧ b % d = 0 := of_decide_eq_true h
theorem gsB_yes {b d : Int} (h1 : 1 ≤ b) (h2 : b ≤ 12) (h3 : 1 ≤ d) (h4 : d ≤ b) (h5 : b % d = 0) : gsB b d = true := decide_eq_true ⟨h1, h2, h3, h4, h5⟩
theorem gsB_no {b d : Int} (h : ¬ (1 ≤ b ∧ b ≤ 12 ∧ 1 ≤ d ∧ d ≤ b ∧ b % d = 0)) : gsB b d = false := decide_eq_false h
def inB (n lo hi : Int) : Bool := decide (lo ≤ n ∧ n ≤ hi)
theorem inB_yes {n lo hi : Int} (h1 : lo ≤ n) (h2 : n ≤ hi) : inB n lo hi = true := decide_eq_true ⟨h1, h2⟩
theorem inB_no {n lo hi : Int} (h : ¬ (lo ≤ n ∧ n ≤ hi)) : inB n lo hi = false := decide_eq_false h
theorem inB_true {n lo hi : Int} (h : inB n lo hi = true) : lo ≤ n ∧ n ≤ hi := of_decide_eq_true h
theorem inB_false {n lo hi : Int} (h : inB n lo hi = false) : ¬ (lo ≤ n ∧ n ≤ hi) := of_decide_eq_false h
def sz (b : Int) : Int := 2 ^ b.toNat
theorem sz_bd {b : Int} (h1 : 1 ≤ b) (h2 : b ≤ 12) : 2 ≤ sz b ∧ sz b ≤ 4096 := by
  have : b = 1 ∨ b = 2 ∨ b = 3 ∨ b = 4 ∨ b = 5 ∨ b = 6 ∨ b = 7 ∨ b = 8 ∨ b = 9 ∨ b = 10 ∨ b = 11 ∨ b = 12 := by omega
  rcases this with h | h | h | h | h | h | h | h | h | h | h | h <;> subst h <;> decide +kernel
theorem wrap_sz {b : Int} (h1 : 1 ≤ b) (h2 : b ≤ 12) : wrap64 (2 ^ b.toNat) = sz b := by
  have h := sz_bd h1 h2
  exact IntWalk.wrap64_in (sz b) (by omega)
def numB (b d x : Int) : Bool := gsB b d && inB x 0 (sz b - 1)
theorem numB_true {b d x : Int} (h : numB b d x = true) : gsB b d = true ∧ 0 ≤ x ∧ x < sz b := by
  unfold numB at h
  rw [Bool.and_eq_true] at h
  have := inB_true h.2
  exact ⟨h.1, by omega, by omega⟩
theorem numB_yes {b d x : Int} (h : gsB b d = true) (h1 : 0 ≤ x) (h2 : x < sz b) : numB b d x = true := by
  unfold numB; rw [h, inB_yes (by omega) (by omega)]; rfl
theorem numB_no {b d x : Int} (h : gsB b d = false) : numB b d x = false := by unfold numB; rw [h]; rfl
theorem numB_out {b d x : Int} (h : ¬ (0 ≤ x ∧ x < sz b)) : numB b d x = false := by unfold numB; rw [inB_no (by omega)]; simp
def dist (b x y : Int) : Int := (y - x + sz b) % sz b
theorem dist_eq {b x y : Int} (h1 : 0 ≤ x) (h2 : x < sz b) (h3 : 0 ≤ y) (h4 : y < sz b) : dist b x y = if x ≤ y then y - x else y - x + sz b := by
  unfold dist
  split
  · rw [Int.add_emod_right]; exact Int.emod_eq_of_lt (by omega) (by omega)
  · exact Int.emod_eq_of_lt (by omega) (by omega)
theorem dist_bd {b : Int} (x y : Int) (h1 : 1 ≤ b) (h2 : b ≤ 12) : 0 ≤ dist b x y ∧ dist b x y < sz b := by
  have := sz_bd h1 h2
  exact ⟨Int.emod_nonneg _ (by omega), Int.emod_lt_of_pos _ (by omega)⟩
def arcB (b f x t : Int) : Bool := decide (f = t ∨ (¬ x = f ∧ dist b f x ≤ dist b f t))
def btwB (b f x t : Int) : Bool := decide ((¬ x = f ∧ ¬ x = t) ∧ (f = t ∨ (¬ x = f ∧ dist b f x ≤ dist b f t)))
def plc (b f x t : Int) : Int := if x = f ∧ x = t then 4 else if x = f then 1 else if x = t then 3 else if f = t ∨ dist b f x < dist b f t then 2 else 0
theorem dist_inj {b f x t : Int} (f1 : 0 ≤ f) (f2 : f < sz b) (x1 : 0 ≤ x) (x2 : x < sz b) (t1 : 0 ≤ t) (t2 : t < sz b) (h : dist b f x = dist b f t) : x = t := by
  rw [dist_eq f1 f2 x1 x2, dist_eq f1 f2 t1 t2] at h
  split at h <;> split at h <;> omega
theorem plc_arc {b f x t : Int} (f1 : 0 ≤ f) (f2 : f < sz b) (x1 : 0 ≤ x) (x2 : x < sz b) (t1 : 0 ≤ t) (t2 : t < sz b) :
    ((plc b f x t = 2 ∨ plc b f x t = 3 ∨ plc b f x t = 4) ∧ arcB b f x t = true) ∨ ((plc b f x t = 0 ∨ plc b f x t = 1) ∧ arcB b f x t = false) := by
  unfold plc arcB
  by_cases h1 : x = f
  · by_cases h2 : x = t
    · left; rw [if_pos ⟨h1, h2⟩]; exact ⟨Or.inr (Or.inr rfl), decide_eq_true (Or.inl (by omega))⟩
    · right; rw [if_neg (by omega), if_pos h1]; exact ⟨Or.inr rfl, decide_eq_false (by omega)⟩
  · by_cases h2 : x = t
    · left; rw [if_neg (by omega), if_neg h1, if_pos h2]; exact ⟨Or.inr (Or.inl rfl), decide_eq_true (Or.inr ⟨h1, by rw [h2]; exact Int.le_refl _⟩)⟩
    · rw [if_neg (by omega), if_neg h1, if_neg h2]
      have hi := mt (dist_inj f1 f2 x1 x2 t1 t2) h2
      by_cases h3 : f = t ∨ dist b f x < dist b f t
      · left; rw [if_pos h3]; refine ⟨Or.inl rfl, decide_eq_true ?_⟩; omega
      · right; rw [if_neg h3]; refine ⟨Or.inl rfl, decide_eq_false ?_⟩; omega
theorem plc_btw {b f x t : Int} (f1 : 0 ≤ f) (f2 : f < sz b) (x1 : 0 ≤ x) (x2 : x < sz b) (t1 : 0 ≤ t) (t2 : t < sz b) :
    (plc b f x t = 2 ∧ btwB b f x t = true) ∨ (¬ plc b f x t = 2 ∧ btwB b f x t = false) := by
  unfold plc btwB
  by_cases h1 : x = f
  · by_cases h2 : x = t
    · right; rw [if_pos ⟨h1, h2⟩]; exact ⟨by decide, decide_eq_false (by omega)⟩
    · right; rw [if_neg (by omega), if_pos h1]; exact ⟨by decide, decide_eq_false (by omega)⟩
  · by_cases h2 : x = t
    · right; rw [if_neg (by omega), if_neg h1, if_pos h2]; exact ⟨by decide, decide_eq_false (by omega)⟩
    · rw [if_neg (by omega), if_neg h1, if_neg h2]
      have hi := mt (dist_inj f1 f2 x1 x2 t1 t2) h2
      by_cases h3 : f = t ∨ dist b f x < dist b f t
      · left; rw [if_pos h3]; refine ⟨rfl, decide_eq_true ?_⟩; omega
      · right; rw [if_neg h3]; refine ⟨by decide, decide_eq_false ?_⟩; omega
end Go.Proofs.YtdceimnapbblnaaGreat
namespace Go.Proofs.YtdceimnapbblnaaGreat
open Go.RowKit
set_option linter.unusedVariables false

set_option maxHeartbeats 400000 in
theorem good_any (b d : Int) (w : World) :
    Calls Tryz.prog 139 #[.agg #[.int .i64 b, .int .i64 d]] w fun e w' => e = .returned (.bool (gsB b d)) ∧ Below w.heap.size w w' := by
  by_cases h1 : 1 ≤ b
  · by_cases h2 : b ≤ 12
    · by_cases h3 : 1 ≤ d
      · by_cases h4 : d ≤ b
        · by_cases h5 : b % d = 0
          · rw [gsB_yes h1 h2 h3 h4 h5]
            have H5 : (b % d == 0) = true := by simp [h5]
            clear h5
            go_enter Tryz.func139, Tryz.ntmps139
            go_wp2
            go_ret
            exact ⟨rfl, (Below.refl _ _).alloc (Nat.le_refl _) _⟩
          · rw [gsB_no (by omega)]
            have H5 : (b % d == 0) = false := by simp [h5]
            clear h5
            go_enter Tryz.func139, Tryz.ntmps139
            go_wp2
            go_ret
            exact ⟨rfl, (Below.refl _ _).alloc (Nat.le_refl _) _⟩
        · rw [gsB_no (by omega)]
          go_enter Tryz.func139, Tryz.ntmps139
          go_wp2
          go_ret
          exact ⟨rfl, (Below.refl _ _).alloc (Nat.le_refl _) _⟩
      · rw [gsB_no (by omega)]
        go_enter Tryz.func139, Tryz.ntmps139
        go_wp2
        go_ret
        exact ⟨rfl, (Below.refl _ _).alloc (Nat.le_refl _) _⟩
    · rw [gsB_no (by omega)]
      go_enter Tryz.func139, Tryz.ntmps139
      go_wp2
      go_ret
      exact ⟨rfl, (Below.refl _ _).alloc (Nat.le_refl _) _⟩
  · rw [gsB_no (by omega)]
    go_enter Tryz.func139, Tryz.ntmps139
    go_wp2
    go_ret
    exact ⟨rfl, (Below.refl _ _).alloc (Nat.le_refl _) _⟩

theorem lin_any (n lo hi : Int) (w : World) :
    Calls Tryz.prog 93 #[.int .i64 n, .int .i64 lo, .int .i64 hi] w fun e w' => e = .returned (.bool (inB n lo hi)) ∧ w' = w := by
  by_cases h1 : lo ≤ n
  · by_cases h2 : n ≤ hi
    · rw [inB_yes h1 h2]
      go_enter Tryz.func93, Tryz.ntmps93
      go_wp2
      go_ret
      exact ⟨rfl, rfl⟩
    · rw [inB_no (by omega)]
      go_enter Tryz.func93, Tryz.ntmps93
      go_wp2
      go_ret
      exact ⟨rfl, rfl⟩
  · rw [inB_no (by omega)]
    go_enter Tryz.func93, Tryz.ntmps93
    go_wp2
    go_ret
    exact ⟨rfl, rfl⟩

set_option maxHeartbeats 800000 in
theorem lspace_any (b d : Int) (w : World) :
    Calls Tryz.prog 171 #[.agg #[.int .i64 b, .int .i64 d]] w fun e w' => e = .returned (.bool (gsB b d)) ∧ Below w.heap.size w w' := by
  by_cases h1 : 1 ≤ b ∧ b ≤ 12
  · have e1 := inB_yes h1.1 h1.2
    by_cases h3 : 1 ≤ d ∧ d ≤ b
    · have e2 := inB_yes h3.1 h3.2
      obtain ⟨h1, h2⟩ := h1
      obtain ⟨h3, h4⟩ := h3
      by_cases h5 : b % d = 0
      · rw [gsB_yes h1 h2 h3 h4 h5]
        have H5 : (b % d == 0) = true := by simp [h5]
        clear h5
        go_enter Tryz.func171, Tryz.ntmps171
        go_wp2_with (go_at_call 93; refine (lin_any _ _ _ _).mono ?_; rintro e w' ⟨rfl, rfl⟩)
        go_ret
        exact ⟨rfl, (Below.refl _ _).alloc (Nat.le_refl _) _⟩
      · rw [gsB_no (by omega)]
        have H5 : (b % d == 0) = false := by simp [h5]
        clear h5
        go_enter Tryz.func171, Tryz.ntmps171
        go_wp2_with (go_at_call 93; refine (lin_any _ _ _ _).mono ?_; rintro e w' ⟨rfl, rfl⟩)
        go_ret
        exact ⟨rfl, (Below.refl _ _).alloc (Nat.le_refl _) _⟩
    · rw [gsB_no (by omega)]
      have e2 := inB_no h3
      clear h3
      go_enter Tryz.func171, Tryz.ntmps171
      go_wp2_with (go_at_call 93; refine (lin_any _ _ _ _).mono ?_; rintro e w' ⟨rfl, rfl⟩)
      go_ret
      exact ⟨rfl, (Below.refl _ _).alloc (Nat.le_refl _) _⟩
  · rw [gsB_no (by omega)]
    have e1 := inB_no h1
    clear h1
    go_enter Tryz.func171, Tryz.ntmps171
    go_wp2_with (go_at_call 93; refine (lin_any _ _ _ _).mono ?_; rintro e w' ⟨rfl, rfl⟩)
    go_ret
    exact ⟨rfl, (Below.refl _ _).alloc (Nat.le_refl _) _⟩

theorem size_any (b d : Int) (w : World) (h1 : 1 ≤ b) (h2 : b ≤ 12) :
    Calls Tryz.prog 140 #[.agg #[.int .i64 b, .int .i64 d]] w fun e w' => e = .returned (.int .i64 (sz b)) ∧ Below w.heap.size w w' := by
  have hw := wrap_sz h1 h2
  go_enter Tryz.func140, Tryz.ntmps140
  go_wp2
  go_ret
  exact ⟨ret_int hw, (Below.refl _ _).alloc (Nat.le_refl _) _⟩
theorem lsize_any (b d : Int) (w : World) (h1 : 1 ≤ b) (h2 : b ≤ 12) :
    Calls Tryz.prog 172 #[.agg #[.int .i64 b, .int .i64 d]] w fun e w' => e = .returned (.int .i64 (sz b)) ∧ Below w.heap.size w w' := by
  have hw := wrap_sz h1 h2
  go_enter Tryz.func172, Tryz.ntmps172
  go_wp2
  go_ret
  exact ⟨ret_int hw, (Below.refl _ _).alloc (Nat.le_refl _) _⟩
end Go.Proofs.YtdceimnapbblnaaGreat
namespace Go.Proofs.YtdceimnapbblnaaGreat
open Go.RowKit
set_option linter.unusedVariables false

set_option maxHeartbeats 400000 in
theorem distUp_any (b d x y : Int) (w : World) (hb1 : 1 ≤ b) (hb2 : b ≤ 12) (h1 : 0 ≤ x) (h2 : x < sz b) (h3 : 0 ≤ y) (h4 : y < sz b) :
    Calls Tryz.prog 250 #[.agg #[.int .i64 b, .int .i64 d], .int .i64 x, .int .i64 y] w fun e w' => e = .returned (.int .i64 (dist b x y)) ∧ Below w.heap.size w w' := by
  obtain ⟨hs1, hs2⟩ := sz_bd hb1 hb2
  go_enter Tryz.func250, Tryz.ntmps250
  go_wp2
  have c0 : ∀ p : Kin (w.heap.size + 1) (w.alloc (.cells #[.int .i64 b, .int .i64 d] 25)), p.v.cell? ⟨w.heap.size, 0, none⟩ = some (.int .i64 b) := kin_cell (by omega) (by go_simp)
  have c1 : ∀ p : Kin (w.heap.size + 1) (w.alloc (.cells #[.int .i64 b, .int .i64 d] 25)), p.v.cell? ⟨w.heap.size, 1, none⟩ = some (.int .i64 d) := kin_cell (by omega) (by go_simp)
  refine region_kin (w.heap.size + 1) (by kernel_rfl) (by kernel_rfl) (fun hne => ?_)
  repeat (go_big_quiet_step ((go_at_call 140; exact kin_of (by simp) (size_any _ _ _ hb1 hb2))))
  refine wpQuiet_nil ?_
  intro _ hw'
  obtain ⟨⟨w1, hw1⟩, hw''⟩ := hw'
  obtain rfl : _ = w1 := hw''
  clear c0 c1 hne
  go_wp2
  go_ret
  exact ⟨rfl, ((Below.refl _ _).alloc (Nat.le_refl _) _).trans (hw1.mono (by omega))⟩

set_option maxHeartbeats 400000 in
theorem ldist_any (b d x y : Int) (w : World) (hb1 : 1 ≤ b) (hb2 : b ≤ 12) (h1 : 0 ≤ x) (h2 : x < sz b) (h3 : 0 ≤ y) (h4 : y < sz b) :
    Calls Tryz.prog 226 #[.agg #[.int .i64 b, .int .i64 d], .int .i64 x, .int .i64 y] w fun e w' => e = .returned (.int .i64 (dist b x y)) ∧ Below w.heap.size w w' := by
  obtain ⟨hs1, hs2⟩ := sz_bd hb1 hb2
  go_enter Tryz.func226, Tryz.ntmps226
  go_wp2
  have c0 : ∀ p : Kin (w.heap.size + 1) (w.alloc (.cells #[.int .i64 b, .int .i64 d] 25)), p.v.cell? ⟨w.heap.size, 0, none⟩ = some (.int .i64 b) := kin_cell (by omega) (by go_simp)
  have c1 : ∀ p : Kin (w.heap.size + 1) (w.alloc (.cells #[.int .i64 b, .int .i64 d] 25)), p.v.cell? ⟨w.heap.size, 1, none⟩ = some (.int .i64 d) := kin_cell (by omega) (by go_simp)
  refine region_kin (w.heap.size + 1) (by kernel_rfl) (by kernel_rfl) (fun hne => ?_)
  repeat (go_big_quiet_step ((go_at_call 172; exact kin_of (by simp) (lsize_any _ _ _ hb1 hb2))))
  refine wpQuiet_nil ?_
  intro _ hw'
  obtain ⟨⟨w1, hw1⟩, hw''⟩ := hw'
  obtain rfl : _ = w1 := hw''
  clear c0 c1 hne
  go_wp2
  go_ret
  exact ⟨rfl, ((Below.refl _ _).alloc (Nat.le_refl _) _).trans (hw1.mono (by omega))⟩

set_option maxHeartbeats 400000 in
theorem isNumber_any (b d x : Int) (w : World) :
    Calls Tryz.prog 81 #[.agg #[.int .i64 b, .int .i64 d], .int .i64 x] w fun e w' => e = .returned (.bool (numB b d x)) ∧ Below w.heap.size w w' := by
  cases hg : gsB b d
  · rw [numB_no hg]
    go_enter Tryz.func81, Tryz.ntmps81
    go_wp2_with (go_at_call 139; refine (good_any _ _ _).mono ?_; rintro e w1 ⟨rfl, hw1⟩)
    go_ret
    exact ⟨rfl, ((Below.refl _ _).alloc (Nat.le_refl _) _).trans (hw1.mono (by simp))⟩
  · obtain ⟨hb1, hb2, _, _, _⟩ := gsB_true hg
    obtain ⟨hs1, hs2⟩ := sz_bd hb1 hb2
    by_cases h1 : 0 ≤ x
    · by_cases h2 : x < sz b
      · rw [numB_yes hg h1 h2]
        go_enter Tryz.func81, Tryz.ntmps81
        go_wp2_with (first | (go_at_call 139; refine (good_any _ _ _).mono ?_; rintro e w1 ⟨rfl, hw1⟩; have hc := bcell hw1) | (go_at_call 140; refine (size_any _ _ _ hb1 hb2).mono ?_; rintro e w2 ⟨rfl, hw2⟩))
        go_ret
        exact ⟨rfl, (((Below.refl _ _).alloc (Nat.le_refl _) _).trans (hw1.mono (by simp))).trans (hw2.mono (by have := hw1.size; simp at this; omega))⟩
      · rw [numB_out (by omega)]
        go_enter Tryz.func81, Tryz.ntmps81
        go_wp2_with (first | (go_at_call 139; refine (good_any _ _ _).mono ?_; rintro e w1 ⟨rfl, hw1⟩; have hc := bcell hw1) | (go_at_call 140; refine (size_any _ _ _ hb1 hb2).mono ?_; rintro e w2 ⟨rfl, hw2⟩))
        go_ret
        exact ⟨ret_bool (decide_eq_false (by omega)), (((Below.refl _ _).alloc (Nat.le_refl _) _).trans (hw1.mono (by simp))).trans (hw2.mono (by have := hw1.size; simp at this; omega))⟩
    · rw [numB_out (by omega)]
      go_enter Tryz.func81, Tryz.ntmps81
      go_wp2_with (go_at_call 139; refine (good_any _ _ _).mono ?_; rintro e w1 ⟨rfl, hw1⟩)
      go_ret
      exact ⟨rfl, ((Below.refl _ _).alloc (Nat.le_refl _) _).trans (hw1.mono (by simp))⟩

set_option maxHeartbeats 800000 in
theorem place_any (b d f x t : Int) (w : World) (hb1 : 1 ≤ b) (hb2 : b ≤ 12) (f1 : 0 ≤ f) (f2 : f < sz b) (x1 : 0 ≤ x) (x2 : x < sz b) (t1 : 0 ≤ t) (t2 : t < sz b) :
    Calls Tryz.prog 215 #[.agg #[.int .i64 b, .int .i64 d], .int .i64 f, .int .i64 x, .int .i64 t] w fun e w' => e = .returned (.int .i64 (plc b f x t)) ∧ Below w.heap.size w w' := by
  unfold plc
  by_cases h1 : x = f
  · by_cases h2 : x = t
    · rw [if_pos ⟨h1, h2⟩]
      have e1 : (x == f) = true := by simp [h1]
      have e2 : (x == t) = true := by simp [h2]
      clear h1 h2
      go_enter Tryz.func215, Tryz.ntmps215
      go_wp2
      go_ret
      exact ⟨rfl, (Below.refl _ _).alloc (Nat.le_refl _) _⟩
    · rw [if_neg (by omega), if_pos h1]
      have e1 : (x == f) = true := by simp [h1]
      have e2 : (x == t) = false := by simp [h2]
      clear h1 h2
      go_enter Tryz.func215, Tryz.ntmps215
      go_wp2
      go_ret
      exact ⟨rfl, (Below.refl _ _).alloc (Nat.le_refl _) _⟩
  · by_cases h2 : x = t
    · rw [if_neg (by omega), if_neg h1, if_pos h2]
      have e1 : (x == f) = false := by simp [h1]
      have e2 : (x == t) = true := by simp [h2]
      clear h1 h2
      go_enter Tryz.func215, Tryz.ntmps215
      go_wp2
      go_ret
      exact ⟨rfl, (Below.refl _ _).alloc (Nat.le_refl _) _⟩
    · rw [if_neg (by omega), if_neg h1, if_neg h2]
      have e1 : (x == f) = false := by simp [h1]
      have e2 : (x == t) = false := by simp [h2]
      clear h1 h2
      by_cases h3 : f = t
      · rw [if_pos (Or.inl h3)]
        have e3 : (f == t) = true := by simp [h3]
        clear h3
        go_enter Tryz.func215, Tryz.ntmps215
        go_wp2
        have c0 : ∀ p : Kin (w.heap.size + 1) (w.alloc (.cells #[.int .i64 b, .int .i64 d] 25)), p.v.cell? ⟨w.heap.size, 0, none⟩ = some (.int .i64 b) := kin_cell (by omega) (by go_simp)
        have c1 : ∀ p : Kin (w.heap.size + 1) (w.alloc (.cells #[.int .i64 b, .int .i64 d] 25)), p.v.cell? ⟨w.heap.size, 1, none⟩ = some (.int .i64 d) := kin_cell (by omega) (by go_simp)
        refine region_kin (w.heap.size + 1) (by kernel_rfl) (by kernel_rfl) (fun hne => ?_)
        repeat (go_big_quiet_step ((go_at_call 250; exact kin_of (by simp) (distUp_any _ _ _ _ _ hb1 hb2 (by assumption) (by assumption) (by assumption) (by assumption)))))
        refine wpQuiet_nil ?_
        intro _ hw'
        obtain ⟨⟨w1, hw1⟩, hw''⟩ := hw'
        obtain rfl : _ = w1 := hw''
        clear c0 c1 hne
        go_wp2
        go_ret
        exact ⟨rfl, ((Below.refl _ _).alloc (Nat.le_refl _) _).trans (hw1.mono (by omega))⟩
      · have e3 : (f == t) = false := by simp [h3]
        by_cases h4 : dist b f x < dist b f t
        · rw [if_pos (Or.inr h4)]
          clear h3
          go_enter Tryz.func215, Tryz.ntmps215
          go_wp2
          have c0 : ∀ p : Kin (w.heap.size + 1) (w.alloc (.cells #[.int .i64 b, .int .i64 d] 25)), p.v.cell? ⟨w.heap.size, 0, none⟩ = some (.int .i64 b) := kin_cell (by omega) (by go_simp)
          have c1 : ∀ p : Kin (w.heap.size + 1) (w.alloc (.cells #[.int .i64 b, .int .i64 d] 25)), p.v.cell? ⟨w.heap.size, 1, none⟩ = some (.int .i64 d) := kin_cell (by omega) (by go_simp)
          refine region_kin (w.heap.size + 1) (by kernel_rfl) (by kernel_rfl) (fun hne => ?_)
          repeat (go_big_quiet_step ((go_at_call 250; exact kin_of (by simp) (distUp_any _ _ _ _ _ hb1 hb2 (by assumption) (by assumption) (by assumption) (by assumption)))))
          refine wpQuiet_nil ?_
          intro _ hw'
          obtain ⟨⟨w1, hw1⟩, hw''⟩ := hw'
          obtain rfl : _ = w1 := hw''
          clear c0 c1 hne
          go_wp2
          go_ret
          exact ⟨rfl, ((Below.refl _ _).alloc (Nat.le_refl _) _).trans (hw1.mono (by omega))⟩
        · rw [if_neg (by omega)]
          clear h3
          go_enter Tryz.func215, Tryz.ntmps215
          go_wp2
          have c0 : ∀ p : Kin (w.heap.size + 1) (w.alloc (.cells #[.int .i64 b, .int .i64 d] 25)), p.v.cell? ⟨w.heap.size, 0, none⟩ = some (.int .i64 b) := kin_cell (by omega) (by go_simp)
          have c1 : ∀ p : Kin (w.heap.size + 1) (w.alloc (.cells #[.int .i64 b, .int .i64 d] 25)), p.v.cell? ⟨w.heap.size, 1, none⟩ = some (.int .i64 d) := kin_cell (by omega) (by go_simp)
          refine region_kin (w.heap.size + 1) (by kernel_rfl) (by kernel_rfl) (fun hne => ?_)
          repeat (go_big_quiet_step ((go_at_call 250; exact kin_of (by simp) (distUp_any _ _ _ _ _ hb1 hb2 (by assumption) (by assumption) (by assumption) (by assumption)))))
          refine wpQuiet_nil ?_
          intro _ hw'
          obtain ⟨⟨w1, hw1⟩, hw''⟩ := hw'
          obtain rfl : _ = w1 := hw''
          clear c0 c1 hne
          go_wp2
          go_ret
          exact ⟨rfl, ((Below.refl _ _).alloc (Nat.le_refl _) _).trans (hw1.mono (by omega))⟩

set_option maxHeartbeats 800000 in
theorem larc_any (b d f x t : Int) (w : World) (hb1 : 1 ≤ b) (hb2 : b ≤ 12) (f1 : 0 ≤ f) (f2 : f < sz b) (x1 : 0 ≤ x) (x2 : x < sz b) (t1 : 0 ≤ t) (t2 : t < sz b) :
    Calls Tryz.prog 190 #[.agg #[.int .i64 b, .int .i64 d], .int .i64 f, .int .i64 x, .int .i64 t] w fun e w' => e = .returned (.bool (arcB b f x t)) ∧ Below w.heap.size w w' := by
  unfold arcB
  by_cases h3 : f = t
  · rw [decide_eq_true (Or.inl h3)]
    have e3 : (f == t) = true := by simp [h3]
    clear h3
    go_enter Tryz.func190, Tryz.ntmps190
    go_wp2
    have c0 : ∀ p : Kin (w.heap.size + 1) (w.alloc (.cells #[.int .i64 b, .int .i64 d] 25)), p.v.cell? ⟨w.heap.size, 0, none⟩ = some (.int .i64 b) := kin_cell (by omega) (by go_simp)
    have c1 : ∀ p : Kin (w.heap.size + 1) (w.alloc (.cells #[.int .i64 b, .int .i64 d] 25)), p.v.cell? ⟨w.heap.size, 1, none⟩ = some (.int .i64 d) := kin_cell (by omega) (by go_simp)
    refine region_kin (w.heap.size + 1) (by kernel_rfl) (by kernel_rfl) (fun hne => ?_)
    repeat (go_big_quiet_step ((go_at_call 226; exact kin_of (by simp) (ldist_any _ _ _ _ _ hb1 hb2 (by assumption) (by assumption) (by assumption) (by assumption)))))
    refine wpQuiet_nil ?_
    intro _ hw'
    obtain ⟨⟨w1, hw1⟩, hw''⟩ := hw'
    obtain rfl : _ = w1 := hw''
    clear c0 c1 hne
    go_wp2
    go_ret
    exact ⟨rfl, ((Below.refl _ _).alloc (Nat.le_refl _) _).trans (hw1.mono (by omega))⟩
  · have e3 : (f == t) = false := by simp [h3]
    by_cases h1 : x = f
    · rw [decide_eq_false (by omega)]
      have e1 : (x == f) = true := by simp [h1]
      have e1' : (x != f) = false := by simp [h1]
      clear h1 h3
      go_enter Tryz.func190, Tryz.ntmps190
      go_wp2
      have c0 : ∀ p : Kin (w.heap.size + 1) (w.alloc (.cells #[.int .i64 b, .int .i64 d] 25)), p.v.cell? ⟨w.heap.size, 0, none⟩ = some (.int .i64 b) := kin_cell (by omega) (by go_simp)
      have c1 : ∀ p : Kin (w.heap.size + 1) (w.alloc (.cells #[.int .i64 b, .int .i64 d] 25)), p.v.cell? ⟨w.heap.size, 1, none⟩ = some (.int .i64 d) := kin_cell (by omega) (by go_simp)
      refine region_kin (w.heap.size + 1) (by kernel_rfl) (by kernel_rfl) (fun hne => ?_)
      repeat (go_big_quiet_step ((go_at_call 226; exact kin_of (by simp) (ldist_any _ _ _ _ _ hb1 hb2 (by assumption) (by assumption) (by assumption) (by assumption)))))
      refine wpQuiet_nil ?_
      intro _ hw'
      obtain ⟨⟨w1, hw1⟩, hw''⟩ := hw'
      obtain rfl : _ = w1 := hw''
      clear c0 c1 hne
      go_wp2
      go_ret
      exact ⟨rfl, ((Below.refl _ _).alloc (Nat.le_refl _) _).trans (hw1.mono (by omega))⟩
    · have e1' : (x != f) = true := by simp [h1]
      by_cases h4 : dist b f x ≤ dist b f t
      · rw [decide_eq_true (Or.inr ⟨h1, h4⟩)]
        clear h1 h3
        go_enter Tryz.func190, Tryz.ntmps190
        go_wp2
        have c0 : ∀ p : Kin (w.heap.size + 1) (w.alloc (.cells #[.int .i64 b, .int .i64 d] 25)), p.v.cell? ⟨w.heap.size, 0, none⟩ = some (.int .i64 b) := kin_cell (by omega) (by go_simp)
        have c1 : ∀ p : Kin (w.heap.size + 1) (w.alloc (.cells #[.int .i64 b, .int .i64 d] 25)), p.v.cell? ⟨w.heap.size, 1, none⟩ = some (.int .i64 d) := kin_cell (by omega) (by go_simp)
        refine region_kin (w.heap.size + 1) (by kernel_rfl) (by kernel_rfl) (fun hne => ?_)
        repeat (go_big_quiet_step ((go_at_call 226; exact kin_of (by simp) (ldist_any _ _ _ _ _ hb1 hb2 (by assumption) (by assumption) (by assumption) (by assumption)))))
        refine wpQuiet_nil ?_
        intro _ hw'
        obtain ⟨⟨w1, hw1⟩, hw''⟩ := hw'
        obtain rfl : _ = w1 := hw''
        clear c0 c1 hne
        go_wp2
        go_ret
        exact ⟨rfl, ((Below.refl _ _).alloc (Nat.le_refl _) _).trans (hw1.mono (by omega))⟩
      · rw [decide_eq_false (by omega)]
        clear h1 h3
        go_enter Tryz.func190, Tryz.ntmps190
        go_wp2
        have c0 : ∀ p : Kin (w.heap.size + 1) (w.alloc (.cells #[.int .i64 b, .int .i64 d] 25)), p.v.cell? ⟨w.heap.size, 0, none⟩ = some (.int .i64 b) := kin_cell (by omega) (by go_simp)
        have c1 : ∀ p : Kin (w.heap.size + 1) (w.alloc (.cells #[.int .i64 b, .int .i64 d] 25)), p.v.cell? ⟨w.heap.size, 1, none⟩ = some (.int .i64 d) := kin_cell (by omega) (by go_simp)
        refine region_kin (w.heap.size + 1) (by kernel_rfl) (by kernel_rfl) (fun hne => ?_)
        repeat (go_big_quiet_step ((go_at_call 226; exact kin_of (by simp) (ldist_any _ _ _ _ _ hb1 hb2 (by assumption) (by assumption) (by assumption) (by assumption)))))
        refine wpQuiet_nil ?_
        intro _ hw'
        obtain ⟨⟨w1, hw1⟩, hw''⟩ := hw'
        obtain rfl : _ = w1 := hw''
        clear c0 c1 hne
        go_wp2
        go_ret
        exact ⟨ret_bool (decide_eq_false (by omega)), ((Below.refl _ _).alloc (Nat.le_refl _) _).trans (hw1.mono (by omega))⟩
end Go.Proofs.YtdceimnapbblnaaGreat
namespace Go.Proofs.YtdceimnapbblnaaGreat
open Go.RowKit
set_option linter.unusedVariables false

/-- a slice of ints that reads as zs -/
def RowAt (w : World) (a : Option Addr) (zs : List Int) : Prop :=
  zs = [] ∨ ∃ b off, a = some ⟨b, off, none⟩ ∧ b < w.heap.size ∧ ∀ i, i < zs.length → w.cell? ⟨b, off + i, none⟩ = some (.int .i64 (zs.getD i 0))

theorem RowAt.keep {w w1 : World} {a : Option Addr} {zs : List Int} (h : RowAt w a zs) (hb : Below w.heap.size w w1) : RowAt w1 a zs := by
  rcases h with h | ⟨b, off, ha, hl, hc⟩
  · exact .inl h
  · exact .inr ⟨b, off, ha, Nat.lt_of_lt_of_le hl hb.size, fun i hi => (hb.cell (p := ⟨b, off + i, none⟩) hl).trans (hc i hi)⟩

def allB (zs : List Int) (lo hi : Int) : Bool := zs.all fun n => inB n lo hi
theorem allB_take {zs : List Int} {lo hi : Int} {k : Nat} (hk : k < zs.length) (h : allB (zs.take k) lo hi = true) (h1 : inB (zs.getD k 0) lo hi = true) : allB (zs.take (k + 1)) lo hi = true := by
  unfold allB at *
  rw [List.take_succ_eq_append_getElem hk, List.all_append, h]
  simpa [List.getD_eq_getElem?_getD, List.getElem?_eq_getElem hk] using h1
theorem allB_false {zs : List Int} {lo hi : Int} {k : Nat} (hk : k < zs.length) (h1 : inB (zs.getD k 0) lo hi = false) : allB zs lo hi = false := by
  unfold allB
  rw [List.all_eq_false]
  refine ⟨zs.getD k 0, ?_, by rw [h1]; decide⟩
  simp [List.getD_eq_getElem?_getD, List.getElem?_eq_getElem hk]

set_option maxHeartbeats 800000 in
theorem lall_some (b off cap : Nat) (zs : List Int) (lo hi : Int) (w : World) (hm : zs.length ≤ maxLen) (hc : ∀ i, i < zs.length → w.cell? ⟨b, off + i, none⟩ = some (.int .i64 (zs.getD i 0))) :
    Calls Tryz.prog 65 #[.slice (some ⟨b, off, none⟩) zs.length cap, .int .i64 lo, .int .i64 hi] w fun e w' => e = .returned (.bool (allB zs lo hi)) ∧ w' = w := by
  unfold maxLen at hm
  go_enter Tryz.func65, Tryz.ntmps65
  go_wp2
  go_loop [11] (fun i => ∃ k : Nat, k ≤ zs.length ∧ i = .int .i64 k ∧ allB (zs.take k) lo hi = true) (fun i => zs.length - (intOf i).toNat)
  case atStart => exact ⟨0, Nat.zero_le _, rfl, rfl⟩
  case round =>
    obtain ⟨k, hk, rfl, hr⟩ := hrel
    have HR : Hid (allB (zs.take k) lo hi = true) := hr
    clear hr
    by_cases hlt : k < zs.length
    · have hcell : w.cell? ⟨b, off + k, none⟩ = some (.int .i64 (zs.getD k 0)) := hc k hlt
      clear hc
      cases hin : inB (zs.getD k 0) lo hi
      · have hv : Hid (allB zs lo hi = false) := allB_false hlt hin
        generalize zs.getD k 0 = z at hcell hin
        go_wp2_with (go_at_call 93; refine (lin_any _ _ _ _).mono ?_; rintro e w' ⟨rfl, rfl⟩)
        go_ret
        exact ⟨ret_bool hv.out.symm, rfl⟩
      · have hv : Hid (allB (zs.take (k + 1)) lo hi = true) := allB_take hlt HR.out hin
        generalize zs.getD k 0 = z at hcell hin
        go_wp2_with (go_at_call 93; refine (lin_any _ _ _ _).mono ?_; rintro e w' ⟨rfl, rfl⟩)
        go_round
        case rel => exact ⟨k + 1, by omega, by go_num, hv.out⟩
        case measure => simp [intOf]; omega
    · have hv : Hid (allB zs lo hi = true) := by have := HR.out; rwa [List.take_of_length_le (by omega)] at this
      go_wp2
      go_ret
      exact ⟨ret_bool hv.out.symm, rfl⟩

theorem lall_nil (lo hi : Int) (w : World) :
    Calls Tryz.prog 65 #[.slice none 0 0, .int .i64 lo, .int .i64 hi] w fun e w' => e = .returned (.bool (allB [] lo hi)) ∧ w' = w := by
  go_enter Tryz.func65, Tryz.ntmps65
  go_wp2
  go_loop [11] (fun i => i = .int .i64 0) (fun i => 0)
  case atStart => rfl
  case round =>
    subst hrel
    go_wp2
    go_ret
    exact ⟨rfl, rfl⟩
end Go.Proofs.YtdceimnapbblnaaGreat
namespace Go.Proofs.YtdceimnapbblnaaGreat
open Go.RowKit
set_option linter.unusedVariables false

def numsB (b d : Int) (zs : List Int) : Bool := gsB b d && allB zs 0 (sz b - 1)
theorem numsB_1 (b d x : Int) : numsB b d [x] = numB b d x := by simp [numsB, numB, allB]
theorem numsB_2 (b d x y : Int) : numsB b d [x, y] = (numB b d x && numB b d y) := by
  cases h : gsB b d <;> simp [numsB, numB, allB, h]
theorem numsB_3 (b d x y z : Int) : numsB b d [x, y, z] = (numB b d x && numB b d y && numB b d z) := by
  cases h : gsB b d <;> simp [numsB, numB, allB, h, Bool.and_assoc]

set_option maxHeartbeats 400000 in
theorem lnums_any (b d : Int) (bk off cap : Nat) (zs : List Int) (w : World) (hm : zs.length ≤ maxLen) (hl : bk < w.heap.size) (hc : ∀ i, i < zs.length → w.cell? ⟨bk, off + i, none⟩ = some (.int .i64 (zs.getD i 0))) :
    Calls Tryz.prog 155 #[.agg #[.int .i64 b, .int .i64 d], .slice (some ⟨bk, off, none⟩) zs.length cap] w fun e w' => e = .returned (.bool (numsB b d zs)) ∧ Below w.heap.size w w' := by
  have HC : Hid (∀ i, i < zs.length → w.cell? ⟨bk, off + i, none⟩ = some (.int .i64 (zs.getD i 0))) := hc
  clear hc
  unfold numsB
  cases hg : gsB b d
  · go_enter Tryz.func155, Tryz.ntmps155
    go_wp2_with (go_at_call 171; refine (lspace_any _ _ _).mono ?_; rintro e w1 ⟨rfl, hw1⟩)
    go_ret
    exact ⟨rfl, ((Below.refl _ _).alloc (Nat.le_refl _) _).trans (hw1.mono (by simp))⟩
  · obtain ⟨hb1, hb2, _, _, _⟩ := gsB_true hg
    obtain ⟨hs1, hs2⟩ := sz_bd hb1 hb2
    cases hal : allB zs 0 (sz b - 1)
    all_goals
      go_enter Tryz.func155, Tryz.ntmps155
      go_wp2_with (first | (go_at_call 171; refine (lspace_any _ _ _).mono ?_; rintro e w1 ⟨rfl, hw1⟩; have hc1 := bcell hw1) | (go_at_call 172; refine (lsize_any _ _ _ hb1 hb2).mono ?_; rintro e w2 ⟨rfl, hw2⟩) | (go_at_call 65; refine (lall_some bk off cap zs _ _ _ hm ?hcells).mono ?_; rotate_left; rintro e w3 ⟨rfl, rfl⟩))
      case hcells =>
        have g1 : Below w.heap.size w w1 := ((Below.refl _ _).alloc (Nat.le_refl _) _).trans (hw1.mono (by simp))
        have g2 : Below w.heap.size w w2 := g1.trans (hw2.mono (g1.size))
        exact fun i hi => (g2.cell (p := ⟨bk, off + i, none⟩) hl).trans (HC.out i hi)
      go_ret
      have g1 : Below w.heap.size w w1 := ((Below.refl _ _).alloc (Nat.le_refl _) _).trans (hw1.mono (by simp))
      exact ⟨rfl, g1.trans (hw2.mono (g1.size))⟩

def dOk (b d x y : Int) : Bool := numB b d x && numB b d y
def dVal (b d x y : Int) : Int := if dOk b d x y = true then dist b x y else 0
def aOk (b d f x t : Int) : Bool := numB b d f && numB b d x && numB b d t
def aVal (b d f x t : Int) : Bool := aOk b d f x t && arcB b f x t
def bVal (b d f x t : Int) : Bool := aOk b d f x t && btwB b f x t
theorem ret_2 {a b c d : Value} (h : a = c) (k : b = d) : Ending.returned (.tuple #[a, b]) = .returned (.tuple #[c, d]) := by rw [h, k]
theorem two_false {v w : Value} (h1 : v = .int .i64 0) (h2 : w = .bool false) : Ending.returned (.tuple #[v, w]) = .returned (.tuple #[.int .i64 0, .bool false]) := by rw [h1, h2]


set_option maxHeartbeats 800000 in
theorem InArc_any (b d f x t : Int) (w : World) :
    Calls Tryz.prog 143 #[.agg #[.int .i64 b, .int .i64 d], .int .i64 f, .int .i64 x, .int .i64 t] w fun e w' => e = .returned (.tuple #[.bool (aVal b d f x t), .bool (aOk b d f x t)]) ∧ Below w.heap.size w w' := by
  unfold aVal aOk
  cases hf : numB b d f
  ·
    go_enter Tryz.func143, Tryz.ntmps143
    go_wp2_with fail
    refine (isNumber_any _ _ _ _).mono ?_
    rintro e w1 ⟨rfl, hw1⟩
    obtain ⟨k10, k11, z1⟩ := keep2 (bk := w.heap.size) (u := .int .i64 b) (v := .int .i64 d) hw1 (by simp; try omega) (by simp) (by simp)
    go_wp2
    go_ret2
    exact ⟨rfl, bel1 hw1 (by simp; try omega)⟩
  · cases hx : numB b d x
    ·
      go_enter Tryz.func143, Tryz.ntmps143
      go_wp2_with fail
      refine (isNumber_any _ _ _ _).mono ?_
      rintro e w1 ⟨rfl, hw1⟩
      obtain ⟨k10, k11, z1⟩ := keep2 (bk := w.heap.size) (u := .int .i64 b) (v := .int .i64 d) hw1 (by simp; try omega) (by simp) (by simp)
      go_wp2_with fail
      refine (isNumber_any _ _ _ _).mono ?_
      rintro e w2 ⟨rfl, hw2⟩
      obtain ⟨k20, k21, z2⟩ := keep2 hw2 z1 k10 k11
      go_wp2
      go_ret2
      exact ⟨rfl, belt (bel1 hw1 (by simp; try omega)) hw2⟩
    · cases ht : numB b d t
      ·
        go_enter Tryz.func143, Tryz.ntmps143
        go_wp2_with fail
        refine (isNumber_any _ _ _ _).mono ?_
        rintro e w1 ⟨rfl, hw1⟩
        obtain ⟨k10, k11, z1⟩ := keep2 (bk := w.heap.size) (u := .int .i64 b) (v := .int .i64 d) hw1 (by simp; try omega) (by simp) (by simp)
        go_wp2_with fail
        refine (isNumber_any _ _ _ _).mono ?_
        rintro e w2 ⟨rfl, hw2⟩
        obtain ⟨k20, k21, z2⟩ := keep2 hw2 z1 k10 k11
        go_wp2_with fail
        refine (isNumber_any _ _ _ _).mono ?_
        rintro e w3 ⟨rfl, hw3⟩
        obtain ⟨k30, k31, z3⟩ := keep2 hw3 z2 k20 k21
        go_wp2
        go_ret2
        exact ⟨rfl, belt (belt (bel1 hw1 (by simp; try omega)) hw2) hw3⟩
      ·
        obtain ⟨hg, f1, f2⟩ := numB_true hf
        obtain ⟨_, x1, x2⟩ := numB_true hx
        obtain ⟨_, t1, t2⟩ := numB_true ht
        obtain ⟨hb1, hb2, _, _, _⟩ := gsB_true hg
        obtain ⟨hs1, hs2⟩ := sz_bd hb1 hb2
        rcases plc_arc (b := b) f1 f2 x1 x2 t1 t2 with ⟨hp, ha⟩ | ⟨hp, ha⟩
        · rw [ha]
          clear ha
          rcases hp with hp | hp | hp
          all_goals
            go_enter Tryz.func143, Tryz.ntmps143
            go_wp2_with fail
            refine (isNumber_any _ _ _ _).mono ?_
            rintro e w1 ⟨rfl, hw1⟩
            obtain ⟨k10, k11, z1⟩ := keep2 (bk := w.heap.size) (u := .int .i64 b) (v := .int .i64 d) hw1 (by simp; try omega) (by simp) (by simp)
            go_wp2_with fail
            refine (isNumber_any _ _ _ _).mono ?_
            rintro e w2 ⟨rfl, hw2⟩
            obtain ⟨k20, k21, z2⟩ := keep2 hw2 z1 k10 k11
            go_wp2_with fail
            refine (isNumber_any _ _ _ _).mono ?_
            rintro e w3 ⟨rfl, hw3⟩
            obtain ⟨k30, k31, z3⟩ := keep2 hw3 z2 k20 k21
            go_wp2_with fail
            refine (place_any _ _ _ _ _ _ hb1 hb2 f1 f2 x1 x2 t1 t2).mono ?_
            rintro e w4 ⟨rfl, hw4⟩
            obtain ⟨k40, k41, z4⟩ := keep2 hw4 z3 k30 k31
            go_wp2
            go_ret2
            exact ⟨rfl, belt (belt (belt (bel1 hw1 (by simp; try omega)) hw2) hw3) hw4⟩
        · rw [ha]
          clear ha
          rcases hp with hp | hp
          all_goals
            go_enter Tryz.func143, Tryz.ntmps143
            go_wp2_with fail
            refine (isNumber_any _ _ _ _).mono ?_
            rintro e w1 ⟨rfl, hw1⟩
            obtain ⟨k10, k11, z1⟩ := keep2 (bk := w.heap.size) (u := .int .i64 b) (v := .int .i64 d) hw1 (by simp; try omega) (by simp) (by simp)
            go_wp2_with fail
            refine (isNumber_any _ _ _ _).mono ?_
            rintro e w2 ⟨rfl, hw2⟩
            obtain ⟨k20, k21, z2⟩ := keep2 hw2 z1 k10 k11
            go_wp2_with fail
            refine (isNumber_any _ _ _ _).mono ?_
            rintro e w3 ⟨rfl, hw3⟩
            obtain ⟨k30, k31, z3⟩ := keep2 hw3 z2 k20 k21
            go_wp2_with fail
            refine (place_any _ _ _ _ _ _ hb1 hb2 f1 f2 x1 x2 t1 t2).mono ?_
            rintro e w4 ⟨rfl, hw4⟩
            obtain ⟨k40, k41, z4⟩ := keep2 hw4 z3 k30 k31
            go_wp2
            go_ret2
            exact ⟨rfl, belt (belt (belt (bel1 hw1 (by simp; try omega)) hw2) hw3) hw4⟩

set_option maxHeartbeats 800000 in
theorem Between_any (b d f x t : Int) (w : World) :
    Calls Tryz.prog 216 #[.agg #[.int .i64 b, .int .i64 d], .int .i64 f, .int .i64 x, .int .i64 t] w fun e w' => e = .returned (.tuple #[.bool (bVal b d f x t), .bool (aOk b d f x t)]) ∧ Below w.heap.size w w' := by
  unfold bVal aOk
  cases hf : numB b d f
  ·
    go_enter Tryz.func216, Tryz.ntmps216
    go_wp2_with fail
    refine (isNumber_any _ _ _ _).mono ?_
    rintro e w1 ⟨rfl, hw1⟩
    obtain ⟨k10, k11, z1⟩ := keep2 (bk := w.heap.size) (u := .int .i64 b) (v := .int .i64 d) hw1 (by simp; try omega) (by simp) (by simp)
    go_wp2
    go_ret2
    exact ⟨rfl, bel1 hw1 (by simp; try omega)⟩
  · cases hx : numB b d x
    ·
      go_enter Tryz.func216, Tryz.ntmps216
      go_wp2_with fail
      refine (isNumber_any _ _ _ _).mono ?_
      rintro e w1 ⟨rfl, hw1⟩
      obtain ⟨k10, k11, z1⟩ := keep2 (bk := w.heap.size) (u := .int .i64 b) (v := .int .i64 d) hw1 (by simp; try omega) (by simp) (by simp)
      go_wp2_with fail
      refine (isNumber_any _ _ _ _).mono ?_
      rintro e w2 ⟨rfl, hw2⟩
      obtain ⟨k20, k21, z2⟩ := keep2 hw2 z1 k10 k11
      go_wp2
      go_ret2
      exact ⟨rfl, belt (bel1 hw1 (by simp; try omega)) hw2⟩
    · cases ht : numB b d t
      ·
        go_enter Tryz.func216, Tryz.ntmps216
        go_wp2_with fail
        refine (isNumber_any _ _ _ _).mono ?_
        rintro e w1 ⟨rfl, hw1⟩
        obtain ⟨k10, k11, z1⟩ := keep2 (bk := w.heap.size) (u := .int .i64 b) (v := .int .i64 d) hw1 (by simp; try omega) (by simp) (by simp)
        go_wp2_with fail
        refine (isNumber_any _ _ _ _).mono ?_
        rintro e w2 ⟨rfl, hw2⟩
        obtain ⟨k20, k21, z2⟩ := keep2 hw2 z1 k10 k11
        go_wp2_with fail
        refine (isNumber_any _ _ _ _).mono ?_
        rintro e w3 ⟨rfl, hw3⟩
        obtain ⟨k30, k31, z3⟩ := keep2 hw3 z2 k20 k21
        go_wp2
        go_ret2
        exact ⟨rfl, belt (belt (bel1 hw1 (by simp; try omega)) hw2) hw3⟩
      ·
        obtain ⟨hg, f1, f2⟩ := numB_true hf
        obtain ⟨_, x1, x2⟩ := numB_true hx
        obtain ⟨_, t1, t2⟩ := numB_true ht
        obtain ⟨hb1, hb2, _, _, _⟩ := gsB_true hg
        obtain ⟨hs1, hs2⟩ := sz_bd hb1 hb2
        rcases plc_btw (b := b) f1 f2 x1 x2 t1 t2 with ⟨hp, ha⟩ | ⟨hp, ha⟩
        · rw [ha]
          clear ha
          have hq : (plc b f x t == 2) = true := by simp [hp]
          clear hp
          go_enter Tryz.func216, Tryz.ntmps216
          go_wp2_with fail
          refine (isNumber_any _ _ _ _).mono ?_
          rintro e w1 ⟨rfl, hw1⟩
          obtain ⟨k10, k11, z1⟩ := keep2 (bk := w.heap.size) (u := .int .i64 b) (v := .int .i64 d) hw1 (by simp; try omega) (by simp) (by simp)
          go_wp2_with fail
          refine (isNumber_any _ _ _ _).mono ?_
          rintro e w2 ⟨rfl, hw2⟩
          obtain ⟨k20, k21, z2⟩ := keep2 hw2 z1 k10 k11
          go_wp2_with fail
          refine (isNumber_any _ _ _ _).mono ?_
          rintro e w3 ⟨rfl, hw3⟩
          obtain ⟨k30, k31, z3⟩ := keep2 hw3 z2 k20 k21
          go_wp2_with fail
          refine (place_any _ _ _ _ _ _ hb1 hb2 f1 f2 x1 x2 t1 t2).mono ?_
          rintro e w4 ⟨rfl, hw4⟩
          obtain ⟨k40, k41, z4⟩ := keep2 hw4 z3 k30 k31
          go_wp2
          go_ret2
          exact ⟨rfl, belt (belt (belt (bel1 hw1 (by simp; try omega)) hw2) hw3) hw4⟩
        · rw [ha]
          clear ha
          have hq : (plc b f x t == 2) = false := by simp [hp]
          clear hp
          go_enter Tryz.func216, Tryz.ntmps216
          go_wp2_with fail
          refine (isNumber_any _ _ _ _).mono ?_
          rintro e w1 ⟨rfl, hw1⟩
          obtain ⟨k10, k11, z1⟩ := keep2 (bk := w.heap.size) (u := .int .i64 b) (v := .int .i64 d) hw1 (by simp; try omega) (by simp) (by simp)
          go_wp2_with fail
          refine (isNumber_any _ _ _ _).mono ?_
          rintro e w2 ⟨rfl, hw2⟩
          obtain ⟨k20, k21, z2⟩ := keep2 hw2 z1 k10 k11
          go_wp2_with fail
          refine (isNumber_any _ _ _ _).mono ?_
          rintro e w3 ⟨rfl, hw3⟩
          obtain ⟨k30, k31, z3⟩ := keep2 hw3 z2 k20 k21
          go_wp2_with fail
          refine (place_any _ _ _ _ _ _ hb1 hb2 f1 f2 x1 x2 t1 t2).mono ?_
          rintro e w4 ⟨rfl, hw4⟩
          obtain ⟨k40, k41, z4⟩ := keep2 hw4 z3 k30 k31
          go_wp2
          go_ret2
          exact ⟨rfl, belt (belt (belt (bel1 hw1 (by simp; try omega)) hw2) hw3) hw4⟩

set_option maxHeartbeats 800000 in
theorem lbetween_any (b d f x t : Int) (w : World) (hb1 : 1 ≤ b) (hb2 : b ≤ 12) (f1 : 0 ≤ f) (f2 : f < sz b) (x1 : 0 ≤ x) (x2 : x < sz b) (t1 : 0 ≤ t) (t2 : t < sz b) :
    Calls Tryz.prog 191 #[.agg #[.int .i64 b, .int .i64 d], .int .i64 f, .int .i64 x, .int .i64 t] w fun e w' => e = .returned (.bool (btwB b f x t)) ∧ Below w.heap.size w w' := by
  have hv : btwB b f x t = (!(x == f) && !(x == t) && arcB b f x t) := by
    unfold btwB arcB
    rw [Bool.eq_iff_iff]; simp [and_assoc]
  rw [hv]
  clear hv
  by_cases h1 : x = f
  · have e1 : (x == f) = true := by simp [h1]
    have e1' : (x != f) = false := by simp [h1]
    clear h1
    rw [e1]
    go_enter Tryz.func191, Tryz.ntmps191
    go_wp2
    go_ret
    exact ⟨rfl, (Below.refl _ _).alloc (Nat.le_refl _) _⟩
  · have e1 : (x == f) = false := by simp [h1]
    have e1' : (x != f) = true := by simp [h1]
    clear h1
    rw [e1]
    by_cases h2 : x = t
    · have e2 : (x == t) = true := by simp [h2]
      have e2' : (x != t) = false := by simp [h2]
      clear h2
      rw [e2]
      go_enter Tryz.func191, Tryz.ntmps191
      go_wp2
      go_ret
      exact ⟨rfl, (Below.refl _ _).alloc (Nat.le_refl _) _⟩
    · have e2 : (x == t) = false := by simp [h2]
      have e2' : (x != t) = true := by simp [h2]
      clear h2
      rw [e2]
      cases ha : arcB b f x t
      all_goals
        go_enter Tryz.func191, Tryz.ntmps191
        go_wp2_with fail
        refine (larc_any _ _ _ _ _ _ hb1 hb2 f1 f2 x1 x2 t1 t2).mono ?_
        rintro e w1 ⟨rfl, hw1⟩
        go_wp2
        go_ret
        exact ⟨rfl, bel1 hw1 (by simp; try omega)⟩

end Go.Proofs.YtdceimnapbblnaaGreat
namespace Go.Proofs.YtdceimnapbblnaaGreat
open Go.RowKit
set_option linter.unusedVariables false

def digB (b d x : Int) : Bool := gsB b d && inB x 0 (sz d - 1)
theorem digB_true {b d x : Int} (h : digB b d x = true) : gsB b d = true ∧ 0 ≤ x ∧ x < sz d := by
  unfold digB at h
  rw [Bool.and_eq_true] at h
  have := inB_true h.2
  exact ⟨h.1, by omega, by omega⟩
theorem digB_yes {b d x : Int} (h : gsB b d = true) (h1 : 0 ≤ x) (h2 : x < sz d) : digB b d x = true := by
  unfold digB; rw [h, inB_yes (by omega) (by omega)]; rfl
theorem digB_no {b d x : Int} (h : gsB b d = false) : digB b d x = false := by unfold digB; rw [h]; rfl
theorem digB_out {b d x : Int} (h : ¬ (0 ≤ x ∧ x < sz d)) : digB b d x = false := by unfold digB; rw [inB_no (by omega)]; simp
def sOk (b d x g : Int) : Bool := numB b d x && digB b d g
def shf (b d x g : Int) : Int := (x * sz d + g) % sz b
def sVal (b d x g : Int) : Int := if sOk b d x g = true then shf b d x g else 0
theorem mul_bd {x y : Int} (h1 : 0 ≤ x) (h2 : x ≤ 4096) (h3 : 0 ≤ y) (h4 : y ≤ 4096) : 0 ≤ x * y ∧ x * y ≤ 16777216 :=
  ⟨Int.mul_nonneg h1 h3, Int.le_trans (Int.mul_le_mul h2 h4 h3 (by omega)) (by omega)⟩
theorem shf_bd {b : Int} (d x g : Int) (h1 : 1 ≤ b) (h2 : b ≤ 12) : 0 ≤ shf b d x g ∧ shf b d x g < sz b := by
  have := sz_bd h1 h2
  exact ⟨Int.emod_nonneg _ (by omega), Int.emod_lt_of_pos _ (by omega)⟩

theorem base_any (b d : Int) (w : World) (h1 : 1 ≤ d) (h2 : d ≤ 12) :
    Calls Tryz.prog 218 #[.agg #[.int .i64 b, .int .i64 d]] w fun e w' => e = .returned (.int .i64 (sz d)) ∧ Below w.heap.size w w' := by
  have hw := wrap_sz h1 h2
  go_enter Tryz.func218, Tryz.ntmps218
  go_wp2
  go_ret
  exact ⟨ret_int hw, (Below.refl _ _).alloc (Nat.le_refl _) _⟩
theorem lbase_any (b d : Int) (w : World) (h1 : 1 ≤ d) (h2 : d ≤ 12) :
    Calls Tryz.prog 240 #[.agg #[.int .i64 b, .int .i64 d]] w fun e w' => e = .returned (.int .i64 (sz d)) ∧ Below w.heap.size w w' := by
  have hw := wrap_sz h1 h2
  go_enter Tryz.func240, Tryz.ntmps240
  go_wp2
  go_ret
  exact ⟨ret_int hw, (Below.refl _ _).alloc (Nat.le_refl _) _⟩
theorem count_any (b d : Int) (w : World) (h1 : 1 ≤ b) (h2 : b ≤ 12) (h3 : 1 ≤ d) (h4 : d ≤ b) :
    Calls Tryz.prog 220 #[.agg #[.int .i64 b, .int .i64 d]] w fun e w' => e = .returned (.int .i64 (b / d)) ∧ Below w.heap.size w w' := by
  go_enter Tryz.func220, Tryz.ntmps220
  go_wp2
  go_ret
  exact ⟨rfl, (Below.refl _ _).alloc (Nat.le_refl _) _⟩

set_option maxHeartbeats 400000 in
theorem isDigit_any (b d x : Int) (w : World) :
    Calls Tryz.prog 217 #[.agg #[.int .i64 b, .int .i64 d], .int .i64 x] w fun e w' => e = .returned (.bool (digB b d x)) ∧ Below w.heap.size w w' := by
  cases hg : gsB b d
  · rw [digB_no hg]
    go_enter Tryz.func217, Tryz.ntmps217
    go_wp2_with fail
    refine (good_any _ _ _).mono ?_
    rintro e w1 ⟨rfl, hw1⟩
    obtain ⟨k10, k11, z1⟩ := keep2 (bk := w.heap.size) (u := .int .i64 b) (v := .int .i64 d) hw1 (by simp; try omega) (by simp) (by simp)
    go_wp2
    go_ret
    exact ⟨rfl, bel1 hw1 (by simp; try omega)⟩

  · obtain ⟨hb1, hb2, hd1, hd2, _⟩ := gsB_true hg
    have hd3 : d ≤ 12 := by omega
    obtain ⟨hs1, hs2⟩ := sz_bd hd1 hd3
    by_cases h1 : 0 ≤ x
    · by_cases h2 : x < sz d
      · rw [digB_yes hg h1 h2]
        go_enter Tryz.func217, Tryz.ntmps217
        go_wp2_with fail
        refine (good_any _ _ _).mono ?_
        rintro e w1 ⟨rfl, hw1⟩
        obtain ⟨k10, k11, z1⟩ := keep2 (bk := w.heap.size) (u := .int .i64 b) (v := .int .i64 d) hw1 (by simp; try omega) (by simp) (by simp)
        go_wp2_with fail
        refine (base_any _ _ _ hd1 hd3).mono ?_
        rintro e w2 ⟨rfl, hw2⟩
        obtain ⟨k20, k21, z2⟩ := keep2 hw2 z1 k10 k11
        go_wp2
        go_ret
        exact ⟨rfl, belt (bel1 hw1 (by simp; try omega)) hw2⟩

      · rw [digB_out (by omega)]
        go_enter Tryz.func217, Tryz.ntmps217
        go_wp2_with fail
        refine (good_any _ _ _).mono ?_
        rintro e w1 ⟨rfl, hw1⟩
        obtain ⟨k10, k11, z1⟩ := keep2 (bk := w.heap.size) (u := .int .i64 b) (v := .int .i64 d) hw1 (by simp; try omega) (by simp) (by simp)
        go_wp2_with fail
        refine (base_any _ _ _ hd1 hd3).mono ?_
        rintro e w2 ⟨rfl, hw2⟩
        obtain ⟨k20, k21, z2⟩ := keep2 hw2 z1 k10 k11
        go_wp2
        go_ret
        exact ⟨ret_bool (decide_eq_false (by omega)), belt (bel1 hw1 (by simp; try omega)) hw2⟩

    · rw [digB_out (by omega)]
      go_enter Tryz.func217, Tryz.ntmps217
      go_wp2_with fail
      refine (good_any _ _ _).mono ?_
      rintro e w1 ⟨rfl, hw1⟩
      obtain ⟨k10, k11, z1⟩ := keep2 (bk := w.heap.size) (u := .int .i64 b) (v := .int .i64 d) hw1 (by simp; try omega) (by simp) (by simp)
      go_wp2
      go_ret
      exact ⟨rfl, bel1 hw1 (by simp; try omega)⟩


theorem shl_eq {b d x g : Int} (hb1 : 1 ≤ b) (hb2 : b ≤ 12) (hd1 : 1 ≤ d) (hd2 : d ≤ 12) (h1 : 0 ≤ x) (h2 : x < sz b) (h3 : 0 ≤ g) (h4 : g < sz d) :
    (wrap64 (wrap64 (x * 2 ^ d.toNat) + g)).tmod (sz b) = shf b d x g := by
  obtain ⟨hs1, hs2⟩ := sz_bd hb1 hb2
  obtain ⟨hs3, hs4⟩ := sz_bd hd1 hd2
  obtain ⟨hm1, hm2⟩ := mul_bd h1 (by omega) (by omega : 0 ≤ sz d) hs4
  have e1 : wrap64 (x * 2 ^ d.toNat) = x * sz d := IntWalk.wrap64_in (x * sz d) (by omega)
  have e2 : wrap64 (x * sz d + g) = x * sz d + g := IntWalk.wrap64_in (x * sz d + g) (by omega)
  rw [e1, e2, Int.tmod_eq_emod_of_nonneg (by omega)]
  rfl
set_option maxHeartbeats 400000 in
theorem lshift_any (b d x g : Int) (w : World) (hb1 : 1 ≤ b) (hb2 : b ≤ 12) (hd1 : 1 ≤ d) (hd2 : d ≤ 12) (h1 : 0 ≤ x) (h2 : x < sz b) (h3 : 0 ≤ g) (h4 : g < sz d) :
    Calls Tryz.prog 192 #[.agg #[.int .i64 b, .int .i64 d], .int .i64 x, .int .i64 g] w fun e w' => e = .returned (.int .i64 (shf b d x g)) ∧ Below w.heap.size w w' := by
  obtain ⟨hs1, hs2⟩ := sz_bd hb1 hb2
  obtain ⟨hs3, hs4⟩ := sz_bd hd1 hd2
  obtain ⟨hm1, hm2⟩ := mul_bd h1 (by omega) (by omega : 0 ≤ sz d) hs4
  go_enter Tryz.func192, Tryz.ntmps192
  go_wp2
  have c0 : ∀ p : Kin (w.heap.size + 1) (w.alloc (.cells #[.int .i64 b, .int .i64 d] 25)), p.v.cell? ⟨w.heap.size, 0, none⟩ = some (.int .i64 b) := kin_cell (by omega) (by go_simp)
  have c1 : ∀ p : Kin (w.heap.size + 1) (w.alloc (.cells #[.int .i64 b, .int .i64 d] 25)), p.v.cell? ⟨w.heap.size, 1, none⟩ = some (.int .i64 d) := kin_cell (by omega) (by go_simp)
  refine region_kin (w.heap.size + 1) (by kernel_rfl) (by kernel_rfl) (fun hne => ?_)
  repeat (go_big_quiet_step ((go_at_call 172; exact kin_of (by simp) (lsize_any _ _ _ hb1 hb2))))
  refine wpQuiet_nil ?_
  intro _ hw'
  obtain ⟨⟨w1, hw1⟩, hw''⟩ := hw'
  obtain rfl : _ = w1 := hw''
  clear c0 c1 hne
  go_wp2
  go_ret
  exact ⟨ret_int (shl_eq hb1 hb2 hd1 hd2 h1 h2 h3 h4), ((Below.refl _ _).alloc (Nat.le_refl _) _).trans (hw1.mono (by omega))⟩

set_option maxHeartbeats 800000 in
theorem ShiftIn_any (b d x g : Int) (w : World) :
    Calls Tryz.prog 145 #[.agg #[.int .i64 b, .int .i64 d], .int .i64 x, .int .i64 g] w fun e w' => e = .returned (.tuple #[.int .i64 (sVal b d x g), .bool (sOk b d x g)]) ∧ Below w.heap.size w w' := by
  unfold sVal sOk
  cases hx : numB b d x
  ·
    go_enter Tryz.func145, Tryz.ntmps145
    go_wp2_with fail
    refine (isNumber_any _ _ _ _).mono ?_
    rintro e w1 ⟨rfl, hw1⟩
    obtain ⟨k10, k11, z1⟩ := keep2 (bk := w.heap.size) (u := .int .i64 b) (v := .int .i64 d) hw1 (by simp; try omega) (by simp) (by simp)
    go_wp2
    go_ret2
    exact ⟨rfl, bel1 hw1 (by simp; try omega)⟩
  · cases hy : digB b d g
    ·
      go_enter Tryz.func145, Tryz.ntmps145
      go_wp2_with fail
      refine (isNumber_any _ _ _ _).mono ?_
      rintro e w1 ⟨rfl, hw1⟩
      obtain ⟨k10, k11, z1⟩ := keep2 (bk := w.heap.size) (u := .int .i64 b) (v := .int .i64 d) hw1 (by simp; try omega) (by simp) (by simp)
      go_wp2_with fail
      refine (isDigit_any _ _ _ _).mono ?_
      rintro e w2 ⟨rfl, hw2⟩
      obtain ⟨k20, k21, z2⟩ := keep2 hw2 z1 k10 k11
      go_wp2
      go_ret2
      exact ⟨rfl, belt (bel1 hw1 (by simp; try omega)) hw2⟩
    ·
      obtain ⟨hg, x1, x2⟩ := numB_true hx
      obtain ⟨_, g1, g2⟩ := digB_true hy
      obtain ⟨hb1, hb2, hd1, hd2, _⟩ := gsB_true hg
      have hd3 : d ≤ 12 := by omega
      obtain ⟨hs1, hs2⟩ := sz_bd hb1 hb2
      obtain ⟨hs3, hs4⟩ := sz_bd hd1 hd3
      obtain ⟨hm1, hm2⟩ := mul_bd x1 (by omega) (by omega : 0 ≤ sz d) hs4
      go_enter Tryz.func145, Tryz.ntmps145
      go_wp2_with fail
      refine (isNumber_any _ _ _ _).mono ?_
      rintro e w1 ⟨rfl, hw1⟩
      obtain ⟨k10, k11, z1⟩ := keep2 (bk := w.heap.size) (u := .int .i64 b) (v := .int .i64 d) hw1 (by simp; try omega) (by simp) (by simp)
      go_wp2_with fail
      refine (isDigit_any _ _ _ _).mono ?_
      rintro e w2 ⟨rfl, hw2⟩
      obtain ⟨k20, k21, z2⟩ := keep2 hw2 z1 k10 k11
      go_wp2
      have c0 : ∀ p : Kin w2.heap.size w2, p.v.cell? ⟨w.heap.size, 0, none⟩ = some (.int .i64 b) := kin_cell z2 k20
      have c1 : ∀ p : Kin w2.heap.size w2, p.v.cell? ⟨w.heap.size, 1, none⟩ = some (.int .i64 d) := kin_cell z2 k21
      refine region_kin w2.heap.size (by kernel_rfl) (by kernel_rfl) (fun hne => ?_)
      repeat (go_big_quiet_step (first | (go_at_call 140; exact kin_of (Nat.le_refl _) (size_any _ _ _ hb1 hb2)) | (go_at_call 218; exact kin_of (Nat.le_refl _) (base_any _ _ _ hd1 hd3))))
      refine wpQuiet_nil ?_
      intro _ hw'
      obtain ⟨⟨w3, hw3⟩, hw''⟩ := hw'
      obtain rfl : _ = w3 := hw''
      clear c0 c1 hne
      go_wp2
      go_ret2
      exact ⟨rfl, belt (belt (bel1 hw1 (by simp; try omega)) hw2) hw3⟩

end Go.Proofs.YtdceimnapbblnaaGreat
namespace Go.Proofs.YtdceimnapbblnaaGreat
open Go.RowKit
set_option linter.unusedVariables false
theorem own : ownKnob Tryz.prog.godebug = none := by kernel_rfl
theorem laidOut : laidOutB Tryz.prog = true := by kernel_rfl
theorem cellsS : Tryz.prog.cellsOf 64 = 2 := by kernel_rfl
set_option maxHeartbeats 400000 in
theorem toSpace_any (b d : Int) (w : World) :
    Calls Tryz.prog 116 #[.agg #[.int .i64 b, .int .i64 d]] w fun e w' => e = .returned (.agg #[.int .i64 b, .int .i64 d]) ∧ Below w.heap.size w w' := by
  go_enter Tryz.func116, Tryz.ntmps116
  go_wp2
  refine bodyPost_ret (v := .agg #[.int .i64 b, .int .i64 d]) (by simp [results, Tryz.results116, go_sem]) rfl ⟨rfl, ?_⟩
  repeat (first | exact Below.refl _ _ | refine Below.alloc ?_ (by simp; try omega) _ | refine Below.setCell ?_ (by simp; try omega) _)
end Go.Proofs.YtdceimnapbblnaaGreat
namespace Go.Proofs.YtdceimnapbblnaaGreat
set_option linter.unusedVariables false

def digL : Nat → Int → Int → List Int
  | 0, _, _ => []
  | k + 1, B, x => digL k B (x / B) ++ [x % B]
theorem digL_len (k : Nat) (B x : Int) : (digL k B x).length = k := by
  induction k generalizing x with
  | zero => rfl
  | succ k ih => simp [digL, ih]
theorem digL_mem (k : Nat) {B : Int} (hB : 0 < B) (x : Int) : ∀ g ∈ digL k B x, 0 ≤ g ∧ g < B := by
  induction k generalizing x with
  | zero => intro g hg; simp [digL] at hg
  | succ k ih =>
    intro g hg
    simp only [digL, List.mem_append, List.mem_singleton] at hg
    rcases hg with hg | hg
    · exact ih _ g hg
    · subst hg; exact ⟨Int.emod_nonneg _ (by omega), Int.emod_lt_of_pos _ hB⟩
/-- the count of a good space's digits, as a number -/
def cnt (b d : Int) : Nat := (b / d).toNat
theorem cnt_bd {b d : Int} (h1 : 1 ≤ b) (h2 : b ≤ 12) (h3 : 1 ≤ d) (h4 : d ≤ b) : b / d = (cnt b d : Int) ∧ 1 ≤ cnt b d ∧ cnt b d ≤ 12 := by
  have a1 : 1 ≤ b / d := (Int.le_ediv_iff_mul_le (by omega)).2 (by omega)
  have a2 : b / d ≤ 12 := by
    have : b / d ≤ b := Int.ediv_le_self _ (by omega)
    omega
  unfold cnt
  omega
theorem pow_cnt {b d : Int} (h1 : 1 ≤ b) (h3 : 1 ≤ d) (h4 : d ≤ b) (h5 : b % d = 0) : (sz d) ^ (cnt b d) = sz b := by
  unfold sz cnt
  rw [← Int.pow_mul]
  congr 1
  have e : d * (b / d) = b := Int.mul_ediv_cancel_of_emod_eq_zero h5
  have p1 : 0 ≤ b / d := Int.ediv_nonneg (by omega) (by omega)
  have : ((d.toNat * (b / d).toNat : Nat) : Int) = b := by
    rw [Int.natCast_mul, Int.toNat_of_nonneg (by omega), Int.toNat_of_nonneg p1, e]
  omega
def ofD (B : Int) (l : List Int) : Int := l.foldl (fun a g => a * B + g) 0
theorem ofD_snoc (B : Int) (l : List Int) (g : Int) : ofD B (l ++ [g]) = ofD B l * B + g := by simp [ofD]
theorem ofD_digL (k : Nat) {B : Int} (hB : 0 < B) (x : Int) (h0 : 0 ≤ x) (h1 : x < B ^ k) : ofD B (digL k B x) = x := by
  induction k generalizing x with
  | zero => simp [digL, ofD]; simp at h1; omega
  | succ k ih =>
    rw [digL, ofD_snoc, ih (x / B) (Int.ediv_nonneg h0 (by omega)) (by
      rw [Int.ediv_lt_iff_lt_mul hB]; rw [Int.pow_succ] at h1; exact h1)]
    have := Int.mul_ediv_add_emod x B
    rw [Int.mul_comm] at this; omega
theorem ofD_take {B : Int} {l : List Int} {k : Nat} (hk : k < l.length) : ofD B (l.take (k + 1)) = ofD B (l.take k) * B + l.getD k 0 := by
  rw [List.take_succ_eq_append_getElem hk, ofD_snoc]
  simp [List.getD_eq_getElem?_getD, List.getElem?_eq_getElem hk]
theorem ofD_bd {B : Int} (hB : 0 < B) (l : List Int) (k : Nat) (hk : k ≤ l.length) (h : ∀ i, i < k → 0 ≤ l.getD i 0 ∧ l.getD i 0 < B) : 0 ≤ ofD B (l.take k) ∧ ofD B (l.take k) < B ^ k := by
  induction k with
  | zero => simp [ofD]
  | succ k ih =>
    have ⟨i1, i2⟩ := ih (by omega) (fun i hi => h i (by omega))
    have ⟨g1, g2⟩ := h k (by omega)
    rw [ofD_take (by omega), Int.pow_succ]
    refine ⟨?_, ?_⟩
    · have := Int.mul_nonneg i1 (by omega : 0 ≤ B); omega
    · have h3 : (ofD B (l.take k) + 1) * B ≤ B ^ k * B := Int.mul_le_mul_of_nonneg_right (by omega) (by omega)
      rw [Int.add_mul] at h3; omega
theorem pow_le {B : Int} (hB : 1 ≤ B) {k n : Nat} (h : k ≤ n) : B ^ k ≤ B ^ n := by
  induction n with
  | zero => obtain rfl : k = 0 := by omega
            exact Int.le_refl _
  | succ n ih =>
    by_cases e : k = n + 1
    · subst e; exact Int.le_refl _
    · have := ih (by omega)
      have p : 0 ≤ B ^ n := Int.pow_nonneg (by omega)
      rw [Int.pow_succ]
      have h3 : B ^ n * 1 ≤ B ^ n * B := Int.mul_le_mul_of_nonneg_left hB p
      omega
/-- the row of twelve: digits, and nought behind them -/
def rowZ (n : Nat) (l : List Int) : List Int := l ++ List.replicate (12 - n) 0
def zv (l : List Int) : Array Value := (l.map (Value.int .i64)).toArray
theorem zv_get (l : List Int) (i : Nat) (h : i < l.length) : (zv l)[i]? = some (.int .i64 (l.getD i 0)) := by
  simp [zv, List.getD_eq_getElem?_getD, List.getElem?_eq_getElem h]
theorem zv_set (l : List Int) (i : Nat) (v : Int) : (zv l).setIfInBounds i (.int .i64 v) = zv (l.set i v) := by
  simp [zv, List.map_set]
theorem zv_size (l : List Int) : (zv l).size = l.length := by simp [zv]
end Go.Proofs.YtdceimnapbblnaaGreat
namespace Go.Proofs.YtdceimnapbblnaaGreat
open Go.RowKit
set_option linter.unusedVariables false

theorem rowAt_cell {w : World} {bk off : Nat} {zs : List Int} (h : RowAt w (some ⟨bk, off, none⟩) zs) (hz : 0 < zs.length) : bk < w.heap.size ∧ ∀ i, i < zs.length → w.cell? ⟨bk, off + i, none⟩ = some (.int .i64 (zs.getD i 0)) := by
  rcases h with rfl | ⟨b', o', h, hl, hc⟩
  · simp at hz
  · simp at h; obtain ⟨rfl, rfl⟩ := h; exact ⟨hl, hc⟩
theorem rowAt_form {w : World} {a : Option Addr} {zs : List Int} (h : RowAt w a zs) (hz : 0 < zs.length) : ∃ bk off, a = some ⟨bk, off, none⟩ := by
  rcases h with rfl | ⟨b', o', h, _⟩
  · simp at hz
  · exact ⟨b', o', h⟩
theorem made_zv (n : Nat) : madeCells #[Value.int .i64 0] n = zv (List.replicate n 0) := by
  apply Array.ext
  · simp [size_madeCells, zv]
  · intro i h1 h2
    simp [madeCells, zv, Nat.mod_one]
theorem info_int : (Tryz.prog.info? 3).map (fun i => (i.zero, i.size, i.bytes)) = some (some (.int .i64 0), 1, 8) := by kernel_rfl
theorem make_ints (n : Nat) (hn : n ≤ 1048576) (w : World) :
    (Instr.makeSlice 30 (.int .i64 (n : Int)) (.int .i64 (n : Int))).run Tryz.prog w = .ok (.slice (some ⟨w.heap.size, 0, none⟩) n n) (w.alloc (.cells (zv (List.replicate n 0)) 3)) := by
  rw [← made_zv]
  exact run_make_row' (P := Tryz.prog) _ _ (.int .i64 0) 8 Tryz.underlying30 info_int rfl .i64 .i64 n (by omega) (by omega) w

/-- the call's own list of ints at the head of a block -/
structure OwnZ (w wr : World) (g : Nat) (l : List Int) : Prop where
  bel : Below w.heap.size w wr
  lo : w.heap.size ≤ g
  row : wr.heap[g]? = some (.cells (zv l) 3 (0, 0))
theorem OwnZ.lt {w wr : World} {g : Nat} {l : List Int} (h : OwnZ w wr g l) : g < wr.heap.size := (Array.getElem?_eq_some_iff.1 h.row).1
theorem OwnZ.keep {w wr w1 : World} {g : Nat} {l : List Int} (h : OwnZ w wr g l) (hb : Below wr.heap.size wr w1) : OwnZ w w1 g l :=
  ⟨h.bel.trans (hb.mono h.bel.size), h.lo, (hb.block _ h.lt).trans h.row⟩
theorem OwnZ.put {w wr : World} {g : Nat} {l : List Int} (h : OwnZ w wr g l) (i : Nat) (v : Int) : OwnZ w (wr.setCell ⟨g, i, none⟩ (.int .i64 v)) g (l.set i v) :=
  ⟨h.bel.setCell h.lo _, h.lo, by rw [heap_setCell_same _ _ _ _ _ _ h.row, zv_set]⟩
theorem OwnZ.at {w wr : World} {g : Nat} {l : List Int} (h : OwnZ w wr g l) (i : Nat) (hi : i < l.length) :
    wr.cell? ⟨g, i, none⟩ = some (.int .i64 (l.getD i 0)) ∧ wr.frozen? ⟨g, i, none⟩ = false :=
  ⟨(cell_of_row wr _ _ _ _ _ h.row).trans (zv_get _ _ hi), frozen_of_row wr _ _ _ _ h.row⟩
theorem rowAt_of_row {w : World} {g : Nat} {l : List Int} {t : TypeId} {fr : Nat × Nat} (h : w.heap[g]? = some (.cells (zv l) t fr)) : RowAt w (some ⟨g, 0, none⟩) l :=
  .inr ⟨g, 0, rfl, (Array.getElem?_eq_some_iff.1 h).1, fun i hi => by rw [Nat.zero_add]; exact (cell_of_row w _ _ _ _ _ h).trans (zv_get _ _ hi)⟩

def cop (zs : List Int) (k : Nat) : List Int := zs.take k ++ List.replicate (zs.length - k) 0
theorem cop_set {zs : List Int} {k : Nat} (hk : k < zs.length) : (cop zs k).set k (zs.getD k 0) = cop zs (k + 1) := by
  unfold cop
  have e : zs.length - k = (zs.length - (k + 1)) + 1 := by omega
  rw [e, List.replicate_succ, List.set_append_right _ _ (by simp; omega), List.take_succ_eq_append_getElem hk]
  have : k - (List.take k zs).length = 0 := by simp; omega
  have e2 : zs.getD k 0 = zs[k] := by simp [List.getD_eq_getElem?_getD, List.getElem?_eq_getElem hk]
  rw [this, e2, List.set_cons_zero, List.append_assoc]
  rfl
theorem cop_len {zs : List Int} {k : Nat} (hk : k ≤ zs.length) : (cop zs k).length = zs.length := by simp [cop]; omega
theorem cop_all (zs : List Int) : cop zs zs.length = zs := by simp [cop]
theorem cop_none (zs : List Int) : cop zs 0 = List.replicate zs.length 0 := by simp [cop]

set_option maxHeartbeats 800000 in
theorem toIntS_any (a : Option Addr) (cap : Nat) (zs : List Int) (w : World) (hm : zs.length ≤ 1048576) (hr : RowAt w a zs) :
    Calls Tryz.prog 47 #[.slice a zs.length cap] w fun e w' => e = .returned (.slice (some ⟨w.heap.size, 0, none⟩) zs.length zs.length) ∧ OwnZ w w' w.heap.size zs := by
  have hmk := make_ints zs.length hm
  have HR : Hid (RowAt w a zs) := hr
  clear hr
  go_enter Tryz.func47, Tryz.ntmps47
  go_wp2_with fail
  clear hmk
  have st0 : OwnZ w (w.alloc (.cells (zv (List.replicate zs.length 0)) 3)) w.heap.size (cop zs 0) :=
    ⟨(Below.refl _ _).alloc (Nat.le_refl _) _, Nat.le_refl _, by rw [cop_none]; exact heap_alloc_new _ _⟩
  go_loopw [4] (fun vi wr => ∃ k : Nat, k ≤ zs.length ∧ vi = .int .i64 k ∧ OwnZ w wr w.heap.size (cop zs k)) (fun vi _ => zs.length - (intOf vi).toNat)
  case atStart => exact ⟨0, Nat.zero_le _, rfl, st0⟩
  case round =>
    obtain ⟨k, hk, rfl, st⟩ := hrel
    clear st0
    by_cases hlt : k < zs.length
    · obtain ⟨bk, off, rfl⟩ := rowAt_form HR.out (by omega)
      obtain ⟨hbk, hc⟩ := rowAt_cell HR.out (by omega)
      have hcell : wr.cell? ⟨bk, off + k, none⟩ = some (.int .i64 (zs.getD k 0)) := (st.bel.cell (p := ⟨bk, off + k, none⟩) hbk).trans (hc k hlt)
      obtain ⟨r0, r1⟩ := st.at k (by rw [cop_len hk]; exact hlt)
      clear hc
      have st2 := st.put k (zs.getD k 0)
      rw [cop_set hlt] at st2
      clear st
      generalize zs.getD k 0 = z at hcell st2
      generalize (cop zs k).getD k 0 = y at r0
      go_wp2
      go_roundw
      case rel => exact ⟨k + 1, by omega, by go_num, st2⟩
      case measure => simp [intOf]; omega
    · have hkl : k = zs.length := by omega
      subst hkl
      rw [cop_all] at st
      go_wp2
      go_ret
      exact ⟨rfl, st⟩

def sameB (xs ys : List Int) : Bool := decide (xs = ys)
theorem same_take {xs ys : List Int} {k : Nat} (h1 : k < xs.length) (h2 : k < ys.length) (h : xs.take k = ys.take k) (e : xs.getD k 0 = ys.getD k 0) : xs.take (k + 1) = ys.take (k + 1) := by
  rw [List.take_succ_eq_append_getElem h1, List.take_succ_eq_append_getElem h2, h]
  simp [List.getD_eq_getElem?_getD, List.getElem?_eq_getElem h1, List.getElem?_eq_getElem h2] at e
  rw [e]
theorem sameB_no {xs ys : List Int} {k : Nat} (e : ¬ xs.getD k 0 = ys.getD k 0) : sameB xs ys = false := decide_eq_false (fun h => e (by rw [h]))
theorem sameB_yes {xs ys : List Int} (hl : xs.length = ys.length) {k : Nat} (hk : ¬ k < xs.length) (h : xs.take k = ys.take k) : sameB xs ys = true := by
  rw [List.take_of_length_le (by omega), List.take_of_length_le (by omega)] at h
  exact decide_eq_true h

set_option maxHeartbeats 800000 in
theorem eqIntS_any (a a' : Option Addr) (cap cap' : Nat) (xs ys : List Int) (w : World) (hm : xs.length ≤ maxLen) (hx : RowAt w a xs) (hy : RowAt w a' ys) :
    Calls Tryz.prog 50 #[.slice a xs.length cap, .slice a' ys.length cap'] w fun e w' => e = .returned (.bool (sameB xs ys)) ∧ Below w.heap.size w w' := by
  unfold maxLen at hm
  have HX : Hid (RowAt w a xs) := hx
  have HY : Hid (RowAt w a' ys) := hy
  clear hx hy
  by_cases hl : xs.length = ys.length
  · have HL : Hid (xs.length = ys.length) := hl
    have hle : ((xs.length : Int) != (ys.length : Int)) = false := by simp [hl]
    clear hl
    go_enter Tryz.func50, Tryz.ntmps50
    go_wp2_with fail
    go_loopw [5] (fun vi wr => ∃ k : Nat, k ≤ xs.length ∧ vi = .int .i64 k ∧ xs.take k = ys.take k ∧ ∃ n, wr = w.drewN n) (fun vi _ => xs.length - (intOf vi).toNat)
    case atStart => exact ⟨0, Nat.zero_le _, rfl, rfl, 0, rfl⟩
    case round =>
      obtain ⟨k, hk, rfl, hs, n, rfl⟩ := hrel
      have HS : Hid (xs.take k = ys.take k) := hs
      clear hs
      by_cases hlt : k < xs.length
      · have hlt2 : k < ys.length := by have := HL.out; omega
        obtain ⟨bk, off, rfl⟩ := rowAt_form HX.out (by omega)
        obtain ⟨bk2, off2, rfl⟩ := rowAt_form HY.out (by omega)
        have hc1 := (rowAt_cell HX.out (by omega)).2 k hlt
        have hc2 := (rowAt_cell HY.out (by omega)).2 k hlt2
        by_cases he : xs.getD k 0 = ys.getD k 0
        · have ht : Hid (xs.take (k + 1) = ys.take (k + 1)) := same_take hlt hlt2 HS.out he
          have he' : (xs.getD k 0 != ys.getD k 0) = false := by rw [he]; simp
          generalize xs.getD k 0 = x at hc1 he'
          generalize ys.getD k 0 = y at hc2 he'
          clear he
          go_wp2
          go_quiet (fail)
          go_wp2
          go_roundw
          case rel => exact ⟨k + 1, by omega, by go_num, ht.out, _, rfl⟩
          case measure => simp [intOf]; omega
        · have hv : Hid (sameB xs ys = false) := sameB_no he
          have he' : (xs.getD k 0 != ys.getD k 0) = true := by simpa using he
          generalize xs.getD k 0 = x at hc1 he'
          generalize ys.getD k 0 = y at hc2 he'
          clear he
          go_wp2
          go_quiet (fail)
          go_wp2
          go_ret
          exact ⟨ret_bool hv.out.symm, by first | exact below_drewN (below_drewN (Below.refl _ _) _) _ | exact below_drewN (Below.refl _ _) _⟩
      · have hv : Hid (sameB xs ys = true) := sameB_yes HL.out hlt HS.out
        go_wp2
        go_ret
        exact ⟨ret_bool hv.out.symm, below_drewN (Below.refl _ _) _⟩
  · have hv : sameB xs ys = false := decide_eq_false (fun h => hl (by rw [h]))
    rw [hv]
    have hle : ((xs.length : Int) != (ys.length : Int)) = true := by simp; omega
    clear hl hv
    go_enter Tryz.func50, Tryz.ntmps50
    go_wp2
    go_ret
    exact ⟨rfl, Below.refl _ _⟩

/-- nothing but block g has turned -/
structure Only (g : Nat) (w w' : World) : Prop where
  os : w'.os = w.os
  tape : w'.tape = w.tape
  output : w'.output = w.output
  size : w'.heap.size = w.heap.size
  block : ∀ k, ¬ k = g → w'.heap[k]? = w.heap[k]?
theorem Only.refl (g : Nat) (w : World) : Only g w w := ⟨rfl, rfl, rfl, rfl, fun _ _ => rfl⟩
theorem Only.put {g : Nat} {w w' : World} (h : Only g w w') (i : Nat) (v : Value) : Only g w (w'.setCell ⟨g, i, none⟩ v) :=
  ⟨h.os, h.tape, h.output, by simpa [World.setCell] using h.size, fun k hk => (heap_setCell_other _ _ _ _ hk).trans (h.block k hk)⟩
theorem Only.below {g : Nat} {w0 w w' : World} (h : Only g w w') (hb : Below w0.heap.size w0 w) (hg : w0.heap.size ≤ g) : Below w0.heap.size w0 w' :=
  hb.trans ⟨h.os, h.tape, h.output, by rw [h.size]; exact Nat.le_refl _, fun k hk => h.block k (by omega)⟩
def mrk (k0 : Int) (zs : List Int) (i : Nat) : List Int := (List.range i).map (fun j : Nat => k0 + (j : Int)) ++ zs.drop i
theorem mrk_len {k0 : Int} {zs : List Int} {i : Nat} (h : i ≤ zs.length) : (mrk k0 zs i).length = zs.length := by simp [mrk]; omega
theorem mrk_set {k0 : Int} {zs : List Int} {i : Nat} (h : i < zs.length) : (mrk k0 zs i).set i (k0 + (i : Int)) = mrk k0 zs (i + 1) := by
  unfold mrk
  rw [List.set_append_right _ _ (by simp), List.range_succ, List.map_append, List.append_assoc]
  congr 1
  simp only [List.length_map, List.length_range, Nat.sub_self, List.map_cons, List.map_nil]
  rw [List.drop_eq_getElem_cons h, List.set_cons_zero]
  rfl
theorem mrk_get {k0 : Int} {zs : List Int} {i : Nat} (h : i < zs.length) : (mrk k0 zs zs.length).getD i 0 = k0 + (i : Int) := by
  simp [mrk, List.getD_eq_getElem?_getD, h]

set_option maxHeartbeats 800000 in
theorem markIntS_any (W : World) (g cap : Nat) (zs : List Int) (k0 : Int) (w : World) (hm : zs.length ≤ 1048576) (k1 : 0 ≤ k0) (k2 : k0 ≤ 1099511627776) (ho : OwnZ W w g zs) :
    Calls Tryz.prog 53 #[.slice (some ⟨g, 0, none⟩) zs.length cap, .int .i64 k0] w fun e w' => e = .returned (.int .i64 (k0 + (zs.length : Int))) ∧ OwnZ W w' g (mrk k0 zs zs.length) ∧ Only g w w' := by
  go_enter Tryz.func53, Tryz.ntmps53
  go_wp2_with fail
  go_loopw [1, 5] (fun vk vi wr => ∃ i : Nat, i ≤ zs.length ∧ vi = .int .i64 i ∧ vk = .int .i64 (k0 + (i : Int)) ∧ OwnZ W wr g (mrk k0 zs i) ∧ Only g w wr) (fun _ vi _ => zs.length - (intOf vi).toNat)
  case atStart => exact ⟨0, Nat.zero_le _, rfl, by simp, by simpa [mrk] using ho, Only.refl _ _⟩
  case round =>
    obtain ⟨i, hi, rfl, rfl, st, on⟩ := hrel
    clear ho
    by_cases hlt : i < zs.length
    · obtain ⟨r0, r1⟩ := st.at i (by rw [mrk_len hi]; exact hlt)
      have st2 := st.put i (k0 + (i : Int))
      rw [mrk_set hlt] at st2
      have on2 := on.put i (.int .i64 (k0 + (i : Int)))
      clear st on
      generalize (mrk k0 zs i).getD i 0 = y at r0
      go_wp2
      go_roundw
      case rel => exact ⟨i + 1, by omega, by go_num, by go_num, st2, on2⟩
      case measure => simp [intOf]; omega
    · have hkl : i = zs.length := by omega
      subst hkl
      go_wp2
      go_ret
      exact ⟨rfl, st, on⟩
theorem markIntS_nil (k0 : Int) (w : World) :
    Calls Tryz.prog 53 #[.slice none 0 0, .int .i64 k0] w fun e w' => e = .returned (.int .i64 k0) ∧ w' = w := by
  go_enter Tryz.func53, Tryz.ntmps53
  go_wp2
  go_loop [1, 5] (fun k i => i = .int .i64 0 ∧ k = .int .i64 k0) (fun _ i => 0)
  case atStart => exact ⟨rfl, rfl⟩
  case round =>
    obtain ⟨rfl, rfl⟩ := hrel
    go_wp2
    go_ret
    exact ⟨rfl, rfl⟩
set_option maxHeartbeats 800000 in
theorem heldIntS_any (a : Option Addr) (cap : Nat) (zs : List Int) (k0 : Int) (w : World) (hm : zs.length ≤ 1048576) (k1 : 0 ≤ k0) (k2 : k0 ≤ 1099511627776) (hr : RowAt w a zs) (hz : ∀ i, i < zs.length → zs.getD i 0 = k0 + (i : Int)) :
    Calls Tryz.prog 54 #[.slice a zs.length cap, .int .i64 k0] w fun e w' => e = .returned (.int .i64 (k0 + (zs.length : Int))) ∧ w' = w := by
  have HR : Hid (RowAt w a zs) := hr
  have HZ : Hid (∀ i, i < zs.length → zs.getD i 0 = k0 + (i : Int)) := hz
  clear hr hz
  go_enter Tryz.func54, Tryz.ntmps54
  go_wp2_with fail
  go_loop [1, 5] (fun vk vi => ∃ i : Nat, i ≤ zs.length ∧ vi = .int .i64 i ∧ vk = .int .i64 (k0 + (i : Int))) (fun _ vi => zs.length - (intOf vi).toNat)
  case atStart => exact ⟨0, Nat.zero_le _, rfl, by simp⟩
  case round =>
    obtain ⟨i, hi, rfl, rfl⟩ := hrel
    by_cases hlt : i < zs.length
    · obtain ⟨bk, off, rfl⟩ := rowAt_form HR.out (by omega)
      have hc1 := (rowAt_cell HR.out (by omega)).2 i hlt
      rw [HZ.out i hlt] at hc1
      go_wp2
      go_round
      case rel => exact ⟨i + 1, by omega, by go_num, by go_num⟩
      case measure => simp [intOf]; omega
    · have hkl : i = zs.length := by omega
      subst hkl
      go_wp2
      go_ret
      exact ⟨rfl, rfl⟩
end Go.Proofs.YtdceimnapbblnaaGreat
namespace Go.Proofs.YtdceimnapbblnaaGreat
open Go.RowKit
set_option linter.unusedVariables false

def fOk (b d : Int) (zs : List Int) : Bool := gsB b d && (zs.length == cnt b d) && allB zs 0 (sz d - 1)
def fVal (b d : Int) (zs : List Int) : Int := if fOk b d zs = true then ofD (sz d) zs else 0

/-- the boxed space is there, and nothing old has turned -/
structure BoxAt (w wr : World) (b d : Int) : Prop where
  bel : Below w.heap.size w wr
  c0 : wr.cell? ⟨w.heap.size, 0, none⟩ = some (.int .i64 b)
  c1 : wr.cell? ⟨w.heap.size, 1, none⟩ = some (.int .i64 d)
  lt : w.heap.size < wr.heap.size
theorem BoxAt.keep {w wr w1 : World} {b d : Int} (h : BoxAt w wr b d) (hb : Below wr.heap.size wr w1) : BoxAt w w1 b d :=
  ⟨h.bel.trans (hb.mono h.bel.size), (hb.cell (p := ⟨w.heap.size, 0, none⟩) h.lt).trans h.c0, (hb.cell (p := ⟨w.heap.size, 1, none⟩) h.lt).trans h.c1, Nat.lt_of_lt_of_le h.lt hb.size⟩
theorem boxAt1 {w w1 : World} {b d : Int} {T : TypeId} {N : Nat} (hb : Below N (w.alloc (.cells #[.int .i64 b, .int .i64 d] T)) w1) (hN : w.heap.size + 1 ≤ N) : BoxAt w w1 b d := by
  refine ⟨bel1 hb (by omega), ?_, ?_, ?_⟩
  · rw [hb.cell (p := ⟨w.heap.size, 0, none⟩) (by show w.heap.size < N; omega)]; simp
  · rw [hb.cell (p := ⟨w.heap.size, 1, none⟩) (by show w.heap.size < N; omega)]; simp
  · have := hb.size; simp at this; omega
theorem digs_bd {d : Int} {zs : List Int} {k : Nat} (hk : k ≤ zs.length) (h : allB (zs.take k) 0 (sz d - 1) = true) : ∀ i, i < k → 0 ≤ zs.getD i 0 ∧ zs.getD i 0 < sz d := by
  intro i hi
  unfold allB at h
  rw [List.all_eq_true] at h
  have hm : zs.getD i 0 ∈ zs.take k := by
    rw [List.getD_eq_getElem?_getD, List.getElem?_eq_getElem (by omega)]
    exact List.mem_take_iff_getElem.2 ⟨i, by omega, rfl⟩
  have := inB_true (h _ hm)
  omega
/-- a part's number is small -/
theorem part_bd {b d : Int} {zs : List Int} {k : Nat} (hb1 : 1 ≤ b) (hb2 : b ≤ 12) (hd1 : 1 ≤ d) (hd2 : d ≤ b) (h5 : b % d = 0) (hl : zs.length = cnt b d) (hk : k ≤ zs.length) (h : allB (zs.take k) 0 (sz d - 1) = true) :
    0 ≤ ofD (sz d) (zs.take k) ∧ ofD (sz d) (zs.take k) < sz b := by
  obtain ⟨s1, s2⟩ := sz_bd hd1 (by omega : d ≤ 12)
  obtain ⟨p1, p2⟩ := ofD_bd (by omega : 0 < sz d) zs k hk (digs_bd hk h)
  have := pow_le (by omega : 1 ≤ sz d) (by omega : k ≤ cnt b d)
  rw [pow_cnt hb1 hd1 hd2 h5] at this
  exact ⟨p1, by omega⟩

theorem allB_part {zs : List Int} {lo hi : Int} {k : Nat} (h : allB zs lo hi = true) : allB (zs.take k) lo hi = true := by
  unfold allB at *
  rw [List.all_eq_true] at *
  exact fun x hx => h x (List.mem_of_mem_take hx)

end Go.Proofs.YtdceimnapbblnaaGreat
namespace Go.Proofs.YtdceimnapbblnaaGreat
open Go.RowKit
set_option linter.unusedVariables false

/-- a slice of ints or bytes that came in: nil, or a row of 'cap' cells of which the first 'len' are its elements -/
def IsRow (k : IntKind) (w : World) (a : Option Addr) (len cap : Nat) (zs : List Int) : Prop :=
  (a = none ∧ len = 0 ∧ cap = 0 ∧ zs = []) ∨
  ∃ x, a = some x ∧ len ≤ cap ∧ cap ≤ maxLen ∧ zs.length = cap ∧ (∀ i, i < zs.length → w.cell? (x.add i) = some (.int k (zs.getD i 0))) ∧ ∀ n ∈ zs, (Lit.int k n).wf = true
theorem add_none' (b o j : Nat) : (⟨b, o, none⟩ : Addr).add j = ⟨b, o + j, none⟩ := by unfold Addr.add; split <;> simp_all
theorem isRow_rowAt {w : World} {a : Option Addr} {len cap : Nat} {zs : List Int} (h : IsRow .i64 w a len cap zs) : ∃ ys : List Int, ys.length = len ∧ len ≤ maxLen ∧ RowAt w a ys := by
  rcases h with ⟨rfl, rfl, rfl, rfl⟩ | ⟨⟨b, off, spot⟩, rfl, hl, hm, hz, hc, _⟩
  · exact ⟨[], rfl, Nat.zero_le _, .inl rfl⟩
  · by_cases h0 : len = 0
    · subst h0; exact ⟨[], rfl, Nat.zero_le _, .inl rfl⟩
    · have hc0 := hc 0 (by omega)
      have hs : spot = none := by simpa [Addr.add] using World.cell?_spot hc0
      subst hs
      refine ⟨zs.take len, by simp; omega, by omega, .inr ⟨b, off, rfl, by simpa [add_none'] using block_lt_of_cell hc0, fun i hi => ?_⟩⟩
      have hi' : i < len := by simp at hi; omega
      have := hc i (by omega)
      rw [add_none'] at this
      rw [this]
      simp [List.getD_eq_getElem?_getD, hi']
end Go.Proofs.YtdceimnapbblnaaGreat
namespace Go.Proofs.YtdceimnapbblnaaGreat
open Go.RowKit
set_option linter.unusedVariables false

def upB (zs : List Int) (k : Nat) : Bool := decide (∀ i, i < k → 0 < i → zs.getD (i - 1) 0 < zs.getD i 0)
def risB (zs : List Int) (lo hi : Int) : Bool := decide (∀ i, i < zs.length → (lo ≤ zs.getD i 0 ∧ zs.getD i 0 ≤ hi) ∧ (0 < i → zs.getD (i - 1) 0 < zs.getD i 0))
theorem risB_no {zs : List Int} {lo hi : Int} {k : Nat} (hk : k < zs.length) (h : ¬ ((lo ≤ zs.getD k 0 ∧ zs.getD k 0 ≤ hi) ∧ (0 < k → zs.getD (k - 1) 0 < zs.getD k 0))) : risB zs lo hi = false :=
  decide_eq_false (fun g => h (g k hk))
theorem risB_yes {zs : List Int} {lo hi : Int} (h : ∀ i, i < zs.length → (lo ≤ zs.getD i 0 ∧ zs.getD i 0 ≤ hi) ∧ (0 < i → zs.getD (i - 1) 0 < zs.getD i 0)) : risB zs lo hi = true := decide_eq_true h
def ringB (b d : Int) (zs : List Int) : Bool := gsB b d && inB (zs.length : Int) 1 16 && risB zs 0 (sz b - 1)

structure Ring (b d : Int) (zs : List Int) : Prop where
  gs : gsB b d = true
  l1 : 1 ≤ zs.length
  l2 : zs.length ≤ 16
  rng : ∀ i, i < zs.length → 0 ≤ zs.getD i 0 ∧ zs.getD i 0 < sz b
  ris : ∀ i j, i < j → j < zs.length → zs.getD i 0 < zs.getD j 0

theorem ris_all {zs : List Int} (h : ∀ i, i < zs.length → 0 < i → zs.getD (i - 1) 0 < zs.getD i 0) : ∀ i j, i < j → j < zs.length → zs.getD i 0 < zs.getD j 0 := by
  intro i j
  induction j with
  | zero => intro h1; omega
  | succ j ih =>
    intro h1 h2
    have h3 := h (j + 1) h2 (by omega)
    simp only [Nat.add_sub_cancel] at h3
    by_cases he : i = j
    · subst he; exact h3
    · exact Int.lt_trans (ih (by omega) (by omega)) h3

theorem ringB_true {b d : Int} {zs : List Int} (h : ringB b d zs = true) : Ring b d zs := by
  unfold ringB at h
  rw [Bool.and_eq_true, Bool.and_eq_true] at h
  obtain ⟨⟨h1, h2⟩, h3⟩ := h
  have h2 := inB_true h2
  have h3 := of_decide_eq_true h3
  exact ⟨h1, by omega, by omega, fun i hi => by have := (h3 i hi).1; omega, ris_all (fun i hi h0 => (h3 i hi).2 h0)⟩

/-- the loop of the program's GoodRing, over a length that is right -/
theorem ringB_no {b d : Int} {zs : List Int} {k : Nat} (hk : k < zs.length) (h : ¬ (numB b d (zs.getD k 0) = true ∧ (0 < k → zs.getD (k - 1) 0 < zs.getD k 0))) : ringB b d zs = false := by
  unfold ringB
  cases hg : gsB b d
  · rfl
  · have : risB zs 0 (sz b - 1) = false := by
      refine risB_no hk (fun g => h ⟨numB_yes hg (by omega) (by omega), g.2⟩)
    rw [this]; simp
theorem ringB_len {b d : Int} {zs : List Int} (h : ¬ (1 ≤ zs.length ∧ zs.length ≤ 16)) : ringB b d zs = false := by
  unfold ringB
  rw [inB_no (by omega)]; simp
theorem ringB_yes {b d : Int} {zs : List Int} (h1 : 1 ≤ zs.length) (h2 : zs.length ≤ 16) (h : ∀ i, i < zs.length → numB b d (zs.getD i 0) = true ∧ (0 < i → zs.getD (i - 1) 0 < zs.getD i 0)) : ringB b d zs = true := by
  have hg := (numB_true (h 0 (by omega)).1).1
  unfold ringB
  rw [hg, inB_yes (by omega) (by omega), risB_yes (fun i hi => by have := numB_true (h i hi).1; exact ⟨⟨by omega, by omega⟩, (h i hi).2⟩)]
  rfl

def blw (zs : List Int) (x : Int) : Nat := (zs.takeWhile (fun y => decide (y < x))).length
theorem getD_cons_succ' (z : Int) (zs : List Int) (i : Nat) : (z :: zs).getD (i + 1) 0 = zs.getD i 0 := rfl
theorem blw_eq {x : Int} : ∀ {zs : List Int} {k : Nat}, k ≤ zs.length → (∀ i, i < k → zs.getD i 0 < x) → (k < zs.length → ¬ zs.getD k 0 < x) → blw zs x = k
  | [], k, hk, _, _ => by simp at hk; subst hk; rfl
  | z :: zs, 0, _, _, h2 => by
    have := h2 (by simp)
    simp at this
    unfold blw
    rw [List.takeWhile_cons_of_neg (by simpa using this)]; rfl
  | z :: zs, k + 1, hk, h1, h2 => by
    have h0 := h1 0 (by omega)
    simp at h0
    have ih := blw_eq (x := x) (zs := zs) (k := k) (by simpa using hk) (fun i hi => by have := h1 (i + 1) (by omega); rwa [getD_cons_succ'] at this)
      (fun hl => by have := h2 (by simpa using hl); rwa [getD_cons_succ'] at this)
    unfold blw at ih ⊢
    rw [List.takeWhile_cons_of_pos (by simpa using h0)]
    simp [ih]
theorem blw_le (x : Int) : ∀ zs : List Int, blw zs x ≤ zs.length := fun zs => (List.takeWhile_sublist _).length_le
theorem blw_lt {x : Int} : ∀ {zs : List Int} (i : Nat), i < blw zs x → zs.getD i 0 < x
  | [], i, h => by simp [blw] at h
  | z :: zs, i, h => by
    unfold blw at h
    by_cases hz : z < x
    · rw [List.takeWhile_cons_of_pos (by simpa using hz)] at h
      cases i with
      | zero => simpa using hz
      | succ i => rw [getD_cons_succ']; exact blw_lt i (by unfold blw; simpa using h)
    · rw [List.takeWhile_cons_of_neg (by simpa using hz)] at h; simp at h
theorem blw_at {x : Int} : ∀ {zs : List Int}, blw zs x < zs.length → ¬ zs.getD (blw zs x) 0 < x
  | [], h => by simp at h
  | z :: zs, h => by
    unfold blw at h ⊢
    by_cases hz : z < x
    · rw [List.takeWhile_cons_of_pos (by simpa using hz)] at h ⊢
      exact blw_at (zs := zs) (by unfold blw; simpa using h)
    · rw [List.takeWhile_cons_of_neg (by simpa using hz)]; simpa using hz
theorem Ring.above {b d : Int} {zs : List Int} (R : Ring b d zs) (x : Int) (i : Nat) (h1 : blw zs x ≤ i) (h2 : i < zs.length) : x ≤ zs.getD i 0 := by
  have h3 := blw_at (x := x) (zs := zs) (by omega)
  by_cases he : i = blw zs x
  · subst he; omega
  · have := R.ris (blw zs x) i (by omega) h2; omega

def memI (zs : List Int) (x : Int) : Bool := decide (blw zs x < zs.length ∧ zs.getD (blw zs x) 0 = x)
def hasB (zs : List Int) (x : Int) : Bool := decide (∃ i, i < zs.length ∧ zs.getD i 0 = x)
theorem mem_has {b d : Int} {zs : List Int} (R : Ring b d zs) (x : Int) : memI zs x = hasB zs x := by
  unfold memI hasB
  by_cases h : ∃ i, i < zs.length ∧ zs.getD i 0 = x
  · rw [decide_eq_true h]
    obtain ⟨i, hi, he⟩ := h
    have hb : blw zs x = i := blw_eq (by omega) (fun j hj => by have := R.ris j i hj hi; omega) (fun _ => by omega)
    exact decide_eq_true (by rw [hb]; exact ⟨hi, he⟩)
  · rw [decide_eq_false h]
    exact decide_eq_false (fun g => h ⟨_, g.1, g.2⟩)
def uptI (zs : List Int) (x : Int) : Nat := blw zs x + (memI zs x).toNat
def ownI (zs : List Int) (k : Int) : Int := zs.getD (blw zs k % zs.length) 0
def nxtI (zs : List Int) (x : Int) : Int := zs.getD (uptI zs x % zs.length) 0
def prvI (zs : List Int) (x : Int) : Int := zs.getD ((blw zs x + zs.length - 1) % zs.length) 0

theorem upt_le (zs : List Int) (x : Int) : uptI zs x ≤ zs.length := by
  unfold uptI memI
  by_cases h : blw zs x < zs.length ∧ zs.getD (blw zs x) 0 = x
  · rw [decide_eq_true h]; simp; omega
  · rw [decide_eq_false h]; have := blw_le x zs; simp; omega
theorem upt_low {zs : List Int} {x : Int} {i : Nat} (h : i < uptI zs x) : zs.getD i 0 ≤ x := by
  unfold uptI memI at h
  by_cases hm : blw zs x < zs.length ∧ zs.getD (blw zs x) 0 = x
  · rw [decide_eq_true hm] at h
    simp at h
    by_cases he : i = blw zs x
    · subst he; omega
    · have := blw_lt (x := x) (zs := zs) i (by omega); omega
  · rw [decide_eq_false hm] at h
    have := blw_lt (x := x) (zs := zs) i (by simpa using h); omega
theorem Ring.upper {b d : Int} {zs : List Int} (R : Ring b d zs) (x : Int) (i : Nat) (h1 : uptI zs x ≤ i) (h2 : i < zs.length) : x < zs.getD i 0 := by
  unfold uptI memI at h1
  by_cases hm : blw zs x < zs.length ∧ zs.getD (blw zs x) 0 = x
  · rw [decide_eq_true hm] at h1
    simp at h1
    have := R.ris (blw zs x) i (by omega) h2
    omega
  · rw [decide_eq_false hm] at h1
    simp at h1
    have ha := R.above x i h1 h2
    by_cases he : zs.getD i 0 = x
    · exfalso
      by_cases hi : i = blw zs x
      · subst hi; exact hm ⟨h2, he⟩
      · have := R.ris (blw zs x) i (by omega) h2
        have := R.above x (blw zs x) (Nat.le_refl _) (by omega)
        omega
    · omega
/-- the place of a place that is one more than the last -/
theorem mod_wrap {u n : Nat} (hn : 1 ≤ n) (h : u ≤ n) : (u < n ∧ u % n = u) ∨ (u = n ∧ u % n = 0) := by
  by_cases h1 : u < n
  · exact .inl ⟨h1, Nat.mod_eq_of_lt h1⟩
  · have : u = n := by omega
    subst this
    exact .inr ⟨rfl, Nat.mod_self _⟩
theorem mod_back {p n : Nat} (hn : 1 ≤ n) (h : p ≤ n) : (p = 0 ∧ (p + n - 1) % n = n - 1) ∨ (0 < p ∧ (p + n - 1) % n = p - 1) := by
  by_cases h1 : p = 0
  · subst h1; exact .inl ⟨rfl, by rw [Nat.zero_add]; exact Nat.mod_eq_of_lt (by omega)⟩
  · have e : p + n - 1 = (p - 1) + n := by omega
    exact .inr ⟨by omega, by rw [e, Nat.add_mod_right]; exact Nat.mod_eq_of_lt (by omega)⟩

theorem dist_next {b x y : Int} (h1 : 0 ≤ x) (h2 : x < sz b) (h3 : 0 ≤ y) (h4 : y < sz b) : dist b ((x + 1) % sz b) y = if x < y then y - x - 1 else y - x - 1 + sz b := by
  by_cases he : x + 1 = sz b
  · rw [he, Int.emod_self, dist_eq (by omega) (by omega) h3 h4, if_pos h3, if_neg (by omega)]; omega
  · rw [Int.emod_eq_of_lt (by omega) (by omega), dist_eq (by omega) (by omega) h3 h4]
    split <;> split <;> omega
theorem dist_down {b x y : Int} (h1 : 0 ≤ x) (h2 : x < sz b) (h3 : 0 ≤ y) (h4 : y < sz b) : dist b y ((x + sz b - 1) % sz b) = if y < x then x - 1 - y else x - 1 - y + sz b := by
  by_cases he : x = 0
  · subst he
    rw [Int.emod_eq_of_lt (by omega) (by omega), dist_eq (by omega) (by omega) (by omega) (by omega), if_pos (by omega), if_neg (by omega)]; omega
  · have e : x + sz b - 1 = (x - 1) + sz b := by omega
    rw [e, Int.add_emod_right, Int.emod_eq_of_lt (by omega) (by omega), dist_eq (by omega) (by omega) (by omega) (by omega)]
    split <;> split <;> omega
theorem next_rng {b x : Int} (h1 : 0 ≤ x) (h2 : x < sz b) : 0 ≤ (x + 1) % sz b ∧ (x + 1) % sz b < sz b := ⟨Int.emod_nonneg _ (by omega), Int.emod_lt_of_pos _ (by omega)⟩
theorem down_rng {b x : Int} (h1 : 0 ≤ x) (h2 : x < sz b) : 0 ≤ (x + sz b - 1) % sz b ∧ (x + sz b - 1) % sz b < sz b := ⟨Int.emod_nonneg _ (by omega), Int.emod_lt_of_pos _ (by omega)⟩

theorem own_place {b d : Int} {zs : List Int} (R : Ring b d zs) (k : Int) : ∃ t, t < zs.length ∧ ownI zs k = zs.getD t 0 ∧ ((blw zs k < zs.length ∧ t = blw zs k) ∨ (blw zs k = zs.length ∧ t = 0)) := by
  have hl := R.l1
  rcases mod_wrap hl (blw_le k zs) with ⟨h, e⟩ | ⟨h, e⟩
  · exact ⟨_, h, by unfold ownI; rw [e], .inl ⟨h, rfl⟩⟩
  · exact ⟨0, by omega, by unfold ownI; rw [e], .inr ⟨h, rfl⟩⟩
theorem nxt_place {b d : Int} {zs : List Int} (R : Ring b d zs) (x : Int) : ∃ t, t < zs.length ∧ nxtI zs x = zs.getD t 0 ∧ ((uptI zs x < zs.length ∧ t = uptI zs x) ∨ (uptI zs x = zs.length ∧ t = 0)) := by
  have hl := R.l1
  rcases mod_wrap hl (upt_le zs x) with ⟨h, e⟩ | ⟨h, e⟩
  · exact ⟨_, h, by unfold nxtI; rw [e], .inl ⟨h, rfl⟩⟩
  · exact ⟨0, by omega, by unfold nxtI; rw [e], .inr ⟨h, rfl⟩⟩
theorem prv_place {b d : Int} {zs : List Int} (R : Ring b d zs) (x : Int) : ∃ t, t < zs.length ∧ prvI zs x = zs.getD t 0 ∧ ((blw zs x = 0 ∧ t = zs.length - 1) ∨ (0 < blw zs x ∧ t = blw zs x - 1)) := by
  have hl := R.l1
  have hb := blw_le x zs
  rcases mod_back hl hb with ⟨h, e⟩ | ⟨h, e⟩
  · exact ⟨_, by omega, by unfold prvI; rw [e], .inl ⟨h, rfl⟩⟩
  · exact ⟨blw zs x - 1, by omega, by unfold prvI; rw [e], .inr ⟨h, rfl⟩⟩
theorem own_min {b d : Int} {zs : List Int} (R : Ring b d zs) {k : Int} (h1 : 0 ≤ k) (h2 : k < sz b) (i : Nat) (hi : i < zs.length) : dist b k (ownI zs k) ≤ dist b k (zs.getD i 0) := by
  obtain ⟨t, ht, e, hp⟩ := own_place R k
  have rt := R.rng t ht
  have ri := R.rng i hi
  rw [e, dist_eq h1 h2 rt.1 rt.2, dist_eq h1 h2 ri.1 ri.2]
  rcases hp with ⟨hb, rfl⟩ | ⟨hb, rfl⟩
  · have ha := R.above k _ (Nat.le_refl _) hb
    rw [if_pos ha]
    by_cases hlt : i < blw zs k
    · have := blw_lt (x := k) i hlt; rw [if_neg (by omega)]; omega
    · have := R.above k i (by omega) hi
      rw [if_pos this]
      by_cases he : i = blw zs k
      · subst he; omega
      · have := R.ris (blw zs k) i (by omega) hi; omega
  · have := blw_lt (x := k) (zs := zs) i (by omega)
    have h0 := blw_lt (x := k) (zs := zs) 0 (by omega)
    rw [if_neg (by omega), if_neg (by omega)]
    by_cases he : i = 0
    · subst he; omega
    · have := R.ris 0 i (by omega) hi; omega
theorem nxt_min {b d : Int} {zs : List Int} (R : Ring b d zs) {x : Int} (h1 : 0 ≤ x) (h2 : x < sz b) (i : Nat) (hi : i < zs.length) : dist b ((x + 1) % sz b) (nxtI zs x) ≤ dist b ((x + 1) % sz b) (zs.getD i 0) := by
  obtain ⟨t, ht, e, hp⟩ := nxt_place R x
  have rt := R.rng t ht
  have ri := R.rng i hi
  rw [e, dist_next h1 h2 rt.1 rt.2, dist_next h1 h2 ri.1 ri.2]
  rcases hp with ⟨hb, rfl⟩ | ⟨hb, rfl⟩
  · have ha := R.upper x _ (Nat.le_refl _) hb
    rw [if_pos ha]
    by_cases hlt : i < uptI zs x
    · have := upt_low hlt; rw [if_neg (by omega)]; omega
    · have := R.upper x i (by omega) hi
      rw [if_pos this]
      by_cases he : i = uptI zs x
      · subst he; omega
      · have := R.ris (uptI zs x) i (by omega) hi; omega
  · have := upt_low (zs := zs) (x := x) (i := i) (by omega)
    have h0 := upt_low (zs := zs) (x := x) (i := 0) (by omega)
    rw [if_neg (by omega), if_neg (by omega)]
    by_cases he : i = 0
    · subst he; omega
    · have := R.ris 0 i (by omega) hi; omega
theorem prv_min {b d : Int} {zs : List Int} (R : Ring b d zs) {x : Int} (h1 : 0 ≤ x) (h2 : x < sz b) (i : Nat) (hi : i < zs.length) : dist b (prvI zs x) ((x + sz b - 1) % sz b) ≤ dist b (zs.getD i 0) ((x + sz b - 1) % sz b) := by
  obtain ⟨t, ht, e, hp⟩ := prv_place R x
  have rt := R.rng t ht
  have ri := R.rng i hi
  rw [e, dist_down h1 h2 rt.1 rt.2, dist_down h1 h2 ri.1 ri.2]
  rcases hp with ⟨hb, rfl⟩ | ⟨hb, rfl⟩
  · have ha := R.above x i (by omega) hi
    have hz := R.above x (zs.length - 1) (by omega) (by omega)
    rw [if_neg (by omega), if_neg (by omega)]
    by_cases he : i = zs.length - 1
    · subst he; omega
    · have := R.ris i (zs.length - 1) (by omega) (by omega); omega
  · have ha := blw_lt (x := x) (zs := zs) (blw zs x - 1) (by omega)
    rw [if_pos ha]
    by_cases hlt : i < blw zs x
    · have := blw_lt (x := x) i hlt
      rw [if_pos this]
      by_cases he : i = blw zs x - 1
      · subst he; omega
      · have := R.ris i (blw zs x - 1) (by omega) (by omega); omega
    · have := R.above x i (by omega) hi
      rw [if_neg (by omega)]; omega
theorem min_own {b d : Int} {zs : List Int} (R : Ring b d zs) {k : Int} (h1 : 0 ≤ k) (h2 : k < sz b) {t : Nat} (ht : t < zs.length) (hm : ∀ i, i < zs.length → dist b k (zs.getD t 0) ≤ dist b k (zs.getD i 0)) : zs.getD t 0 = ownI zs k := by
  obtain ⟨q, hq, e, _⟩ := own_place R k
  have a1 := own_min R h1 h2 t ht
  have a2 := hm q hq
  rw [e] at a1 ⊢
  have rt := R.rng t ht
  have rq := R.rng q hq
  exact dist_inj h1 h2 rt.1 rt.2 rq.1 rq.2 (by omega)
theorem own_next {b d : Int} {zs : List Int} (R : Ring b d zs) {x : Int} (h1 : 0 ≤ x) (h2 : x < sz b) : ownI zs ((x + 1) % sz b) = nxtI zs x := by
  obtain ⟨t, ht, e, _⟩ := nxt_place R x
  have r := next_rng h1 h2
  have := min_own R r.1 r.2 ht (fun i hi => by rw [← e]; exact nxt_min R h1 h2 i hi)
  rw [← this, e]
theorem dist_inj_l {b x y z : Int} (x1 : 0 ≤ x) (x2 : x < sz b) (y1 : 0 ≤ y) (y2 : y < sz b) (z1 : 0 ≤ z) (z2 : z < sz b) (h : dist b x z = dist b y z) : x = y := by
  rw [dist_eq x1 x2 z1 z2, dist_eq y1 y2 z1 z2] at h
  split at h <;> split at h <;> omega
theorem min_prv {b d : Int} {zs : List Int} (R : Ring b d zs) {x : Int} (h1 : 0 ≤ x) (h2 : x < sz b) {t : Nat} (ht : t < zs.length) (hm : ∀ i, i < zs.length → dist b (zs.getD t 0) ((x + sz b - 1) % sz b) ≤ dist b (zs.getD i 0) ((x + sz b - 1) % sz b)) : zs.getD t 0 = prvI zs x := by
  obtain ⟨q, hq, e, _⟩ := prv_place R x
  have a1 := prv_min R h1 h2 t ht
  have a2 := hm q hq
  rw [e] at a1 ⊢
  have rt := R.rng t ht
  have rq := R.rng q hq
  have r := down_rng h1 h2
  exact dist_inj_l rt.1 rt.2 rq.1 rq.2 r.1 r.2 (by omega)
theorem blw_mem {b d : Int} {zs : List Int} (R : Ring b d zs) {j : Nat} (hj : j < zs.length) : blw zs (zs.getD j 0) = j := blw_eq (by omega) (fun i hi => R.ris i j hi hj) (fun _ => by omega)
theorem mem_at {b d : Int} {zs : List Int} (R : Ring b d zs) {j : Nat} (hj : j < zs.length) : memI zs (zs.getD j 0) = true := decide_eq_true (by rw [blw_mem R hj]; exact ⟨hj, rfl⟩)
theorem upt_mem {b d : Int} {zs : List Int} (R : Ring b d zs) {j : Nat} (hj : j < zs.length) : uptI zs (zs.getD j 0) = j + 1 := by unfold uptI; rw [mem_at R hj, blw_mem R hj]; rfl
theorem nxt_at {b d : Int} {zs : List Int} (R : Ring b d zs) {j : Nat} (hj : j < zs.length) : nxtI zs (zs.getD j 0) = zs.getD ((j + 1) % zs.length) 0 := by unfold nxtI; rw [upt_mem R hj]
theorem prv_at {b d : Int} {zs : List Int} (R : Ring b d zs) {j : Nat} (hj : j < zs.length) : prvI zs (zs.getD j 0) = zs.getD ((j + zs.length - 1) % zs.length) 0 := by unfold prvI; rw [blw_mem R hj]
theorem inj {b d : Int} {zs : List Int} (R : Ring b d zs) {i j : Nat} (hi : i < zs.length) (hj : j < zs.length) (h : zs.getD i 0 = zs.getD j 0) : i = j := by
  by_cases h1 : i < j
  · have := R.ris i j h1 hj; omega
  · by_cases h2 : j < i
    · have := R.ris j i h2 hi; omega
    · omega
theorem mem_place {b d : Int} {zs : List Int} (R : Ring b d zs) {x : Int} (h : memI zs x = true) : ∃ j, j < zs.length ∧ x = zs.getD j 0 := by
  have := of_decide_eq_true h
  exact ⟨_, this.1, this.2.symm⟩
/-- a member alone is its own next one, and no other member is -/
theorem nxt_self {b d : Int} {zs : List Int} (R : Ring b d zs) {j : Nat} (hj : j < zs.length) : zs.getD j 0 = nxtI zs (zs.getD j 0) ↔ zs.length = 1 := by
  rw [nxt_at R hj]
  have hl := R.l1
  constructor
  · intro h
    have hm : (j + 1) % zs.length < zs.length := Nat.mod_lt _ (by omega)
    have e := inj R hj hm h
    rcases mod_wrap hl (show j + 1 ≤ zs.length by omega) with ⟨_, e2⟩ | ⟨h3, e2⟩ <;> omega
  · intro h
    have hj0 : j = 0 := by omega
    subst hj0
    rw [h]
theorem nxt_prv {b d : Int} {zs : List Int} (R : Ring b d zs) {j : Nat} (hj : j < zs.length) : nxtI zs (prvI zs (zs.getD j 0)) = zs.getD j 0 := by
  have hl := R.l1
  rw [prv_at R hj]
  rcases mod_back hl (show j ≤ zs.length by omega) with ⟨h, e⟩ | ⟨h, e⟩
  · rw [e, nxt_at R (by omega)]
    subst h
    rw [show zs.length - 1 + 1 = zs.length by omega, Nat.mod_self]
  · rw [e, nxt_at R (by omega), show j - 1 + 1 = j by omega, Nat.mod_eq_of_lt hj]
theorem prv_nxt {b d : Int} {zs : List Int} (R : Ring b d zs) {j : Nat} (hj : j < zs.length) : prvI zs (nxtI zs (zs.getD j 0)) = zs.getD j 0 := by
  have hl := R.l1
  rw [nxt_at R hj]
  rcases mod_wrap hl (show j + 1 ≤ zs.length by omega) with ⟨h, e⟩ | ⟨h, e⟩
  · rw [e, prv_at R h, show j + 1 + zs.length - 1 = j + zs.length by omega, Nat.add_mod_right, Nat.mod_eq_of_lt hj]
  · rw [e, prv_at R (by omega), show 0 + zs.length - 1 = j by omega, Nat.mod_eq_of_lt hj]
/-- how far it is from a up to c, once round where they are the same -/
def rnd (b a c : Int) : Int := if a = c then sz b else dist b a c
/-- the specification's gap -/
def gapS (b : Int) (zs : List Int) (x : Int) : Int := if zs.length = 1 then sz b else dist b x (nxtI zs x)
theorem gap_eq {b d : Int} {zs : List Int} (R : Ring b d zs) {x : Int} (h : memI zs x = true) : gapS b zs x = rnd b x (nxtI zs x) := by
  obtain ⟨j, hj, rfl⟩ := mem_place R h
  have := nxt_self R hj
  unfold gapS rnd
  by_cases hl : zs.length = 1
  · rw [if_pos hl, if_pos (this.2 hl)]
  · rw [if_neg hl, if_neg (fun e => hl (this.1 e))]
theorem keys_eq {b d : Int} {zs : List Int} (R : Ring b d zs) {x : Int} (h : memI zs x = true) : gapS b zs (prvI zs x) = rnd b (prvI zs x) x := by
  obtain ⟨j, hj, rfl⟩ := mem_place R h
  obtain ⟨t, ht, e, _⟩ := prv_place R (zs.getD j 0)
  have hm : memI zs (prvI zs (zs.getD j 0)) = true := by rw [e]; exact mem_at R ht
  rw [gap_eq R hm, nxt_prv R hj]
end Go.Proofs.YtdceimnapbblnaaGreat
namespace Go.Proofs.YtdceimnapbblnaaGreat
open Go.RowKit
set_option linter.unusedVariables false

theorem RowAt.keepB {w w1 : World} {a : Option Addr} {zs : List Int} {B : Nat} (h : RowAt w a zs) (hb : Below B w w1) (hB : w.heap.size ≤ B) : RowAt w1 a zs := h.keep (hb.mono hB)
theorem RowAt.alloc {w : World} {a : Option Addr} {zs : List Int} (h : RowAt w a zs) (o : Obj) : RowAt (w.alloc o) a zs := h.keep ((Below.refl _ _).alloc (Nat.le_refl _) _)
theorem ret_nat {a b : Nat} (h : a = b) : Ending.returned (.int .i64 (a : Int)) = .returned (.int .i64 (b : Int)) := by rw [h]

set_option maxHeartbeats 800000 in
theorem below_any (a : Option Addr) (cap : Nat) (zs : List Int) (x : Int) (w : World) (hm : zs.length ≤ maxLen) (hr : RowAt w a zs) :
    Calls Tryz.prog 128 #[.slice a zs.length cap, .int .i64 x] w fun e w' => e = .returned (.int .i64 (blw zs x)) ∧ w' = w := by
  unfold maxLen at hm
  have HR : Hid (RowAt w a zs) := hr
  clear hr
  go_enter Tryz.func128, Tryz.ntmps128
  go_wp2_with fail
  go_loop [5] (fun v => ∃ k : Nat, k ≤ zs.length ∧ v = .int .i64 k ∧ Hid (∀ i, i < k → zs.getD i 0 < x)) (fun v => zs.length - (intOf v).toNat)
  case atStart => exact ⟨0, Nat.zero_le _, rfl, fun i hi => by omega⟩
  case round =>
    obtain ⟨k, hk, rfl, hs⟩ := hrel
    by_cases hlt : k < zs.length
    · obtain ⟨bk, off, rfl⟩ := rowAt_form HR.out (by omega)
      have hc1 := (rowAt_cell HR.out (by omega)).2 k hlt
      by_cases hx : zs.getD k 0 < x
      · have hn : Hid (∀ i, i < k + 1 → zs.getD i 0 < x) := fun i hi => by
          by_cases he : i = k
          · subst he; exact hx
          · exact hs.out i (by omega)
        generalize zs.getD k 0 = z at hc1 hx
        go_wp2
        go_round
        case rel => exact ⟨k + 1, by omega, by go_num, hn⟩
        case measure => simp [intOf]; omega
      · have hv : Hid (k = blw zs x) := (blw_eq (by omega) hs.out (fun _ => hx)).symm
        generalize zs.getD k 0 = z at hc1 hx
        go_wp2
        go_ret
        exact ⟨ret_nat hv.out, rfl⟩
    · have hv : Hid (k = blw zs x) := (blw_eq hk hs.out (fun h => absurd h hlt)).symm
      go_wp2
      go_ret
      exact ⟨ret_nat hv.out, rfl⟩

set_option maxHeartbeats 800000 in
theorem isMember_any (a : Option Addr) (cap : Nat) (zs : List Int) (x : Int) (w : World) (hm : zs.length ≤ maxLen) (hr : RowAt w a zs) :
    Calls Tryz.prog 138 #[.slice a zs.length cap, .int .i64 x] w fun e w' => e = .returned (.bool (memI zs x)) ∧ w' = w := by
  have C := below_any a cap zs x w hm hr
  have hle := blw_le x zs
  unfold maxLen at hm
  have HR : Hid (RowAt w a zs) := hr
  clear hr
  by_cases hlt : blw zs x < zs.length
  · obtain ⟨bk, off, rfl⟩ := rowAt_form HR.out (by omega)
    have hc1 := (rowAt_cell HR.out (by omega)).2 _ hlt
    by_cases he : zs.getD (blw zs x) 0 = x
    · have hv : memI zs x = true := decide_eq_true ⟨hlt, he⟩
      rw [hv]
      have he' : (zs.getD (blw zs x) 0 == x) = true := beq_iff_eq.2 he
      clear hv he
      generalize zs.getD (blw zs x) 0 = z at hc1 he'
      generalize blw zs x = p at *
      go_enter Tryz.func138, Tryz.ntmps138
      go_wp2_with (go_at_call 128; refine C.mono ?_; rintro e w1 ⟨rfl, rfl⟩)
      go_ret
      exact ⟨rfl, rfl⟩
    · have hv : memI zs x = false := decide_eq_false (fun g => he g.2)
      rw [hv]
      have he' : (zs.getD (blw zs x) 0 == x) = false := by simp only [beq_eq_false_iff_ne, ne_eq]; exact he
      clear hv he
      generalize zs.getD (blw zs x) 0 = z at hc1 he'
      generalize blw zs x = p at *
      go_enter Tryz.func138, Tryz.ntmps138
      go_wp2_with (go_at_call 128; refine C.mono ?_; rintro e w1 ⟨rfl, rfl⟩)
      go_ret
      exact ⟨rfl, rfl⟩
  · have hv : memI zs x = false := decide_eq_false (fun g => hlt g.1)
    rw [hv]
    clear hv
    generalize blw zs x = p at *
    go_enter Tryz.func138, Tryz.ntmps138
    go_wp2_with (go_at_call 128; refine C.mono ?_; rintro e w1 ⟨rfl, rfl⟩)
    go_ret
    exact ⟨rfl, rfl⟩

set_option maxHeartbeats 800000 in
theorem upTo_any (a : Option Addr) (cap : Nat) (zs : List Int) (x : Int) (w : World) (hm : zs.length ≤ maxLen) (hr : RowAt w a zs) :
    Calls Tryz.prog 241 #[.slice a zs.length cap, .int .i64 x] w fun e w' => e = .returned (.int .i64 (uptI zs x)) ∧ w' = w := by
  have C := below_any a cap zs x w hm hr
  have C2 := isMember_any a cap zs x w hm hr
  have hle := blw_le x zs
  unfold maxLen at hm
  clear hr
  cases hv : memI zs x
  · have hu : uptI zs x = blw zs x := by unfold uptI; rw [hv]; rfl
    rw [hu]
    rw [hv] at C2
    clear hv hu
    generalize blw zs x = p at *
    go_enter Tryz.func241, Tryz.ntmps241
    go_wp2_with (first | (go_at_call 128; refine C.mono ?_; rintro e w1 ⟨rfl, rfl⟩) | (go_at_call 138; refine C2.mono ?_; rintro e w1 ⟨rfl, rfl⟩))
    go_ret
    exact ⟨rfl, rfl⟩
  · have hu : uptI zs x = blw zs x + 1 := by unfold uptI; rw [hv]; rfl
    have hlt : blw zs x < zs.length := (of_decide_eq_true hv).1
    rw [hu]
    rw [hv] at C2
    clear hv hu
    generalize blw zs x = p at *
    go_enter Tryz.func241, Tryz.ntmps241
    go_wp2_with (first | (go_at_call 128; refine C.mono ?_; rintro e w1 ⟨rfl, rfl⟩) | (go_at_call 138; refine C2.mono ?_; rintro e w1 ⟨rfl, rfl⟩))
    go_ret
    exact ⟨by first | rfl | exact ret_int (by omega), rfl⟩

theorem natmod (u n : Nat) : ((u : Int) % (n : Int)) = ((u % n : Nat) : Int) := by simp
theorem nattmod (u n : Nat) : (u : Int).tmod (n : Int) = ((u % n : Nat) : Int) := by rw [Int.tmod_eq_emod_of_nonneg (by omega)]; simp

set_option maxHeartbeats 800000 in
theorem ownerIn_any (a : Option Addr) (cap : Nat) (zs : List Int) (x : Int) (w : World) (h1 : 1 ≤ zs.length) (h2 : zs.length ≤ 16) (hr : RowAt w a zs) :
    Calls Tryz.prog 82 #[.slice a zs.length cap, .int .i64 x] w fun e w' => e = .returned (.int .i64 (ownI zs x)) ∧ w' = w := by
  have C := below_any a cap zs x w (by unfold maxLen; omega) hr
  have hle := blw_le x zs
  obtain ⟨bk, off, rfl⟩ := rowAt_form hr (by omega)
  have hlt : blw zs x % zs.length < zs.length := Nat.mod_lt _ (by omega)
  have hc1 := (rowAt_cell hr (by omega)).2 _ hlt
  clear hr
  unfold ownI
  have hq := natmod (blw zs x) zs.length
  have hq' := nattmod (blw zs x) zs.length
  generalize zs.getD (blw zs x % zs.length) 0 = z at hc1
  generalize blw zs x % zs.length = q at *
  generalize blw zs x = p at *
  go_enter Tryz.func82, Tryz.ntmps82
  go_wp2_with (go_at_call 128; refine C.mono ?_; rintro e w1 ⟨rfl, rfl⟩)
  go_ret
  exact ⟨rfl, rfl⟩

set_option maxHeartbeats 800000 in
theorem nextIn_any (a : Option Addr) (cap : Nat) (zs : List Int) (x : Int) (w : World) (h1 : 1 ≤ zs.length) (h2 : zs.length ≤ 16) (hr : RowAt w a zs) :
    Calls Tryz.prog 194 #[.slice a zs.length cap, .int .i64 x] w fun e w' => e = .returned (.int .i64 (nxtI zs x)) ∧ w' = w := by
  have C := upTo_any a cap zs x w (by unfold maxLen; omega) hr
  have hle := upt_le zs x
  obtain ⟨bk, off, rfl⟩ := rowAt_form hr (by omega)
  have hlt : uptI zs x % zs.length < zs.length := Nat.mod_lt _ (by omega)
  have hc1 := (rowAt_cell hr (by omega)).2 _ hlt
  clear hr
  unfold nxtI
  have hq := natmod (uptI zs x) zs.length
  have hq' := nattmod (uptI zs x) zs.length
  generalize zs.getD (uptI zs x % zs.length) 0 = z at hc1
  generalize uptI zs x % zs.length = q at *
  generalize uptI zs x = p at *
  go_enter Tryz.func194, Tryz.ntmps194
  go_wp2_with (go_at_call 241; refine C.mono ?_; rintro e w1 ⟨rfl, rfl⟩)
  go_ret
  exact ⟨rfl, rfl⟩

set_option maxHeartbeats 800000 in
theorem roundUp_any (b d x y : Int) (w : World) (hb1 : 1 ≤ b) (hb2 : b ≤ 12) (h1 : 0 ≤ x) (h2 : x < sz b) (h3 : 0 ≤ y) (h4 : y < sz b) :
    Calls Tryz.prog 249 #[.agg #[.int .i64 b, .int .i64 d], .int .i64 x, .int .i64 y] w fun e w' => e = .returned (.int .i64 (rnd b x y)) ∧ Below w.heap.size w w' := by
  unfold rnd
  by_cases he : x = y
  · rw [if_pos he]
    have he' : (x == y) = true := beq_iff_eq.2 he
    clear he
    go_enter Tryz.func249, Tryz.ntmps249
    go_wp2_with (go_at_call 140; refine (size_any _ _ _ hb1 hb2).mono ?_; rintro e w1 ⟨rfl, hw1⟩)
    go_ret
    exact ⟨rfl, bel1 hw1 (by simp; try omega)⟩
  · rw [if_neg he]
    have he' : (x == y) = false := by simp only [beq_eq_false_iff_ne, ne_eq]; exact he
    clear he
    go_enter Tryz.func249, Tryz.ntmps249
    go_wp2_with (go_at_call 250; refine (distUp_any _ _ _ _ _ hb1 hb2 h1 h2 h3 h4).mono ?_; rintro e w1 ⟨rfl, hw1⟩)
    go_ret
    exact ⟨rfl, bel1 hw1 (by simp; try omega)⟩

set_option maxHeartbeats 1600000 in
theorem GoodRing_any (b d : Int) (a : Option Addr) (cap : Nat) (zs : List Int) (w : World) (hm : zs.length ≤ maxLen) (hr : RowAt w a zs) :
    Calls Tryz.prog 80 #[.agg #[.int .i64 b, .int .i64 d], .slice a zs.length cap] w fun e w' => e = .returned (.bool (ringB b d zs)) ∧ Below w.heap.size w w' := by
  have HR : Hid (RowAt w a zs) := hr
  clear hr
  by_cases hl : 1 ≤ zs.length ∧ zs.length ≤ 16
  · obtain ⟨l1, l2⟩ := hl
    clear hm
    go_enter Tryz.func80, Tryz.ntmps80
    go_wp2_with fail
    go_loopw [17] (fun v wr => ∃ k : Nat, k ≤ zs.length ∧ v = .int .i64 k ∧ Hid (∀ i, i < k → numB b d (zs.getD i 0) = true ∧ (0 < i → zs.getD (i - 1) 0 < zs.getD i 0)) ∧ Below (w.heap.size + 1) (w.alloc (.cells #[.int .i64 b, .int .i64 d] 25)) wr) (fun v _ => zs.length - (intOf v).toNat)
    case atStart => exact ⟨0, Nat.zero_le _, rfl, fun i hi => by omega, Below.refl _ _⟩
    case round =>
      obtain ⟨k, hk, rfl, hs, hbel⟩ := hrel
      have q0 : wr.cell? ⟨w.heap.size, 0, none⟩ = some (.int .i64 b) := (hbel.cell (p := ⟨w.heap.size, 0, none⟩) (by simp)).trans (by simp)
      have q1 : wr.cell? ⟨w.heap.size, 1, none⟩ = some (.int .i64 d) := (hbel.cell (p := ⟨w.heap.size, 1, none⟩) (by simp)).trans (by simp)
      have hsz : w.heap.size < wr.heap.size := by have := hbel.size; simp at this; omega
      have HB : Hid (Below w.heap.size w wr) := bel1 hbel (by simp)
      by_cases hlt : k < zs.length
      · obtain ⟨bk, off, rfl⟩ := rowAt_form HR.out (by omega)
        have hR : Hid (RowAt wr (some ⟨bk, off, none⟩) zs) := HR.out.keep HB.out
        have hc1 := (rowAt_cell hR.out (by omega)).2 k hlt
        have hlb := (rowAt_cell hR.out (by omega)).1
        cases hn : numB b d (zs.getD k 0)
        · have hv : Hid (ringB b d zs = false) := ringB_no hlt (fun g => by rw [hn] at g; cases g.1)
          generalize zs.getD k 0 = z at hc1 hn
          go_wp2_with (go_at_call 81; refine (isNumber_any _ _ _ _).mono ?_; rintro e w1 ⟨rfl, hw1⟩)
          go_ret
          exact ⟨ret_bool hv.out.symm, belt HB.out hw1⟩
        · by_cases h0 : 0 < k
          · have hc2 := (rowAt_cell hR.out (by omega)).2 (k - 1) (by omega)
            by_cases hx : zs.getD (k - 1) 0 < zs.getD k 0
            · have hn2 : Hid (∀ i, i < k + 1 → numB b d (zs.getD i 0) = true ∧ (0 < i → zs.getD (i - 1) 0 < zs.getD i 0)) := fun i hi => by
                by_cases he : i = k
                · subst he; exact ⟨hn, fun _ => hx⟩
                · exact hs.out i (by omega)
              generalize zs.getD k 0 = z at hc1 hn hx
              generalize zs.getD (k - 1) 0 = y at hc2 hx
              go_wp2_with (go_at_call 81; refine (isNumber_any _ _ _ _).mono ?_; rintro e w1 ⟨rfl, hw1⟩; have hc3 := (hw1.cell (p := ⟨bk, off + (k - 1), none⟩) hlb).trans hc2; have hbel1 := hbel.trans (hw1.mono (by omega)))
              go_roundw
              case rel => exact ⟨k + 1, by omega, by go_num, hn2, hbel1⟩
              case measure => simp [intOf]; omega
            · have hv : Hid (ringB b d zs = false) := ringB_no hlt (fun g => hx (g.2 h0))
              generalize zs.getD k 0 = z at hc1 hn hx
              generalize zs.getD (k - 1) 0 = y at hc2 hx
              go_wp2_with (go_at_call 81; refine (isNumber_any _ _ _ _).mono ?_; rintro e w1 ⟨rfl, hw1⟩; have hc3 := (hw1.cell (p := ⟨bk, off + (k - 1), none⟩) hlb).trans hc2)
              go_ret
              exact ⟨ret_bool hv.out.symm, belt HB.out hw1⟩
          · have hn2 : Hid (∀ i, i < k + 1 → numB b d (zs.getD i 0) = true ∧ (0 < i → zs.getD (i - 1) 0 < zs.getD i 0)) := fun i hi => by
              obtain rfl : i = k := by omega
              exact ⟨hn, fun h => by omega⟩
            generalize zs.getD k 0 = z at hc1 hn
            go_wp2_with (go_at_call 81; refine (isNumber_any _ _ _ _).mono ?_; rintro e w1 ⟨rfl, hw1⟩; have hbel1 := hbel.trans (hw1.mono (by omega)))
            go_roundw
            case rel => exact ⟨k + 1, by omega, by go_num, hn2, hbel1⟩
            case measure => simp [intOf]; omega
      · have hv : Hid (ringB b d zs = true) := ringB_yes l1 l2 (fun i hi => hs.out i (by omega))
        go_wp2
        go_ret
        exact ⟨ret_bool hv.out.symm, HB.out⟩
  · rw [ringB_len hl]
    unfold maxLen at hm
    by_cases h1 : zs.length < 1
    · go_enter Tryz.func80, Tryz.ntmps80
      go_wp2
      go_ret
      exact ⟨rfl, (Below.refl _ _).alloc (Nat.le_refl _) _⟩
    · have h2 : 16 < zs.length := by omega
      go_enter Tryz.func80, Tryz.ntmps80
      go_wp2
      go_ret
      exact ⟨rfl, (Below.refl _ _).alloc (Nat.le_refl _) _⟩
end Go.Proofs.YtdceimnapbblnaaGreat
namespace Go.Proofs.YtdceimnapbblnaaGreat
open Go.RowKit
set_option linter.unusedVariables false

set_option maxHeartbeats 1600000 in
theorem lrising_any (a : Option Addr) (cap : Nat) (zs : List Int) (lo hi : Int) (w : World) (hm : zs.length ≤ maxLen) (hr : RowAt w a zs) :
    Calls Tryz.prog 148 #[.slice a zs.length cap, .int .i64 lo, .int .i64 hi] w fun e w' => e = .returned (.bool (risB zs lo hi)) ∧ w' = w := by
  unfold maxLen at hm
  have HR : Hid (RowAt w a zs) := hr
  clear hr
  go_enter Tryz.func148, Tryz.ntmps148
  go_wp2_with fail
  go_loop [11] (fun v => ∃ k : Nat, k ≤ zs.length ∧ v = .int .i64 k ∧ Hid (∀ i, i < k → (lo ≤ zs.getD i 0 ∧ zs.getD i 0 ≤ hi) ∧ (0 < i → zs.getD (i - 1) 0 < zs.getD i 0))) (fun v => zs.length - (intOf v).toNat)
  case atStart => exact ⟨0, Nat.zero_le _, rfl, fun i hi => by omega⟩
  case round =>
    obtain ⟨k, hk, rfl, hs⟩ := hrel
    by_cases hlt : k < zs.length
    · obtain ⟨bk, off, rfl⟩ := rowAt_form HR.out (by omega)
      have hc1 := (rowAt_cell HR.out (by omega)).2 k hlt
      cases hn : inB (zs.getD k 0) lo hi
      · have hv : Hid (risB zs lo hi = false) := risB_no hlt (fun g => inB_false hn g.1)
        generalize zs.getD k 0 = z at hc1 hn
        go_wp2_with (go_at_call 93; refine (lin_any _ _ _ _).mono ?_; rintro e w1 ⟨rfl, rfl⟩)
        go_ret
        exact ⟨ret_bool hv.out.symm, rfl⟩
      · by_cases h0 : 0 < k
        · have hc2 := (rowAt_cell HR.out (by omega)).2 (k - 1) (by omega)
          by_cases hx : zs.getD (k - 1) 0 < zs.getD k 0
          · have hn2 : Hid (∀ i, i < k + 1 → (lo ≤ zs.getD i 0 ∧ zs.getD i 0 ≤ hi) ∧ (0 < i → zs.getD (i - 1) 0 < zs.getD i 0)) := fun i hi => by
              by_cases he : i = k
              · subst he; exact ⟨inB_true hn, fun _ => hx⟩
              · exact hs.out i (by omega)
            generalize zs.getD k 0 = z at hc1 hn hx
            generalize zs.getD (k - 1) 0 = y at hc2 hx
            go_wp2_with (go_at_call 93; refine (lin_any _ _ _ _).mono ?_; rintro e w1 ⟨rfl, rfl⟩)
            go_round
            case rel => exact ⟨k + 1, by omega, by go_num, hn2⟩
            case measure => simp [intOf]; omega
          · have hv : Hid (risB zs lo hi = false) := risB_no hlt (fun g => hx (g.2 h0))
            generalize zs.getD k 0 = z at hc1 hn hx
            generalize zs.getD (k - 1) 0 = y at hc2 hx
            go_wp2_with (go_at_call 93; refine (lin_any _ _ _ _).mono ?_; rintro e w1 ⟨rfl, rfl⟩)
            go_ret
            exact ⟨ret_bool hv.out.symm, rfl⟩
        · have hn2 : Hid (∀ i, i < k + 1 → (lo ≤ zs.getD i 0 ∧ zs.getD i 0 ≤ hi) ∧ (0 < i → zs.getD (i - 1) 0 < zs.getD i 0)) := fun i hi => by
            obtain rfl : i = k := by omega
            exact ⟨inB_true hn, fun h => by omega⟩
          generalize zs.getD k 0 = z at hc1 hn
          go_wp2_with (go_at_call 93; refine (lin_any _ _ _ _).mono ?_; rintro e w1 ⟨rfl, rfl⟩)
          go_round
          case rel => exact ⟨k + 1, by omega, by go_num, hn2⟩
          case measure => simp [intOf]; omega
    · have hv : Hid (risB zs lo hi = true) := risB_yes (fun i hi => hs.out i (by omega))
      go_wp2
      go_ret
      exact ⟨ret_bool hv.out.symm, rfl⟩

set_option maxHeartbeats 800000 in
theorem lhas_any (a : Option Addr) (cap : Nat) (zs : List Int) (x : Int) (w : World) (hm : zs.length ≤ maxLen) (hr : RowAt w a zs) :
    Calls Tryz.prog 87 #[.slice a zs.length cap, .int .i64 x] w fun e w' => e = .returned (.bool (hasB zs x)) ∧ w' = w := by
  unfold maxLen at hm
  have HR : Hid (RowAt w a zs) := hr
  clear hr
  go_enter Tryz.func87, Tryz.ntmps87
  go_wp2_with fail
  go_loop [9] (fun v => ∃ k : Nat, k ≤ zs.length ∧ v = .int .i64 k ∧ Hid (∀ i, i < k → ¬ zs.getD i 0 = x)) (fun v => zs.length - (intOf v).toNat)
  case atStart => exact ⟨0, Nat.zero_le _, rfl, fun i hi => by omega⟩
  case round =>
    obtain ⟨k, hk, rfl, hs⟩ := hrel
    by_cases hlt : k < zs.length
    · obtain ⟨bk, off, rfl⟩ := rowAt_form HR.out (by omega)
      have hc1 := (rowAt_cell HR.out (by omega)).2 k hlt
      by_cases hx : zs.getD k 0 = x
      · have hv : Hid (hasB zs x = true) := decide_eq_true ⟨k, hlt, hx⟩
        have he : (zs.getD k 0 == x) = true := beq_iff_eq.2 hx
        clear hx
        generalize zs.getD k 0 = z at hc1 he
        go_wp2
        go_ret
        exact ⟨ret_bool hv.out.symm, rfl⟩
      · have hn : Hid (∀ i, i < k + 1 → ¬ zs.getD i 0 = x) := fun i hi => by
          by_cases he : i = k
          · subst he; exact hx
          · exact hs.out i (by omega)
        have he : (zs.getD k 0 == x) = false := by simp only [beq_eq_false_iff_ne, ne_eq]; exact hx
        clear hx
        generalize zs.getD k 0 = z at hc1 he
        go_wp2
        go_round
        case rel => exact ⟨k + 1, by omega, by go_num, hn⟩
        case measure => simp [intOf]; omega
    · have hv : Hid (hasB zs x = false) := decide_eq_false (fun ⟨i, hi, he⟩ => hs.out i (by omega) he)
      go_wp2
      go_ret
      exact ⟨ret_bool hv.out.symm, rfl⟩

set_option maxHeartbeats 1600000 in
theorem lring_any (b d : Int) (a : Option Addr) (cap : Nat) (zs : List Int) (w : World) (hm : zs.length ≤ maxLen) (hr : RowAt w a zs) :
    Calls Tryz.prog 159 #[.agg #[.int .i64 b, .int .i64 d], .slice a zs.length cap] w fun e w' => e = .returned (.bool (ringB b d zs)) ∧ Below w.heap.size w w' := by
  have HR : Hid (RowAt w a zs) := hr
  clear hr
  unfold ringB
  cases hg : gsB b d
  · go_enter Tryz.func159, Tryz.ntmps159
    go_wp2_with (go_at_call 171; refine (lspace_any _ _ _).mono ?_; rintro e w1 ⟨rfl, hw1⟩)
    go_ret
    exact ⟨rfl, bel1 hw1 (by simp)⟩
  · obtain ⟨hb1, hb2, _, _, _⟩ := gsB_true hg
    obtain ⟨hs1, hs2⟩ := sz_bd hb1 hb2
    cases hl : inB (zs.length : Int) 1 16
    · go_enter Tryz.func159, Tryz.ntmps159
      go_wp2_with (first | (go_at_call 171; refine (lspace_any _ _ _).mono ?_; rintro e w1 ⟨rfl, hw1⟩; have hc1 := bcell hw1) | (go_at_call 93; refine (lin_any _ _ _ _).mono ?_; rintro e w2 ⟨rfl, rfl⟩))
      go_ret
      exact ⟨rfl, bel1 hw1 (by simp)⟩
    · cases hv : risB zs 0 (sz b - 1)
      all_goals
        go_enter Tryz.func159, Tryz.ntmps159
        go_wp2_with (first | (go_at_call 171; refine (lspace_any _ _ _).mono ?_; rintro e w1 ⟨rfl, hw1⟩; have hc1 := bcell hw1) | (go_at_call 93; refine (lin_any _ _ _ _).mono ?_; rintro e w2 ⟨rfl, rfl⟩) | (go_at_call 172; refine (lsize_any _ _ _ hb1 hb2).mono ?_; rintro e w3 ⟨rfl, hw3⟩) | (go_at_call 148; refine (lrising_any a cap zs _ _ _ hm (HR.out.keep (belt (bel1 hw1 (by simp)) hw3))).mono ?_; rintro e w4 ⟨rfl, rfl⟩))
        go_ret
        exact ⟨rfl, belt (bel1 hw1 (by simp)) hw3⟩

def askB (b d : Int) (zs : List Int) (x : Int) : Bool := ringB b d zs && numB b d x

end Go.Proofs.YtdceimnapbblnaaGreat
namespace Go.Proofs.YtdceimnapbblnaaGreat
open Go.RowKit
set_option linter.unusedVariables false

set_option maxHeartbeats 1600000 in
theorem lowner_any (b d : Int) (a : Option Addr) (cap : Nat) (zs : List Int) (k : Int) (w : World) (R : Ring b d zs) (hr : RowAt w a zs) (k1 : 0 ≤ k) (k2 : k < sz b) :
    Calls Tryz.prog 227 #[.agg #[.int .i64 b, .int .i64 d], .slice a zs.length cap, .int .i64 k] w fun e w' => e = .returned (.int .i64 (ownI zs k)) ∧ Below w.heap.size w w' := by
  obtain ⟨hb1, hb2, _, _, _⟩ := gsB_true R.gs
  obtain ⟨hs1, hs2⟩ := sz_bd hb1 hb2
  have l1 := R.l1
  have l2 := R.l2
  have HR : Hid (RowAt w a zs) := hr
  have RR : Hid (Ring b d zs) := R
  clear hr R
  obtain ⟨bk, off, rfl⟩ := rowAt_form HR.out (by omega)
  have hc0 := (rowAt_cell HR.out (by omega)).2 0 (by omega)
  have hlb := (rowAt_cell HR.out (by omega)).1
  rw [Nat.add_zero] at hc0
  obtain ⟨z0, hz0⟩ : ∃ z, z = zs.getD 0 0 := ⟨_, rfl⟩
  rw [← hz0] at hc0
  have P0 : Hid (∃ t, t < zs.length ∧ z0 = zs.getD t 0) := ⟨0, by omega, hz0⟩
  clear hz0
  go_enter Tryz.func227, Tryz.ntmps227
  go_wp2_with fail
  clear hc0
  go_loopw [7, 15] (fun vb vi wr => ∃ (j : Nat) (y : Int), j ≤ zs.length ∧ vi = .int .i64 j ∧ vb = .int .i64 y ∧ Hid (∃ t, t < zs.length ∧ y = zs.getD t 0) ∧ Hid (∀ i, i < j → dist b k y ≤ dist b k (zs.getD i 0)) ∧ Below (w.heap.size + 1) (w.alloc (.cells #[.int .i64 b, .int .i64 d] 25)) wr) (fun _ vi _ => zs.length - (intOf vi).toNat)
  case atStart => exact ⟨0, z0, Nat.zero_le _, rfl, rfl, P0, fun i hi => by omega, Below.refl _ _⟩
  case round =>
    obtain ⟨j, y, hj, rfl, rfl, hp, hs, hbel⟩ := hrel
    have q0 : wr.cell? ⟨w.heap.size, 0, none⟩ = some (.int .i64 b) := (hbel.cell (p := ⟨w.heap.size, 0, none⟩) (by simp)).trans (by simp)
    have q1 : wr.cell? ⟨w.heap.size, 1, none⟩ = some (.int .i64 d) := (hbel.cell (p := ⟨w.heap.size, 1, none⟩) (by simp)).trans (by simp)
    have hsz : w.heap.size < wr.heap.size := by have := hbel.size; simp at this; omega
    have HB : Hid (Below w.heap.size w wr) := bel1 hbel (by simp)
    by_cases hlt : j < zs.length
    · have hR : Hid (RowAt wr (some ⟨bk, off, none⟩) zs) := HR.out.keep HB.out
      have hc1 := (rowAt_cell hR.out (by omega)).2 j hlt
      have rz := RR.out.rng j hlt
      have ry : 0 ≤ y ∧ y < sz b := by obtain ⟨t, ht, e⟩ := hp.out; rw [e]; exact RR.out.rng t ht
      obtain ⟨z, hz⟩ : ∃ z, z = zs.getD j 0 := ⟨_, rfl⟩
      rw [← hz] at hc1 rz
      have hpz : Hid (∃ t, t < zs.length ∧ z = zs.getD t 0) := ⟨j, hlt, hz⟩
      have HZ : Hid (z = zs.getD j 0) := hz
      clear hz
      obtain ⟨rz1, rz2⟩ := rz
      obtain ⟨ry1, ry2⟩ := ry
      by_cases hd : dist b k z < dist b k y
      · have hn : Hid (∀ i, i < j + 1 → dist b k z ≤ dist b k (zs.getD i 0)) := fun i hi => by
          by_cases he : i = j
          · subst he; rw [← HZ.out]; omega
          · have := hs.out i (by omega); omega
        go_wp2
        have c0 : ∀ p : Kin wr.heap.size wr, p.v.cell? ⟨w.heap.size, 0, none⟩ = some (.int .i64 b) := kin_cell hsz q0
        have c1 : ∀ p : Kin wr.heap.size wr, p.v.cell? ⟨w.heap.size, 1, none⟩ = some (.int .i64 d) := kin_cell hsz q1
        refine region_kin wr.heap.size (by kernel_rfl) (by kernel_rfl) (fun hne => ?_)
        repeat (go_big_quiet_step ((go_at_call 226; exact kin_of (Nat.le_refl _) (ldist_any _ _ _ _ _ hb1 hb2 (by assumption) (by assumption) (by assumption) (by assumption)))))
        refine wpQuiet_nil ?_
        intro _ hw'
        obtain ⟨⟨w1, hw1⟩, hw''⟩ := hw'
        obtain rfl : _ = w1 := hw''
        clear c0 c1 hne
        have hbel1 := hbel.trans (hw1.mono (by omega))
        go_wp2
        go_roundw
        case rel => exact ⟨j + 1, z, by omega, by go_num, rfl, hpz, hn, hbel1⟩
        case measure => simp [intOf]; omega
      · have hn : Hid (∀ i, i < j + 1 → dist b k y ≤ dist b k (zs.getD i 0)) := fun i hi => by
          by_cases he : i = j
          · subst he; rw [← HZ.out]; omega
          · exact hs.out i (by omega)
        go_wp2
        have c0 : ∀ p : Kin wr.heap.size wr, p.v.cell? ⟨w.heap.size, 0, none⟩ = some (.int .i64 b) := kin_cell hsz q0
        have c1 : ∀ p : Kin wr.heap.size wr, p.v.cell? ⟨w.heap.size, 1, none⟩ = some (.int .i64 d) := kin_cell hsz q1
        refine region_kin wr.heap.size (by kernel_rfl) (by kernel_rfl) (fun hne => ?_)
        repeat (go_big_quiet_step ((go_at_call 226; exact kin_of (Nat.le_refl _) (ldist_any _ _ _ _ _ hb1 hb2 (by assumption) (by assumption) (by assumption) (by assumption)))))
        refine wpQuiet_nil ?_
        intro _ hw'
        obtain ⟨⟨w1, hw1⟩, hw''⟩ := hw'
        obtain rfl : _ = w1 := hw''
        clear c0 c1 hne
        have hbel1 := hbel.trans (hw1.mono (by omega))
        go_wp2
        go_roundw
        case rel => exact ⟨j + 1, y, by omega, by go_num, rfl, hp, hn, hbel1⟩
        case measure => simp [intOf]; omega
    · have hv : Hid (y = ownI zs k) := by
        obtain ⟨t, ht, e⟩ := hp.out
        rw [e]
        exact min_own RR.out k1 k2 ht (fun i hi => by have := hs.out i (by omega); rwa [e] at this)
      go_wp2
      go_ret
      exact ⟨ret_int hv.out, HB.out⟩

set_option maxHeartbeats 1600000 in
theorem lprev_any (b d : Int) (a : Option Addr) (cap : Nat) (zs : List Int) (x : Int) (w : World) (R : Ring b d zs) (hr : RowAt w a zs) (x1 : 0 ≤ x) (x2 : x < sz b) :
    Calls Tryz.prog 229 #[.agg #[.int .i64 b, .int .i64 d], .slice a zs.length cap, .int .i64 x] w fun e w' => e = .returned (.int .i64 (prvI zs x)) ∧ Below w.heap.size w w' := by
  obtain ⟨hb1, hb2, _, _, _⟩ := gsB_true R.gs
  obtain ⟨hs1, hs2⟩ := sz_bd hb1 hb2
  have l1 := R.l1
  have l2 := R.l2
  have HR : Hid (RowAt w a zs) := hr
  have RR : Hid (Ring b d zs) := R
  clear hr R
  obtain ⟨bk, off, rfl⟩ := rowAt_form HR.out (by omega)
  have hlb := (rowAt_cell HR.out (by omega)).1
  obtain ⟨z0, hz0⟩ : ∃ z, z = zs.getD 0 0 := ⟨_, rfl⟩
  have P0 : Hid (∃ t, t < zs.length ∧ z0 = zs.getD t 0) := ⟨0, by omega, hz0⟩
  have HZ0 : Hid (z0 = zs.getD 0 0) := hz0
  clear hz0
  go_enter Tryz.func229, Tryz.ntmps229
  go_wp2
  have c0 : ∀ p : Kin (w.heap.size + 1) (w.alloc (.cells #[.int .i64 b, .int .i64 d] 25)), p.v.cell? ⟨w.heap.size, 0, none⟩ = some (.int .i64 b) := kin_cell (by omega) (by go_simp)
  have c1 : ∀ p : Kin (w.heap.size + 1) (w.alloc (.cells #[.int .i64 b, .int .i64 d] 25)), p.v.cell? ⟨w.heap.size, 1, none⟩ = some (.int .i64 d) := kin_cell (by omega) (by go_simp)
  refine region_kin (w.heap.size + 1) (by kernel_rfl) (by kernel_rfl) (fun hne => ?_)
  repeat (go_big_quiet_step ((go_at_call 172; exact kin_of (by simp) (lsize_any _ _ _ hb1 hb2))))
  refine wpQuiet_nil ?_
  intro _ hw'
  obtain ⟨⟨w0, hw0⟩, hw''⟩ := hw'
  obtain rfl : _ = w0 := hw''
  clear c0 c1 hne
  have hc0 := (rowAt_cell (HR.out.keep (bel1 hw0 (by simp))) (by omega)).2 0 (by omega)
  rw [Nat.add_zero, ← HZ0.out] at hc0
  obtain ⟨k, hk⟩ : ∃ k, k = (x + sz b - 1) % sz b := ⟨_, rfl⟩
  have rk := down_rng x1 x2
  rw [← hk] at rk ⊢
  obtain ⟨k1, k2⟩ := rk
  have HK : Hid (k = (x + sz b - 1) % sz b) := hk
  clear hk
  go_wp2_with fail
  clear hc0
  go_loopw [8, 24] (fun vb vi wr => ∃ (j : Nat) (y : Int), j ≤ zs.length ∧ vi = .int .i64 j ∧ vb = .int .i64 y ∧ Hid (∃ t, t < zs.length ∧ y = zs.getD t 0) ∧ Hid (∀ i, i < j → dist b y k ≤ dist b (zs.getD i 0) k) ∧ Below (w.heap.size + 1) (w.alloc (.cells #[.int .i64 b, .int .i64 d] 25)) wr) (fun _ vi _ => zs.length - (intOf vi).toNat)
  case atStart => exact ⟨0, z0, Nat.zero_le _, rfl, rfl, P0, fun i hi => by omega, hw0⟩
  case round =>
    obtain ⟨j, y, hj, rfl, rfl, hp, hs, hbel⟩ := hrel
    have q0 : wr.cell? ⟨w.heap.size, 0, none⟩ = some (.int .i64 b) := (hbel.cell (p := ⟨w.heap.size, 0, none⟩) (by simp)).trans (by simp)
    have q1 : wr.cell? ⟨w.heap.size, 1, none⟩ = some (.int .i64 d) := (hbel.cell (p := ⟨w.heap.size, 1, none⟩) (by simp)).trans (by simp)
    have hsz : w.heap.size < wr.heap.size := by have := hbel.size; simp at this; omega
    have HB : Hid (Below w.heap.size w wr) := bel1 hbel (by simp)
    by_cases hlt : j < zs.length
    · have hR : Hid (RowAt wr (some ⟨bk, off, none⟩) zs) := HR.out.keep HB.out
      have hc1 := (rowAt_cell hR.out (by omega)).2 j hlt
      have rz := RR.out.rng j hlt
      have ry : 0 ≤ y ∧ y < sz b := by obtain ⟨t, ht, e⟩ := hp.out; rw [e]; exact RR.out.rng t ht
      obtain ⟨z, hz⟩ : ∃ z, z = zs.getD j 0 := ⟨_, rfl⟩
      rw [← hz] at hc1 rz
      have hpz : Hid (∃ t, t < zs.length ∧ z = zs.getD t 0) := ⟨j, hlt, hz⟩
      have HZ : Hid (z = zs.getD j 0) := hz
      clear hz
      obtain ⟨rz1, rz2⟩ := rz
      obtain ⟨ry1, ry2⟩ := ry
      by_cases hd : dist b z k < dist b y k
      · have hn : Hid (∀ i, i < j + 1 → dist b z k ≤ dist b (zs.getD i 0) k) := fun i hi => by
          by_cases he : i = j
          · subst he; rw [← HZ.out]; omega
          · have := hs.out i (by omega); omega
        go_wp2
        have c0 : ∀ p : Kin wr.heap.size wr, p.v.cell? ⟨w.heap.size, 0, none⟩ = some (.int .i64 b) := kin_cell hsz q0
        have c1 : ∀ p : Kin wr.heap.size wr, p.v.cell? ⟨w.heap.size, 1, none⟩ = some (.int .i64 d) := kin_cell hsz q1
        refine region_kin wr.heap.size (by kernel_rfl) (by kernel_rfl) (fun hne => ?_)
        repeat (go_big_quiet_step ((go_at_call 226; exact kin_of (Nat.le_refl _) (ldist_any _ _ _ _ _ hb1 hb2 (by assumption) (by assumption) (by assumption) (by assumption)))))
        refine wpQuiet_nil ?_
        intro _ hw'
        obtain ⟨⟨w1, hw1⟩, hw''⟩ := hw'
        obtain rfl : _ = w1 := hw''
        clear c0 c1 hne
        have hbel1 := hbel.trans (hw1.mono (by omega))
        go_wp2
        go_roundw
        case rel => exact ⟨j + 1, z, by omega, by go_num, rfl, hpz, hn, hbel1⟩
        case measure => simp [intOf]; omega
      · have hn : Hid (∀ i, i < j + 1 → dist b y k ≤ dist b (zs.getD i 0) k) := fun i hi => by
          by_cases he : i = j
          · subst he; rw [← HZ.out]; omega
          · exact hs.out i (by omega)
        go_wp2
        have c0 : ∀ p : Kin wr.heap.size wr, p.v.cell? ⟨w.heap.size, 0, none⟩ = some (.int .i64 b) := kin_cell hsz q0
        have c1 : ∀ p : Kin wr.heap.size wr, p.v.cell? ⟨w.heap.size, 1, none⟩ = some (.int .i64 d) := kin_cell hsz q1
        refine region_kin wr.heap.size (by kernel_rfl) (by kernel_rfl) (fun hne => ?_)
        repeat (go_big_quiet_step ((go_at_call 226; exact kin_of (Nat.le_refl _) (ldist_any _ _ _ _ _ hb1 hb2 (by assumption) (by assumption) (by assumption) (by assumption)))))
        refine wpQuiet_nil ?_
        intro _ hw'
        obtain ⟨⟨w1, hw1⟩, hw''⟩ := hw'
        obtain rfl : _ = w1 := hw''
        clear c0 c1 hne
        have hbel1 := hbel.trans (hw1.mono (by omega))
        go_wp2
        go_roundw
        case rel => exact ⟨j + 1, y, by omega, by go_num, rfl, hp, hn, hbel1⟩
        case measure => simp [intOf]; omega
    · have hv : Hid (y = prvI zs x) := by
        obtain ⟨t, ht, e⟩ := hp.out
        rw [e]
        exact min_prv RR.out x1 x2 ht (fun i hi => by have := hs.out i (by omega); rwa [e, HK.out] at this)
      go_wp2
      go_ret
      exact ⟨ret_int hv.out, HB.out⟩

set_option maxHeartbeats 800000 in
theorem lnext_any (b d : Int) (a : Option Addr) (cap : Nat) (zs : List Int) (x : Int) (w : World) (R : Ring b d zs) (hr : RowAt w a zs) (x1 : 0 ≤ x) (x2 : x < sz b) :
    Calls Tryz.prog 160 #[.agg #[.int .i64 b, .int .i64 d], .slice a zs.length cap, .int .i64 x] w fun e w' => e = .returned (.int .i64 (nxtI zs x)) ∧ Below w.heap.size w w' := by
  rw [← own_next R x1 x2]
  obtain ⟨hb1, hb2, _, _, _⟩ := gsB_true R.gs
  obtain ⟨hs1, hs2⟩ := sz_bd hb1 hb2
  obtain ⟨k1, k2⟩ := next_rng x1 x2
  have hr1 := hr.alloc (.cells #[.int .i64 b, .int .i64 d] 25)
  have RR : Hid (Ring b d zs) := R
  clear R hr
  have HR1 : Hid (RowAt (w.alloc (.cells #[.int .i64 b, .int .i64 d] 25)) a zs) := hr1
  clear hr1
  go_enter Tryz.func160, Tryz.ntmps160
  go_wp2
  have c0 : ∀ p : Kin (w.heap.size + 1) (w.alloc (.cells #[.int .i64 b, .int .i64 d] 25)), p.v.cell? ⟨w.heap.size, 0, none⟩ = some (.int .i64 b) := kin_cell (by omega) (by go_simp)
  have c1 : ∀ p : Kin (w.heap.size + 1) (w.alloc (.cells #[.int .i64 b, .int .i64 d] 25)), p.v.cell? ⟨w.heap.size, 1, none⟩ = some (.int .i64 d) := kin_cell (by omega) (by go_simp)
  refine region_kin (w.heap.size + 1) (by kernel_rfl) (by kernel_rfl) (fun hne => ?_)
  repeat (go_big_quiet_step (first | (go_at_call 172; exact kin_of (by simp) (lsize_any _ _ _ hb1 hb2)) | (go_at_call 227; exact kin_of (by simp) (lowner_any b d a cap zs _ _ RR.out (HR1.out.keepB (Kin.bel _) (by simp)) k1 k2))))
  refine wpQuiet_nil ?_
  intro _ hw'
  obtain ⟨⟨w1, hw1⟩, hw''⟩ := hw'
  obtain rfl : _ = w1 := hw''
  clear c0 c1 hne
  go_wp2
  go_ret
  exact ⟨rfl, ((Below.refl _ _).alloc (Nat.le_refl _) _).trans (hw1.mono (by omega))⟩

theorem nxt_rng {b d : Int} {zs : List Int} (R : Ring b d zs) (x : Int) : 0 ≤ nxtI zs x ∧ nxtI zs x < sz b := by
  obtain ⟨t, ht, e, _⟩ := nxt_place R x
  rw [e]; exact R.rng t ht
theorem prv_rng {b d : Int} {zs : List Int} (R : Ring b d zs) (x : Int) : 0 ≤ prvI zs x ∧ prvI zs x < sz b := by
  obtain ⟨t, ht, e, _⟩ := prv_place R x
  rw [e]; exact R.rng t ht
theorem own_rng {b d : Int} {zs : List Int} (R : Ring b d zs) (x : Int) : 0 ≤ ownI zs x ∧ ownI zs x < sz b := by
  obtain ⟨t, ht, e, _⟩ := own_place R x
  rw [e]; exact R.rng t ht

end Go.Proofs.YtdceimnapbblnaaGreat
namespace Go.Proofs.YtdceimnapbblnaaGreat
open Go.RowKit
set_option linter.unusedVariables false

def oVal (b d : Int) (zs : List Int) (x v : Int) : Int := if askB b d zs x = true then v else 0
def okG (b d : Int) (zs : List Int) (x : Int) : Bool := ringB b d zs && memI zs x
def gVal (b d : Int) (zs : List Int) (x v : Int) : Int := if okG b d zs x = true then v else 0
theorem okG_ask {b d : Int} {zs : List Int} {x : Int} (h : okG b d zs x = true) : askB b d zs x = true ∧ hasB zs x = true ∧ Ring b d zs ∧ 0 ≤ x ∧ x < sz b := by
  unfold okG at h
  rw [Bool.and_eq_true] at h
  have R := ringB_true h.1
  obtain ⟨j, hj, rfl⟩ := mem_place R h.2
  have r := R.rng j hj
  refine ⟨?_, ?_, R, r.1, r.2⟩
  · unfold askB; rw [h.1, numB_yes R.gs r.1 r.2]; rfl
  · rw [← mem_has R]; exact h.2
theorem okG_no {b d : Int} {zs : List Int} {x : Int} (h : okG b d zs x = false) : askB b d zs x = false ∨ (askB b d zs x = true ∧ hasB zs x = false) := by
  cases ha : askB b d zs x
  · exact .inl rfl
  · refine .inr ⟨rfl, ?_⟩
    unfold askB at ha
    rw [Bool.and_eq_true] at ha
    unfold okG at h
    rw [ha.1, Bool.true_and] at h
    rw [← mem_has (ringB_true ha.1)]; exact h

set_option maxHeartbeats 1600000 in
theorem OwnerOf_any (b d : Int) (a : Option Addr) (cap : Nat) (zs : List Int) (x : Int) (w : World) (hm : zs.length ≤ maxLen) (hr : RowAt w a zs) :
    Calls Tryz.prog 19 #[.agg #[.int .i64 b, .int .i64 d], .slice a zs.length cap, .int .i64 x] w fun e w' => e = .returned (.tuple #[.int .i64 (oVal b d zs x (ownI zs x)), .bool (askB b d zs x)]) ∧ Below w.heap.size w w' := by
  have hr1 := hr.alloc (.cells #[.int .i64 b, .int .i64 d] 25)
  unfold oVal askB
  cases hg : ringB b d zs
  · go_enter Tryz.func19, Tryz.ntmps19
    go_wp2_with fail
    refine (GoodRing_any b d a cap zs _ hm hr1).mono ?_
    rintro e w1 ⟨rfl, hw1⟩
    go_wp2
    go_ret2
    exact ⟨rfl, bel1 hw1 (by simp)⟩
  · cases hx : numB b d x
    · go_enter Tryz.func19, Tryz.ntmps19
      go_wp2_with fail
      refine (GoodRing_any b d a cap zs _ hm hr1).mono ?_
      rintro e w1 ⟨rfl, hw1⟩
      obtain ⟨k10, k11, z1⟩ := keep2 (bk := w.heap.size) (u := .int .i64 b) (v := .int .i64 d) hw1 (by simp; try omega) (by simp) (by simp)
      go_wp2_with fail
      refine (isNumber_any _ _ _ _).mono ?_
      rintro e w2 ⟨rfl, hw2⟩
      go_wp2
      go_ret2
      exact ⟨rfl, belt (bel1 hw1 (by simp)) hw2⟩
    · have R := ringB_true hg
      go_enter Tryz.func19, Tryz.ntmps19
      go_wp2_with fail
      refine (GoodRing_any b d a cap zs _ hm hr1).mono ?_
      rintro e w1 ⟨rfl, hw1⟩
      obtain ⟨k10, k11, z1⟩ := keep2 (bk := w.heap.size) (u := .int .i64 b) (v := .int .i64 d) hw1 (by simp; try omega) (by simp) (by simp)
      go_wp2_with fail
      refine (isNumber_any _ _ _ _).mono ?_
      rintro e w2 ⟨rfl, hw2⟩
      go_wp2_with fail
      refine (ownerIn_any a cap zs x _ R.l1 R.l2 (hr.keep (belt (bel1 hw1 (by simp)) hw2))).mono ?_
      rintro e w3 ⟨rfl, rfl⟩
      go_wp2
      go_ret2
      exact ⟨rfl, belt (bel1 hw1 (by simp)) hw2⟩

end Go.Proofs.YtdceimnapbblnaaGreat
namespace Go.Proofs.YtdceimnapbblnaaGreat
open Go.RowKit
set_option linter.unusedVariables false

/-- block g holds the list l at its head, and it lies at or beyond B -/
structure OwnS (B : Nat) (w : World) (g : Nat) (l : List Int) : Prop where
  lo : B ≤ g
  row : ∃ cur, w.heap[g]? = some (.cells cur 3 (0, 0)) ∧ cur.toList.take l.length = l.map (Value.int .i64)
theorem OwnS.lt {B : Nat} {w : World} {g : Nat} {l : List Int} (h : OwnS B w g l) : g < w.heap.size := by
  obtain ⟨cur, hc, _⟩ := h.row
  exact (Array.getElem?_eq_some_iff.1 hc).1
theorem OwnS.keep {B : Nat} {w w1 : World} {g : Nat} {l : List Int} (h : OwnS B w g l) (hb : Below w.heap.size w w1) : OwnS B w1 g l := by
  obtain ⟨cur, hc, ht⟩ := h.row
  exact ⟨h.lo, cur, (hb.block _ h.lt).trans hc, ht⟩
theorem OwnS.only {B : Nat} {w w1 : World} {g q : Nat} {l : List Int} (h : OwnS B w g l) (hb : Only q w w1) (hq : ¬ g = q) : OwnS B w1 g l := by
  obtain ⟨cur, hc, ht⟩ := h.row
  exact ⟨h.lo, cur, (hb.block _ hq).trans hc, ht⟩
theorem OwnS.size {B : Nat} {w : World} {g : Nat} {l : List Int} (h : OwnS B w g l) : ∃ cur, w.heap[g]? = some (.cells cur 3 (0, 0)) ∧ l.length ≤ cur.size ∧ ∀ i, i < l.length → cur[i]? = some (.int .i64 (l.getD i 0)) := by
  obtain ⟨cur, hc, ht⟩ := h.row
  have hl := congrArg List.length ht
  have hl2 : l.length ≤ cur.size := by
    simp only [List.length_take, List.length_map] at hl
    have : cur.toList.length = cur.size := Array.length_toList
    omega
  refine ⟨cur, hc, hl2, fun i hi => ?_⟩
  have := congrArg (·[i]?) ht
  simp only [List.getElem?_map] at this
  rw [List.getElem?_take_of_lt hi, Array.getElem?_toList] at this
  rw [this, List.getD_eq_getElem?_getD, List.getElem?_eq_getElem hi]
  rfl
theorem OwnS.at {B : Nat} {w : World} {g : Nat} {l : List Int} (h : OwnS B w g l) (i : Nat) (hi : i < l.length) : w.cell? ⟨g, i, none⟩ = some (.int .i64 (l.getD i 0)) ∧ w.frozen? ⟨g, i, none⟩ = false := by
  obtain ⟨cur, hc, hl, ht⟩ := h.size
  exact ⟨(cell_of_row w _ _ _ _ _ hc).trans (ht i hi), frozen_of_row w _ _ _ _ hc⟩
theorem OwnS.rowAt {B : Nat} {w : World} {g : Nat} {l : List Int} (h : OwnS B w g l) : RowAt w (some ⟨g, 0, none⟩) l :=
  .inr ⟨g, 0, rfl, h.lt, fun i hi => by rw [Nat.zero_add]; exact (h.at i hi).1⟩
theorem OwnS.put {B : Nat} {w : World} {g : Nat} {l : List Int} (h : OwnS B w g l) (i : Nat) (hi : i < l.length) (v : Int) : OwnS B (w.setCell ⟨g, i, none⟩ (.int .i64 v)) g (l.set i v) := by
  obtain ⟨cur, hc, ht⟩ := h.row
  refine ⟨h.lo, _, heap_setCell_same _ _ _ _ _ _ hc, ?_⟩
  rw [Array.toList_setIfInBounds, List.length_set, List.take_set, ht, List.map_set]
theorem OwnS.of_owns {B : Nat} {w : World} {g cap : Nat} {l : List Int} {n : Nat} (h : w.ownsRow B 3 1 (.slice (some ⟨g, 0, none⟩) n cap) n (l.map (Value.int .i64))) : OwnS B w g l ∧ l.length = n ∧ n ≤ cap := by
  obtain ⟨hl, h2⟩ := h
  rcases h2 with ⟨h2, _⟩ | ⟨g', cap', cur, hv, hb, hc, hn, _, _, ht⟩
  · cases h2
  · simp at hv
    obtain ⟨rfl, rfl⟩ := hv
    simp at hl
    exact ⟨⟨hb, cur, hc, by rw [hl]; simpa using ht⟩, hl, hn⟩
theorem OwnS.mono {B B' : Nat} {w : World} {g : Nat} {l : List Int} (h : OwnS B w g l) (hb : B' ≤ B) : OwnS B' w g l := ⟨Nat.le_trans hb h.lo, h.row⟩
theorem OwnZ.owns {w wr : World} {g : Nat} {l : List Int} (h : OwnZ w wr g l) : OwnS w.heap.size wr g l :=
  ⟨h.lo, _, h.row, by rw [List.take_of_length_le (by simp [zv])]; simp [zv]⟩

set_option maxHeartbeats 800000 in
theorem markOwn_any (B g cap : Nat) (zs : List Int) (k0 : Int) (w : World) (hm : zs.length ≤ 1048576) (k1 : 0 ≤ k0) (k2 : k0 ≤ 1099511627776) (ho : OwnS B w g zs) :
    Calls Tryz.prog 53 #[.slice (some ⟨g, 0, none⟩) zs.length cap, .int .i64 k0] w fun e w' => e = .returned (.int .i64 (k0 + (zs.length : Int))) ∧ OwnS B w' g (mrk k0 zs zs.length) ∧ Only g w w' := by
  go_enter Tryz.func53, Tryz.ntmps53
  go_wp2_with fail
  go_loopw [1, 5] (fun vk vi wr => ∃ i : Nat, i ≤ zs.length ∧ vi = .int .i64 i ∧ vk = .int .i64 (k0 + (i : Int)) ∧ OwnS B wr g (mrk k0 zs i) ∧ Only g w wr) (fun _ vi _ => zs.length - (intOf vi).toNat)
  case atStart => exact ⟨0, Nat.zero_le _, rfl, by simp, by simpa [mrk] using ho, Only.refl _ _⟩
  case round =>
    obtain ⟨i, hi, rfl, rfl, st, on⟩ := hrel
    clear ho
    by_cases hlt : i < zs.length
    · obtain ⟨r0, r1⟩ := st.at i (by rw [mrk_len hi]; exact hlt)
      have st2 := st.put i (by rw [mrk_len hi]; exact hlt) (k0 + (i : Int))
      rw [mrk_set hlt] at st2
      have on2 := on.put i (.int .i64 (k0 + (i : Int)))
      clear st on
      generalize (mrk k0 zs i).getD i 0 = y at r0
      go_wp2
      go_roundw
      case rel => exact ⟨i + 1, by omega, by go_num, by go_num, st2, on2⟩
      case measure => simp [intOf]; omega
    · have hkl : i = zs.length := by omega
      subst hkl
      go_wp2
      go_ret
      exact ⟨rfl, st, on⟩
end Go.Proofs.YtdceimnapbblnaaGreat
namespace Go.Proofs.YtdceimnapbblnaaGreat
open Go.RowKit
set_option linter.unusedVariables false

def joinL (zs : List Int) (x : Int) : List Int := zs.take (blw zs x) ++ x :: zs.drop (blw zs x)
theorem joinL_len (zs : List Int) (x : Int) : (joinL zs x).length = zs.length + 1 := by
  have := blw_le x zs
  simp [joinL]; omega
def okJ (b d : Int) (zs : List Int) (x : Int) : Bool := askB b d zs x && !memI zs x && !decide (zs.length = 16)
theorem info_parts' : ∃ i0, Tryz.prog.info? 3 = some i0 ∧ i0.zero = some (.int .i64 0) ∧ i0.size = 1 ∧ i0.bytes = 8 := by
  obtain ⟨i0, h1, h2, h3, h4⟩ := info_parts info_int
  exact ⟨i0, h1, h2, h3, h4⟩
/-- the head of a row that came in -/
theorem olds_cells {w : World} {bk off : Nat} {zs : List Int} (h : RowAt w (some ⟨bk, off, none⟩) zs) (p : Nat) :
    ∀ q : Addr, some (⟨bk, off, none⟩ : Addr) = some q → ∀ (j : Nat) (u : Value), ((zs.take p).map (Value.int .i64))[j]? = some u → w.cell? (q.add j) = some u := by
  rintro q hq j u hj
  obtain rfl := Option.some.inj hq
  have hjl := (List.getElem?_eq_some_iff.1 hj).1
  simp only [List.length_map, List.length_take] at hjl
  rcases h with rfl | ⟨b', o', h, hl, hc⟩
  · simp at hjl
  · simp at h
    obtain ⟨rfl, rfl⟩ := h
    rw [Addr.add_lit, hc j (by omega)]
    rw [List.getElem?_map, List.getElem?_take_of_lt (by omega), List.getElem?_eq_getElem (by omega)] at hj
    rw [List.getD_eq_getElem?_getD, List.getElem?_eq_getElem (by omega)]
    simpa using hj
/-- its tail -/
theorem tail_cells {w : World} {bk off : Nat} {zs : List Int} (h : RowAt w (some ⟨bk, off, none⟩) zs) (p : Nat) :
    ∀ (j : Nat) (u : Value), ((zs.drop p).map (Value.int .i64))[j]? = some u → w.cell? ((⟨bk, off + p, none⟩ : Addr).add j) = some u := by
  intro j u hj
  have hjl := (List.getElem?_eq_some_iff.1 hj).1
  simp only [List.length_map, List.length_drop] at hjl
  rcases h with rfl | ⟨b', o', h, hl, hc⟩
  · simp at hjl
  · simp at h
    obtain ⟨rfl, rfl⟩ := h
    rw [Addr.add_lit, Nat.add_assoc, hc (p + j) (by omega)]
    rw [List.getElem?_map, List.getElem?_drop, List.getElem?_eq_getElem (by omega)] at hj
    rw [List.getD_eq_getElem?_getD, List.getElem?_eq_getElem (by omega)]
    simpa using hj
theorem tail_none {w : World} {zs : List Int} {p : Nat} (hp : zs.length ≤ p) (q : Addr) : ∀ (j : Nat) (u : Value), ((zs.drop p).map (Value.int .i64))[j]? = some u → w.cell? (q.add j) = some u := by
  intro j u hj
  rw [List.drop_of_length_le hp] at hj
  simp at hj
theorem tail_if {w : World} {bk off cap p : Nat} {zs : List Int} {A : Addr} (hA : (if cap = p then some (⟨bk, off, none⟩ : Addr) else some ⟨bk, off + p, none⟩) = some A) (h : RowAt w (some ⟨bk, off, none⟩) zs) (hcap : zs.length ≤ cap) (hp : p ≤ zs.length) :
    ∀ (j : Nat) (u : Value), ((zs.drop p).map (Value.int .i64))[j]? = some u → w.cell? (A.add j) = some u := by
  by_cases hpc : cap = p
  · exact tail_none (by omega) _
  · rw [if_neg hpc] at hA
    obtain rfl := Option.some.inj hA
    exact tail_cells h p
theorem grown_alloc {w w4 w5 : World} {o : Obj} (h : Below w.heap.size w w4) (hg : (w4.alloc o).grownBy w5 none) : Below w.heap.size w w5 :=
  (h.alloc h.size o).grown hg (by have := h.size; simp; omega) (fun k hk => by cases hk)
theorem alloc_size {w w4 : World} {o : Obj} (h : Below w.heap.size w w4) : w.heap.size ≤ (w4.alloc o).heap.size := by have := h.size; simp; omega
theorem grown_bel {n : Nat} {w0 w w1 : World} {r : Option Nat} (h : Below n w0 w) (hg : w.grownBy w1 r) (hn : n ≤ w.heap.size) (hr : ∀ k, r = some k → n ≤ k) : Below n w0 w1 := h.grown hg hn hr

end Go.Proofs.YtdceimnapbblnaaGreat
