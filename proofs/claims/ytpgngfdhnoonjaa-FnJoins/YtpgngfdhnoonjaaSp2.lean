/- PutRow and DropRow as the laws call them. -/
import Derived.Test.YtpgngfdhnoonjaaSp1
namespace Go.Proofs.Ytpgngfdhnoonjaa.Tb
open Go.RowKit Wire
set_option linter.unusedVariables false
theorem ptB_gt {b d : Int} {ms : List Rw} {key val : Int} (h : ptB b d ms key val = true) : GT b d ms := by
  unfold ptB at h
  rw [Bool.and_eq_true, Bool.and_eq_true, Bool.and_eq_true] at h
  exact goodT_gt h.1.1.1
theorem dpB_gt {b d : Int} {ms : List Rw} {key : Int} (h : dpB b d ms key = true) : GT b d ms := by
  unfold dpB gtB rfB at h
  rw [Bool.and_eq_true, Bool.and_eq_true, Bool.and_eq_true] at h
  exact goodT_gt h.1.1.1
theorem ptL_big (b d : Int) (ms : List Rw) (key val : Int) : (ptL b d ms key val).length ≤ 1048576 := by
  cases h : ptB b d ms key val
  · rw [ptL_no h]; simp
  · rw [ptL_yes h]
    have := put_len (ptB_gt h) (newR ms key val false)
    omega
theorem dpL_big (b d : Int) (ms : List Rw) (key : Int) : (dpL b d ms key).length ≤ 1048576 := by
  cases h : dpB b d ms key
  · rw [dpL_no h]; simp
  · rw [dpL_yes h]
    have := put_len (dpB_gt h) (newR ms key 0 true)
    omega
theorem lPutRow_own (b d : Int) (a : Option Addr) (cap n : Nat) (ms : List Rw) (key : Int) (val : Int) (w : World) (hn : ms.length = n) (hm : n ≤ 1048576) (hr : LsAt tyRw w a ms) (hce : cap = n) :
    Calls Try.prog 16 #[.agg #[.int .i64 b, .int .i64 d], .slice a n cap, .int .i64 key, .int .i64 val] w fun e w' => ∃ a' n' c, e = .returned (.tuple #[.slice a' n' c, .bool (ptB b d ms key val)]) ∧ (ptL b d ms key val).length = n' ∧ LsAt tyRw w' a' (ptL b d ms key val) ∧ Below w.heap.size w w' := by
  subst hce
  refine (lPutRow_any b d a cap cap ms key val w hn hm (Nat.le_refl _) (fun h => by
    subst h
    have := lsAt_none hr
    subst this
    exact hn.symm) hr).mono ?_
  rintro e w1 ⟨a', n', c, rfl, q1, q2, _, _, q3⟩
  exact ⟨a', n', c, rfl, q1, q2, q3⟩
theorem PutRow_own (b d : Int) (a : Option Addr) (cap n : Nat) (ms : List Rw) (key : Int) (val : Int) (w : World) (hn : ms.length = n) (hm : n ≤ 1048576) (hr : LsAt tyRw w a ms) (hk : Wf key) :
    Calls Try.prog 15 #[.agg #[.int .i64 b, .int .i64 d], .slice a n cap, .int .i64 key, .int .i64 val] w fun e w' => ∃ a' n' c, e = .returned (.tuple #[.slice a' n' c, .bool (ptB b d ms key val)]) ∧ (ptL b d ms key val).length = n' ∧ OwnEs tyRw 37 w.heap.size w'.heap.size w' a' n' (ptL b d ms key val) ∧ Below w.heap.size w w' :=
  PutRow_any b d a cap n ms key val w hk hn hm hr
theorem lDropRow_own (b d : Int) (a : Option Addr) (cap n : Nat) (ms : List Rw) (key : Int) (w : World) (hn : ms.length = n) (hm : n ≤ 1048576) (hr : LsAt tyRw w a ms) (hce : cap = n) :
    Calls Try.prog 25 #[.agg #[.int .i64 b, .int .i64 d], .slice a n cap, .int .i64 key] w fun e w' => ∃ a' n' c, e = .returned (.tuple #[.slice a' n' c, .bool (dpB b d ms key)]) ∧ (dpL b d ms key).length = n' ∧ LsAt tyRw w' a' (dpL b d ms key) ∧ Below w.heap.size w w' := by
  subst hce
  refine (lDropRow_any b d a cap cap ms key w hn hm (Nat.le_refl _) (fun h => by
    subst h
    have := lsAt_none hr
    subst this
    exact hn.symm) hr).mono ?_
  rintro e w1 ⟨a', n', c, rfl, q1, q2, _, _, q3⟩
  exact ⟨a', n', c, rfl, q1, q2, q3⟩
theorem DropRow_own (b d : Int) (a : Option Addr) (cap n : Nat) (ms : List Rw) (key : Int) (w : World) (hn : ms.length = n) (hm : n ≤ 1048576) (hr : LsAt tyRw w a ms) (hk : Wf key) :
    Calls Try.prog 21 #[.agg #[.int .i64 b, .int .i64 d], .slice a n cap, .int .i64 key] w fun e w' => ∃ a' n' c, e = .returned (.tuple #[.slice a' n' c, .bool (dpB b d ms key)]) ∧ (dpL b d ms key).length = n' ∧ OwnEs tyRw 37 w.heap.size w'.heap.size w' a' n' (dpL b d ms key) ∧ Below w.heap.size w w' :=
  DropRow_any b d a cap n ms key w hk hn hm hr
end Go.Proofs.Ytpgngfdhnoonjaa.Tb
