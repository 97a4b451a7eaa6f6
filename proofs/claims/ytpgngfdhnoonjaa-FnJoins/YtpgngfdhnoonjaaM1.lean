/- The plain mathematics of digits. -/
import Derived.Test.YtpgngfdhnoonjaaA0
namespace Go.Proofs.Ytpgngfdhnoonjaa
set_option linter.unusedVariables false

def digL : Nat → Int → Int → List Int
  | 0, _, _ => []
  | k + 1, B, x => digL k B (x / B) ++ [x % B]
theorem digL_len (k : Nat) (B x : Int) : (digL k B x).length = k := by
  induction k generalizing x with
  | zero => rfl
  | succ k ih => simp [digL, ih]
theorem digL_mem (k : Nat) {B : Int} (hB : 0 < B) (x : Int) : ∀ g ∈ digL k B x, 0 ≤ g ∧ g < B := by
  induction k generalizing x with
  | zero => intro g hg; simp [digL] at hg
  | succ k ih =>
    intro g hg
    simp only [digL, List.mem_append, List.mem_singleton] at hg
    rcases hg with hg | hg
    · exact ih _ g hg
    · subst hg; exact ⟨Int.emod_nonneg _ (by omega), Int.emod_lt_of_pos _ hB⟩
/-- the count of a good space's digits, as a number -/
def cnt (b d : Int) : Nat := (b / d).toNat
theorem cnt_bd {b d : Int} (h1 : 1 ≤ b) (h2 : b ≤ 12) (h3 : 1 ≤ d) (h4 : d ≤ b) : b / d = (cnt b d : Int) ∧ 1 ≤ cnt b d ∧ cnt b d ≤ 12 := by
  have a1 : 1 ≤ b / d := (Int.le_ediv_iff_mul_le (by omega)).2 (by omega)
  have a2 : b / d ≤ 12 := by
    have : b / d ≤ b := Int.ediv_le_self _ (by omega)
    omega
  unfold cnt
  omega
theorem pow_cnt {b d : Int} (h1 : 1 ≤ b) (h3 : 1 ≤ d) (h4 : d ≤ b) (h5 : b % d = 0) : (sz d) ^ (cnt b d) = sz b := by
  unfold sz cnt
  rw [← Int.pow_mul]
  congr 1
  have e : d * (b / d) = b := Int.mul_ediv_cancel_of_emod_eq_zero h5
  have p1 : 0 ≤ b / d := Int.ediv_nonneg (by omega) (by omega)
  have : ((d.toNat * (b / d).toNat : Nat) : Int) = b := by
    rw [Int.natCast_mul, Int.toNat_of_nonneg (by omega), Int.toNat_of_nonneg p1, e]
  omega
def ofD (B : Int) (l : List Int) : Int := l.foldl (fun a g => a * B + g) 0
theorem ofD_snoc (B : Int) (l : List Int) (g : Int) : ofD B (l ++ [g]) = ofD B l * B + g := by simp [ofD]
theorem ofD_digL (k : Nat) {B : Int} (hB : 0 < B) (x : Int) (h0 : 0 ≤ x) (h1 : x < B ^ k) : ofD B (digL k B x) = x := by
  induction k generalizing x with
  | zero => simp [digL, ofD]; simp at h1; omega
  | succ k ih =>
    rw [digL, ofD_snoc, ih (x / B) (Int.ediv_nonneg h0 (by omega)) (by
      rw [Int.ediv_lt_iff_lt_mul hB]; rw [Int.pow_succ] at h1; exact h1)]
    have := Int.mul_ediv_add_emod x B
    rw [Int.mul_comm] at this; omega
theorem ofD_take {B : Int} {l : List Int} {k : Nat} (hk : k < l.length) : ofD B (l.take (k + 1)) = ofD B (l.take k) * B + l.getD k 0 := by
  rw [List.take_succ_eq_append_getElem hk, ofD_snoc]
  simp [List.getD_eq_getElem?_getD, List.getElem?_eq_getElem hk]
theorem ofD_bd {B : Int} (hB : 0 < B) (l : List Int) (k : Nat) (hk : k ≤ l.length) (h : ∀ i, i < k → 0 ≤ l.getD i 0 ∧ l.getD i 0 < B) : 0 ≤ ofD B (l.take k) ∧ ofD B (l.take k) < B ^ k := by
  induction k with
  | zero => simp [ofD]
  | succ k ih =>
    have ⟨i1, i2⟩ := ih (by omega) (fun i hi => h i (by omega))
    have ⟨g1, g2⟩ := h k (by omega)
    rw [ofD_take (by omega), Int.pow_succ]
    refine ⟨?_, ?_⟩
    · have := Int.mul_nonneg i1 (by omega : 0 ≤ B); omega
    · have h3 : (ofD B (l.take k) + 1) * B ≤ B ^ k * B := Int.mul_le_mul_of_nonneg_right (by omega) (by omega)
      rw [Int.add_mul] at h3; omega
theorem pow_le {B : Int} (hB : 1 ≤ B) {k n : Nat} (h : k ≤ n) : B ^ k ≤ B ^ n := by
  induction n with
  | zero => obtain rfl : k = 0 := by omega
            exact Int.le_refl _
  | succ n ih =>
    by_cases e : k = n + 1
    · subst e; exact Int.le_refl _
    · have := ih (by omega)
      have p : 0 ≤ B ^ n := Int.pow_nonneg (by omega)
      rw [Int.pow_succ]
      have h3 : B ^ n * 1 ≤ B ^ n * B := Int.mul_le_mul_of_nonneg_left hB p
      omega
/-- the row of twelve: digits, and nought behind them -/
def rowZ (n : Nat) (l : List Int) : List Int := l ++ List.replicate (12 - n) 0
def zv (l : List Int) : Array Value := (l.map (Value.int .i64)).toArray
theorem zv_get (l : List Int) (i : Nat) (h : i < l.length) : (zv l)[i]? = some (.int .i64 (l.getD i 0)) := by
  simp [zv, List.getD_eq_getElem?_getD, List.getElem?_eq_getElem h]
theorem zv_set (l : List Int) (i : Nat) (v : Int) : (zv l).setIfInBounds i (.int .i64 v) = zv (l.set i v) := by
  simp [zv, List.map_set]
theorem zv_size (l : List Int) : (zv l).size = l.length := by simp [zv]
end Go.Proofs.Ytpgngfdhnoonjaa
