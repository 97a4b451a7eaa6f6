/- The mathematics of a ring: members that rise, whose a number is, who is next, who is ahead, how far it is. -/
import Derived.Test.YtejajlloipkkhaaA3
namespace Go.Proofs.Ytejajlloipkkhaa
open Go.RowKit
set_option linter.unusedVariables false

def upB (zs : List Int) (k : Nat) : Bool := decide (∀ i, i < k → 0 < i → zs.getD (i - 1) 0 < zs.getD i 0)
def risB (zs : List Int) (lo hi : Int) : Bool := decide (∀ i, i < zs.length → (lo ≤ zs.getD i 0 ∧ zs.getD i 0 ≤ hi) ∧ (0 < i → zs.getD (i - 1) 0 < zs.getD i 0))
theorem risB_no {zs : List Int} {lo hi : Int} {k : Nat} (hk : k < zs.length) (h : ¬ ((lo ≤ zs.getD k 0 ∧ zs.getD k 0 ≤ hi) ∧ (0 < k → zs.getD (k - 1) 0 < zs.getD k 0))) : risB zs lo hi = false :=
  decide_eq_false (fun g => h (g k hk))
theorem risB_yes {zs : List Int} {lo hi : Int} (h : ∀ i, i < zs.length → (lo ≤ zs.getD i 0 ∧ zs.getD i 0 ≤ hi) ∧ (0 < i → zs.getD (i - 1) 0 < zs.getD i 0)) : risB zs lo hi = true := decide_eq_true h
def ringB (b d : Int) (zs : List Int) : Bool := gsB b d && inB (zs.length : Int) 1 16 && risB zs 0 (sz b - 1)

structure Ring (b d : Int) (zs : List Int) : Prop where
  gs : gsB b d = true
  l1 : 1 ≤ zs.length
  l2 : zs.length ≤ 16
  rng : ∀ i, i < zs.length → 0 ≤ zs.getD i 0 ∧ zs.getD i 0 < sz b
  ris : ∀ i j, i < j → j < zs.length → zs.getD i 0 < zs.getD j 0

theorem ris_all {zs : List Int} (h : ∀ i, i < zs.length → 0 < i → zs.getD (i - 1) 0 < zs.getD i 0) : ∀ i j, i < j → j < zs.length → zs.getD i 0 < zs.getD j 0 := by
  intro i j
  induction j with
  | zero => intro h1; omega
  | succ j ih =>
    intro h1 h2
    have h3 := h (j + 1) h2 (by omega)
    simp only [Nat.add_sub_cancel] at h3
    by_cases he : i = j
    · subst he; exact h3
    · exact Int.lt_trans (ih (by omega) (by omega)) h3

theorem ringB_true {b d : Int} {zs : List Int} (h : ringB b d zs = true) : Ring b d zs := by
  unfold ringB at h
  rw [Bool.and_eq_true, Bool.and_eq_true] at h
  obtain ⟨⟨h1, h2⟩, h3⟩ := h
  have h2 := inB_true h2
  have h3 := of_decide_eq_true h3
  exact ⟨h1, by omega, by omega, fun i hi => by have := (h3 i hi).1; omega, ris_all (fun i hi h0 => (h3 i hi).2 h0)⟩

/-- the loop of the program's GoodRing, over a length that is right -/
theorem ringB_no {b d : Int} {zs : List Int} {k : Nat} (hk : k < zs.length) (h : ¬ (numB b d (zs.getD k 0) = true ∧ (0 < k → zs.getD (k - 1) 0 < zs.getD k 0))) : ringB b d zs = false := by
  unfold ringB
  cases hg : gsB b d
  · rfl
  · have : risB zs 0 (sz b - 1) = false := by
      refine risB_no hk (fun g => h ⟨numB_yes hg (by omega) (by omega), g.2⟩)
    rw [this]; simp
theorem ringB_len {b d : Int} {zs : List Int} (h : ¬ (1 ≤ zs.length ∧ zs.length ≤ 16)) : ringB b d zs = false := by
  unfold ringB
  rw [inB_no (by omega)]; simp
theorem ringB_yes {b d : Int} {zs : List Int} (h1 : 1 ≤ zs.length) (h2 : zs.length ≤ 16) (h : ∀ i, i < zs.length → numB b d (zs.getD i 0) = true ∧ (0 < i → zs.getD (i - 1) 0 < zs.getD i 0)) : ringB b d zs = true := by
  have hg := (numB_true (h 0 (by omega)).1).1
  unfold ringB
  rw [hg, inB_yes (by omega) (by omega), risB_yes (fun i hi => by have := numB_true (h i hi).1; exact ⟨⟨by omega, by omega⟩, (h i hi).2⟩)]
  rfl

def blw (zs : List Int) (x : Int) : Nat := (zs.takeWhile (fun y => decide (y < x))).length
theorem getD_cons_succ' (z : Int) (zs : List Int) (i : Nat) : (z :: zs).getD (i + 1) 0 = zs.getD i 0 := rfl
theorem blw_eq {x : Int} : ∀ {zs : List Int} {k : Nat}, k ≤ zs.length → (∀ i, i < k → zs.getD i 0 < x) → (k < zs.length → ¬ zs.getD k 0 < x) → blw zs x = k
  | [], k, hk, _, _ => by simp at hk; subst hk; rfl
  | z :: zs, 0, _, _, h2 => by
    have := h2 (by simp)
    simp at this
    unfold blw
    rw [List.takeWhile_cons_of_neg (by simpa using this)]; rfl
  | z :: zs, k + 1, hk, h1, h2 => by
    have h0 := h1 0 (by omega)
    simp at h0
    have ih := blw_eq (x := x) (zs := zs) (k := k) (by simpa using hk) (fun i hi => by have := h1 (i + 1) (by omega); rwa [getD_cons_succ'] at this)
      (fun hl => by have := h2 (by simpa using hl); rwa [getD_cons_succ'] at this)
    unfold blw at ih ⊢
    rw [List.takeWhile_cons_of_pos (by simpa using h0)]
    simp [ih]
theorem blw_le (x : Int) : ∀ zs : List Int, blw zs x ≤ zs.length := fun zs => (List.takeWhile_sublist _).length_le
theorem blw_lt {x : Int} : ∀ {zs : List Int} (i : Nat), i < blw zs x → zs.getD i 0 < x
  | [], i, h => by simp [blw] at h
  | z :: zs, i, h => by
    unfold blw at h
    by_cases hz : z < x
    · rw [List.takeWhile_cons_of_pos (by simpa using hz)] at h
      cases i with
      | zero => simpa using hz
      | succ i => rw [getD_cons_succ']; exact blw_lt i (by unfold blw; simpa using h)
    · rw [List.takeWhile_cons_of_neg (by simpa using hz)] at h; simp at h
theorem blw_at {x : Int} : ∀ {zs : List Int}, blw zs x < zs.length → ¬ zs.getD (blw zs x) 0 < x
  | [], h => by simp at h
  | z :: zs, h => by
    unfold blw at h ⊢
    by_cases hz : z < x
    · rw [List.takeWhile_cons_of_pos (by simpa using hz)] at h ⊢
      exact blw_at (zs := zs) (by unfold blw; simpa using h)
    · rw [List.takeWhile_cons_of_neg (by simpa using hz)]; simpa using hz
theorem Ring.above {b d : Int} {zs : List Int} (R : Ring b d zs) (x : Int) (i : Nat) (h1 : blw zs x ≤ i) (h2 : i < zs.length) : x ≤ zs.getD i 0 := by
  have h3 := blw_at (x := x) (zs := zs) (by omega)
  by_cases he : i = blw zs x
  · subst he; omega
  · have := R.ris (blw zs x) i (by omega) h2; omega

def memI (zs : List Int) (x : Int) : Bool := decide (blw zs x < zs.length ∧ zs.getD (blw zs x) 0 = x)
def hasB (zs : List Int) (x : Int) : Bool := decide (∃ i, i < zs.length ∧ zs.getD i 0 = x)
theorem mem_has {b d : Int} {zs : List Int} (R : Ring b d zs) (x : Int) : memI zs x = hasB zs x := by
  unfold memI hasB
  by_cases h : ∃ i, i < zs.length ∧ zs.getD i 0 = x
  · rw [decide_eq_true h]
    obtain ⟨i, hi, he⟩ := h
    have hb : blw zs x = i := blw_eq (by omega) (fun j hj => by have := R.ris j i hj hi; omega) (fun _ => by omega)
    exact decide_eq_true (by rw [hb]; exact ⟨hi, he⟩)
  · rw [decide_eq_false h]
    exact decide_eq_false (fun g => h ⟨_, g.1, g.2⟩)
def uptI (zs : List Int) (x : Int) : Nat := blw zs x + (memI zs x).toNat
def ownI (zs : List Int) (k : Int) : Int := zs.getD (blw zs k % zs.length) 0
def nxtI (zs : List Int) (x : Int) : Int := zs.getD (uptI zs x % zs.length) 0
def prvI (zs : List Int) (x : Int) : Int := zs.getD ((blw zs x + zs.length - 1) % zs.length) 0

theorem upt_le (zs : List Int) (x : Int) : uptI zs x ≤ zs.length := by
  unfold uptI memI
  by_cases h : blw zs x < zs.length ∧ zs.getD (blw zs x) 0 = x
  · rw [decide_eq_true h]; simp; omega
  · rw [decide_eq_false h]; have := blw_le x zs; simp; omega
theorem upt_low {zs : List Int} {x : Int} {i : Nat} (h : i < uptI zs x) : zs.getD i 0 ≤ x := by
  unfold uptI memI at h
  by_cases hm : blw zs x < zs.length ∧ zs.getD (blw zs x) 0 = x
  · rw [decide_eq_true hm] at h
    simp at h
    by_cases he : i = blw zs x
    · subst he; omega
    · have := blw_lt (x := x) (zs := zs) i (by omega); omega
  · rw [decide_eq_false hm] at h
    have := blw_lt (x := x) (zs := zs) i (by simpa using h); omega
theorem Ring.upper {b d : Int} {zs : List Int} (R : Ring b d zs) (x : Int) (i : Nat) (h1 : uptI zs x ≤ i) (h2 : i < zs.length) : x < zs.getD i 0 := by
  unfold uptI memI at h1
  by_cases hm : blw zs x < zs.length ∧ zs.getD (blw zs x) 0 = x
  · rw [decide_eq_true hm] at h1
    simp at h1
    have := R.ris (blw zs x) i (by omega) h2
    omega
  · rw [decide_eq_false hm] at h1
    simp at h1
    have ha := R.above x i h1 h2
    by_cases he : zs.getD i 0 = x
    · exfalso
      by_cases hi : i = blw zs x
      · subst hi; exact hm ⟨h2, he⟩
      · have := R.ris (blw zs x) i (by omega) h2
        have := R.above x (blw zs x) (Nat.le_refl _) (by omega)
        omega
    · omega
/-- the place of a place that is one more than the last -/
theorem mod_wrap {u n : Nat} (hn : 1 ≤ n) (h : u ≤ n) : (u < n ∧ u % n = u) ∨ (u = n ∧ u % n = 0) := by
  by_cases h1 : u < n
  · exact .inl ⟨h1, Nat.mod_eq_of_lt h1⟩
  · have : u = n := by omega
    subst this
    exact .inr ⟨rfl, Nat.mod_self _⟩
theorem mod_back {p n : Nat} (hn : 1 ≤ n) (h : p ≤ n) : (p = 0 ∧ (p + n - 1) % n = n - 1) ∨ (0 < p ∧ (p + n - 1) % n = p - 1) := by
  by_cases h1 : p = 0
  · subst h1; exact .inl ⟨rfl, by rw [Nat.zero_add]; exact Nat.mod_eq_of_lt (by omega)⟩
  · have e : p + n - 1 = (p - 1) + n := by omega
    exact .inr ⟨by omega, by rw [e, Nat.add_mod_right]; exact Nat.mod_eq_of_lt (by omega)⟩

theorem dist_next {b x y : Int} (h1 : 0 ≤ x) (h2 : x < sz b) (h3 : 0 ≤ y) (h4 : y < sz b) : dist b ((x + 1) % sz b) y = if x < y then y - x - 1 else y - x - 1 + sz b := by
  by_cases he : x + 1 = sz b
  · rw [he, Int.emod_self, dist_eq (by omega) (by omega) h3 h4, if_pos h3, if_neg (by omega)]; omega
  · rw [Int.emod_eq_of_lt (by omega) (by omega), dist_eq (by omega) (by omega) h3 h4]
    split <;> split <;> omega
theorem dist_down {b x y : Int} (h1 : 0 ≤ x) (h2 : x < sz b) (h3 : 0 ≤ y) (h4 : y < sz b) : dist b y ((x + sz b - 1) % sz b) = if y < x then x - 1 - y else x - 1 - y + sz b := by
  by_cases he : x = 0
  · subst he
    rw [Int.emod_eq_of_lt (by omega) (by omega), dist_eq (by omega) (by omega) (by omega) (by omega), if_pos (by omega), if_neg (by omega)]; omega
  · have e : x + sz b - 1 = (x - 1) + sz b := by omega
    rw [e, Int.add_emod_right, Int.emod_eq_of_lt (by omega) (by omega), dist_eq (by omega) (by omega) (by omega) (by omega)]
    split <;> split <;> omega
theorem next_rng {b x : Int} (h1 : 0 ≤ x) (h2 : x < sz b) : 0 ≤ (x + 1) % sz b ∧ (x + 1) % sz b < sz b := ⟨Int.emod_nonneg _ (by omega), Int.emod_lt_of_pos _ (by omega)⟩
theorem down_rng {b x : Int} (h1 : 0 ≤ x) (h2 : x < sz b) : 0 ≤ (x + sz b - 1) % sz b ∧ (x + sz b - 1) % sz b < sz b := ⟨Int.emod_nonneg _ (by omega), Int.emod_lt_of_pos _ (by omega)⟩

theorem own_place {b d : Int} {zs : List Int} (R : Ring b d zs) (k : Int) : ∃ t, t < zs.length ∧ ownI zs k = zs.getD t 0 ∧ ((blw zs k < zs.length ∧ t = blw zs k) ∨ (blw zs k = zs.length ∧ t = 0)) := by
  have hl := R.l1
  rcases mod_wrap hl (blw_le k zs) with ⟨h, e⟩ | ⟨h, e⟩
  · exact ⟨_, h, by unfold ownI; rw [e], .inl ⟨h, rfl⟩⟩
  · exact ⟨0, by omega, by unfold ownI; rw [e], .inr ⟨h, rfl⟩⟩
theorem nxt_place {b d : Int} {zs : List Int} (R : Ring b d zs) (x : Int) : ∃ t, t < zs.length ∧ nxtI zs x = zs.getD t 0 ∧ ((uptI zs x < zs.length ∧ t = uptI zs x) ∨ (uptI zs x = zs.length ∧ t = 0)) := by
  have hl := R.l1
  rcases mod_wrap hl (upt_le zs x) with ⟨h, e⟩ | ⟨h, e⟩
  · exact ⟨_, h, by unfold nxtI; rw [e], .inl ⟨h, rfl⟩⟩
  · exact ⟨0, by omega, by unfold nxtI; rw [e], .inr ⟨h, rfl⟩⟩
theorem prv_place {b d : Int} {zs : List Int} (R : Ring b d zs) (x : Int) : ∃ t, t < zs.length ∧ prvI zs x = zs.getD t 0 ∧ ((blw zs x = 0 ∧ t = zs.length - 1) ∨ (0 < blw zs x ∧ t = blw zs x - 1)) := by
  have hl := R.l1
  have hb := blw_le x zs
  rcases mod_back hl hb with ⟨h, e⟩ | ⟨h, e⟩
  · exact ⟨_, by omega, by unfold prvI; rw [e], .inl ⟨h, rfl⟩⟩
  · exact ⟨blw zs x - 1, by omega, by unfold prvI; rw [e], .inr ⟨h, rfl⟩⟩
theorem own_min {b d : Int} {zs : List Int} (R : Ring b d zs) {k : Int} (h1 : 0 ≤ k) (h2 : k < sz b) (i : Nat) (hi : i < zs.length) : dist b k (ownI zs k) ≤ dist b k (zs.getD i 0) := by
  obtain ⟨t, ht, e, hp⟩ := own_place R k
  have rt := R.rng t ht
  have ri := R.rng i hi
  rw [e, dist_eq h1 h2 rt.1 rt.2, dist_eq h1 h2 ri.1 ri.2]
  rcases hp with ⟨hb, rfl⟩ | ⟨hb, rfl⟩
  · have ha := R.above k _ (Nat.le_refl _) hb
    rw [if_pos ha]
    by_cases hlt : i < blw zs k
    · have := blw_lt (x := k) i hlt; rw [if_neg (by omega)]; omega
    · have := R.above k i (by omega) hi
      rw [if_pos this]
      by_cases he : i = blw zs k
      · subst he; omega
      · have := R.ris (blw zs k) i (by omega) hi; omega
  · have := blw_lt (x := k) (zs := zs) i (by omega)
    have h0 := blw_lt (x := k) (zs := zs) 0 (by omega)
    rw [if_neg (by omega), if_neg (by omega)]
    by_cases he : i = 0
    · subst he; omega
    · have := R.ris 0 i (by omega) hi; omega
theorem nxt_min {b d : Int} {zs : List Int} (R : Ring b d zs) {x : Int} (h1 : 0 ≤ x) (h2 : x < sz b) (i : Nat) (hi : i < zs.length) : dist b ((x + 1) % sz b) (nxtI zs x) ≤ dist b ((x + 1) % sz b) (zs.getD i 0) := by
  obtain ⟨t, ht, e, hp⟩ := nxt_place R x
  have rt := R.rng t ht
  have ri := R.rng i hi
  rw [e, dist_next h1 h2 rt.1 rt.2, dist_next h1 h2 ri.1 ri.2]
  rcases hp with ⟨hb, rfl⟩ | ⟨hb, rfl⟩
  · have ha := R.upper x _ (Nat.le_refl _) hb
    rw [if_pos ha]
    by_cases hlt : i < uptI zs x
    · have := upt_low hlt; rw [if_neg (by omega)]; omega
    · have := R.upper x i (by omega) hi
      rw [if_pos this]
      by_cases he : i = uptI zs x
      · subst he; omega
      · have := R.ris (uptI zs x) i (by omega) hi; omega
  · have := upt_low (zs := zs) (x := x) (i := i) (by omega)
    have h0 := upt_low (zs := zs) (x := x) (i := 0) (by omega)
    rw [if_neg (by omega), if_neg (by omega)]
    by_cases he : i = 0
    · subst he; omega
    · have := R.ris 0 i (by omega) hi; omega
theorem prv_min {b d : Int} {zs : List Int} (R : Ring b d zs) {x : Int} (h1 : 0 ≤ x) (h2 : x < sz b) (i : Nat) (hi : i < zs.length) : dist b (prvI zs x) ((x + sz b - 1) % sz b) ≤ dist b (zs.getD i 0) ((x + sz b - 1) % sz b) := by
  obtain ⟨t, ht, e, hp⟩ := prv_place R x
  have rt := R.rng t ht
  have ri := R.rng i hi
  rw [e, dist_down h1 h2 rt.1 rt.2, dist_down h1 h2 ri.1 ri.2]
  rcases hp with ⟨hb, rfl⟩ | ⟨hb, rfl⟩
  · have ha := R.above x i (by omega) hi
    have hz := R.above x (zs.length - 1) (by omega) (by omega)
    rw [if_neg (by omega), if_neg (by omega)]
    by_cases he : i = zs.length - 1
    · subst he; omega
    · have := R.ris i (zs.length - 1) (by omega) (by omega); omega
  · have ha := blw_lt (x := x) (zs := zs) (blw zs x - 1) (by omega)
    rw [if_pos ha]
    by_cases hlt : i < blw zs x
    · have := blw_lt (x := x) i hlt
      rw [if_pos this]
      by_cases he : i = blw zs x - 1
      · subst he; omega
      · have := R.ris i (blw zs x - 1) (by omega) (by omega); omega
    · have := R.above x i (by omega) hi
      rw [if_neg (by omega)]; omega
theorem min_own {b d : Int} {zs : List Int} (R : Ring b d zs) {k : Int} (h1 : 0 ≤ k) (h2 : k < sz b) {t : Nat} (ht : t < zs.length) (hm : ∀ i, i < zs.length → dist b k (zs.getD t 0) ≤ dist b k (zs.getD i 0)) : zs.getD t 0 = ownI zs k := by
  obtain ⟨q, hq, e, _⟩ := own_place R k
  have a1 := own_min R h1 h2 t ht
  have a2 := hm q hq
  rw [e] at a1 ⊢
  have rt := R.rng t ht
  have rq := R.rng q hq
  exact dist_inj h1 h2 rt.1 rt.2 rq.1 rq.2 (by omega)
theorem own_next {b d : Int} {zs : List Int} (R : Ring b d zs) {x : Int} (h1 : 0 ≤ x) (h2 : x < sz b) : ownI zs ((x + 1) % sz b) = nxtI zs x := by
  obtain ⟨t, ht, e, _⟩ := nxt_place R x
  have r := next_rng h1 h2
  have := min_own R r.1 r.2 ht (fun i hi => by rw [← e]; exact nxt_min R h1 h2 i hi)
  rw [← this, e]
theorem dist_inj_l {b x y z : Int} (x1 : 0 ≤ x) (x2 : x < sz b) (y1 : 0 ≤ y) (y2 : y < sz b) (z1 : 0 ≤ z) (z2 : z < sz b) (h : dist b x z = dist b y z) : x = y := by
  rw [dist_eq x1 x2 z1 z2, dist_eq y1 y2 z1 z2] at h
  split at h <;> split at h <;> omega
theorem min_prv {b d : Int} {zs : List Int} (R : Ring b d zs) {x : Int} (h1 : 0 ≤ x) (h2 : x < sz b) {t : Nat} (ht : t < zs.length) (hm : ∀ i, i < zs.length → dist b (zs.getD t 0) ((x + sz b - 1) % sz b) ≤ dist b (zs.getD i 0) ((x + sz b - 1) % sz b)) : zs.getD t 0 = prvI zs x := by
  obtain ⟨q, hq, e, _⟩ := prv_place R x
  have a1 := prv_min R h1 h2 t ht
  have a2 := hm q hq
  rw [e] at a1 ⊢
  have rt := R.rng t ht
  have rq := R.rng q hq
  have r := down_rng h1 h2
  exact dist_inj_l rt.1 rt.2 rq.1 rq.2 r.1 r.2 (by omega)
theorem blw_mem {b d : Int} {zs : List Int} (R : Ring b d zs) {j : Nat} (hj : j < zs.length) : blw zs (zs.getD j 0) = j := blw_eq (by omega) (fun i hi => R.ris i j hi hj) (fun _ => by omega)
theorem mem_at {b d : Int} {zs : List Int} (R : Ring b d zs) {j : Nat} (hj : j < zs.length) : memI zs (zs.getD j 0) = true := decide_eq_true (by rw [blw_mem R hj]; exact ⟨hj, rfl⟩)
theorem upt_mem {b d : Int} {zs : List Int} (R : Ring b d zs) {j : Nat} (hj : j < zs.length) : uptI zs (zs.getD j 0) = j + 1 := by unfold uptI; rw [mem_at R hj, blw_mem R hj]; rfl
theorem nxt_at {b d : Int} {zs : List Int} (R : Ring b d zs) {j : Nat} (hj : j < zs.length) : nxtI zs (zs.getD j 0) = zs.getD ((j + 1) % zs.length) 0 := by unfold nxtI; rw [upt_mem R hj]
theorem prv_at {b d : Int} {zs : List Int} (R : Ring b d zs) {j : Nat} (hj : j < zs.length) : prvI zs (zs.getD j 0) = zs.getD ((j + zs.length - 1) % zs.length) 0 := by unfold prvI; rw [blw_mem R hj]
theorem inj {b d : Int} {zs : List Int} (R : Ring b d zs) {i j : Nat} (hi : i < zs.length) (hj : j < zs.length) (h : zs.getD i 0 = zs.getD j 0) : i = j := by
  by_cases h1 : i < j
  · have := R.ris i j h1 hj; omega
  · by_cases h2 : j < i
    · have := R.ris j i h2 hi; omega
    · omega
theorem mem_place {b d : Int} {zs : List Int} (R : Ring b d zs) {x : Int} (h : memI zs x = true) : ∃ j, j < zs.length ∧ x = zs.getD j 0 := by
  have := of_decide_eq_true h
  exact ⟨_, this.1, this.2.symm⟩
/-- a member alone is its own next one, and no other member is -/
theorem nxt_self {b d : Int} {zs : List Int} (R : Ring b d zs) {j : Nat} (hj : j < zs.length) : zs.getD j 0 = nxtI zs (zs.getD j 0) ↔ zs.length = 1 := by
  rw [nxt_at R hj]
  have hl := R.l1
  constructor
  · intro h
    have hm : (j + 1) % zs.length < zs.length := Nat.mod_lt _ (by omega)
    have e := inj R hj hm h
    rcases mod_wrap hl (show j + 1 ≤ zs.length by omega) with ⟨_, e2⟩ | ⟨h3, e2⟩ <;> omega
  · intro h
    have hj0 : j = 0 := by omega
    subst hj0
    rw [h]
theorem nxt_prv {b d : Int} {zs : List Int} (R : Ring b d zs) {j : Nat} (hj : j < zs.length) : nxtI zs (prvI zs (zs.getD j 0)) = zs.getD j 0 := by
  have hl := R.l1
  rw [prv_at R hj]
  rcases mod_back hl (show j ≤ zs.length by omega) with ⟨h, e⟩ | ⟨h, e⟩
  · rw [e, nxt_at R (by omega)]
    subst h
    rw [show zs.length - 1 + 1 = zs.length by omega, Nat.mod_self]
  · rw [e, nxt_at R (by omega), show j - 1 + 1 = j by omega, Nat.mod_eq_of_lt hj]
theorem prv_nxt {b d : Int} {zs : List Int} (R : Ring b d zs) {j : Nat} (hj : j < zs.length) : prvI zs (nxtI zs (zs.getD j 0)) = zs.getD j 0 := by
  have hl := R.l1
  rw [nxt_at R hj]
  rcases mod_wrap hl (show j + 1 ≤ zs.length by omega) with ⟨h, e⟩ | ⟨h, e⟩
  · rw [e, prv_at R h, show j + 1 + zs.length - 1 = j + zs.length by omega, Nat.add_mod_right, Nat.mod_eq_of_lt hj]
  · rw [e, prv_at R (by omega), show 0 + zs.length - 1 = j by omega, Nat.mod_eq_of_lt hj]
/-- how far it is from a up to c, once round where they are the same -/
def rnd (b a c : Int) : Int := if a = c then sz b else dist b a c
/-- the specification's gap -/
def gapS (b : Int) (zs : List Int) (x : Int) : Int := if zs.length = 1 then sz b else dist b x (nxtI zs x)
theorem gap_eq {b d : Int} {zs : List Int} (R : Ring b d zs) {x : Int} (h : memI zs x = true) : gapS b zs x = rnd b x (nxtI zs x) := by
  obtain ⟨j, hj, rfl⟩ := mem_place R h
  have := nxt_self R hj
  unfold gapS rnd
  by_cases hl : zs.length = 1
  · rw [if_pos hl, if_pos (this.2 hl)]
  · rw [if_neg hl, if_neg (fun e => hl (this.1 e))]
theorem keys_eq {b d : Int} {zs : List Int} (R : Ring b d zs) {x : Int} (h : memI zs x = true) : gapS b zs (prvI zs x) = rnd b (prvI zs x) x := by
  obtain ⟨j, hj, rfl⟩ := mem_place R h
  obtain ⟨t, ht, e, _⟩ := prv_place R (zs.getD j 0)
  have hm : memI zs (prvI zs (zs.getD j 0)) = true := by rw [e]; exact mem_at R ht
  rw [gap_eq R hm, nxt_prv R hj]
end Go.Proofs.Ytejajlloipkkhaa
