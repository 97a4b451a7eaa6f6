/- Ways through the ring: each forward brings the end nearer. -/
import Derived.Test.YtejajlloipkkhaaN0
namespace Go.Proofs.Ytejajlloipkkhaa
open Go.RowKit
set_option linter.unusedVariables false
theorem dist_up {b x y : Int} (x1 : 0 ≤ x) (y2 : y < sz b) (h : x ≤ y) : dist b x y = y - x := by
  unfold dist
  rw [show y - x + sz b = (y - x) + sz b * 1 by omega, Int.add_mul_emod_self_left]
  exact Int.emod_eq_of_lt (by omega) (by omega)
theorem dist_dn {b x y : Int} (y1 : 0 ≤ y) (x2 : x < sz b) (h : y < x) : dist b x y = y - x + sz b := by
  unfold dist
  exact Int.emod_eq_of_lt (by omega) (by omega)
/-- going up from place i to place t round a ring of n -/
def md (n t i : Nat) : Nat := (t + n - i) % n
theorem md_lt {n t i : Nat} (hn : 0 < n) : md n t i < n := Nat.mod_lt _ hn
theorem md_le {n t i : Nat} (ht : t < n) (h : i ≤ t) : md n t i = t - i := by
  unfold md
  rw [show t + n - i = (t - i) + n by omega, Nat.add_mod_right, Nat.mod_eq_of_lt (by omega)]
theorem md_gt {n t i : Nat} (hi : i < n) (h : t < i) : md n t i = t + n - i := by
  unfold md
  rw [Nat.mod_eq_of_lt (by omega)]
theorem md_zero {n t i : Nat} (ht : t < n) (hi : i < n) (h : md n t i = 0) : t = i := by
  by_cases hti : i ≤ t
  · rw [md_le ht hti] at h; omega
  · rw [md_gt hi (by omega)] at h; omega
theorem md_step {n t i : Nat} (ht : t < n) (hi : i < n) (h : ¬ md n t i = 0) : md n t ((i + 1) % n) + 1 = md n t i := by
  by_cases hti : i ≤ t
  · rw [md_le ht hti] at h ⊢
    rw [Nat.mod_eq_of_lt (show i + 1 < n by omega), md_le ht (by omega)]
    omega
  · rw [md_gt hi (by omega)]
    by_cases hl : i + 1 < n
    · rw [Nat.mod_eq_of_lt hl, md_gt hl (by omega)]
      omega
    · rw [show i + 1 = n by omega, Nat.mod_self, md_le ht (Nat.zero_le _)]
      omega
/-- the place of the first member going down from a number, it counted -/
def dnP (zs : List Int) (t : Int) : Nat := (uptI zs t + zs.length - 1) % zs.length
/-- the place of the first member going down from a number, it not counted -/
def pvP (zs : List Int) (t : Int) : Nat := (blw zs t + zs.length - 1) % zs.length
theorem dn_btw {b d : Int} {zs : List Int} (R : Ring b d zs) {t : Int} (t1 : 0 ≤ t) (t2 : t < sz b) {i : Nat} (hi : i < zs.length) (h : dnP zs t = i) : t = zs.getD i 0 ∨ btwB b (zs.getD i 0) t (nxtI zs (zs.getD i 0)) = true := by
  have l1 := R.l1
  have hle := upt_le zs t
  by_cases he : t = zs.getD i 0
  · exact .inl he
  · refine .inr (decide_eq_true ?_)
    rw [nxt_at R hi]
    obtain ⟨m1, m2⟩ := R.rng i hi
    unfold dnP at h
    by_cases hu : uptI zs t = 0
    · have hin : i = zs.length - 1 := by rw [← h, hu, Nat.zero_add, Nat.mod_eq_of_lt (by omega)]
      have h0 := R.upper t 0 (by omega) (by omega)
      have e : (i + 1) % zs.length = 0 := by rw [show i + 1 = zs.length by omega, Nat.mod_self]
      rw [e]
      by_cases hn : zs.length = 1
      · have hi0 : i = 0 := by omega
        subst hi0
        exact ⟨⟨he, by omega⟩, .inl rfl⟩
      · have h2 := R.ris 0 i (by omega) hi
        have r0 := R.rng 0 (by omega)
        refine ⟨⟨he, by omega⟩, .inr ⟨he, ?_⟩⟩
        rw [dist_dn t1 m2 (by omega), dist_dn r0.1 m2 h2]
        omega
    · have hin : i = uptI zs t - 1 := by
        rw [← h, show uptI zs t + zs.length - 1 = (uptI zs t - 1) + zs.length by omega, Nat.add_mod_right, Nat.mod_eq_of_lt (by omega)]
      have hlo := upt_low (zs := zs) (x := t) (i := i) (by omega)
      by_cases hl : i + 1 < zs.length
      · rw [Nat.mod_eq_of_lt hl]
        have hup := R.upper t (i + 1) (by omega) hl
        obtain ⟨q1, q2⟩ := R.rng (i + 1) hl
        refine ⟨⟨he, by omega⟩, .inr ⟨he, ?_⟩⟩
        rw [dist_up m1 t2 hlo, dist_up m1 q2 (by omega)]
        omega
      · have e : (i + 1) % zs.length = 0 := by rw [show i + 1 = zs.length by omega, Nat.mod_self]
        rw [e]
        by_cases hn : zs.length = 1
        · have hi0 : i = 0 := by omega
          subst hi0
          exact ⟨⟨he, he⟩, .inl rfl⟩
        · have h2 := R.ris 0 i (by omega) hi
          have r0 := R.rng 0 (by omega)
          refine ⟨⟨he, by omega⟩, .inr ⟨he, ?_⟩⟩
          rw [dist_up m1 t2 hlo, dist_dn r0.1 m2 h2]
          omega
theorem pv_arc {b d : Int} {zs : List Int} (R : Ring b d zs) {t : Int} (t1 : 0 ≤ t) (t2 : t < sz b) {i : Nat} (hi : i < zs.length) (h : pvP zs t = i) : t = zs.getD i 0 ∨ arcB b (zs.getD i 0) t (nxtI zs (zs.getD i 0)) = true := by
  have l1 := R.l1
  have hle := blw_le t zs
  by_cases he : t = zs.getD i 0
  · exact .inl he
  · refine .inr (decide_eq_true ?_)
    rw [nxt_at R hi]
    obtain ⟨m1, m2⟩ := R.rng i hi
    unfold pvP at h
    by_cases hu : blw zs t = 0
    · have hin : i = zs.length - 1 := by rw [← h, hu, Nat.zero_add, Nat.mod_eq_of_lt (by omega)]
      have h0 := R.above t 0 (by omega) (by omega)
      have e : (i + 1) % zs.length = 0 := by rw [show i + 1 = zs.length by omega, Nat.mod_self]
      rw [e]
      by_cases hn : zs.length = 1
      · have hi0 : i = 0 := by omega
        subst hi0
        exact .inl rfl
      · have h2 := R.ris 0 i (by omega) hi
        have r0 := R.rng 0 (by omega)
        refine .inr ⟨he, ?_⟩
        rw [dist_dn t1 m2 (by omega), dist_dn r0.1 m2 h2]
        omega
    · have hin : i = blw zs t - 1 := by
        rw [← h, show blw zs t + zs.length - 1 = (blw zs t - 1) + zs.length by omega, Nat.add_mod_right, Nat.mod_eq_of_lt (by omega)]
      have hlo := blw_lt (zs := zs) (x := t) i (by omega)
      by_cases hl : i + 1 < zs.length
      · rw [Nat.mod_eq_of_lt hl]
        have hup := R.above t (i + 1) (by omega) hl
        obtain ⟨q1, q2⟩ := R.rng (i + 1) hl
        refine .inr ⟨he, ?_⟩
        rw [dist_up m1 t2 (by omega), dist_up m1 q2 (by omega)]
        omega
      · have e : (i + 1) % zs.length = 0 := by rw [show i + 1 = zs.length by omega, Nat.mod_self]
        rw [e]
        by_cases hn : zs.length = 1
        · have hi0 : i = 0 := by omega
          subst hi0
          exact .inl rfl
        · have h2 := R.ris 0 i (by omega) hi
          have r0 := R.rng 0 (by omega)
          refine .inr ⟨he, ?_⟩
          rw [dist_up m1 t2 (by omega), dist_dn r0.1 m2 h2]
          omega
/-- who is found is the owner -/
theorem arc_own {b d : Int} {zs : List Int} (R : Ring b d zs) {t : Int} (t1 : 0 ≤ t) (t2 : t < sz b) {i : Nat} (hi : i < zs.length) (hne : ¬ t = zs.getD i 0) (h : arcB b (zs.getD i 0) t (nxtI zs (zs.getD i 0)) = true) : nxtI zs (zs.getD i 0) = ownI zs t := by
  have l1 := R.l1
  have h' := of_decide_eq_true h
  rw [nxt_at R hi] at h' ⊢
  obtain ⟨m1, m2⟩ := R.rng i hi
  have key : blw zs t % zs.length = (i + 1) % zs.length := by
    by_cases hn : zs.length = 1
    · rw [hn, Nat.mod_one, Nat.mod_one]
    · have hd : dist b (zs.getD i 0) t ≤ dist b (zs.getD i 0) (zs.getD ((i + 1) % zs.length) 0) := by
        rcases h' with h' | h'
        · have := inj R hi (Nat.mod_lt _ (by omega)) h'
          by_cases hl : i + 1 < zs.length
          · rw [Nat.mod_eq_of_lt hl] at this; omega
          · rw [show i + 1 = zs.length by omega, Nat.mod_self] at this; omega
        · exact h'.2
      by_cases hgt : zs.getD i 0 < t
      · rw [dist_up m1 t2 (by omega)] at hd
        by_cases hl : i + 1 < zs.length
        · rw [Nat.mod_eq_of_lt hl] at hd ⊢
          have hq := R.rng (i + 1) hl
          have hr := R.ris i (i + 1) (by omega) hl
          rw [dist_up m1 hq.2 (by omega)] at hd
          rw [blw_eq (k := i + 1) (by omega) (fun j hj => by
            by_cases hji : j = i
            · subst hji; exact hgt
            · have := R.ris j i (by omega) hi; omega) (fun _ => by omega)]
          exact Nat.mod_eq_of_lt hl
        · rw [blw_eq (k := zs.length) (Nat.le_refl _) (fun j hj => by
            by_cases hji : j = i
            · subst hji; exact hgt
            · have := R.ris j i (by omega) hi; omega) (fun h => by omega), show i + 1 = zs.length by omega]
      · have hlt : t < zs.getD i 0 := by omega
        rw [dist_dn t1 m2 hlt] at hd
        by_cases hl : i + 1 < zs.length
        · rw [Nat.mod_eq_of_lt hl] at hd
          have hq := R.rng (i + 1) hl
          have hr := R.ris i (i + 1) (by omega) hl
          rw [dist_up m1 hq.2 (by omega)] at hd
          omega
        · have e : (i + 1) % zs.length = 0 := by rw [show i + 1 = zs.length by omega, Nat.mod_self]
          rw [e] at hd ⊢
          have h2 := R.ris 0 i (by omega) hi
          have r0 := R.rng 0 (by omega)
          rw [dist_dn r0.1 m2 h2] at hd
          rw [blw_eq (k := 0) (by omega) (fun j hj => by omega) (fun _ => by omega)]
          simp
  unfold ownI
  rw [key]
theorem own_self {b d : Int} {zs : List Int} (R : Ring b d zs) {i : Nat} (hi : i < zs.length) : ownI zs (zs.getD i 0) = zs.getD i 0 := by
  unfold ownI
  rw [blw_mem R hi, Nat.mod_eq_of_lt hi]
end Go.Proofs.Ytejajlloipkkhaa
