/- Ways through the ring: each forward brings the end nearer. Ways through the ring: with forwards enough the owner is found, and never another one. Ways through the ring: the best number to begin with. The row of a number's digits: what rowOf answers. DigitsOf on both sides: the digits, the highest first, in new memory. The best number to begin with, on both sides. BestImag on both sides. Structs in blocks of their own: read, written cell by cell, written whole, answered. Ways through the ring: the small helpers of both sides. The specification's GoodNet. Looks put to their places, and lists of looks, in numbers. GoodMsg of the program: what its helpers answer. GoodMsg of the program. GoodMsg: the program answers as the specification. The program's helpers at nets: lists asked, looks gathered. -/
import Derived.Laws.Rows
import Derived.Laws.Tables
import Derived.Laws.CopyOwn
import Derived.Deep.DeepCutAuto
import Derived.Test.YtioiacmaijgdoaaZ0
import Derived.Test.YtioiacmaijgdoaaZ1
import Derived.Test.YtioiacmaijgdoaaZ2
import Derived.Test.YtioiacmaijgdoaaZ3
namespace Go.Proofs.Ytioiacmaijgdoaa
open Go.RowKit
set_option linter.unusedVariables false
theorem dist_up {b x y : Int} (x1 : 0 ≤ x) (y2 : y < sz b) (h : x ≤ y) : dist b x y = y - x := by
  unfold dist
  rw [show y - x + sz b = (y - x) + sz b * 1 by omega, Int.add_mul_emod_self_left]
  exact Int.emod_eq_of_lt (by omega) (by omega)
theorem dist_dn {b x y : Int} (y1 : 0 ≤ y) (x2 : x < sz b) (h : y < x) : dist b x y = y - x + sz b := by
  unfold dist
  exact Int.emod_eq_of_lt (by omega) (by omega)
/-- going up from place i to place t round a ring of n -/
def md (n t i : Nat) : Nat := (t + n - i) % n
theorem md_lt {n t i : Nat} (hn : 0 < n) : md n t i < n := Nat.mod_lt _ hn
theorem md_le {n t i : Nat} (ht : t < n) (h : i ≤ t) : md n t i = t - i := by
  unfold md
  rw [show t + n - i = (t - i) + n by omega, Nat.add_mod_right, Nat.mod_eq_of_lt (by omega)]
theorem md_gt {n t i : Nat} (hi : i < n) (h : t < i) : md n t i = t + n - i := by
  unfold md
  rw [Nat.mod_eq_of_lt (by omega)]
theorem md_zero {n t i : Nat} (ht : t < n) (hi : i < n) (h : md n t i = 0) : t = i := by
  by_cases hti : i ≤ t
  · rw [md_le ht hti] at h; omega
  · rw [md_gt hi (by omega)] at h; omega
theorem md_step {n t i : Nat} (ht : t < n) (hi : i < n) (h : ¬ md n t i = 0) : md n t ((i + 1) % n) + 1 = md n t i := by
  by_cases hti : i ≤ t
  · rw [md_le ht hti] at h ⊢
    rw [Nat.mod_eq_of_lt (show i + 1 < n by omega), md_le ht (by omega)]
    omega
  · rw [md_gt hi (by omega)]
    by_cases hl : i + 1 < n
    · rw [Nat.mod_eq_of_lt hl, md_gt hl (by omega)]
      omega
    · rw [show i + 1 = n by omega, Nat.mod_self, md_le ht (Nat.zero_le _)]
      omega
/-- the place of the first member going down from a number, it counted -/
def dnP (zs : List Int) (t : Int) : Nat := (uptI zs t + zs.length - 1) % zs.length
/-- the place of the first member going down from a number, it not counted -/
def pvP (zs : List Int) (t : Int) : Nat := (blw zs t + zs.length - 1) % zs.length
theorem dn_btw {b d : Int} {zs : List Int} (R : Ring b d zs) {t : Int} (t1 : 0 ≤ t) (t2 : t < sz b) {i : Nat} (hi : i < zs.length) (h : dnP zs t = i) : t = zs.getD i 0 ∨ btwB b (zs.getD i 0) t (nxtI zs (zs.getD i 0)) = true := by
  have l1 := R.l1
  have hle := upt_le zs t
  by_cases he : t = zs.getD i 0
  · exact .inl he
  · refine .inr (decide_eq_true ?_)
    rw [nxt_at R hi]
    obtain ⟨m1, m2⟩ := R.rng i hi
    unfold dnP at h
    by_cases hu : uptI zs t = 0
    · have hin : i = zs.length - 1 := by rw [← h, hu, Nat.zero_add, Nat.mod_eq_of_lt (by omega)]
      have h0 := R.upper t 0 (by omega) (by omega)
      have e : (i + 1) % zs.length = 0 := by rw [show i + 1 = zs.length by omega, Nat.mod_self]
      rw [e]
      by_cases hn : zs.length = 1
      · have hi0 : i = 0 := by omega
        subst hi0
        exact ⟨⟨he, by omega⟩, .inl rfl⟩
      · have h2 := R.ris 0 i (by omega) hi
        have r0 := R.rng 0 (by omega)
        refine ⟨⟨he, by omega⟩, .inr ⟨he, ?_⟩⟩
        rw [dist_dn t1 m2 (by omega), dist_dn r0.1 m2 h2]
        omega
    · have hin : i = uptI zs t - 1 := by
        rw [← h, show uptI zs t + zs.length - 1 = (uptI zs t - 1) + zs.length by omega, Nat.add_mod_right, Nat.mod_eq_of_lt (by omega)]
      have hlo := upt_low (zs := zs) (x := t) (i := i) (by omega)
      by_cases hl : i + 1 < zs.length
      · rw [Nat.mod_eq_of_lt hl]
        have hup := R.upper t (i + 1) (by omega) hl
        obtain ⟨q1, q2⟩ := R.rng (i + 1) hl
        refine ⟨⟨he, by omega⟩, .inr ⟨he, ?_⟩⟩
        rw [dist_up m1 t2 hlo, dist_up m1 q2 (by omega)]
        omega
      · have e : (i + 1) % zs.length = 0 := by rw [show i + 1 = zs.length by omega, Nat.mod_self]
        rw [e]
        by_cases hn : zs.length = 1
        · have hi0 : i = 0 := by omega
          subst hi0
          exact ⟨⟨he, he⟩, .inl rfl⟩
        · have h2 := R.ris 0 i (by omega) hi
          have r0 := R.rng 0 (by omega)
          refine ⟨⟨he, by omega⟩, .inr ⟨he, ?_⟩⟩
          rw [dist_up m1 t2 hlo, dist_dn r0.1 m2 h2]
          omega
theorem pv_arc {b d : Int} {zs : List Int} (R : Ring b d zs) {t : Int} (t1 : 0 ≤ t) (t2 : t < sz b) {i : Nat} (hi : i < zs.length) (h : pvP zs t = i) : t = zs.getD i 0 ∨ arcB b (zs.getD i 0) t (nxtI zs (zs.getD i 0)) = true := by
  have l1 := R.l1
  have hle := blw_le t zs
  by_cases he : t = zs.getD i 0
  · exact .inl he
  · refine .inr (decide_eq_true ?_)
    rw [nxt_at R hi]
    obtain ⟨m1, m2⟩ := R.rng i hi
    unfold pvP at h
    by_cases hu : blw zs t = 0
    · have hin : i = zs.length - 1 := by rw [← h, hu, Nat.zero_add, Nat.mod_eq_of_lt (by omega)]
      have h0 := R.above t 0 (by omega) (by omega)
      have e : (i + 1) % zs.length = 0 := by rw [show i + 1 = zs.length by omega, Nat.mod_self]
      rw [e]
      by_cases hn : zs.length = 1
      · have hi0 : i = 0 := by omega
        subst hi0
        exact .inl rfl
      · have h2 := R.ris 0 i (by omega) hi
        have r0 := R.rng 0 (by omega)
        refine .inr ⟨he, ?_⟩
        rw [dist_dn t1 m2 (by omega), dist_dn r0.1 m2 h2]
        omega
    · have hin : i = blw zs t - 1 := by
        rw [← h, show blw zs t + zs.length - 1 = (blw zs t - 1) + zs.length by omega, Nat.add_mod_right, Nat.mod_eq_of_lt (by omega)]
      have hlo := blw_lt (zs := zs) (x := t) i (by omega)
      by_cases hl : i + 1 < zs.length
      · rw [Nat.mod_eq_of_lt hl]
        have hup := R.above t (i + 1) (by omega) hl
        obtain ⟨q1, q2⟩ := R.rng (i + 1) hl
        refine .inr ⟨he, ?_⟩
        rw [dist_up m1 t2 (by omega), dist_up m1 q2 (by omega)]
        omega
      · have e : (i + 1) % zs.length = 0 := by rw [show i + 1 = zs.length by omega, Nat.mod_self]
        rw [e]
        by_cases hn : zs.length = 1
        · have hi0 : i = 0 := by omega
          subst hi0
          exact .inl rfl
        · have h2 := R.ris 0 i (by omega) hi
          have r0 := R.rng 0 (by omega)
          refine .inr ⟨he, ?_⟩
          rw [dist_up m1 t2 (by omega), dist_dn r0.1 m2 h2]
          omega
/-- who is found is the owner -/
theorem arc_own {b d : Int} {zs : List Int} (R : Ring b d zs) {t : Int} (t1 : 0 ≤ t) (t2 : t < sz b) {i : Nat} (hi : i < zs.length) (hne : ¬ t = zs.getD i 0) (h : arcB b (zs.getD i 0) t (nxtI zs (zs.getD i 0)) = true) : nxtI zs (zs.getD i 0) = ownI zs t := by
  have l1 := R.l1
  have h' := of_decide_eq_true h
  rw [nxt_at R hi] at h' ⊢
  obtain ⟨m1, m2⟩ := R.rng i hi
  have key : blw zs t % zs.length = (i + 1) % zs.length := by
    by_cases hn : zs.length = 1
    · rw [hn, Nat.mod_one, Nat.mod_one]
    · have hd : dist b (zs.getD i 0) t ≤ dist b (zs.getD i 0) (zs.getD ((i + 1) % zs.length) 0) := by
        rcases h' with h' | h'
        · have := inj R hi (Nat.mod_lt _ (by omega)) h'
          by_cases hl : i + 1 < zs.length
          · rw [Nat.mod_eq_of_lt hl] at this; omega
          · rw [show i + 1 = zs.length by omega, Nat.mod_self] at this; omega
        · exact h'.2
      by_cases hgt : zs.getD i 0 < t
      · rw [dist_up m1 t2 (by omega)] at hd
        by_cases hl : i + 1 < zs.length
        · rw [Nat.mod_eq_of_lt hl] at hd ⊢
          have hq := R.rng (i + 1) hl
          have hr := R.ris i (i + 1) (by omega) hl
          rw [dist_up m1 hq.2 (by omega)] at hd
          rw [blw_eq (k := i + 1) (by omega) (fun j hj => by
            by_cases hji : j = i
            · subst hji; exact hgt
            · have := R.ris j i (by omega) hi; omega) (fun _ => by omega)]
          exact Nat.mod_eq_of_lt hl
        · rw [blw_eq (k := zs.length) (Nat.le_refl _) (fun j hj => by
            by_cases hji : j = i
            · subst hji; exact hgt
            · have := R.ris j i (by omega) hi; omega) (fun h => by omega), show i + 1 = zs.length by omega]
      · have hlt : t < zs.getD i 0 := by omega
        rw [dist_dn t1 m2 hlt] at hd
        by_cases hl : i + 1 < zs.length
        · rw [Nat.mod_eq_of_lt hl] at hd
          have hq := R.rng (i + 1) hl
          have hr := R.ris i (i + 1) (by omega) hl
          rw [dist_up m1 hq.2 (by omega)] at hd
          omega
        · have e : (i + 1) % zs.length = 0 := by rw [show i + 1 = zs.length by omega, Nat.mod_self]
          rw [e] at hd ⊢
          have h2 := R.ris 0 i (by omega) hi
          have r0 := R.rng 0 (by omega)
          rw [dist_dn r0.1 m2 h2] at hd
          rw [blw_eq (k := 0) (by omega) (fun j hj => by omega) (fun _ => by omega)]
          simp
  unfold ownI
  rw [key]
theorem own_self {b d : Int} {zs : List Int} (R : Ring b d zs) {i : Nat} (hi : i < zs.length) : ownI zs (zs.getD i 0) = zs.getD i 0 := by
  unfold ownI
  rw [blw_mem R hi, Nat.mod_eq_of_lt hi]
end Go.Proofs.Ytioiacmaijgdoaa
namespace Go.Proofs.Ytioiacmaijgdoaa
open Go.RowKit
set_option linter.unusedVariables false
/-- a walk's At is a member, its Imag a number, and some digits are left -/
structure WOk (b : Int) (zs : List Int) (v : Wk) : Prop where
  mem : hasB zs v.at_ = true
  i1 : 0 ≤ v.imag
  i2 : v.imag < sz b
  l0 : 0 ≤ v.left
/-- how many forwards are left at most -/
def pot (zs : List Int) (k : Int) (v : Wk) : Nat :=
  if v.left = 0 then md zs.length (pvP zs k) (blw zs v.at_) else md zs.length (dnP zs v.imag) (blw zs v.at_) + v.left.toNat * zs.length
theorem at_place {b d : Int} {zs : List Int} (R : Ring b d zs) {x : Int} (h : hasB zs x = true) : blw zs x < zs.length ∧ zs.getD (blw zs x) 0 = x := by
  rw [← mem_has R] at h
  exact of_decide_eq_true h
theorem shf_rng (b d x g : Int) (hb1 : 1 ≤ b) (hb2 : b ≤ 12) : 0 ≤ shf b d x g ∧ shf b d x g < sz b := by
  unfold shf
  have h := sz_bd hb1 hb2
  exact ⟨Int.emod_nonneg _ (by omega), Int.emod_lt_of_pos _ (by omega)⟩
theorem pot_top {b d : Int} {zs : List Int} (R : Ring b d zs) (k : Int) {v : Wk} (l0 : 0 ≤ v.left) : pot zs k v + 1 ≤ (v.left.toNat + 1) * zs.length := by
  have l1 := R.l1
  unfold pot
  split
  · rename_i h
    have := md_lt (n := zs.length) (t := pvP zs k) (i := blw zs v.at_) (by omega)
    rw [h]
    simp
    omega
  · have := md_lt (n := zs.length) (t := dnP zs v.imag) (i := blw zs v.at_) (by omega)
    rw [Nat.add_mul, Nat.one_mul]
    omega
/-- what one step does -/
def Stp (b : Int) (zs : List Int) (k ttl : Int) (v x : Wk) : Prop :=
  x = ⟨v.at_, v.imag, v.left, v.points, v.succs, 1, ownI zs k⟩ ∨
  (x = ⟨v.at_, v.imag, v.left, v.points, v.succs, 2, v.owner⟩ ∧ ttl ≤ v.points + v.succs ∧ 1 ≤ pot zs k v) ∨
  (WOk b zs x ∧ x.state = v.state ∧ x.owner = v.owner ∧ v.points + v.succs < ttl ∧ pot zs k x + 1 ≤ pot zs k v ∧ ((x.points = v.points + 1 ∧ x.succs = v.succs ∧ x.left = v.left - 1) ∨ (x.points = v.points ∧ x.succs = v.succs + 1 ∧ x.left = v.left)))
theorem stp_kind {b d : Int} {ps : List Pr} {k ttl : Int} {v : Wk} (hg : goodP b d ps = true) (k1 : 0 ≤ k) (k2 : k < sz b) (hv : WOk b (idsP ps) v) : Stp b (idsP ps) k ttl v (stp b d ps k ttl v) := by
  have R := (goodP_true hg).1
  obtain ⟨hb1, hb2, hd1, hd2, _⟩ := gsB_true R.gs
  have l1 := R.l1
  obtain ⟨p1, p2, p3⟩ := peerI_good hg hv.mem
  obtain ⟨hi, he⟩ := at_place R hv.mem
  unfold stp
  by_cases c1 : k = v.at_
  · rw [if_pos c1]
    refine .inl ?_
    rw [c1, ← he, own_self R hi]
  · rw [if_neg c1]
    have c1' : ¬ k = (idsP ps).getD (blw (idsP ps) v.at_) 0 := by rw [he]; exact c1
    by_cases c2 : arcB b v.at_ k (peerI ps v.at_).succ = true
    · rw [if_pos c2]
      refine .inl ?_
      rw [p2] at c2 ⊢
      have := arc_own R k1 k2 hi c1' (by rw [he]; exact c2)
      rw [he] at this
      rw [this]
    · rw [if_neg c2]
      have hpv : ¬ pvP (idsP ps) k = blw (idsP ps) v.at_ := fun h => by
        rcases pv_arc R k1 k2 hi h with h | h
        · exact c1' h
        · rw [he, ← p2] at h; exact c2 h
      have hpl : pvP (idsP ps) k < (idsP ps).length := Nat.mod_lt _ (by omega)
      have hdl : dnP (idsP ps) v.imag < (idsP ps).length := Nat.mod_lt _ (by omega)
      have hmk : ¬ md (idsP ps).length (pvP (idsP ps) k) (blw (idsP ps) v.at_) = 0 := fun h => hpv (md_zero hpl hi h)
      by_cases c3 : ttl ≤ v.points + v.succs
      · rw [if_pos c3]
        refine .inr (.inl ⟨rfl, c3, ?_⟩)
        unfold pot
        split
        · omega
        · rename_i h
          have := hv.l0
          have h1 : 1 ≤ v.left.toNat := by omega
          have : 1 * 1 ≤ v.left.toNat * (idsP ps).length := Nat.mul_le_mul h1 l1
          omega
      · rw [if_neg c3]
        by_cases c4 : 0 < v.left ∧ (v.imag = v.at_ ∨ btwB b v.at_ v.imag (peerI ps v.at_).succ = true)
        · rw [if_pos c4]
          have hsh := shf_rng b d v.imag (dgt4 d k v.left) hb1 hb2
          refine .inr (.inr ⟨⟨p3, hsh.1, hsh.2, by show 0 ≤ v.left - 1; omega⟩, rfl, rfl, by omega, ?_, .inl ⟨rfl, rfl, rfl⟩⟩)
          have ht := pot_top R k (v := ⟨(peerI ps v.at_).point, shf b d v.imag (dgt4 d k v.left), v.left - 1, v.points + 1, v.succs, v.state, v.owner⟩) (by show 0 ≤ v.left - 1; omega)
          have e : (v.left - 1).toNat + 1 = v.left.toNat := by omega
          have hq : pot (idsP ps) k v = md (idsP ps).length (dnP (idsP ps) v.imag) (blw (idsP ps) v.at_) + v.left.toNat * (idsP ps).length := by
            unfold pot
            rw [if_neg (by omega)]
          rw [hq]
          show _ + 1 ≤ _
          have ht' : pot (idsP ps) k ⟨(peerI ps v.at_).point, shf b d v.imag (dgt4 d k v.left), v.left - 1, v.points + 1, v.succs, v.state, v.owner⟩ + 1 ≤ v.left.toNat * (idsP ps).length := by rw [← e]; exact ht
          omega
        · rw [if_neg c4]
          have hnx : (peerI ps v.at_).succ = (idsP ps).getD ((blw (idsP ps) v.at_ + 1) % (idsP ps).length) 0 := by rw [p2]; conv => lhs; rw [← he]; rw [nxt_at R hi]
          have hbs : blw (idsP ps) (peerI ps v.at_).succ = (blw (idsP ps) v.at_ + 1) % (idsP ps).length := by rw [hnx, blw_mem R (Nat.mod_lt _ (by omega))]
          refine .inr (.inr ⟨⟨by rw [p2]; exact nxt_has R _, hv.i1, hv.i2, hv.l0⟩, rfl, rfl, by omega, ?_, .inr ⟨rfl, rfl, rfl⟩⟩)
          unfold pot
          by_cases hl : v.left = 0
          · rw [if_pos hl, if_pos hl]
            show md _ _ (blw (idsP ps) (peerI ps v.at_).succ) + 1 ≤ _
            rw [hbs]
            exact Nat.le_of_eq (md_step hpl hi hmk)
          · rw [if_neg hl, if_neg hl]
            show md _ (dnP (idsP ps) v.imag) (blw (idsP ps) (peerI ps v.at_).succ) + v.left.toNat * _ + 1 ≤ _
            have hmi : ¬ md (idsP ps).length (dnP (idsP ps) v.imag) (blw (idsP ps) v.at_) = 0 := fun h => by
              rcases dn_btw R hv.i1 hv.i2 hi (md_zero hdl hi h) with h | h
              · exact c4 ⟨by have := hv.l0; omega, .inl (by rw [h, he])⟩
              · rw [he, ← p2] at h
                exact c4 ⟨by have := hv.l0; omega, .inr h⟩
            have := md_step hdl hi hmi
            rw [hbs]
            omega
/-- where a way ends -/
theorem rt_end {b d : Int} {ps : List Pr} {k ttl : Int} (hg : goodP b d ps = true) (k1 : 0 ≤ k) (k2 : k < sz b) : ∀ (F : Nat) (v : Wk), WOk b (idsP ps) v → v.state = 0 → v.owner = 0 → v.points + v.succs ≤ ttl → pot (idsP ps) k v < F →
    ((rtW b d ps k ttl F v).state = 1 ∧ (rtW b d ps k ttl F v).owner = ownI (idsP ps) k ∨ (rtW b d ps k ttl F v).state = 2 ∧ (rtW b d ps k ttl F v).owner = 0 ∧ ttl < v.points + v.succs + pot (idsP ps) k v) ∧
    (rtW b d ps k ttl F v).points + (rtW b d ps k ttl F v).succs ≤ v.points + v.succs + pot (idsP ps) k v ∧ (rtW b d ps k ttl F v).points + (rtW b d ps k ttl F v).succs ≤ ttl ∧
    (rtW b d ps k ttl F v).points + (rtW b d ps k ttl F v).succs = v.points + v.succs + ((rtL b d ps k ttl F v).length : Int) ∧ v.points ≤ (rtW b d ps k ttl F v).points ∧ v.succs ≤ (rtW b d ps k ttl F v).succs
  | 0, v, _, _, _, _, h => by omega
  | F + 1, v, hw, hs, ho, ht, hp => by
    have hk := stp_kind (ttl := ttl) hg k1 k2 hw
    unfold rtW rtL
    rw [if_pos hs, if_pos hs]
    rcases hk with h | ⟨h, h1, h2⟩ | ⟨hw', hs', ho', ht', hp', hl⟩
    ·
      have hst : (stp b d ps k ttl v).state = 1 := by rw [h]
      have e1 : rtW b d ps k ttl F (stp b d ps k ttl v) = stp b d ps k ttl v := by cases F <;> simp [rtW, hst]
      have e2 : rtL b d ps k ttl F (stp b d ps k ttl v) = [] := by cases F <;> simp [rtL, hst]
      rw [e1, e2, h]
      refine ⟨.inl ⟨rfl, rfl⟩, by show v.points + v.succs ≤ _; omega, ht, ?_, Int.le_refl _, Int.le_refl _⟩
      show v.points + v.succs = _
      simp
    ·
      have hst : (stp b d ps k ttl v).state = 2 := by rw [h]
      have e1 : rtW b d ps k ttl F (stp b d ps k ttl v) = stp b d ps k ttl v := by cases F <;> simp [rtW, hst]
      have e2 : rtL b d ps k ttl F (stp b d ps k ttl v) = [] := by cases F <;> simp [rtL, hst]
      rw [e1, e2, h]
      refine ⟨.inr ⟨rfl, ho, by omega⟩, by show v.points + v.succs ≤ _; omega, ht, ?_, Int.le_refl _, Int.le_refl _⟩
      show v.points + v.succs = _
      simp
    ·
      have hsum : (stp b d ps k ttl v).points + (stp b d ps k ttl v).succs = v.points + v.succs + 1 := by rcases hl with ⟨h1, h2, _⟩ | ⟨h1, h2, _⟩ <;> omega
      have ih := rt_end (ttl := ttl) hg k1 k2 F (stp b d ps k ttl v) hw' (hs'.trans hs) (ho'.trans ho) (by omega) (by omega)
      obtain ⟨i1, i2, i3, i4, i5, i6⟩ := ih
      rw [if_pos (by omega)]
      refine ⟨?_, by omega, i3, ?_, by rcases hl with ⟨h1, h2, _⟩ | ⟨h1, h2, _⟩ <;> omega, by rcases hl with ⟨h1, h2, _⟩ | ⟨h1, h2, _⟩ <;> omega⟩
      · rcases i1 with i1 | ⟨j1, j2, j3⟩
        · exact .inl i1
        · exact .inr ⟨j1, j2, by omega⟩
      · rw [i4, hsum]
        simp only [List.length_append, List.length_cons, List.length_nil]
        omega
/-- more fuel than is needed changes nothing -/
theorem rt_more {b d : Int} {ps : List Pr} {k ttl : Int} (hg : goodP b d ps = true) (k1 : 0 ≤ k) (k2 : k < sz b) : ∀ (F G : Nat) (v : Wk), WOk b (idsP ps) v → v.state = 0 → pot (idsP ps) k v < F → F ≤ G → rtW b d ps k ttl G v = rtW b d ps k ttl F v ∧ rtL b d ps k ttl G v = rtL b d ps k ttl F v
  | 0, _, v, _, _, h, _ => by omega
  | F + 1, 0, v, _, _, _, h => by omega
  | F + 1, G + 1, v, hw, hs, hp, hFG => by
    have hk := stp_kind (ttl := ttl) hg k1 k2 hw
    unfold rtW rtL
    rw [if_pos hs, if_pos hs, if_pos hs, if_pos hs]
    rcases hk with h | ⟨h, h1, h2⟩ | ⟨hw', hs', ho', ht', hp', hl⟩
    ·
      have hst : (stp b d ps k ttl v).state = 1 := by rw [h]
      constructor
      · cases F <;> cases G <;> simp [rtW, hst]
      · cases F <;> cases G <;> simp [rtL, hst]
    ·
      have hst : (stp b d ps k ttl v).state = 2 := by rw [h]
      constructor
      · cases F <;> cases G <;> simp [rtW, hst]
      · cases F <;> cases G <;> simp [rtL, hst]
    ·
      obtain ⟨e1, e2⟩ := rt_more (ttl := ttl) hg k1 k2 F G (stp b d ps k ttl v) hw' (hs'.trans hs) (by omega) (by omega)
      rw [e1, e2]
      exact ⟨rfl, rfl⟩
end Go.Proofs.Ytioiacmaijgdoaa
namespace Go.Proofs.Ytioiacmaijgdoaa
open Go.RowKit
set_option linter.unusedVariables false
theorem sz_add {x y : Int} (hx : 0 ≤ x) (hy : 0 ≤ y) : sz (x + y) = sz x * sz y := by
  unfold sz
  rw [Int.toNat_add hx hy, Int.pow_add]
theorem sz_pos (x : Int) : 0 < sz x := by unfold sz; exact Int.pow_pos (by omega)
theorem sz_zero : sz 0 = 1 := rfl
theorem bits_eq {b d : Int} (hg : gsB b d = true) : b / d * d = b := by
  obtain ⟨_, _, h3, _, h5⟩ := gsB_true hg
  have := Int.mul_ediv_add_emod b d
  rw [h5, Int.add_zero, Int.mul_comm] at this
  exact this
/-- how a space's numbers part into those of n digits and those of the rest -/
theorem sz_part {b d : Int} (hg : gsB b d = true) {n : Int} (n1 : 0 ≤ n) (n2 : n ≤ b / d) : sz (n * d) * sz ((b / d - n) * d) = sz b := by
  obtain ⟨_, _, h3, _, _⟩ := gsB_true hg
  have h1 : 0 ≤ n * d := Int.mul_nonneg n1 (by omega)
  have h2 : 0 ≤ (b / d - n) * d := Int.mul_nonneg (by omega) (by omega)
  rw [← sz_add h1 h2, ← Int.add_mul, show n + (b / d - n) = b / d by omega, bits_eq hg]
theorem mod_mod_part {b d : Int} (hg : gsB b d = true) {n : Int} (n1 : 0 ≤ n) (n2 : n ≤ b / d) (y : Int) : y % sz b % sz (n * d) = y % sz (n * d) := by
  rw [← sz_part hg n1 n2]
  exact Int.emod_emod_of_dvd _ ⟨_, rfl⟩
theorem want_lt {b d k : Int} (hg : gsB b d = true) {n : Int} (n1 : 0 ≤ n) (n2 : n ≤ b / d) (k1 : 0 ≤ k) (k2 : k < sz b) : 0 ≤ k / sz ((b / d - n) * d) ∧ k / sz ((b / d - n) * d) < sz (n * d) := by
  refine ⟨Int.ediv_nonneg k1 (Int.le_of_lt (sz_pos _)), ?_⟩
  rw [← sz_part hg n1 n2] at k2
  exact Int.ediv_lt_of_lt_mul (sz_pos _) k2
theorem up4_bd (b d f k n : Int) : 0 ≤ up4 b d f k n ∧ up4 b d f k n < sz (n * d) := by
  unfold up4
  exact ⟨Int.emod_nonneg _ (by have := sz_pos (n * d); omega), Int.emod_lt_of_pos _ (sz_pos _)⟩
theorem up4_hits {b d f k n : Int} (hg : gsB b d = true) (n1 : 0 ≤ n) (n2 : n ≤ b / d) (k1 : 0 ≤ k) (k2 : k < sz b) : (f + up4 b d f k n) % sz (n * d) = k / sz ((b / d - n) * d) := by
  obtain ⟨w1, w2⟩ := want_lt hg n1 n2 k1 k2
  unfold up4
  generalize k / sz ((b / d - n) * d) = t at w1 w2
  generalize sz (n * d) = p at w2
  rw [Int.add_emod_emod]
  have h := Int.mul_ediv_add_emod f p
  have e : f + (t - f % p + p) = t + p * (f / p + 1) := by
    rw [Int.mul_add, Int.mul_one]
    omega
  rw [e, Int.add_mul_emod_self_left]
  exact Int.emod_eq_of_lt w1 w2
theorem best_prop {b d f k m : Int} (hg : gsB b d = true) (f1 : 0 ≤ f) (f2 : f < sz b) (k1 : 0 ≤ k) (k2 : k < sz b) (hm : 0 < m) : ∀ N : Nat, (N : Int) ≤ b / d →
    ∃ n : Int, 0 ≤ n ∧ n ≤ b / d ∧ (best b d f m k N).2 = b / d - n ∧ 0 ≤ (best b d f m k N).1 ∧ (best b d f m k N).1 < sz b ∧ (best b d f m k N).1 % sz (n * d) = k / sz ((b / d - n) * d) ∧ ∃ u, 0 ≤ u ∧ u < m ∧ (best b d f m k N).1 = (f + u) % sz b
  | 0, hN => by
    unfold best
    refine ⟨0, Int.le_refl _, hN, by show b / d = _; omega, f1, f2, ?_, 0, Int.le_refl _, hm, ?_⟩
    · show f % sz (0 * d) = k / sz ((b / d - 0) * d)
      rw [Int.zero_mul, sz_zero, Int.emod_one, Int.sub_zero, bits_eq hg, Int.ediv_eq_zero_of_lt k1 k2]
    · show f = (f + 0) % sz b
      rw [Int.add_zero, Int.emod_eq_of_lt f1 f2]
  | N + 1, hN => by
    unfold best
    split
    · rename_i h
      have hb := up4_bd b d f k ((N + 1 : Nat) : Int)
      refine ⟨((N + 1 : Nat) : Int), by omega, hN, rfl, Int.emod_nonneg _ (by have := sz_pos b; omega), Int.emod_lt_of_pos _ (sz_pos _), ?_, up4 b d f k ((N + 1 : Nat) : Int), hb.1, h, rfl⟩
      show (f + up4 b d f k ((N + 1 : Nat) : Int)) % sz b % sz (((N + 1 : Nat) : Int) * d) = _
      rw [mod_mod_part hg (by omega) hN]
      exact up4_hits hg (by omega) hN k1 k2
    · exact best_prop hg f1 f2 k1 k2 hm N (by omega)
theorem rnd_pos {b x y : Int} (hb1 : 1 ≤ b) (x1 : 0 ≤ x) (x2 : x < sz b) (y1 : 0 ≤ y) (y2 : y < sz b) : 0 < rnd b x y ∧ rnd b x y ≤ sz b := by
  unfold rnd
  have := sz_pos b
  split
  · omega
  · rename_i h
    by_cases hl : x ≤ y
    · rw [dist_up x1 y2 hl]; omega
    · rw [dist_dn y1 x2 (by omega)]; omega
theorem bestI_prop {b d f t k : Int} (hg : gsB b d = true) (f1 : 0 ≤ f) (f2 : f < sz b) (t1 : 0 ≤ t) (t2 : t < sz b) (k1 : 0 ≤ k) (k2 : k < sz b) :
    ∃ n : Int, 0 ≤ n ∧ n ≤ b / d ∧ (bestI b d f t k).2 = b / d - n ∧ 0 ≤ (bestI b d f t k).1 ∧ (bestI b d f t k).1 < sz b ∧ (bestI b d f t k).1 % sz (n * d) = k / sz ((b / d - n) * d) ∧ ∃ u, 0 ≤ u ∧ u < rnd b f t ∧ (bestI b d f t k).1 = (f + u) % sz b := by
  obtain ⟨h1, h2, h3, h4, _⟩ := gsB_true hg
  have hc := cnt_bd h1 h2 h3 h4
  exact best_prop hg f1 f2 k1 k2 (rnd_pos h1 f1 f2 t1 t2).1 (cnt b d) (by omega)
/-- the number that is best lies from 'from' on, ahead of 'to' -/
theorem best_arc {b d f t k : Int} (hg : gsB b d = true) (f1 : 0 ≤ f) (f2 : f < sz b) (t1 : 0 ≤ t) (t2 : t < sz b) (k1 : 0 ≤ k) (k2 : k < sz b) (hft : ¬ f = t) (hi : ¬ (bestI b d f t k).1 = f) : arcB b t (bestI b d f t k).1 f = false := by
  obtain ⟨n, _, _, _, x1, x2, _, u, u1, u2, hx⟩ := bestI_prop hg f1 f2 t1 t2 k1 k2
  generalize (bestI b d f t k).1 = x at *
  have hs := sz_pos b
  unfold rnd at u2
  rw [if_neg hft] at u2
  refine decide_eq_false (fun h => ?_)
  rcases h with h | ⟨_, h⟩
  · exact hft h.symm
  · have hu : ¬ u = 0 := fun h => hi (by rw [hx, h, Int.add_zero, Int.emod_eq_of_lt f1 f2])
    by_cases hl : f ≤ t
    · rw [dist_up f1 t2 hl] at u2
      rw [Int.emod_eq_of_lt (by omega) (by omega)] at hx
      rw [dist_dn x1 t2 (by omega), dist_dn f1 t2 (by omega)] at h
      omega
    · rw [dist_dn t1 f2 (by omega)] at u2
      rw [dist_up t1 f2 (by omega)] at h
      by_cases hw : f + u < sz b
      · rw [Int.emod_eq_of_lt (by omega) hw] at hx
        rw [dist_up t1 x2 (by omega)] at h
        omega
      · have hx2 : x = f + u - sz b := by
          rw [hx, show f + u = (f + u - sz b) + sz b * 1 by omega, Int.add_mul_emod_self_left]
          rw [Int.emod_eq_of_lt (by omega) (by omega)]
          omega
        rw [dist_dn x1 t2 (by omega)] at h
        omega
/-- the digit of a key that comes next -/
theorem dgt4_bd (d k l : Int) : 0 ≤ dgt4 d k l ∧ dgt4 d k l < sz d := by
  unfold dgt4
  exact ⟨Int.emod_nonneg _ (by have := sz_pos d; omega), Int.emod_lt_of_pos _ (sz_pos _)⟩
/-- a digit more is shifted in -/
theorem shift_more {b d z k l : Int} (hg : gsB b d = true) (hl1 : 1 ≤ l) (hl2 : l ≤ b / d) (k1 : 0 ≤ k) (h : z % sz ((b / d - l) * d) = k / sz (l * d)) : shf b d z (dgt4 d k l) % sz ((b / d - (l - 1)) * d) = k / sz ((l - 1) * d) := by
  obtain ⟨_, _, h3, _, _⟩ := gsB_true hg
  have n1 : 0 ≤ (b / d - l) * d := Int.mul_nonneg (by omega) (by omega)
  have n2 : 0 ≤ (l - 1) * d := Int.mul_nonneg (by omega) (by omega)
  have e1 : (b / d - (l - 1)) * d = (b / d - l) * d + d := by rw [show b / d - (l - 1) = (b / d - l) + 1 by omega, Int.add_mul, Int.one_mul]
  have e2 : l * d = (l - 1) * d + d := by rw [Int.sub_mul, Int.one_mul]; omega
  unfold shf
  rw [mod_mod_part hg (by omega) (by omega), e1, sz_add n1 (by omega)]
  rw [e2, sz_add n2 (by omega)] at h
  unfold dgt4
  have hp := sz_pos ((b / d - l) * d)
  have hd := sz_pos d
  have hq := sz_pos ((l - 1) * d)
  generalize sz ((b / d - l) * d) = p at *
  generalize sz ((l - 1) * d) = q at *
  generalize sz d = s at *
  rw [← Int.ediv_ediv_of_nonneg (Int.le_of_lt hq)] at h
  have hk0 : 0 ≤ k / q := Int.ediv_nonneg k1 (Int.le_of_lt hq)
  generalize k / q = y at *
  have hy := Int.mul_ediv_add_emod y s
  have hz := Int.mul_ediv_add_emod z p
  have hg1 := Int.emod_nonneg y (show s ≠ 0 by omega)
  have hg2 := Int.emod_lt_of_pos y hd
  have e : z * s + y % s = (y / s * s + y % s) + p * s * (z / p) := by
    conv => lhs; rw [← hz, h]
    rw [Int.add_mul, Int.mul_right_comm]
    omega
  rw [e, Int.add_mul_emod_self_left, Int.mul_comm (y / s) s, hy]
  refine Int.emod_eq_of_lt hk0 ?_
  have hz2 := Int.emod_lt_of_pos z hp
  rw [h] at hz2
  have := Int.mul_le_mul_of_nonneg_right (show y / s + 1 ≤ p by omega) (Int.le_of_lt hd)
  rw [Int.add_mul, Int.one_mul] at this
  have hc := Int.mul_comm (y / s) s
  omega
end Go.Proofs.Ytioiacmaijgdoaa
namespace Go.Proofs.Ytioiacmaijgdoaa
open Go.RowKit
set_option linter.unusedVariables false

theorem zv_one (l : List Int) : (zv l).all (·.oneCell') = true := by
  rw [Array.all_eq_true_iff_forall_mem]
  intro v hv
  simp [zv] at hv
  obtain ⟨a, _, rfl⟩ := hv
  rfl
theorem digL_cons {j n : Nat} {B x xj : Int} {done : List Int} (h : digL (j + 1) B xj ++ done = digL n B x) : digL j B (xj / B) ++ (xj % B :: done) = digL n B x := by
  rw [← h, digL, List.append_assoc]; rfl

theorem div_bd {x B s : Int} (h0 : 0 ≤ x) (h1 : x < s) (hB : 1 ≤ B) : 0 ≤ x / B ∧ x / B < s := by
  refine ⟨Int.ediv_nonneg h0 (by omega), ?_⟩
  have : x / B ≤ x := Int.ediv_le_self _ h0
  omega

/-- what lies in the three blocks while the loop goes -/
structure RowSt (w wr : World) (b d : Int) (n j : Nat) (T A : TypeId) (done : List Int) : Prop where
  bel : Below w.heap.size w wr
  s : wr.heap[w.heap.size]? = some (.cells #[.int .i64 b, .int .i64 d] T (0, 0))
  r : wr.heap[w.heap.size + 1]? = some (.cells (zv (List.replicate 12 0)) A (0, 0))
  row : wr.heap[w.heap.size + 1 + 1]? = some (.cells (zv (rowZ n (List.replicate j 0 ++ done))) A (0, 0))
  sz : w.heap.size + 1 + 1 < wr.heap.size

theorem RowSt.keep {w wr w1 : World} {b d : Int} {n j : Nat} {T A : TypeId} {done : List Int} (h : RowSt w wr b d n j T A done) (hb : Below wr.heap.size wr w1) : RowSt w w1 b d n j T A done :=
  ⟨h.bel.trans (hb.mono h.bel.size), (hb.block _ (by have := h.sz; omega)).trans h.s, (hb.block _ (by have := h.sz; omega)).trans h.r, (hb.block _ h.sz).trans h.row, Nat.lt_of_lt_of_le h.sz hb.size⟩

theorem rowZ_set {n j : Nat} {done : List Int} (v : Int) : (rowZ n (List.replicate (j + 1) 0 ++ done)).set j v = rowZ n (List.replicate j 0 ++ (v :: done)) := by
  unfold rowZ
  rw [List.replicate_succ', List.append_assoc, List.append_assoc, List.append_assoc, List.set_append_right _ _ (by simp)]
  simp

theorem RowSt.put {w wr : World} {b d : Int} {n j : Nat} {T A : TypeId} {done : List Int} (h : RowSt w wr b d n (j + 1) T A done) (v : Int) : RowSt w (wr.setCell ⟨w.heap.size + 1 + 1, j, none⟩ (.int .i64 v)) b d n j T A (v :: done) := by
  refine ⟨h.bel.setCell (by simp; omega) _, ?_, ?_, ?_, by simpa [World.setCell] using h.sz⟩
  · rw [heap_setCell_other _ _ _ _ (by simp; omega)]; exact h.s
  · rw [heap_setCell_other _ _ _ _ (by simp)]; exact h.r
  · rw [heap_setCell_same _ _ _ _ _ _ h.row, zv_set, rowZ_set]

theorem RowSt.cells {w wr : World} {b d : Int} {n j : Nat} {T A : TypeId} {done : List Int} (h : RowSt w wr b d n j T A done) :
    wr.cell? ⟨w.heap.size, 0, none⟩ = some (.int .i64 b) ∧ wr.cell? ⟨w.heap.size, 1, none⟩ = some (.int .i64 d) :=
  ⟨(cell_of_row wr _ _ _ _ _ h.s).trans rfl, (cell_of_row wr _ _ _ _ _ h.s).trans rfl⟩

theorem RowSt.at {w wr : World} {b d : Int} {n j : Nat} {T A : TypeId} {done : List Int} (h : RowSt w wr b d n (j + 1) T A done) :
    wr.cell? ⟨w.heap.size + 1 + 1, j, none⟩ = some (.int .i64 ((rowZ n (List.replicate (j + 1) 0 ++ done)).getD j 0)) ∧ wr.frozen? ⟨w.heap.size + 1 + 1, j, none⟩ = false :=
  ⟨(cell_of_row wr _ _ _ _ _ h.row).trans (zv_get _ _ (by simp [rowZ]; omega)), frozen_of_row wr _ _ _ _ h.row⟩

theorem rowSt_init (w : World) (b d : Int) (n : Nat) (hn : n ≤ 12) (T A : TypeId) {w1 : World} {N : Nat} (hb : Below N (((w.alloc (.cells #[.int .i64 b, .int .i64 d] T)).alloc (.cells (zv (List.replicate 12 0)) A)).alloc (.cells (zv (List.replicate 12 0)) A)) w1) (hN : w.heap.size + 1 + 1 + 1 ≤ N) :
    RowSt w w1 b d n n T A [] := by
  have e : rowZ n (List.replicate n 0 ++ []) = List.replicate 12 0 := by
    unfold rowZ
    rw [List.append_nil, List.replicate_append_replicate]
    congr 1; omega
  have h0 : RowSt w (((w.alloc (.cells #[.int .i64 b, .int .i64 d] T)).alloc (.cells (zv (List.replicate 12 0)) A)).alloc (.cells (zv (List.replicate 12 0)) A)) b d n n T A [] := by
    refine ⟨(((Below.refl _ _).alloc (Nat.le_refl _) _).alloc (by simp) _).alloc (by simp; omega) _, ?_, ?_, ?_, by simp⟩
    · rw [heap_alloc_old _ _ (by simp; omega)]; exact heap_alloc2_old _ _ _
    · rw [heap_alloc_old _ _ (by simp)]; exact heap_alloc2_new _ _ _
    · rw [e]
      have := heap_alloc_new ((w.alloc (.cells #[.int .i64 b, .int .i64 d] T)).alloc (.cells (zv (List.replicate 12 0)) A)) (.cells (zv (List.replicate 12 0)) A)
      simpa using this
  exact h0.keep (hb.mono (by simpa using hN))

end Go.Proofs.Ytioiacmaijgdoaa
namespace Go.Proofs.Ytioiacmaijgdoaa
open Go.RowKit
set_option linter.unusedVariables false

/-- digits that are made from behind -/
def drow (n j : Nat) (done : List Int) : List Int := List.replicate j 0 ++ done
theorem drow_set {n j : Nat} {done : List Int} (v : Int) : (drow n (j + 1) done).set j v = drow n j (v :: done) := by
  unfold drow
  rw [List.replicate_succ', List.append_assoc, List.set_append_right _ _ (by simp)]
  simp

theorem BoxAt.put {w wr : World} {b d : Int} (h : BoxAt w wr b d) {g : Nat} (hg : w.heap.size < g) (i : Nat) (v : Value) : BoxAt w (wr.setCell ⟨g, i, none⟩ v) b d := by
  have hb : (wr.setCell ⟨g, i, none⟩ v).heap[w.heap.size]? = wr.heap[w.heap.size]? := heap_setCell_other _ _ _ _ (by simp; omega)
  exact ⟨h.bel.setCell (by simp; omega) _, (World.cell?_of_block (w := wr) hb).trans h.c0, (World.cell?_of_block (w := wr) hb).trans h.c1, by simpa [World.setCell] using h.lt⟩

def gOk (b d x : Int) : Bool := numB b d x
/-- a list of digits that is answered: nil where there is none, else in a block of its own -/
def DigV (b d x : Int) (w w' : World) (v : Value) : Prop :=
  (numB b d x = false ∧ v = .slice none 0 0) ∨ (numB b d x = true ∧ ∃ g, v = .slice (some ⟨g, 0, none⟩) (cnt b d) (cnt b d) ∧ OwnZ w w' g (digL (cnt b d) (sz d) x))

end Go.Proofs.Ytioiacmaijgdoaa
namespace Go.Proofs.Ytioiacmaijgdoaa
open Go.RowKit
set_option linter.unusedVariables false
theorem ndbd {b d n : Int} (hg : gsB b d = true) (n1 : 0 ≤ n) (n2 : n ≤ b / d) : 0 ≤ n * d ∧ n * d ≤ 12 := by
  obtain ⟨h1, h2, h3, _, _⟩ := gsB_true hg
  refine ⟨Int.mul_nonneg n1 (by omega), ?_⟩
  have := Int.mul_le_mul_of_nonneg_right n2 (show 0 ≤ d by omega)
  rw [bits_eq hg] at this
  omega
theorem sz_nd {x : Int} (h1 : 0 ≤ x) (h2 : x ≤ 12) : 1 ≤ sz x ∧ sz x ≤ 4096 := by
  by_cases h : x = 0
  · subst h; decide
  · have := sz_bd (b := x) (by omega) h2; omega
theorem ret_two {x y a b : Int} (h1 : x = a) (h2 : y = b) : Ending.returned (.tuple #[.int .i64 x, .int .i64 y]) = .returned (.tuple #[.int .i64 a, .int .i64 b]) := by rw [h1, h2]
theorem dist_zero {b f t : Int} (f1 : 0 ≤ f) (f2 : f < sz b) (t1 : 0 ≤ t) (t2 : t < sz b) : dist b f t = 0 ↔ f = t := by
  rw [dist_eq f1 f2 t1 t2]
  split <;> omega
theorem rnd_dist {b f t : Int} (f1 : 0 ≤ f) (f2 : f < sz b) (t1 : 0 ≤ t) (t2 : t < sz b) : rnd b f t = if dist b f t = 0 then sz b else dist b f t := by
  unfold rnd
  by_cases h : f = t
  · rw [if_pos h, if_pos ((dist_zero f1 f2 t1 t2).2 h)]
  · rw [if_neg h, if_neg (fun hh => h ((dist_zero f1 f2 t1 t2).1 hh))]
theorem up_eq {K f P S : Int} (h : P ∣ S) : (K - f + S) % P = (K - f % P + P) % P := by
  obtain ⟨q, rfl⟩ := h
  rw [Int.add_mul_emod_self_left, Int.add_emod_right, Int.sub_emod_emod]
end Go.Proofs.Ytioiacmaijgdoaa
namespace Go.Proofs.Ytioiacmaijgdoaa
open Go.RowKit
set_option linter.unusedVariables false
def bstOk (b d f t k : Int) : Bool := numB b d f && numB b d t && numB b d k
def bstV (b d f t k : Int) : Int × Int := if bstOk b d f t k = true then bestI b d f t k else (0, 0)
end Go.Proofs.Ytioiacmaijgdoaa
namespace Go.Proofs.Ytioiacmaijgdoaa
open Go.RowKit Go.Deep
set_option linter.unusedVariables false
/-- block g holds these cells -/
def Bk (w : World) (g : Nat) (C : Array Value) (T : TypeId) : Prop := w.heap[g]? = some (.cells C T (0, 0))
theorem Bk.lt {w : World} {g : Nat} {C : Array Value} {T : TypeId} (h : Bk w g C T) : g < w.heap.size := (Array.getElem?_eq_some_iff.1 h).1
theorem Bk.keepN {w w1 : World} {g n : Nat} {C : Array Value} {T : TypeId} (h : Bk w g C T) (hb : Below n w w1) (hg : g < n) : Bk w1 g C T := (hb.block g hg).trans h
theorem Bk.keep {w w1 : World} {g : Nat} {C : Array Value} {T : TypeId} (h : Bk w g C T) (hb : Below w.heap.size w w1) : Bk w1 g C T := h.keepN hb h.lt
theorem Bk.new (w : World) (C : Array Value) (T : TypeId) : Bk (w.alloc (.cells C T)) w.heap.size C T := heap_alloc_new _ _
theorem Bk.alloc {w : World} {g : Nat} {C : Array Value} {T : TypeId} (h : Bk w g C T) (o : Obj) : Bk (w.alloc o) g C T := h.keep ((Below.refl _ _).alloc (Nat.le_refl _) o)
theorem Bk.cell {w : World} {g : Nat} {C : Array Value} {T : TypeId} (h : Bk w g C T) (i : Nat) : w.cell? ⟨g, i, none⟩ = C[i]? := cell_of_row w _ _ _ _ _ h
theorem Bk.fr {w : World} {g : Nat} {C : Array Value} {T : TypeId} (h : Bk w g C T) (i : Nat) : w.frozen? ⟨g, i, none⟩ = false := frozen_of_row w _ _ _ _ h
theorem Bk.set {w : World} {g : Nat} {C : Array Value} {T : TypeId} (h : Bk w g C T) (i : Nat) (v : Value) : Bk (w.setCell ⟨g, i, none⟩ v) g (C.setIfInBounds i v) T := heap_setCell_same _ _ _ _ _ _ h
theorem Bk.oth {w : World} {g k : Nat} {C : Array Value} {T : TypeId} (h : Bk w g C T) (hk : ¬ g = k) (i : Nat) (v : Value) : Bk (w.setCell ⟨k, i, none⟩ v) g C T := (heap_setCell_other _ _ _ _ (by simpa using hk)).trans h
theorem Bk.c3 {w : World} {g : Nat} {a b c : Value} {T : TypeId} (h : Bk w g #[a, b, c] T) : w.cell? ⟨g, 0, none⟩ = some a ∧ w.cell? ⟨g, 1, none⟩ = some b ∧ w.cell? ⟨g, 2, none⟩ = some c := ⟨h.cell 0, h.cell 1, h.cell 2⟩
theorem Bk.c2 {w : World} {g : Nat} {a b : Value} {T : TypeId} (h : Bk w g #[a, b] T) : w.cell? ⟨g, 0, none⟩ = some a ∧ w.cell? ⟨g, 1, none⟩ = some b := ⟨h.cell 0, h.cell 1⟩
theorem Bk.c4 {w : World} {g : Nat} {a b c d : Value} {T : TypeId} (h : Bk w g #[a, b, c, d] T) : w.cell? ⟨g, 0, none⟩ = some a ∧ w.cell? ⟨g, 1, none⟩ = some b ∧ w.cell? ⟨g, 2, none⟩ = some c ∧ w.cell? ⟨g, 3, none⟩ = some d := ⟨h.cell 0, h.cell 1, h.cell 2, h.cell 3⟩
theorem Bk.f4 {w : World} {g : Nat} {C : Array Value} {T : TypeId} (h : Bk w g C T) : w.frozen? ⟨g, 0, none⟩ = false ∧ w.frozen? ⟨g, 1, none⟩ = false ∧ w.frozen? ⟨g, 2, none⟩ = false ∧ w.frozen? ⟨g, 3, none⟩ = false := ⟨h.fr 0, h.fr 1, h.fr 2, h.fr 3⟩
theorem Bk.c7 {w : World} {g : Nat} {a b c d e f k : Value} {T : TypeId} (h : Bk w g #[a, b, c, d, e, f, k] T) : w.cell? ⟨g, 0, none⟩ = some a ∧ w.cell? ⟨g, 1, none⟩ = some b ∧ w.cell? ⟨g, 2, none⟩ = some c ∧ w.cell? ⟨g, 3, none⟩ = some d ∧ w.cell? ⟨g, 4, none⟩ = some e ∧ w.cell? ⟨g, 5, none⟩ = some f ∧ w.cell? ⟨g, 6, none⟩ = some k := ⟨h.cell 0, h.cell 1, h.cell 2, h.cell 3, h.cell 4, h.cell 5, h.cell 6⟩
theorem Bk.f7 {w : World} {g : Nat} {C : Array Value} {T : TypeId} (h : Bk w g C T) : w.frozen? ⟨g, 0, none⟩ = false ∧ w.frozen? ⟨g, 1, none⟩ = false ∧ w.frozen? ⟨g, 2, none⟩ = false ∧ w.frozen? ⟨g, 3, none⟩ = false ∧ w.frozen? ⟨g, 4, none⟩ = false ∧ w.frozen? ⟨g, 5, none⟩ = false ∧ w.frozen? ⟨g, 6, none⟩ = false := ⟨h.fr 0, h.fr 1, h.fr 2, h.fr 3, h.fr 4, h.fr 5, h.fr 6⟩
theorem Bk.drew {w : World} {g : Nat} {C : Array Value} {T : TypeId} (h : Bk w g C T) : Bk w.drew g C T := h
/-- cells from i on are written, one by one -/
def setL (w : World) (g : Nat) : Nat → List Value → World
  | _, [] => w
  | i, v :: vs => setL (w.setCell ⟨g, i, none⟩ v) g (i + 1) vs
def ovr (C : Array Value) : Nat → List Value → Array Value
  | _, [] => C
  | i, v :: vs => ovr (C.setIfInBounds i v) (i + 1) vs
theorem Bk.setL {g : Nat} {T : TypeId} : ∀ (vs : List Value) {w : World} {C : Array Value} (i : Nat), Bk w g C T → Bk (setL w g i vs) g (ovr C i vs) T
  | [], _, _, _, h => h
  | v :: vs, _, _, i, h => Bk.setL vs (i + 1) (h.set i v)
theorem setL_oth {g k : Nat} (hk : ¬ k = g) : ∀ (vs : List Value) (w : World) (i : Nat), (setL w g i vs).heap[k]? = w.heap[k]?
  | [], _, _ => rfl
  | v :: vs, w, i => by
    unfold setL
    rw [setL_oth hk vs _ (i + 1), heap_setCell_other _ _ _ _ (by simpa using hk)]
theorem setL_size {g : Nat} : ∀ (vs : List Value) (w : World) (i : Nat), (setL w g i vs).heap.size = w.heap.size
  | [], _, _ => rfl
  | v :: vs, w, i => by
    unfold setL
    rw [setL_size vs _ (i + 1)]
    simp [World.setCell]
theorem setL_below {g n : Nat} {w0 : World} (hg : n ≤ g) : ∀ (vs : List Value) {w : World} (i : Nat), Below n w0 w → Below n w0 (setL w g i vs)
  | [], _, _, h => h
  | v :: vs, _, i, h => setL_below hg vs (i + 1) (h.setCell (p := ⟨g, i, none⟩) hg v)
end Go.Proofs.Ytioiacmaijgdoaa
namespace Go.Proofs.Ytioiacmaijgdoaa
open Go.RowKit Go.Deep
set_option linter.unusedVariables false
theorem peerI_first : ∀ (ps : List Pr) (x : Int) (k : Nat), k < ps.length → (∀ i, i < k → ¬ (ps.getD i pr0).id = x) → (ps.getD k pr0).id = x → peerI ps x = ps.getD k pr0
  | [], x, k, hk, _, _ => by simp at hk
  | p :: ps, x, 0, _, _, h => by
    unfold peerI
    rw [if_pos (by simpa using h)]
    simp
  | p :: ps, x, k + 1, hk, h1, h2 => by
    unfold peerI
    rw [if_neg (by have := h1 0 (by omega); simpa using this)]
    have := peerI_first ps x k (by simpa using hk) (fun i hi => by have := h1 (i + 1) (by omega); simpa using this) (by simpa using h2)
    simpa using this
/-- the place of the first peer with an Id -/
def idxI : List Pr → Int → Nat
  | [], _ => 0
  | p :: ps, x => if p.id = x then 0 else idxI ps x + 1
theorem idxI_first : ∀ (ps : List Pr) (x : Int) (k : Nat), k < ps.length → (∀ i, i < k → ¬ (ps.getD i pr0).id = x) → (ps.getD k pr0).id = x → idxI ps x = k
  | [], x, k, hk, _, _ => by simp at hk
  | p :: ps, x, 0, _, _, h => by
    unfold idxI
    rw [if_pos (by simpa using h)]
  | p :: ps, x, k + 1, hk, h1, h2 => by
    unfold idxI
    rw [if_neg (by have := h1 0 (by omega); simpa using this)]
    have := idxI_first ps x k (by simpa using hk) (fun i hi => by have := h1 (i + 1) (by omega); simpa using this) (by simpa using h2)
    omega
theorem idxI_mem : ∀ (ps : List Pr) (x : Int), hasB (idsP ps) x = true → idxI ps x < ps.length ∧ peerI ps x = ps.getD (idxI ps x) pr0
  | [], x, h => by
    have := of_decide_eq_true h
    obtain ⟨i, hi, _⟩ := this
    simp [idsP] at hi
  | p :: ps, x, h => by
    unfold peerI idxI
    by_cases he : p.id = x
    · rw [if_pos he, if_pos he]
      exact ⟨by simp, by simp⟩
    · rw [if_neg he, if_neg he]
      have h2 : hasB (idsP ps) x = true := by
        obtain ⟨i, hi, hx⟩ := of_decide_eq_true h
        cases i with
        | zero => exact absurd (by simpa [idsP] using hx) he
        | succ i => exact decide_eq_true ⟨i, by simpa [idsP] using hi, by simpa [idsP] using hx⟩
      obtain ⟨h3, h4⟩ := idxI_mem ps x h2
      exact ⟨by simpa using h3, by simpa using h4⟩
theorem peer_at {w : World} {bk off : Nat} {ps : List Pr} {x : Int} (hx : hasB (idsP ps) x = true) (hr : PeersAt w (some ⟨bk, off, none⟩) ps) : bk < w.heap.size ∧ PeerAt w bk (off + idxI ps x * 4) (peerI ps x) := by
  obtain ⟨h1, h2⟩ := idxI_mem ps x hx
  obtain ⟨h3, h4⟩ := peersAt_cell hr (by omega)
  rw [h2]
  exact ⟨h3, h4 _ h1⟩
theorem fwd_any (n : Int) (w : World) :
    Calls Try.prog 31 #[.int .i64 n] w fun e w' => e = .returned (.bool (inB n 0 1000)) ∧ w' = w := by
  by_cases h1 : 0 ≤ n
  · by_cases h2 : n ≤ 1000
    · rw [inB_yes h1 h2]
      go_enter Try.func31, Try.ntmps31
      go_wp2
      go_ret
      exact ⟨rfl, rfl⟩
    · rw [inB_no (by omega)]
      go_enter Try.func31, Try.ntmps31
      go_wp2
      go_ret
      exact ⟨rfl, rfl⟩
  · rw [inB_no (by omega)]
    go_enter Try.func31, Try.ntmps31
    go_wp2
    go_ret
    exact ⟨rfl, rfl⟩
set_option maxHeartbeats 800000 in
theorem isId_any (b d : Int) (q : Nat) (a : Option Addr) (cap : Nat) (ps : List Pr) (x : Int) (w : World) (R : Ring b d (idsP ps)) (hq : q < w.heap.size) (c2 : w.cell? ⟨q, 2, none⟩ = some (.slice a ps.length cap)) (hr : PeersAt w a ps) :
    Calls Try.prog 79 #[.pointer (some ⟨q, 0, none⟩), .int .i64 x] w fun e w' => e = .returned (.bool (hasB (idsP ps) x)) ∧ Below w.heap.size w w' := by
  have hil := idsP_len ps
  have l2 := R.l2
  rw [hil] at l2
  have CI := idsOf_any q a cap ps w (by omega) hq c2 hr
  have hv : Hid (hasB (idsP ps) x = memI (idsP ps) x) := (mem_has R x).symm
  go_enter Try.func79, Try.ntmps79
  go_wp2_with fail
  refine CI.mono ?_
  rintro e w1 ⟨rfl, ow1⟩
  have C := isMember_any (some ⟨w.heap.size, 0, none⟩) ps.length (idsP ps) x w1 (by unfold maxLen; omega) (rowAt_of_row ow1.row)
  rw [hil] at C
  go_wp2_with fail
  refine C.mono ?_
  rintro e w2 ⟨rfl, hw2⟩
  subst hw2
  go_wp2
  go_ret
  exact ⟨ret_bool hv.out.symm, ow1.bel⟩
theorem peerI_none : ∀ (ps : List Pr) (x : Int), (∀ i, i < ps.length → ¬ (ps.getD i pr0).id = x) → peerI ps x = prN
  | [], x, _ => rfl
  | p :: ps, x, h => by
    unfold peerI
    rw [if_neg (by have := h 0 (by simp); simpa using this)]
    exact peerI_none ps x (fun i hi => by have := h (i + 1) (by simpa using hi); simpa using this)
theorem hasB_at {ps : List Pr} {x : Int} {j : Nat} (hj : j < ps.length) (h : (ps.getD j pr0).id = x) : hasB (idsP ps) x = true := decide_eq_true ⟨j, by rw [idsP_len]; exact hj, by rw [idsP_get]; exact h⟩
theorem hasB_not {ps : List Pr} {x : Int} (h : ∀ i, i < ps.length → ¬ (ps.getD i pr0).id = x) : hasB (idsP ps) x = false := decide_eq_false (fun ⟨i, hi, he⟩ => h i (by rw [idsP_len] at hi; exact hi) (by rw [idsP_get] at he; exact he))
/-- the slice of the backs of a peer that is found -/
def bkV (w : World) (a : Option Addr) (ps : List Pr) (x : Int) : Value :=
  if hasB (idsP ps) x = true then (match a with | some p => (w.cell? ⟨p.block, p.off + idxI ps x * 4 + 3, none⟩).getD undef | none => undef) else .slice none 0 0
theorem bkV_keep {w w1 : World} {a : Option Addr} {ps : List Pr} {x : Int} {n : Nat} (hr : PeersAt w a ps) (hb : Below n w w1) (hn : w.heap.size ≤ n) : bkV w1 a ps x = bkV w a ps x := by
  unfold bkV
  by_cases h : hasB (idsP ps) x = true
  · rw [if_pos h, if_pos h]
    obtain ⟨h1, _⟩ := idxI_mem ps x h
    obtain ⟨bk, off, rfl⟩ := peersAt_form hr (by omega)
    obtain ⟨h3, _⟩ := peersAt_cell hr (by omega)
    show (w1.cell? ⟨bk, off + idxI ps x * 4 + 3, none⟩).getD undef = (w.cell? ⟨bk, off + idxI ps x * 4 + 3, none⟩).getD undef
    rw [hb.cell (p := ⟨bk, off + idxI ps x * 4 + 3, none⟩) (by show bk < n; omega)]
  · rw [if_neg h, if_neg h]
end Go.Proofs.Ytioiacmaijgdoaa
namespace Go.Proofs.Ytioiacmaijgdoaa
open Go.RowKit Go.Deep
set_option linter.unusedVariables false
set_option linter.unusedSimpArgs false
/-- one block: what came in -/
structure B1 (w wr : World) (A : Array Value) (TA : TypeId) : Prop where
  bel : Below w.heap.size w wr
  ka : Wire.Bk wr w.heap.size A TA
theorem B1.keep {w wr w1 : World} {A : Array Value} {TA : TypeId} (h : B1 w wr A TA) (hb : Below wr.heap.size wr w1) : B1 w w1 A TA := ⟨belt h.bel hb, h.ka.keep hb⟩
theorem b10 (w : World) (A : Array Value) (TA : TypeId) : B1 w (w.alloc (.cells A TA)) A TA := ⟨belA _ _, Wire.Bk.new _ _ _⟩
theorem lmemb (b d : Int) (a : Option Addr) (cap : Nat) (ps : List Pr) (w : World) (hm : ps.length ≤ 1048576) (hr : PeersAt w a ps) :
    Calls Try.prog 59 #[.agg #[.int .i64 b, .int .i64 d, .slice a ps.length cap]] w fun e w' => ∃ a1 cap1, e = .returned (.slice a1 ps.length cap1) ∧ RowAt w' a1 (idsP ps) ∧ Below w.heap.size w w' := by
  refine (lmembers_any b d a cap ps w hm hr).mono ?_
  rintro e w2 ⟨v1, rfl, hown1, hw1⟩
  obtain ⟨a1, cap1, rfl, hc1, hrow1⟩ := own_rowAt hown1
  rw [idsP_len]
  exact ⟨a1, cap1, rfl, hrow1, hw1⟩
theorem lhasN (a : Option Addr) (cap n : Nat) (zs : List Int) (x : Int) (w : World) (hn : zs.length = n) (hm : n ≤ maxLen) (hr : RowAt w a zs) : Calls Try.prog 56 #[.slice a n cap, .int .i64 x] w fun e w' => e = .returned (.bool (hasB zs x)) ∧ w' = w := by
  subst hn
  exact lhas_any a cap zs x w hm hr
def lkL (ms : List Mg) (rs : List Rp) : List Int := lkM ms ++ lkR rs
theorem lkL_len (ms : List Mg) (rs : List Rp) : (lkL ms rs).length = ms.length + rs.length := by unfold lkL; rw [List.length_append, lkM_len, lkR_len]
theorem lkL_m {ms : List Mg} {rs : List Rp} {i : Nat} (h : i < ms.length) : (lkL ms rs).getD i 0 = (ms.getD i mg0).x1 := by
  rw [← lkM_get h]
  unfold lkL
  rw [List.getD_eq_getElem?_getD, List.getElem?_append_left (by rw [lkM_len]; exact h), List.getD_eq_getElem?_getD]
theorem lkL_r {ms : List Mg} {rs : List Rp} {i : Nat} (h : i < rs.length) : (lkL ms rs).getD (ms.length + i) 0 = (rs.getD i rp0).x0 := by
  rw [← lkR_get h]
  unfold lkL
  rw [List.getD_eq_getElem?_getD, List.getElem?_append_right (by rw [lkM_len]; omega), lkM_len, List.getD_eq_getElem?_getD]
  congr 3
  omega
theorem take_snoc {L : List Int} {k : Nat} (h : k < L.length) : L.take (k + 1) = L.take k ++ [L.getD k 0] := by
  rw [List.take_add_one, List.getD_eq_getElem?_getD, List.getElem?_eq_getElem h]; rfl
theorem goodN_m {b d ttl : Int} {ps : List Pr} {ms : List Mg} {gs : List Int} {rs : List Rp} {k : Nat} (hk : k < ms.length) (h : okMg b d (idsP ps) (ms.getD k mg0) = false) : goodN b d ttl ps ms gs rs = false := by
  have : decide (∀ i, i < ms.length → okMg b d (idsP ps) (ms.getD i mg0) = true) = false := decide_eq_false (fun hh => by rw [hh k hk] at h; cases h)
  unfold goodN
  rw [this]
  simp
theorem goodN_a {b d ttl : Int} {ps : List Pr} {ms : List Mg} {gs : List Int} {rs : List Rp} {k : Nat} (hk : k < ms.length + rs.length) (h : ¬ (hasB gs ((lkL ms rs).getD k 0) = true ∧ hasB ((lkL ms rs).take k) ((lkL ms rs).getD k 0) = false)) : goodN b d ttl ps ms gs rs = false := by
  have : appB gs (lkM ms ++ lkR rs) = false := decide_eq_false (fun hh => h (hh k (by rw [← lkL_len] at hk; exact hk)))
  unfold goodN
  rw [this]
  simp
theorem goodN_yes {b d ttl : Int} {ps : List Pr} {ms : List Mg} {gs : List Int} {rs : List Rp} (h1 : goodP b d ps = true) (h2 : inB ttl 0 1000 = true) (h3 : ms.length ≤ 12) (h4 : gs.length ≤ 12) (h5 : risB gs 0 255 = true) (h6 : ∀ i, i < ms.length → okMg b d (idsP ps) (ms.getD i mg0) = true)
    (h7 : ∀ i, i < ms.length + rs.length → hasB gs ((lkL ms rs).getD i 0) = true ∧ hasB ((lkL ms rs).take i) ((lkL ms rs).getD i 0) = false) : goodN b d ttl ps ms gs rs = true := by
  have a1 : appB gs (lkM ms ++ lkR rs) = true := decide_eq_true (fun i hi => h7 i (by rw [← lkL_len]; exact hi))
  unfold goodN
  rw [h1, h2, h5, a1, decide_eq_true h3, decide_eq_true h4, decide_eq_true h6]; rfl
set_option maxRecDepth 100000 in
set_option maxHeartbeats 12800000 in
theorem lgoodN_any (b d ttl : Int) (ap am ag ar : Option Addr) (cp cm cg cr : Nat) (ps : List Pr) (ms : List Mg) (gs : List Int) (rs : List Rp) (w : World) (hb : BigN ps ms gs rs) (hr : NetAt w ap am ag ar ps ms gs rs) :
    Calls Try.prog 46 #[.agg #[.int .i64 b, .int .i64 d, .slice ap ps.length cp, .int .i64 ttl, .slice am ms.length cm, .slice ag gs.length cg, .slice ar rs.length cr]] w fun e w' => e = .returned (.bool (goodN b d ttl ps ms gs rs)) ∧ Below w.heap.size w w' := by
  obtain ⟨i0, hi, hz0, hz1, hz2⟩ := info_parts'
  have HBG : Hid (BigN ps ms gs rs) := hb
  have HR : Hid (NetAt w ap am ag ar ps ms gs rs) := hr
  have hpl : ps.length ≤ 1048576 := by have := hb.p; omega
  have hml : ms.length ≤ 1048576 := by have := hb.m; omega
  have hgl : gs.length ≤ 1048576 := hb.g
  have hrl : rs.length ≤ 1048576 := hb.r
  have hil := idsP_len ps
  clear hr hb
  go_enter Try.func46, Try.ntmps46
  go_wp2_with fail
  refine (lmemb b d ap cp ps _ hpl (HR.out.keep (belA _ _)).p).mono ?_
  rintro e w1 ⟨a1, cap1, rfl, hI, HW⟩
  have BX1 : Hid (B1 w w1 #[.int .i64 b, .int .i64 d, .slice ap ps.length cp, .int .i64 ttl, .slice am ms.length cm, .slice ag gs.length cg, .slice ar rs.length cr] 36) := (b10 w _ _).keep HW
  have HI1 : Hid (RowAt w1 a1 (idsP ps)) := hI
  clear HW hI
  obtain ⟨q0, q1, q2, q3, q4, q5, q6⟩ := Wire.Bk.m7 BX1.out.ka
  have qlt := BX1.out.ka.lt
  go_wp2_with fail
  refine (lgood_any b d ap cp ps _ hpl (HR.out.keep BX1.out.bel).p).mono ?_
  rintro e w2 ⟨rfl, HW⟩
  have BX2 : Hid (B1 w w2 #[.int .i64 b, .int .i64 d, .slice ap ps.length cp, .int .i64 ttl, .slice am ms.length cm, .slice ag gs.length cg, .slice ar rs.length cr] 36) := BX1.out.keep HW
  have HI2 : Hid (RowAt w2 a1 (idsP ps)) := HI1.out.keep HW
  clear HW BX1 HI1 q0 q1 q2 q3 q4 q5 q6 qlt
  obtain ⟨q0, q1, q2, q3, q4, q5, q6⟩ := Wire.Bk.m7 BX2.out.ka
  have qlt := BX2.out.ka.lt
  cases hG : goodP b d ps
  · have HV : Hid (goodN b d ttl ps ms gs rs = false) := by unfold Hid goodN; rw [hG]; rfl
    clear hG
    go_wp2
    go_ret
    exact ⟨ret_bool HV.out.symm, BX2.out.bel⟩
  have HG : Hid (goodP b d ps = true) := hG
  clear hG
  go_wp2_with fail
  refine (lin_any ttl 0 1000 _).mono ?_
  rintro e wx ⟨rfl, hx⟩
  have hx' := hx.symm
  subst hx'
  clear hx
  cases hT : inB ttl 0 1000
  · have HV : Hid (goodN b d ttl ps ms gs rs = false) := by unfold Hid goodN; rw [hT]; simp
    clear hT
    go_wp2
    go_ret
    exact ⟨ret_bool HV.out.symm, BX2.out.bel⟩
  have HT : Hid (inB ttl 0 1000 = true) := hT
  clear hT
  by_cases hM : ms.length ≤ 12
  case neg =>
    have HV : Hid (goodN b d ttl ps ms gs rs = false) := by unfold Hid goodN; rw [decide_eq_false hM]; simp
    go_wp2
    go_ret
    exact ⟨ret_bool HV.out.symm, BX2.out.bel⟩
  by_cases hS : gs.length ≤ 12
  case neg =>
    have HV : Hid (goodN b d ttl ps ms gs rs = false) := by unfold Hid goodN; rw [decide_eq_false hS]; simp
    go_wp2
    go_ret
    exact ⟨ret_bool HV.out.symm, BX2.out.bel⟩
  go_wp2_with fail
  refine (lrising_any ag cg gs 0 255 _ (by unfold maxLen; omega) (HR.out.keep BX2.out.bel).g).mono ?_
  rintro e wx ⟨rfl, hx⟩
  have hx' := hx.symm
  subst hx'
  clear hx
  cases hE : risB gs 0 255
  · have HV : Hid (goodN b d ttl ps ms gs rs = false) := by unfold Hid goodN; rw [hE]; simp
    clear hE
    go_wp2
    go_ret
    exact ⟨ret_bool HV.out.symm, BX2.out.bel⟩
  have HE : Hid (risB gs 0 255 = true) := hE
  have HR2 : Hid (NetAt w2 ap am ag ar ps ms gs rs) := HR.out.keep BX2.out.bel
  clear hE HR
  go_wp2_with fail
  clear q0 q1 q2 q3 q4 q5 q6
  go_loopw [4, 43] (fun vs vi wr => ∃ (vo : Value) (k : Nat), vs = vo ∧ k ≤ ms.length ∧ vi = .int .i64 k ∧ Hid (wr.ownsRow w2.heap.size 3 1 vo ((lkL ms rs).take k).length (((lkL ms rs).take k).map (Value.int .i64))) ∧ Hid (Below w2.heap.size w2 wr) ∧ Hid (∀ i, i < k → okMg b d (idsP ps) (ms.getD i mg0) = true) ∧ Hid (∀ i, i < k → hasB gs ((lkL ms rs).getD i 0) = true ∧ hasB ((lkL ms rs).take i) ((lkL ms rs).getD i 0) = false)) (fun _ vi _ => ms.length - (intOf vi).toNat)
  case atStart => exact ⟨_, 0, rfl, Nat.zero_le _, rfl, World.ownsRow_nil _ _ _ _, Below.refl _ _, fun i hi => by omega, fun i hi => by omega⟩
  case round =>
    obtain ⟨vo, k, hvo, hk, rfl, HO, HB, HOK, HAP⟩ := hrel
    have hvo := hvo.symm
    subst hvo
    obtain ⟨T, hT⟩ : ∃ T, T = (lkL ms rs).take k := ⟨_, rfl⟩
    rw [← hT] at HO
    have HTE : Hid (T = (lkL ms rs).take k) := hT
    clear hT
    have BX : Hid (B1 w wr #[.int .i64 b, .int .i64 d, .slice ap ps.length cp, .int .i64 ttl, .slice am ms.length cm, .slice ag gs.length cg, .slice ar rs.length cr] 36) := BX2.out.keep HB.out
    have HRr : Hid (NetAt wr ap am ag ar ps ms gs rs) := HR2.out.keep HB.out
    obtain ⟨q0, q1, q2, q3, q4, q5, q6⟩ := Wire.Bk.m7 BX.out.ka
    have qlt := BX.out.ka.lt
    obtain ⟨am', cm', rfl, hcm, hrow⟩ := own_rowAt HO.out
    have HMET : Hid (RowAt wr am' T) := hrow
    clear hrow
    by_cases hlt : k < ms.length
    · obtain ⟨bk, off, rfl⟩ := lsAt_form HRr.out.m (by show 0 < ms.length; omega)
      obtain ⟨hb1, ab, cb, hc, hrb, hn, hcb⟩ := msAt_cell HRr.out.m hlt
      obtain ⟨c0, c1, c2, c3, c4, c5, c6, c7, c8⟩ := hc.m9
      have HNO : Hid (okMg b d (idsP ps) (ms.getD k mg0) = false → goodN b d ttl ps ms gs rs = false) := goodN_m hlt
      have HNA : Hid (¬ (hasB gs ((lkL ms rs).getD k 0) = true ∧ hasB T ((lkL ms rs).getD k 0) = false) → goodN b d ttl ps ms gs rs = false) := by rw [HTE.out]; exact goodN_a (by omega)
      have HX1 : Hid ((lkL ms rs).getD k 0 = (ms.getD k mg0).x1) := lkL_m hlt
      have HTK : Hid ((lkL ms rs).take (k + 1) = T ++ [(lkL ms rs).getD k 0]) := by rw [HTE.out]; exact take_snoc (by rw [lkL_len]; omega)
      have hle : T.length ≤ 2097152 := by rw [HTE.out, List.length_take, lkL_len]; omega
      have HML : Hid ((ms.getD k mg0).l.length ≤ 1048576) := by have := lsum_mem hlt; have := HBG.out.m; unfold Hid; omega
      clear hc hcb hn
      obtain ⟨p, hp⟩ : ∃ p, p = ms.getD k mg0 := ⟨_, rfl⟩
      have HP : Hid (p = ms.getD k mg0) := hp
      rw [← hp] at c0 c1 c2 c3 c4 c5 c6 c7 c8 hrb HML HNO HX1
      clear hp
      obtain ⟨x0, x1, x2, x3, x4, x5, x6, x7, l⟩ := p
      have HRB : Hid (RowAt wr ab l) := hrb
      have HX1 : Hid ((lkL ms rs).getD k 0 = x1) := HX1
      rw [HX1.out] at HNA HTK
      have HML : Hid (l.length ≤ 1048576) := HML
      clear hrb
      go_wp2_with fail
      refine (Wire.lGoodMsg_any b d x0 x1 x2 x3 x4 x5 x6 x7 ab cb l.length l _ rfl (by have := HML.out; unfold maxLen; omega) (HRB.out.keep (belA _ _))).mono ?_
      rintro e w3 ⟨rfl, HW⟩
      have K3 : Hid (Wire.Bk w3 wr.heap.size #[.int .i64 x0, .int .i64 x1, .int .i64 x2, .int .i64 x3, .int .i64 x4, .int .i64 x5, .int .i64 x6, .int .i64 x7, .slice ab l.length cb] 82) := (Wire.Bk.new _ _ _).keep HW
      have HB3 : Hid (Below wr.heap.size wr w3) := belt (belA _ _) HW
      have HW3 : Hid (Below (wr.heap.size + 1) (wr.alloc (.cells #[.int .i64 x0, .int .i64 x1, .int .i64 x2, .int .i64 x3, .int .i64 x4, .int .i64 x5, .int .i64 x6, .int .i64 x7, .slice ab l.length cb] 82)) w3) := by have h := HW; simp only [World.size_alloc] at h; exact h
      have BX3 : Hid (B1 w w3 #[.int .i64 b, .int .i64 d, .slice ap ps.length cp, .int .i64 ttl, .slice (some ⟨bk, off, none⟩) ms.length cm, .slice ag gs.length cg, .slice ar rs.length cr] 36) := BX.out.keep HB3.out
      clear HW q0 q1 q2 q3 q4 q5 q6 qlt c0 c1 c2 c3 c4 c5 c6 c7 c8 BX
      obtain ⟨q0, q1, q2, q3, q4, q5, q6⟩ := Wire.Bk.m7 BX3.out.ka
      have qlt := BX3.out.ka.lt
      obtain ⟨m0, m1, m2, m3, m4, m5, m6, m7, m8⟩ := Wire.Bk.c9 K3.out
      have mlt := K3.out.lt
      cases h1 : Wire.gmB b d x0 x1 x2 x3 x4 x5 x6 x7 l
      · have HV : Hid (goodN b d ttl ps ms gs rs = false) := HNO.out (by unfold okMg; rw [h1]; rfl)
        clear h1
        go_wp2
        go_ret
        exact ⟨ret_bool HV.out.symm, BX3.out.bel⟩
      go_wp2_with fail
      refine (lin_any x0 1 3 _).mono ?_
      rintro e wx ⟨rfl, hx⟩
      have hx' := hx.symm
      subst hx'
      clear hx
      cases h2 : inB x0 1 3
      · have HV : Hid (goodN b d ttl ps ms gs rs = false) := HNO.out (by unfold okMg; rw [h2]; simp)
        clear h1 h2
        go_wp2
        go_ret
        exact ⟨ret_bool HV.out.symm, BX3.out.bel⟩
      go_wp2_with fail
      refine (lhasN a1 cap1 ps.length (idsP ps) x2 w3 hil (by unfold maxLen; omega) ((HI2.out.keep HB.out).keep HB3.out)).mono ?_
      rintro e wx ⟨rfl, hx⟩
      have hx' := hx.symm
      subst hx'
      clear hx
      cases h3 : hasB (idsP ps) x2
      · have HV : Hid (goodN b d ttl ps ms gs rs = false) := HNO.out (by unfold okMg; rw [h3]; simp)
        clear h1 h2 h3
        go_wp2
        go_ret
        exact ⟨ret_bool HV.out.symm, BX3.out.bel⟩
      go_wp2_with fail
      refine (lhasN a1 cap1 ps.length (idsP ps) x3 w3 hil (by unfold maxLen; omega) ((HI2.out.keep HB.out).keep HB3.out)).mono ?_
      rintro e wx ⟨rfl, hx⟩
      have hx' := hx.symm
      subst hx'
      clear hx
      cases h4 : hasB (idsP ps) x3
      · have HV : Hid (goodN b d ttl ps ms gs rs = false) := HNO.out (by unfold okMg; rw [h4]; simp)
        clear h1 h2 h3 h4
        go_wp2
        go_ret
        exact ⟨ret_bool HV.out.symm, BX3.out.bel⟩
      go_wp2_with fail
      refine (lhasN ag cg gs.length gs x1 w3 rfl (by unfold maxLen; omega) (HRr.out.keep HB3.out).g).mono ?_
      rintro e wx ⟨rfl, hx⟩
      have hx' := hx.symm
      subst hx'
      clear hx
      cases h5 : hasB gs x1
      · have HV : Hid (goodN b d ttl ps ms gs rs = false) := HNA.out (fun hh => by rw [h5] at hh; cases hh.1)
        clear h1 h2 h3 h4 h5
        go_wp2
        go_ret
        exact ⟨ret_bool HV.out.symm, BX3.out.bel⟩
      go_wp2_with fail
      refine (lhasN am' cm' T.length T x1 w3 rfl (by unfold maxLen; omega) (HMET.out.keep HB3.out)).mono ?_
      rintro e wx ⟨rfl, hx⟩
      have hx' := hx.symm
      subst hx'
      clear hx
      cases h6 : hasB T x1
      case true =>
        have HV : Hid (goodN b d ttl ps ms gs rs = false) := HNA.out (fun hh => by rw [h6] at hh; cases hh.2)
        clear h1 h2 h3 h4 h5 h6
        go_wp2
        go_ret
        exact ⟨ret_bool HV.out.symm, BX3.out.bel⟩
      have HOK2 : Hid (∀ i, i < k + 1 → okMg b d (idsP ps) (ms.getD i mg0) = true) := fun i hi => by
        by_cases he : i = k
        · subst he; rw [← HP.out]; unfold okMg; rw [h1, h2, h3, h4]; rfl
        · exact HOK.out i (by omega)
      have HAP2 : Hid (∀ i, i < k + 1 → hasB gs ((lkL ms rs).getD i 0) = true ∧ hasB ((lkL ms rs).take i) ((lkL ms rs).getD i 0) = false) := fun i hi => by
        by_cases he : i = k
        · subst he; rw [HX1.out, ← HTE.out]; exact ⟨h5, h6⟩
        · exact HAP.out i (by omega)
      have HBz : Hid (Below w2.heap.size w2 w3) := belt HB.out HB3.out
      have HOz : Hid (w3.ownsRow w2.heap.size 3 1 (.slice am' T.length cm') T.length (T.map (Value.int .i64))) := own_blocks HO.out (fun q hq => HB3.out.block q ((HO.out.lt q hq).2))
      clear h1 h2 h3 h4 h5 h6 HNO HNA HOK HAP
      go_wp2_with (at_builtin; refine wpList_append_own _ rfl (.tmp 87) (.tmp 90) 33 rfl w2.heap.size 3 i0 (.int .i64 0) 1 8 Try.underlying33 hi hz0 hz1 hz2 rfl (by decide) _ _ _ rfl (HOz.out.alloc _) ⟨w3.heap.size, 0, none⟩ 1 1 [.int .i64 x1] rfl rfl (cell_one_new _ _ _) (by simp [Value.oneCell']) (by unfold maxLen; omega) (by omega) (alloc_size HBz.out) ?_; intro v5 w5 hown5 hgrow5 _; have HB5 : Hid (Below w2.heap.size w2 w5) := grown_bel (HBz.out.alloc HBz.out.size _) hgrow5 (alloc_size HBz.out) (fun k hk => (HOz.out.lt k hk).1); have HO5 : Hid (w5.ownsRow w2.heap.size 3 1 v5 ((lkL ms rs).take (k + 1)).length (((lkL ms rs).take (k + 1)).map (Value.int .i64))) := own_snoc HTK.out hown5; clear hown5 hgrow5)
      go_roundw
      case rel => exact ⟨_, k + 1, rfl, by omega, by go_num, HO5, HB5, HOK2, HAP2⟩
      case measure => simp [intOf]; omega
    · have hke : k = ms.length := by omega
      subst hke
      go_wp2_with fail
      clear q0 q1 q2 q3 q4 q5 q6 HMET qlt BX HRr
      go_loopw [4, 96] (fun vs vi w' => ∃ (vo : Value) (j : Nat), vs = vo ∧ j ≤ rs.length ∧ vi = .int .i64 j ∧ Hid (w'.ownsRow w2.heap.size 3 1 vo ((lkL ms rs).take (ms.length + j)).length (((lkL ms rs).take (ms.length + j)).map (Value.int .i64))) ∧ Hid (Below w2.heap.size w2 w') ∧ Hid (∀ i, i < ms.length + j → hasB gs ((lkL ms rs).getD i 0) = true ∧ hasB ((lkL ms rs).take i) ((lkL ms rs).getD i 0) = false)) (fun _ vi _ => rs.length - (intOf vi).toNat)
      case atStart => exact ⟨_, 0, rfl, Nat.zero_le _, rfl, by rw [Nat.add_zero, ← HTE.out]; exact HO, HB, by rw [Nat.add_zero]; exact HAP⟩
      case round =>
        clear HTE HO hcm HB HAP
        obtain ⟨vo, j, hvo, hj, rfl, HO, HB, HAP⟩ := hrel
        have hvo := hvo.symm
        subst hvo
        obtain ⟨T2, hT⟩ : ∃ T2, T2 = (lkL ms rs).take (ms.length + j) := ⟨_, rfl⟩
        rw [← hT] at HO
        have HTE : Hid (T2 = (lkL ms rs).take (ms.length + j)) := hT
        clear hT
        have BX : Hid (B1 w wr #[.int .i64 b, .int .i64 d, .slice ap ps.length cp, .int .i64 ttl, .slice am ms.length cm, .slice ag gs.length cg, .slice ar rs.length cr] 36) := BX2.out.keep HB.out
        have HRr : Hid (NetAt wr ap am ag ar ps ms gs rs) := HR2.out.keep HB.out
        obtain ⟨q0, q1, q2, q3, q4, q5, q6⟩ := Wire.Bk.m7 BX.out.ka
        have qlt := BX.out.ka.lt
        obtain ⟨am', cm', rfl, hcm, hrow⟩ := own_rowAt HO.out
        have HMET : Hid (RowAt wr am' T2) := hrow
        clear hrow
        by_cases hlt : j < rs.length
        · obtain ⟨bk, off, rfl⟩ := lsAt_form HRr.out.r (by show 0 < rs.length; omega)
          obtain ⟨hb1, hc⟩ := rsAt_cell HRr.out.r hlt
          obtain ⟨c0, c1, c2, c3, c4⟩ := hc.r5
          have HNA : Hid (¬ (hasB gs ((lkL ms rs).getD (ms.length + j) 0) = true ∧ hasB T2 ((lkL ms rs).getD (ms.length + j) 0) = false) → goodN b d ttl ps ms gs rs = false) := by rw [HTE.out]; exact goodN_a (k := ms.length + j) (by omega)
          have HX1 : Hid ((lkL ms rs).getD (ms.length + j) 0 = (rs.getD j rp0).x0) := lkL_r hlt
          have HTK : Hid ((lkL ms rs).take (ms.length + (j + 1)) = T2 ++ [(lkL ms rs).getD (ms.length + j) 0]) := by rw [HTE.out]; exact take_snoc (k := ms.length + j) (by rw [lkL_len]; omega)
          have hle : T2.length ≤ 2097152 := by rw [HTE.out, List.length_take, lkL_len]; omega
          clear hc
          generalize rs.getD j rp0 = p at c0 c1 c2 c3 c4 HX1
          obtain ⟨x0, x1, x2, x3, bb⟩ := p
          have HX1 : Hid ((lkL ms rs).getD (ms.length + j) 0 = x0) := HX1
          rw [HX1.out] at HNA HTK
          go_wp2_with fail
          refine (lhasN ag cg gs.length gs x0 _ rfl (by unfold maxLen; omega) (HRr.out.keep (belA _ _)).g).mono ?_
          rintro e wx ⟨rfl, rfl⟩
          cases h5 : hasB gs x0
          · have HV : Hid (goodN b d ttl ps ms gs rs = false) := HNA.out (fun hh => by rw [h5] at hh; cases hh.1)
            clear h5
            go_wp2
            go_ret
            exact ⟨ret_bool HV.out.symm, belt BX.out.bel (belA _ _)⟩
          go_wp2_with fail
          refine (lhasN am' cm' T2.length T2 x0 _ rfl (by unfold maxLen; omega) (HMET.out.keep (belA _ _))).mono ?_
          rintro e wx ⟨rfl, rfl⟩
          cases h6 : hasB T2 x0
          case true =>
            have HV : Hid (goodN b d ttl ps ms gs rs = false) := HNA.out (fun hh => by rw [h6] at hh; cases hh.2)
            clear h5 h6
            go_wp2
            go_ret
            exact ⟨ret_bool HV.out.symm, belt BX.out.bel (belA _ _)⟩
          have HAP2 : Hid (∀ i, i < ms.length + (j + 1) → hasB gs ((lkL ms rs).getD i 0) = true ∧ hasB ((lkL ms rs).take i) ((lkL ms rs).getD i 0) = false) := fun i hi => by
            by_cases he : i = ms.length + j
            · subst he; rw [HX1.out, ← HTE.out]; exact ⟨h5, h6⟩
            · exact HAP.out i (by omega)
          clear h5 h6 HNA HAP
          go_wp2_with (at_builtin; refine wpList_append_own _ rfl (.tmp 112) (.tmp 115) 33 rfl w2.heap.size 3 i0 (.int .i64 0) 1 8 Try.underlying33 hi hz0 hz1 hz2 rfl (by decide) _ _ _ rfl ((HO.out.alloc _).alloc _) ⟨wr.heap.size + 1, 0, none⟩ 1 1 [.int .i64 x0] rfl rfl (cell_two_new _ _ _ _) (by simp [Value.oneCell']) (by unfold maxLen; omega) (by omega) (alloc2_size HB.out) ?_; intro v5 w5 hown5 hgrow5 _; have HB5 : Hid (Below w2.heap.size w2 w5) := grown_bel ((HB.out.alloc HB.out.size _).alloc (alloc_size HB.out) _) hgrow5 (alloc2_size HB.out) (fun k hk => (HO.out.lt k hk).1); have HO5 : Hid (w5.ownsRow w2.heap.size 3 1 v5 ((lkL ms rs).take (ms.length + (j + 1))).length (((lkL ms rs).take (ms.length + (j + 1))).map (Value.int .i64))) := own_snoc HTK.out hown5; clear hown5 hgrow5)
          go_roundw
          case rel => exact ⟨_, j + 1, rfl, by omega, by go_num, HO5, HB5, HAP2⟩
          case measure => simp [intOf]; omega
        · have HV : Hid (goodN b d ttl ps ms gs rs = true) := goodN_yes HG.out HT.out hM hS HE.out HOK.out (fun i hi => HAP.out i (by omega))
          go_wp2
          go_ret
          exact ⟨ret_bool HV.out.symm, BX.out.bel⟩
end Go.Proofs.Ytioiacmaijgdoaa
namespace Go.Proofs.Ytioiacmaijgdoaa
open Go.RowKit Go.Deep
set_option linter.unusedVariables false
set_option linter.unusedSimpArgs false
/-- a number put to its place, once -/
def putI (l : List Int) (x : Int) : List Int := if memI l x = true then l else joinL l x
def Inc (l : List Int) : Prop := l.Pairwise (· < ·)
theorem tw_dw : ∀ (l : List Int) (x : Int), l.take (blw l x) = l.takeWhile (fun y => decide (y < x)) ∧ l.drop (blw l x) = l.dropWhile (fun y => decide (y < x))
  | [], x => by simp [blw]
  | y :: ys, x => by
    have ih := tw_dw ys x
    unfold blw at ih ⊢
    by_cases h : y < x
    · simp [List.takeWhile_cons, List.dropWhile_cons, h, ih.1, ih.2]
    · simp [List.takeWhile_cons, List.dropWhile_cons, h]
theorem mem_tw {l : List Int} {x y : Int} (h : y ∈ l.takeWhile (fun y => decide (y < x))) : y < x := by
  have := List.all_eq_true.1 (List.all_takeWhile (p := fun y : Int => decide (y < x)) (l := l)) y h
  simpa using this
theorem inc_mem {l : List Int} (h : Inc l) (x : Int) : memI l x = hasB l x := by
  obtain ⟨e1, e2⟩ := tw_dw l x
  rw [Bool.eq_iff_iff, hasB_mem]
  unfold memI
  rw [decide_eq_true_iff]
  constructor
  · rintro ⟨h1, h2⟩
    rw [List.getD_eq_getElem?_getD, List.getElem?_eq_getElem h1] at h2
    simp at h2
    exact h2 ▸ List.getElem_mem h1
  · intro hx
    have hs : l = l.take (blw l x) ++ l.drop (blw l x) := (List.take_append_drop _ _).symm
    have hp : (l.take (blw l x) ++ l.drop (blw l x)).Pairwise (· < ·) := by rw [← hs]; exact h
    obtain ⟨_, p2, _⟩ := List.pairwise_append.1 hp
    have hx2 : x ∈ l.take (blw l x) ++ l.drop (blw l x) := by rw [← hs]; exact hx
    have hd : x ∈ l.drop (blw l x) := by
      rcases List.mem_append.1 hx2 with q | q
      · rw [e1] at q
        have := mem_tw q
        omega
      · exact q
    cases hdr : l.drop (blw l x) with
    | nil => rw [hdr] at hd; simp at hd
    | cons y ys =>
      have hlt : blw l x < l.length := by
        have : (l.drop (blw l x)).length = ys.length + 1 := by rw [hdr]; rfl
        rw [List.length_drop] at this
        omega
      have hy : l.getD (blw l x) 0 = y := by
        have h0 : (l.drop (blw l x))[0]? = some y := by rw [hdr]; rfl
        rw [List.getElem?_drop, Nat.add_zero] at h0
        rw [List.getD_eq_getElem?_getD, h0]; rfl
      refine ⟨hlt, ?_⟩
      rw [hy]
      rw [hdr] at hd p2
      rcases List.mem_cons.1 hd with q | q
      · exact q.symm
      · exfalso
        have h1 : y < x := (List.pairwise_cons.1 p2).1 x q
        have h2 : (l.dropWhile (fun y => decide (y < x))).head? = some y := by rw [← e2, hdr]; rfl
        have h3 := List.head?_dropWhile_not (fun y => decide (y < x)) l
        rw [h2] at h3
        simp at h3
        omega
theorem joinL_mem (l : List Int) (x y : Int) : y ∈ joinL l x ↔ y ∈ l ∨ y = x := by
  unfold joinL
  constructor
  · intro h
    rcases List.mem_append.1 h with q | q
    · exact .inl (List.mem_of_mem_take q)
    · rcases List.mem_cons.1 q with q | q
      · exact .inr q
      · exact .inl (List.mem_of_mem_drop q)
  · rintro (h | rfl)
    · rw [← List.take_append_drop (blw l x) l] at h
      rcases List.mem_append.1 h with q | q
      · exact List.mem_append_left _ q
      · exact List.mem_append_right _ (List.mem_cons_of_mem _ q)
    · exact List.mem_append_right _ (by simp)
theorem joinL_inc {l : List Int} {x : Int} (h : Inc l) (hx : ¬ x ∈ l) : Inc (joinL l x) := by
  obtain ⟨e1, e2⟩ := tw_dw l x
  have hp : (l.take (blw l x) ++ l.drop (blw l x)).Pairwise (· < ·) := by rw [List.take_append_drop]; exact h
  obtain ⟨p1, p2, p3⟩ := List.pairwise_append.1 hp
  have lo : ∀ y ∈ l.take (blw l x), y < x := fun y hy => by
    rw [e1] at hy
    exact mem_tw hy
  have hi : ∀ y ∈ l.drop (blw l x), x < y := fun y hy => by
    cases hdr : l.drop (blw l x) with
    | nil => rw [hdr] at hy; simp at hy
    | cons z zs =>
      have h2 : (l.dropWhile (fun y => decide (y < x))).head? = some z := by rw [← e2, hdr]; rfl
      have h3 := List.head?_dropWhile_not (fun y => decide (y < x)) l
      rw [h2] at h3
      simp at h3
      have hz : ¬ z = x := fun e => hx (by rw [← e]; exact List.mem_of_mem_drop (by rw [hdr]; simp))
      rw [hdr] at hy p2
      rcases List.mem_cons.1 hy with q | q
      · omega
      · have := (List.pairwise_cons.1 p2).1 y q
        omega
  unfold Inc joinL
  refine List.pairwise_append.2 ⟨p1, List.pairwise_cons.2 ⟨hi, p2⟩, fun a ha b hb => ?_⟩
  rcases List.mem_cons.1 hb with q | q
  · rw [q]; exact lo a ha
  · exact p3 a ha b q
theorem putI_mem {l : List Int} (h : Inc l) (x y : Int) : y ∈ putI l x ↔ y ∈ l ∨ y = x := by
  unfold putI
  split
  · rename_i hm
    rw [inc_mem h, hasB_mem] at hm
    exact ⟨.inl, fun hh => hh.elim id (fun e => e ▸ hm)⟩
  · exact joinL_mem l x y
theorem putI_inc {l : List Int} (h : Inc l) (x : Int) : Inc (putI l x) := by
  unfold putI
  split
  · exact h
  · rename_i hm
    exact joinL_inc h (fun hx => hm (by rw [inc_mem h]; exact hasB_mem.2 hx))
def putL (l L : List Int) : List Int := L.foldl putI l
theorem putL_inc : ∀ (L : List Int) {l : List Int}, Inc l → Inc (putL l L)
  | [], _, h => h
  | x :: L, _, h => putL_inc L (putI_inc h x)
theorem putL_mem : ∀ (L : List Int) {l : List Int}, Inc l → ∀ y, y ∈ putL l L ↔ y ∈ l ∨ y ∈ L
  | [], _, _, y => by simp [putL]
  | x :: L, l, h, y => by
    have := putL_mem L (putI_inc h x) y
    show y ∈ putL (putI l x) L ↔ _
    rw [this, putI_mem h]
    simp only [List.mem_cons]
    constructor
    · rintro ((h | h) | h)
      · exact .inl h
      · exact .inr (.inl h)
      · exact .inr (.inr h)
    · rintro (h | h | h)
      · exact .inl (.inl h)
      · exact .inl (.inr h)
      · exact .inr h
theorem putI_len (l : List Int) (x : Int) : (putI l x).length ≤ l.length + 1 ∧ ¬ putI l x = [] := by
  unfold putI
  split
  · rename_i hm
    refine ⟨by omega, fun h => ?_⟩
    have := (of_decide_eq_true hm).1
    rw [h] at this
    simp at this
  · refine ⟨by rw [joinL_len]; exact Nat.le_refl _, fun h => ?_⟩
    have := joinL_len l x
    rw [h] at this
    simp at this
theorem putL_len : ∀ (L l : List Int), (putL l L).length ≤ l.length + L.length
  | [], l => by simp [putL]
  | x :: L, l => by
    have h1 := putL_len L (putI l x)
    have h2 := (putI_len l x).1
    show (putL (putI l x) L).length ≤ _
    simp only [List.length_cons]
    omega
theorem putL_snoc (l L : List Int) (x : Int) : putL l (L ++ [x]) = putI (putL l L) x := by unfold putL; rw [List.foldl_append]; rfl
theorem putL_app (l L M : List Int) : putL l (L ++ M) = putL (putL l L) M := by unfold putL; rw [List.foldl_append]
theorem inc_nil : Inc [] := List.Pairwise.nil
/-- the specification's l1Put at a list of one's own -/
theorem lputP_any (B : Nat) (v : Value) (l : List Int) (x : Int) (w : World) (hS : OwnM B w v l) (hN : l = [] → v = .slice none 0 0) (hl : l.length ≤ 16) (hB : B ≤ w.heap.size) :
    Calls Try.prog 55 #[v, .int .i64 x] w fun e w' => ∃ v' : Value, e = .returned v' ∧ OwnM B w' v' (putI l x) ∧ Below w.heap.size w w' := by
  rcases hS.form with ⟨rfl, rfl⟩ | ⟨g, cap, rfl, hc, os⟩
  · refine (lput_nil x w).mono ?_
    rintro e w1 ⟨v', he, ho, hb⟩
    exact ⟨v', he, ho.mono hB, hb⟩
  · by_cases h0 : l.length = 0
    · have : l = [] := List.length_eq_zero_iff.1 h0
      exact absurd (hN this) (by simp)
    · refine (lputO_any g 0 cap l x w (by omega) hl hc os.rowAt).mono ?_
      rintro e w1 (⟨hm, he, hw⟩ | ⟨hm, g2, cp2, he, ho, hb⟩)
      · subst hw
        exact ⟨_, he, by unfold putI; rw [if_pos hm]; exact hS, Below.refl _ _⟩
      · refine ⟨_, he, ?_, hb⟩
        unfold putI
        rw [if_neg (by rw [hm]; simp)]
        unfold OwnM
        rw [joinL_len]
        exact Joins.ownsRow_le ho hB
/-- the looks that are lost -/
def lostP (L : List Int) (x : Int) : Bool := !hasB L x
def lostL (b d ttl : Int) (ps : List Pr) (ms : List Mg) (gs : List Int) (rs : List Rp) : List Int := if goodN b d ttl ps ms gs rs = true then gs.filter (lostP (lkL ms rs)) else []
theorem filter_step (p : Int → Bool) {gs : List Int} {k : Nat} (hk : k < gs.length) : (gs.take (k + 1)).filter p = (gs.take k).filter p ++ (if p (gs.getD k 0) = true then [gs.getD k 0] else []) := by
  rw [take_snoc hk, List.filter_append]
  congr 1
  by_cases h : p (gs.getD k 0) = true
  · rw [if_pos h]; simp only [List.filter_cons, h, if_true, List.filter_nil]
  · rw [if_neg h]
    simp only [List.filter_cons, List.filter_nil]
    rw [if_neg h]
theorem lostL_big {b d ttl : Int} {ps : List Pr} {ms : List Mg} {gs : List Int} {rs : List Rp} (h : gs.length ≤ 1048576) : (lostL b d ttl ps ms gs rs).length ≤ 1048576 := by
  unfold lostL
  split
  · exact Nat.le_trans (List.length_filter_le _ _) h
  · simp
/-- a list that is owned, as the laws see it -/
theorem own_ls {B : Nat} {w : World} {v : Value} {l : List Int} (h : w.ownsRow B 3 1 v l.length (l.map (Value.int .i64))) : ∃ a c, v = .slice a l.length c ∧ OwnLs B w.heap.size w a l.length l := by
  by_cases h0 : 0 < l.length
  · obtain ⟨g, cap, rfl⟩ := Joins.ownsRow_form h h0
    obtain ⟨os, _, hc⟩ := OwnS.of_owns h
    exact ⟨_, cap, rfl, rfl, .inr ⟨g, rfl, os.lt, os⟩⟩
  · have hl : l = [] := List.eq_nil_of_length_eq_zero (by omega)
    subst hl
    rcases Joins.ownsRow_forms h with ⟨h1, _⟩ | ⟨g, cap, h1⟩
    · exact ⟨none, 0, h1, rfl, .inl rfl⟩
    · exact ⟨_, cap, h1, rfl, .inl rfl⟩
end Go.Proofs.Ytioiacmaijgdoaa
namespace Go.Proofs.Ytioiacmaijgdoaa.Wire
open Go.RowKit
set_option linter.unusedVariables false
set_option linter.unusedSimpArgs false
def vf (x4 x5 x6 x7 f : Int) : Int := if f = 1 then x4 else if f = 2 then x5 else if f = 3 then x6 else x7
def fo (f : Int) : Nat := if f = 1 then 4 else if f = 2 then 5 else if f = 3 then 6 else 7
def mo (b d f : Int) : Int := if f = 3 then b / d else if f = 4 then 1000 else sz b - 1
theorem vf_cell (x0 x1 x2 x3 x4 x5 x6 x7 f : Int) (s : Value) : (#[.int .i64 x0, .int .i64 x1, .int .i64 x2, .int .i64 x3, .int .i64 x4, .int .i64 x5, .int .i64 x6, .int .i64 x7, s] : Array Value)[fo f]? = some (.int .i64 (vf x4 x5 x6 x7 f)) := by
  unfold fo vf
  by_cases h1 : f = 1
  · simp [h1]
  by_cases h2 : f = 2
  · simp [h2]
  by_cases h3 : f = 3
  · simp [h3]
  · simp [h1, h2, h3]
set_option maxHeartbeats 800000 in
theorem numberAt_any (g : Nat) (f : Int) (w : World) :
    Calls Try.prog 97 #[.pointer (some ⟨g, 0, none⟩), .int .i64 f] w fun e w' => e = .returned (.pointer (some ⟨g, fo f, none⟩)) ∧ w' = w := by
  by_cases h1 : f = 1
  · have hv : Hid (fo f = 4) := by subst h1; rfl
    rw [hv.out]
    subst h1
    go_enter Try.func97, Try.ntmps97
    go_wp2
    go_ret
    exact ⟨rfl, rfl⟩
  by_cases h2 : f = 2
  · have hv : Hid (fo f = 5) := by subst h2; rfl
    rw [hv.out]
    subst h2
    go_enter Try.func97, Try.ntmps97
    go_wp2
    go_ret
    exact ⟨rfl, rfl⟩
  by_cases h3 : f = 3
  · have hv : Hid (fo f = 6) := by subst h3; rfl
    rw [hv.out]
    subst h3
    go_enter Try.func97, Try.ntmps97
    go_wp2
    go_ret
    exact ⟨rfl, rfl⟩
  have hv : Hid (fo f = 7) := by unfold Hid fo; rw [if_neg h1, if_neg h2, if_neg h3]
  have g1 : (f == 1) = false := beq_eq_false_iff_ne.2 h1
  have g2 : (f == 2) = false := beq_eq_false_iff_ne.2 h2
  have g3 : (f == 3) = false := beq_eq_false_iff_ne.2 h3
  clear h1 h2 h3
  rw [hv.out]
  go_enter Try.func97, Try.ntmps97
  go_wp2
  go_ret
  exact ⟨rfl, rfl⟩
set_option maxHeartbeats 800000 in
theorem mostOf_any (b d f : Int) (w : World) (hg : gsB b d = true) :
    Calls Try.prog 98 #[.agg #[.int .i64 b, .int .i64 d], .int .i64 f] w fun e w' => e = .returned (.int .i64 (mo b d f)) ∧ Below w.heap.size w w' := by
  obtain ⟨hb1, hb2, hd1, hd2, _⟩ := gsB_true hg
  obtain ⟨hs1, hs2⟩ := sz_bd hb1 hb2
  by_cases h3 : f = 3
  · have hv : Hid (mo b d f = b / d) := by subst h3; rfl
    subst h3
    go_enter Try.func98, Try.ntmps98
    go_wp2_with (go_at_call 106; refine (count_any _ _ _ hb1 hb2 hd1 hd2).mono ?_; rintro e w1 ⟨rfl, hw1⟩)
    go_ret
    exact ⟨ret_int hv.out.symm, bel1 hw1 (by simp)⟩
  by_cases h4 : f = 4
  · have hv : Hid (mo b d f = 1000) := by subst h4; rfl
    subst h4
    go_enter Try.func98, Try.ntmps98
    go_wp2
    go_ret
    exact ⟨ret_int hv.out.symm, (Below.refl _ _).alloc (Nat.le_refl _) _⟩
  have hv : Hid (mo b d f = sz b - 1) := by unfold Hid mo; rw [if_neg h3, if_neg h4]
  have g3 : (f == 3) = false := beq_eq_false_iff_ne.2 h3
  have g4 : (f == 4) = false := beq_eq_false_iff_ne.2 h4
  clear h3 h4
  go_enter Try.func98, Try.ntmps98
  go_wp2_with (go_at_call 103; refine (size_any _ _ _ hb1 hb2).mono ?_; rintro e w1 ⟨rfl, hw1⟩)
  go_ret
  exact ⟨ret_int hv.out.symm, bel1 hw1 (by simp)⟩
def toldB (b : Int) (l : List Int) : Bool := decide (l.length ≤ 4) && allB l 0 (sz b - 1)
set_option maxHeartbeats 1600000 in
theorem isTold_any (b d : Int) (a : Option Addr) (cap n : Nat) (l : List Int) (w : World) (hg : gsB b d = true) (hn : l.length = n) (hm : n ≤ maxLen) (hr : RowAt w a l) :
    Calls Try.prog 95 #[.agg #[.int .i64 b, .int .i64 d], .slice a n cap] w fun e w' => e = .returned (.bool (toldB b l)) ∧ Below w.heap.size w w' := by
  subst hn
  have HR : Hid (RowAt w a l) := hr
  have HG : Hid (gsB b d = true) := hg
  clear hr hg
  unfold maxLen at hm
  have HN : ∀ x, numB b d x = inB x 0 (sz b - 1) := fun x => by unfold numB; rw [HG.out]; rfl
  by_cases hl : l.length ≤ 4
  · have HV : Hid (toldB b l = allB l 0 (sz b - 1)) := by unfold Hid toldB; rw [decide_eq_true hl]; rfl
    have hcop : RowAt (w.alloc (.cells #[.int .i64 b, .int .i64 d] 28)) a l := HR.out.keep ((Below.refl _ _).alloc (Nat.le_refl _) _)
    have hk : Bk (w.alloc (.cells #[.int .i64 b, .int .i64 d] 28)) w.heap.size #[.int .i64 b, .int .i64 d] 28 := Bk.new _ _ _
    have HC : Hid (RowAt (w.alloc (.cells #[.int .i64 b, .int .i64 d] 28)) a l) := hcop
    have HK : Hid (Bk (w.alloc (.cells #[.int .i64 b, .int .i64 d] 28)) w.heap.size #[.int .i64 b, .int .i64 d] 28) := hk
    have HB : Hid (Below w.heap.size w (w.alloc (.cells #[.int .i64 b, .int .i64 d] 28))) := (Below.refl _ _).alloc (Nat.le_refl _) _
    clear hcop hk HR
    go_enter Try.func95, Try.ntmps95
    go_wp2_with fail
    generalize w.alloc (.cells #[.int .i64 b, .int .i64 d] 28) = w1 at *
    go_loopw [12] (fun vi wr => ∃ k : Nat, k ≤ l.length ∧ vi = .int .i64 k ∧ Hid (allB (l.take k) 0 (sz b - 1) = true) ∧ Hid (Below w1.heap.size w1 wr)) (fun vi _ => l.length - (intOf vi).toNat)
    case atStart => exact ⟨0, Nat.zero_le _, rfl, by unfold Hid allB; simp, Below.refl _ _⟩
    case round =>
      obtain ⟨k, hk, rfl, hs, hb⟩ := hrel
      obtain ⟨s0, s1⟩ := Bk.c2 (HK.out.keep hb.out)
      by_cases hlt : k < l.length
      · have hrow := HC.out.keep hb.out
        obtain ⟨bk, off, rfl⟩ := rowAt_form hrow (by omega)
        have hc1 := (rowAt_cell hrow (by omega)).2 k hlt
        clear hrow
        cases hv : inB (l.getD k 0) 0 (sz b - 1)
        · have HF : Hid (toldB b l = false) := by unfold Hid; rw [HV.out]; exact allB_false hlt hv
          have HN1 := HN (l.getD k 0)
          rw [hv] at HN1
          clear HN hv
          generalize l.getD k 0 = y at hc1 HN1
          go_wp2_with (go_at_call 86; refine (isNumber_any _ _ _ _).mono ?_; rintro e w2 ⟨rfl, hw2⟩; rw [HN1])
          go_ret
          exact ⟨ret_bool HF.out.symm, belt HB.out (belt hb.out hw2)⟩
        · have HT : Hid (allB (l.take (k + 1)) 0 (sz b - 1) = true) := allB_take hlt hs.out hv
          have HN1 := HN (l.getD k 0)
          rw [hv] at HN1
          clear hv
          generalize l.getD k 0 = y at hc1 HN1
          go_wp2_with (go_at_call 86; refine (isNumber_any _ _ _ _).mono ?_; rintro e w2 ⟨rfl, hw2⟩; rw [HN1])
          go_roundw
          case rel => exact ⟨k + 1, by omega, by go_num, HT, belt hb.out hw2⟩
          case measure => simp [intOf]; omega
      · have HF : Hid (toldB b l = true) := by
          unfold Hid
          rw [HV.out, ← hs.out, List.take_of_length_le (by omega)]
        go_wp2
        go_ret
        exact ⟨ret_bool HF.out.symm, belt HB.out hb.out⟩
  · have HV : Hid (toldB b l = false) := by unfold Hid toldB; rw [decide_eq_false hl]; rfl
    go_enter Try.func95, Try.ntmps95
    go_wp2
    go_ret
    exact ⟨ret_bool HV.out.symm, (Below.refl _ _).alloc (Nat.le_refl _) _⟩
theorem hasB_take {F : List Int} {j : Nat} (hj : j < F.length) (g : Int) : hasB (F.take (j + 1)) g = (hasB (F.take j) g || decide (F.getD j 0 = g)) := by
  unfold hasB
  rw [Bool.eq_iff_iff]
  simp only [Bool.or_eq_true, decide_eq_true_eq, List.length_take]
  have e : ∀ i n, i < n → i < F.length → (F.take n).getD i 0 = F.getD i 0 := fun i n h1 h2 => by
    simp [List.getD_eq_getElem?_getD, List.getElem?_take_of_lt h1]
  constructor
  · rintro ⟨i, hi, h⟩
    by_cases hij : i = j
    · subst hij; right; rw [← e i (i + 1) (by omega) hj]; exact h
    · left; exact ⟨i, by omega, by rw [e i j (by omega) (by omega)]; rw [e i (j + 1) (by omega) (by omega)] at h; exact h⟩
  · rintro (⟨i, hi, h⟩ | h)
    · exact ⟨i, by omega, by rw [e i (j + 1) (by omega) (by omega)]; rw [e i j (by omega) (by omega)] at h; exact h⟩
    · exact ⟨j, by omega, by rw [e j (j + 1) (by omega) hj]; exact h⟩
theorem hasB_nil (g : Int) : hasB [] g = false := decide_eq_false (fun ⟨i, h, _⟩ => by simp at h)
def pv (F : List Int) (j : Nat) (f x : Int) : Int := if hasB (F.take j) f = true then x else 0
def pS (F : List Int) (j : Nat) (s : Value) : Value := if hasB (F.take j) 5 = true then s else .slice none 0 0
def pC (F : List Int) (j : Nat) (x0 x1 x2 x3 x4 x5 x6 x7 : Int) (s : Value) : Array Value := #[.int .i64 x0, .int .i64 x1, .int .i64 x2, .int .i64 x3, .int .i64 (pv F j 1 x4), .int .i64 (pv F j 2 x5), .int .i64 (pv F j 3 x6), .int .i64 (pv F j 4 x7), pS F j s]
theorem pv_no {F : List Int} {j : Nat} (hj : j < F.length) {f : Int} (h : ¬ F.getD j 0 = f) (x : Int) : pv F (j + 1) f x = pv F j f x := by unfold pv; rw [hasB_take hj, decide_eq_false h, Bool.or_false]
theorem pv_yes {F : List Int} {j : Nat} (hj : j < F.length) {f : Int} (h : F.getD j 0 = f) (x : Int) : pv F (j + 1) f x = x := by unfold pv; rw [hasB_take hj, decide_eq_true h, Bool.or_true]; rfl
theorem pS_no {F : List Int} {j : Nat} (hj : j < F.length) (h : ¬ F.getD j 0 = 5) (x : Value) : pS F (j + 1) x = pS F j x := by unfold pS; rw [hasB_take hj, decide_eq_false h, Bool.or_false]
theorem pS_yes {F : List Int} {j : Nat} (hj : j < F.length) (h : F.getD j 0 = 5) (x : Value) : pS F (j + 1) x = x := by unfold pS; rw [hasB_take hj, decide_eq_true h, Bool.or_true]; rfl
theorem pC_zero (F : List Int) (x0 x1 x2 x3 x4 x5 x6 x7 : Int) (s : Value) : pC F 0 x0 x1 x2 x3 x4 x5 x6 x7 s = #[.int .i64 x0, .int .i64 x1, .int .i64 x2, .int .i64 x3, .int .i64 0, .int .i64 0, .int .i64 0, .int .i64 0, .slice none 0 0] := by
  unfold pC pv pS
  simp [hasB_nil]
theorem pC_step {F : List Int} {j : Nat} (hj : j < F.length) (x0 x1 x2 x3 x4 x5 x6 x7 : Int) (s : Value) (h1 : 1 ≤ F.getD j 0) (h2 : F.getD j 0 ≤ 5) (h5 : ¬ F.getD j 0 = 5) :
    (pC F j x0 x1 x2 x3 x4 x5 x6 x7 s).setIfInBounds (fo (F.getD j 0)) (.int .i64 (vf x4 x5 x6 x7 (F.getD j 0))) = pC F (j + 1) x0 x1 x2 x3 x4 x5 x6 x7 s := by
  have : F.getD j 0 = 1 ∨ F.getD j 0 = 2 ∨ F.getD j 0 = 3 ∨ F.getD j 0 = 4 := by omega
  unfold pC
  rcases this with h | h | h | h
  · rw [pv_yes hj h, pv_no hj (f := 2) (by omega), pv_no hj (f := 3) (by omega), pv_no hj (f := 4) (by omega), pS_no hj h5, h]; rfl
  · rw [pv_no hj (f := 1) (by omega), pv_yes hj h, pv_no hj (f := 3) (by omega), pv_no hj (f := 4) (by omega), pS_no hj h5, h]; rfl
  · rw [pv_no hj (f := 1) (by omega), pv_no hj (f := 2) (by omega), pv_yes hj h, pv_no hj (f := 4) (by omega), pS_no hj h5, h]; rfl
  · rw [pv_no hj (f := 1) (by omega), pv_no hj (f := 2) (by omega), pv_no hj (f := 3) (by omega), pv_yes hj h, pS_no hj h5, h]; rfl
theorem pC_list {F : List Int} {j : Nat} (hj : j < F.length) (x0 x1 x2 x3 x4 x5 x6 x7 : Int) (s : Value) (h5 : F.getD j 0 = 5) :
    (pC F j x0 x1 x2 x3 x4 x5 x6 x7 s).setIfInBounds 8 s = pC F (j + 1) x0 x1 x2 x3 x4 x5 x6 x7 s := by
  unfold pC
  rw [pv_no hj (f := 1) (by omega), pv_no hj (f := 2) (by omega), pv_no hj (f := 3) (by omega), pv_no hj (f := 4) (by omega), pS_yes hj h5]; rfl
theorem fld_mem (k : Int) (j : Nat) (hj : j < (fld k).length) : 1 ≤ (fld k).getD j 0 ∧ (fld k).getD j 0 ≤ 5 := by
  revert hj
  unfold fld
  repeat' split
  all_goals (intro hj; simp at hj)
  all_goals (have hj4 : j = 0 ∨ j = 1 ∨ j = 2 ∨ j = 3 := by omega)
  all_goals (rcases hj4 with rfl | rfl | rfl | rfl)
  all_goals (first | omega | simp)
end Go.Proofs.Ytioiacmaijgdoaa.Wire
namespace Go.Proofs.Ytioiacmaijgdoaa.Wire
open Go.RowKit Go.Deep
set_option linter.unusedVariables false
set_option linter.unusedSimpArgs false
/-- onlyFields at work: block g is the message, the next two are the answer and the copy -/
structure OFS (w wr : World) (P : Array Value) (T : Nat) (aF : Option Addr) (nF : Nat) (F : List Int) : Prop where
  bel : Below w.heap.size w wr
  kr : Bk wr w.heap.size #[.int .i64 0, .int .i64 0, .int .i64 0, .int .i64 0, .int .i64 0, .int .i64 0, .int .i64 0, .int .i64 0, .slice none 0 0] 82
  kx : Bk wr (w.heap.size + 1) P 82
  fl : OwnLs (w.heap.size + 2) T wr aF nF F
theorem OFS.put {w wr : World} {P : Array Value} {T : Nat} {aF : Option Addr} {nF : Nat} {F : List Int} (h : OFS w wr P T aF nF F) (i : Nat) (v : Value) : OFS w (wr.setCell ⟨w.heap.size + 1, i, none⟩ v) (P.setIfInBounds i v) T aF nF F :=
  ⟨h.bel.setCell (p := ⟨w.heap.size + 1, i, none⟩) (by simp) v, h.kr.oth (by omega) i v, h.kx.set i v, h.fl.blocks (fun k h1 h2 h3 => heap_setCell_other _ _ _ _ (by simp; omega))⟩
set_option maxRecDepth 100000 in
set_option maxHeartbeats 3200000 in
theorem onlyFields_any (g : Nat) (x0 x1 x2 x3 x4 x5 x6 x7 : Int) (sa : Option Addr) (sn sc : Nat) (w : World) (hg : Bk w g #[.int .i64 x0, .int .i64 x1, .int .i64 x2, .int .i64 x3, .int .i64 x4, .int .i64 x5, .int .i64 x6, .int .i64 x7, .slice sa sn sc] 82) :
    Calls Try.prog 100 #[.pointer (some ⟨g, 0, none⟩)] w fun e w' => e = .returned (.agg (pC (fld x0) (fld x0).length x0 x1 x2 x3 x4 x5 x6 x7 (.slice sa sn sc))) ∧ Below w.heap.size w w' := by
  have HG : Hid (Bk w g #[.int .i64 x0, .int .i64 x1, .int .i64 x2, .int .i64 x3, .int .i64 x4, .int .i64 x5, .int .i64 x6, .int .i64 x7, .slice sa sn sc] 82) := hg
  have hlt := hg.lt
  clear hg
  go_enter Try.func100, Try.ntmps100
  go_wp2_with fail
  have HG1 : Hid (Bk (w.alloc (.cells #[.int .i64 0, .int .i64 0, .int .i64 0, .int .i64 0, .int .i64 0, .int .i64 0, .int .i64 0, .int .i64 0, .slice none 0 0] 82)) g #[.int .i64 x0, .int .i64 x1, .int .i64 x2, .int .i64 x3, .int .i64 x4, .int .i64 x5, .int .i64 x6, .int .i64 x7, .slice sa sn sc] 82) := HG.out.alloc _
  have HB1 : Hid (Below w.heap.size w (w.alloc (.cells #[.int .i64 0, .int .i64 0, .int .i64 0, .int .i64 0, .int .i64 0, .int .i64 0, .int .i64 0, .int .i64 0, .slice none 0 0] 82))) := (Below.refl _ _).alloc (Nat.le_refl _) _
  have HR1 : Hid (Bk (w.alloc (.cells #[.int .i64 0, .int .i64 0, .int .i64 0, .int .i64 0, .int .i64 0, .int .i64 0, .int .i64 0, .int .i64 0, .slice none 0 0] 82)) w.heap.size #[.int .i64 0, .int .i64 0, .int .i64 0, .int .i64 0, .int .i64 0, .int .i64 0, .int .i64 0, .int .i64 0, .slice none 0 0] 82) := Bk.new _ _ _
  have hs1 : (w.alloc (.cells #[.int .i64 0, .int .i64 0, .int .i64 0, .int .i64 0, .int .i64 0, .int .i64 0, .int .i64 0, .int .i64 0, .slice none 0 0] 82)).heap.size = w.heap.size + 1 := by simp
  generalize w.alloc (.cells #[.int .i64 0, .int .i64 0, .int .i64 0, .int .i64 0, .int .i64 0, .int .i64 0, .int .i64 0, .int .i64 0, .slice none 0 0] 82) = w1 at *
  refine wp_region_held_drew (S := fun w' => Below w1.heap.size w1 w') (by kernel_rfl) ((Below.refl _ _).drew) (fun hs0 => ?_)
  refine wpAnyH_take (i := 0) (oi := _) (v := _) rfl (by kernel_rfl) (by kernel_rfl) (by kernel_rfl) (fun _ _ _ h => h) (.inl ⟨by rfl, by intro w hSw; go_simp; with_reducible rfl⟩) hs0 ?_
  simp only [Act.put, List.setIfInBounds_toArray, List.set_cons_zero, List.set_cons_succ]
  refine wpAnyH_take (i := 1) (oi := _) (v := _) rfl (by kernel_rfl) (by kernel_rfl) (by kernel_rfl) (fun _ _ _ h => h) (.inl ⟨by rfl, by intro w hSw; go_simp; with_reducible rfl⟩) hs0 ?_
  simp only [Act.put, List.setIfInBounds_toArray, List.set_cons_zero, List.set_cons_succ]
  refine wpAnyH_take (i := 2) (oi := _) (v := _) rfl (by kernel_rfl) (by kernel_rfl) (by kernel_rfl) (fun _ _ _ h => h) (.inl ⟨by rfl, by intro w hSw; go_simp; with_reducible rfl⟩) hs0 ?_
  simp only [Act.put, List.setIfInBounds_toArray, List.set_cons_zero, List.set_cons_succ]
  refine wpAnyH_take (i := 3) (oi := _) (v := _) rfl (by kernel_rfl) (by kernel_rfl) (by kernel_rfl) (fun _ _ _ h => h) (.inl ⟨by rfl, by intro w' hSw; have hc := Bk.cell (HG1.out.keep hSw) 0; simp at hc; go_simp; with_reducible rfl⟩) hs0 ?_
  simp only [Act.put, List.setIfInBounds_toArray, List.set_cons_zero, List.set_cons_succ]
  refine wpAnyH_take (i := 4) (oi := _) (v := _) rfl (by kernel_rfl) (by kernel_rfl) (by kernel_rfl) (fun _ _ _ h => h) (.inl ⟨by rfl, by intro w hSw; go_simp; with_reducible rfl⟩) hs0 ?_
  simp only [Act.put, List.setIfInBounds_toArray, List.set_cons_zero, List.set_cons_succ]
  refine wpAnyH_take (i := 5) (oi := _) (v := _) rfl (by kernel_rfl) (by kernel_rfl) (by kernel_rfl) (fun _ _ _ h => h) (.inl ⟨by rfl, by intro w hSw; go_simp; with_reducible rfl⟩) hs0 ?_
  simp only [Act.put, List.setIfInBounds_toArray, List.set_cons_zero, List.set_cons_succ]
  refine wpAnyH_take (i := 6) (oi := _) (v := _) rfl (by kernel_rfl) (by kernel_rfl) (by kernel_rfl) (fun _ _ _ h => h) (.inl ⟨by rfl, by intro w hSw; go_simp; with_reducible rfl⟩) hs0 ?_
  simp only [Act.put, List.setIfInBounds_toArray, List.set_cons_zero, List.set_cons_succ]
  refine wpAnyH_take (i := 7) (oi := _) (v := _) rfl (by kernel_rfl) (by kernel_rfl) (by kernel_rfl) (fun _ _ _ h => h) (.inl ⟨by rfl, by intro w' hSw; have hc := Bk.cell (HG1.out.keep hSw) 1; simp at hc; go_simp; with_reducible rfl⟩) hs0 ?_
  simp only [Act.put, List.setIfInBounds_toArray, List.set_cons_zero, List.set_cons_succ]
  refine wpAnyH_take (i := 8) (oi := _) (v := _) rfl (by kernel_rfl) (by kernel_rfl) (by kernel_rfl) (fun _ _ _ h => h) (.inl ⟨by rfl, by intro w hSw; go_simp; with_reducible rfl⟩) hs0 ?_
  simp only [Act.put, List.setIfInBounds_toArray, List.set_cons_zero, List.set_cons_succ]
  refine wpAnyH_take (i := 9) (oi := _) (v := _) rfl (by kernel_rfl) (by kernel_rfl) (by kernel_rfl) (fun _ _ _ h => h) (.inl ⟨by rfl, by intro w hSw; go_simp; with_reducible rfl⟩) hs0 ?_
  simp only [Act.put, List.setIfInBounds_toArray, List.set_cons_zero, List.set_cons_succ]
  refine wpAnyH_take (i := 10) (oi := _) (v := _) rfl (by kernel_rfl) (by kernel_rfl) (by kernel_rfl) (fun _ _ _ h => h) (.inl ⟨by rfl, by intro w hSw; go_simp; with_reducible rfl⟩) hs0 ?_
  simp only [Act.put, List.setIfInBounds_toArray, List.set_cons_zero, List.set_cons_succ]
  refine wpAnyH_take (i := 11) (oi := _) (v := _) rfl (by kernel_rfl) (by kernel_rfl) (by kernel_rfl) (fun _ _ _ h => h) (.inl ⟨by rfl, by intro w' hSw; have hc := Bk.cell (HG1.out.keep hSw) 2; simp at hc; go_simp; with_reducible rfl⟩) hs0 ?_
  simp only [Act.put, List.setIfInBounds_toArray, List.set_cons_zero, List.set_cons_succ]
  refine wpAnyH_take (i := 12) (oi := _) (v := _) rfl (by kernel_rfl) (by kernel_rfl) (by kernel_rfl) (fun _ _ _ h => h) (.inl ⟨by rfl, by intro w hSw; go_simp; with_reducible rfl⟩) hs0 ?_
  simp only [Act.put, List.setIfInBounds_toArray, List.set_cons_zero, List.set_cons_succ]
  refine wpAnyH_take (i := 13) (oi := _) (v := _) rfl (by kernel_rfl) (by kernel_rfl) (by kernel_rfl) (fun _ _ _ h => h) (.inl ⟨by rfl, by intro w hSw; go_simp; with_reducible rfl⟩) hs0 ?_
  simp only [Act.put, List.setIfInBounds_toArray, List.set_cons_zero, List.set_cons_succ]
  refine wpAnyH_take (i := 14) (oi := _) (v := _) rfl (by kernel_rfl) (by kernel_rfl) (by kernel_rfl) (fun _ _ _ h => h) (.inl ⟨by rfl, by intro w hSw; go_simp; with_reducible rfl⟩) hs0 ?_
  simp only [Act.put, List.setIfInBounds_toArray, List.set_cons_zero, List.set_cons_succ]
  refine wpAnyH_take (i := 15) (oi := _) (v := _) rfl (by kernel_rfl) (by kernel_rfl) (by kernel_rfl) (fun _ _ _ h => h) (.inl ⟨by rfl, by intro w' hSw; have hc := Bk.cell (HG1.out.keep hSw) 3; simp at hc; go_simp; with_reducible rfl⟩) hs0 ?_
  simp only [Act.put, List.setIfInBounds_toArray, List.set_cons_zero, List.set_cons_succ]
  refine wpAnyH_take (i := 16) (oi := _) (v := _) rfl (by kernel_rfl) (by kernel_rfl) (by kernel_rfl) (fun _ _ _ h => h) (.inl ⟨by rfl, by intro w hSw; go_simp; with_reducible rfl⟩) hs0 ?_
  simp only [Act.put, List.setIfInBounds_toArray, List.set_cons_zero, List.set_cons_succ]
  refine wpAnyH_ready (rs := [17]) (by kernel_rfl) (by simp) ?_
  refine AllReadyH.cons rfl (fun K hK => ?_) AllReadyH.nil
  go_simp
  refine hK.out _ _ (((Below.refl _ _).alloc (Nat.le_refl _) _).drew) (fun _ => ?_)
  clear hK K
  refine wpAnyH_ready (rs := [18]) (by kernel_rfl) (by simp) ?_
  refine AllReadyH.cons rfl (fun K hK => ?_) AllReadyH.nil
  go_simp
  refine hK.out _ _ (((Below.refl _ _).alloc (Nat.le_refl _) _).drew) (fun _ => ?_)
  clear hK K
  refine wpAnyH_done (by kernel_rfl) ?_ _
  have S2 : Hid (OFS w (w1.alloc (.cells #[.int .i64 x0, .int .i64 x1, .int .i64 x2, .int .i64 x3, .int .i64 0, .int .i64 0, .int .i64 0, .int .i64 0, .slice none 0 0] 82)).drew #[.int .i64 x0, .int .i64 x1, .int .i64 x2, .int .i64 x3, .int .i64 0, .int .i64 0, .int .i64 0, .int .i64 0, .slice none 0 0] 0 none 0 []) := by
    have k := Bk.new w1 #[.int .i64 x0, .int .i64 x1, .int .i64 x2, .int .i64 x3, .int .i64 0, .int .i64 0, .int .i64 0, .int .i64 0, .slice none 0 0] 82
    rw [hs1] at k
    exact ⟨(HB1.out.alloc (by omega) _).drew, (HR1.out.alloc _).drew, k.drew, rfl, .inl rfl⟩
  generalize (w1.alloc (.cells #[.int .i64 x0, .int .i64 x1, .int .i64 x2, .int .i64 x3, .int .i64 0, .int .i64 0, .int .i64 0, .int .i64 0, .slice none 0 0] 82)).drew = w2 at *
  clear HG1 HB1 HR1 hs1 hs0
  obtain ⟨q0, q1, q2, q3, q4, q5, q6, q7, q8⟩ := Bk.c9 (HG.out.keepN S2.out.bel hlt)
  go_wp2_with fail
  refine (fieldsOf_any x0 _).mono ?_
  rintro e w3 ⟨aF, nF, cF, rfl, hnF, hcF, oF, hw⟩
  clear q0 q1 q2 q3 q4 q5 q6 q7 q8
  have S3 : Hid (OFS w w3 (pC (fld x0) 0 x0 x1 x2 x3 x4 x5 x6 x7 (.slice sa sn sc)) w3.heap.size aF nF (fld x0)) := by
    rw [pC_zero]
    have hl := S2.out.kx.lt
    exact ⟨S2.out.bel.trans (hw.mono S2.out.bel.size), S2.out.kr.keep hw, S2.out.kx.keep hw, oF.wide (by omega) (Nat.le_refl _)⟩
  clear S2 hw oF
  generalize w3.heap.size = T3 at S3
  go_wp2_with fail
  have hF4 := fld_big x0
  go_loopw [29] (fun vi wr => ∃ j : Nat, j ≤ nF ∧ vi = .int .i64 j ∧ Hid (OFS w wr (pC (fld x0) j x0 x1 x2 x3 x4 x5 x6 x7 (.slice sa sn sc)) T3 aF nF (fld x0))) (fun vi _ => nF - (intOf vi).toNat)
  case atStart => exact ⟨0, Nat.zero_le _, rfl, S3⟩
  case round =>
    obtain ⟨j, hj, rfl, S⟩ := hrel
    by_cases hlt2 : j < nF
    · have hmem := fld_mem x0 j (by omega)
      obtain ⟨bk, off, hform⟩ := rowAt_form S.out.fl.rowAt (by omega)
      subst hform
      have hc1 := (rowAt_cell S.out.fl.rowAt (by omega)).2 j (by omega)
      by_cases h5 : (fld x0).getD j 0 = 5
      · have SN : Hid (OFS w (wr.setCell ⟨w.heap.size + 1, 8, none⟩ (.slice sa sn sc)) (pC (fld x0) (j + 1) x0 x1 x2 x3 x4 x5 x6 x7 (.slice sa sn sc)) T3 (some ⟨bk, off, none⟩) nF (fld x0)) := by
          have h := S.out.put 8 (.slice sa sn sc)
          rw [pC_list (by omega) _ _ _ _ _ _ _ _ (.slice sa sn sc) h5] at h
          exact h
        have hf : (((fld x0).getD j 0) == 5) = true := by rw [h5]; rfl
        have hs8 : wr.cell? ⟨g, 8, none⟩ = some (.slice sa sn sc) := (HG.out.keepN S.out.bel hlt).cell 8
        have hx8 := S.out.kx.cell 8
        have hf8 := S.out.kx.fr 8
        obtain ⟨vo, hvo⟩ : ∃ vo, pS (fld x0) j (.slice sa sn sc) = vo := ⟨_, rfl⟩
        have hx8' : (pC (fld x0) j x0 x1 x2 x3 x4 x5 x6 x7 (.slice sa sn sc))[8]? = some (pS (fld x0) j (.slice sa sn sc)) := rfl
        rw [hx8', hvo] at hx8
        clear hx8' h5 hvo
        generalize (fld x0).getD j 0 = f at hc1 hf hmem
        go_wp2
        go_roundw
        case rel => exact ⟨j + 1, by omega, by go_num, SN⟩
        case measure => simp [intOf]; omega
      · have SN : Hid (OFS w (wr.setCell ⟨w.heap.size + 1, fo ((fld x0).getD j 0), none⟩ (.int .i64 (vf x4 x5 x6 x7 ((fld x0).getD j 0)))) (pC (fld x0) (j + 1) x0 x1 x2 x3 x4 x5 x6 x7 (.slice sa sn sc)) T3 (some ⟨bk, off, none⟩) nF (fld x0)) := by
          have h := S.out.put (fo ((fld x0).getD j 0)) (.int .i64 (vf x4 x5 x6 x7 ((fld x0).getD j 0)))
          rw [pC_step (by omega) _ _ _ _ _ _ _ _ (.slice sa sn sc) hmem.1 hmem.2 h5] at h
          exact h
        have hf : (((fld x0).getD j 0) == 5) = false := beq_eq_false_iff_ne.2 h5
        have hs8 : wr.cell? ⟨g, fo ((fld x0).getD j 0), none⟩ = some (.int .i64 (vf x4 x5 x6 x7 ((fld x0).getD j 0))) := ((HG.out.keepN S.out.bel hlt).cell _).trans (vf_cell _ _ _ _ _ _ _ _ _ _)
        obtain ⟨vx, hx8⟩ : ∃ vx, wr.cell? ⟨w.heap.size + 1, fo ((fld x0).getD j 0), none⟩ = some vx := ⟨_, (S.out.kx.cell _).trans (vf_cell _ _ _ _ _ _ _ _ _ _)⟩
        have hf8 := S.out.kx.fr (fo ((fld x0).getD j 0))
        clear h5
        generalize (fld x0).getD j 0 = f at *
        go_wp2_with fail
        refine (numberAt_any _ _ _).mono ?_
        rintro e wx ⟨rfl, hx⟩
        have hx' := hx.symm
        clear hx
        subst hx'
        go_wp2_with fail
        refine (numberAt_any _ _ _).mono ?_
        rintro e wx ⟨rfl, hx⟩
        have hx' := hx.symm
        clear hx
        subst hx'
        go_wp2
        go_roundw
        case rel => exact ⟨j + 1, by omega, by go_num, SN⟩
        case measure => simp [intOf]; omega
    · obtain rfl : j = (fld x0).length := by omega
      obtain ⟨pa, pn, pc, hps⟩ : ∃ pa pn pc, pS (fld x0) (fld x0).length (.slice sa sn sc) = .slice pa pn pc := by
        unfold pS
        split
        · exact ⟨_, _, _, rfl⟩
        · exact ⟨_, _, _, rfl⟩
      have KX : Hid (Bk wr (w.heap.size + 1) #[.int .i64 x0, .int .i64 x1, .int .i64 x2, .int .i64 x3, .int .i64 (pv (fld x0) (fld x0).length 1 x4), .int .i64 (pv (fld x0) (fld x0).length 2 x5), .int .i64 (pv (fld x0) (fld x0).length 3 x6), .int .i64 (pv (fld x0) (fld x0).length 4 x7), .slice pa pn pc] 82) := by
        have h := S.out.kx
        unfold pC at h
        rw [hps] at h
        exact h
      have KR : Hid (Bk wr w.heap.size #[.int .i64 0, .int .i64 0, .int .i64 0, .int .i64 0, .int .i64 0, .int .i64 0, .int .i64 0, .int .i64 0, .slice none 0 0] 82) := S.out.kr
      have KB : Hid (Below w.heap.size w wr) := S.out.bel
      have KP : Hid (pC (fld x0) (fld x0).length x0 x1 x2 x3 x4 x5 x6 x7 (.slice sa sn sc) = #[.int .i64 x0, .int .i64 x1, .int .i64 x2, .int .i64 x3, .int .i64 (pv (fld x0) (fld x0).length 1 x4), .int .i64 (pv (fld x0) (fld x0).length 2 x5), .int .i64 (pv (fld x0) (fld x0).length 3 x6), .int .i64 (pv (fld x0) (fld x0).length 4 x7), .slice pa pn pc]) := by
        unfold Hid pC
        rw [hps]
      clear S S3 hps
      generalize pv (fld x0) (fld x0).length 1 x4 = z4 at *
      generalize pv (fld x0) (fld x0).length 2 x5 = z5 at *
      generalize pv (fld x0) (fld x0).length 3 x6 = z6 at *
      generalize pv (fld x0) (fld x0).length 4 x7 = z7 at *
      have l2 := KX.out.lt
      obtain ⟨r0, r1, r2, r3, r4, r5, r6, r7, r8⟩ := Bk.c9 KX.out
      obtain ⟨t0, t1, t2, t3, t4, t5, t6, t7, t8⟩ := Bk.c9 KR.out
      obtain ⟨f0, f1, f2, f3, f4, f5, f6, f7, f8⟩ := Bk.f9 KR.out
      go_wp2
      have E1 := KR.out.setL [.int .i64 x0, .int .i64 x1, .int .i64 x2, .int .i64 x3, .int .i64 z4, .int .i64 z5, .int .i64 z6, .int .i64 z7, .slice pa pn pc] 0
      rw [ovr9] at E1
      have E2 := setL_below (g := w.heap.size) (Nat.le_refl w.heap.size) [.int .i64 x0, .int .i64 x1, .int .i64 x2, .int .i64 x3, .int .i64 z4, .int .i64 z5, .int .i64 z6, .int .i64 z7, .slice pa pn pc] 0 KB.out
      refine bodyPost_ret (results_cell_row Try.results100 _ _ w.heap.size _ _ _ _ rfl E1 Try.underlying82 rfl (by kernel_rfl)) rfl ⟨by rw [KP.out], E2⟩
end Go.Proofs.Ytioiacmaijgdoaa.Wire
namespace Go.Proofs.Ytioiacmaijgdoaa.Wire
open Go.RowKit Go.Deep
set_option linter.unusedVariables false
set_option linter.unusedSimpArgs false
theorem pv_all (F : List Int) (f x : Int) : pv F F.length f x = if hasB F f = true then x else 0 := by unfold pv; rw [List.take_length]
theorem has_ok {b d x0 x4 x5 x6 x7 f : Int} (F : ∀ j, j < (fld x0).length → (fld x0).getD j 0 = 5 ∨ inB (vf x4 x5 x6 x7 ((fld x0).getD j 0)) 0 (mo b d ((fld x0).getD j 0)) = true) (h5 : ¬ f = 5) (h : hasB (fld x0) f = true) : inB (vf x4 x5 x6 x7 f) 0 (mo b d f) = true := by
  obtain ⟨i, hi, he⟩ := of_decide_eq_true h
  rcases F i hi with h | h
  · omega
  · rwa [he] at h
def lO (x0 : Int) (l : List Int) : List Int := if hasB (fld x0) 5 = true then l else []
theorem gm_end {b d x0 x1 x2 x3 x4 x5 x6 x7 : Int} {l : List Int} (A : numsB b d [x2, x3] = true) (B : inB x0 1 8 = true) (C : inB x1 0 255 = true) (T : toldB b l = true)
    (F : ∀ j, j < (fld x0).length → (fld x0).getD j 0 = 5 ∨ inB (vf x4 x5 x6 x7 ((fld x0).getD j 0)) 0 (mo b d ((fld x0).getD j 0)) = true) :
    gmB b d x0 x1 x2 x3 x4 x5 x6 x7 l = (hdB x0 x1 x2 x3 x4 x5 x6 x7 x0 x1 x2 x3 (pv (fld x0) (fld x0).length 1 x4) (pv (fld x0) (fld x0).length 2 x5) (pv (fld x0) (fld x0).length 3 x6) (pv (fld x0) (fld x0).length 4 x7) && sameB l (lO x0 l)) := by
  have G := numsB_gs A
  have k1 : fldB b d x0 x4 x5 x6 x7 l 1 = decide (x4 = pv (fld x0) (fld x0).length 1 x4) := by
    rw [pv_all]; unfold fldB
    cases e : hasB (fld x0) 1
    · simp [noF]
    · have := has_ok F (by omega) e
      simp [vf, mo] at this
      simp [okF, numB, G, this]
  have k2 : fldB b d x0 x4 x5 x6 x7 l 2 = decide (x5 = pv (fld x0) (fld x0).length 2 x5) := by
    rw [pv_all]; unfold fldB
    cases e : hasB (fld x0) 2
    · simp [noF]
    · have := has_ok F (by omega) e
      simp [vf, mo] at this
      simp [okF, numB, G, this]
  have k3 : fldB b d x0 x4 x5 x6 x7 l 3 = decide (x6 = pv (fld x0) (fld x0).length 3 x6) := by
    rw [pv_all]; unfold fldB
    cases e : hasB (fld x0) 3
    · simp [noF]
    · have := has_ok F (by omega) e
      simp [vf, mo] at this
      simp [okF, this]
  have k4 : fldB b d x0 x4 x5 x6 x7 l 4 = decide (x7 = pv (fld x0) (fld x0).length 4 x7) := by
    rw [pv_all]; unfold fldB
    cases e : hasB (fld x0) 4
    · simp [noF]
    · have := has_ok F (by omega) e
      simp [vf, mo] at this
      simp [okF, this]
  have k5 : fldB b d x0 x4 x5 x6 x7 l 5 = sameB l (lO x0 l) := by
    unfold fldB lO sameB
    unfold toldB at T
    cases e : hasB (fld x0) 5
    · simp [noF]
    · simp [okF, numsB, G]
      simpa using T
  unfold gmB
  rw [A, B, C, k1, k2, k3, k4, k5]
  unfold hdB
  rw [Bool.eq_iff_iff]
  simp
  intro _
  simp only [and_assoc]
theorem pC_form (x0 x1 x2 x3 x4 x5 x6 x7 : Int) (a : Option Addr) (n cap : Nat) (l : List Int) (hn : l.length = n) : ∃ pa pn pc, pC (fld x0) (fld x0).length x0 x1 x2 x3 x4 x5 x6 x7 (.slice a n cap) = #[.int .i64 x0, .int .i64 x1, .int .i64 x2, .int .i64 x3, .int .i64 (pv (fld x0) (fld x0).length 1 x4), .int .i64 (pv (fld x0) (fld x0).length 2 x5), .int .i64 (pv (fld x0) (fld x0).length 3 x6), .int .i64 (pv (fld x0) (fld x0).length 4 x7), .slice pa pn pc] ∧ (lO x0 l).length = pn ∧ (∀ w, RowAt w a l → RowAt w pa (lO x0 l)) := by
  unfold pC pS lO
  rw [List.take_length]
  cases hasB (fld x0) 5
  · exact ⟨none, 0, 0, rfl, rfl, fun w h => .inl rfl⟩
  · exact ⟨a, n, cap, rfl, hn, fun w h => h⟩
theorem gm_told {b d x0 x1 x2 x3 x4 x5 x6 x7 : Int} {l : List Int} (T : toldB b l = false) : gmB b d x0 x1 x2 x3 x4 x5 x6 x7 l = false := by
  refine gmB_n4 (f := 5) (by omega) (by omega) ?_
  unfold fldB
  unfold toldB at T
  cases e : hasB (fld x0) 5
  · simp [noF]
    intro h
    subst h
    simp [allB] at T
  · simp [okF, numsB]
    intro h1 h2
    simp at T
    exact T h1
theorem gm_field {b d x0 x1 x2 x3 x4 x5 x6 x7 : Int} {l : List Int} {j : Nat} (hj : j < (fld x0).length) (h5 : ¬ (fld x0).getD j 0 = 5) (h : inB (vf x4 x5 x6 x7 ((fld x0).getD j 0)) 0 (mo b d ((fld x0).getD j 0)) = false) : gmB b d x0 x1 x2 x3 x4 x5 x6 x7 l = false := by
  obtain ⟨m1, m2⟩ := fld_mem x0 j hj
  have hh : hasB (fld x0) ((fld x0).getD j 0) = true := decide_eq_true ⟨j, hj, rfl⟩
  refine gmB_n4 (f := (fld x0).getD j 0) m1 m2 ?_
  unfold fldB
  rw [hh]
  have : (fld x0).getD j 0 = 1 ∨ (fld x0).getD j 0 = 2 ∨ (fld x0).getD j 0 = 3 ∨ (fld x0).getD j 0 = 4 := by omega
  rcases this with e | e | e | e <;> rw [e] at h ⊢ <;> simp [vf, mo] at h <;> simp [okF, numB, h]
theorem gm_gs {b d x0 x1 x2 x3 x4 x5 x6 x7 : Int} {l : List Int} (h : gsB b d = false) : gmB b d x0 x1 x2 x3 x4 x5 x6 x7 l = false := gmB_n1 (by unfold numsB; rw [h]; rfl)
theorem gm_to {b d x0 x1 x2 x3 x4 x5 x6 x7 : Int} {l : List Int} (h : numB b d x2 = false) : gmB b d x0 x1 x2 x3 x4 x5 x6 x7 l = false := gmB_n1 (by rw [numsB_2, h]; rfl)
theorem gm_from {b d x0 x1 x2 x3 x4 x5 x6 x7 : Int} {l : List Int} (h : numB b d x3 = false) : gmB b d x0 x1 x2 x3 x4 x5 x6 x7 l = false := gmB_n1 (by rw [numsB_2, h]; simp)
theorem gm_x1 {b d x0 x1 x2 x3 x4 x5 x6 x7 : Int} {l : List Int} (h : ¬ (0 ≤ x1 ∧ x1 ≤ 255)) : gmB b d x0 x1 x2 x3 x4 x5 x6 x7 l = false := gmB_n3 (inB_no h)
set_option maxRecDepth 100000 in
set_option maxHeartbeats 6400000 in
theorem GoodMsg_any (b d : Int) (x0 x1 x2 x3 x4 x5 x6 x7 : Int) (a : Option Addr) (cap n : Nat) (l : List Int) (w : World) (hn : l.length = n) (hm : n ≤ maxLen) (hr : RowAt w a l) :
    Calls Try.prog 78 #[.agg #[.int .i64 b, .int .i64 d], .agg #[.int .i64 x0, .int .i64 x1, .int .i64 x2, .int .i64 x3, .int .i64 x4, .int .i64 x5, .int .i64 x6, .int .i64 x7, .slice a n cap]] w fun e w' => e = .returned (.bool (gmB b d x0 x1 x2 x3 x4 x5 x6 x7 l)) ∧ Below w.heap.size w w' := by
  have HR : Hid (RowAt w a l) := hr
  clear hr
  cases hg0 : gsB b d
  · have hg : Hid (gsB b d = false) := hg0
    have hv : Hid (gmB b d x0 x1 x2 x3 x4 x5 x6 x7 l = false) := gm_gs hg0
    clear hg0
    go_enter Try.func78, Try.ntmps78
    go_wp2_with fail
    refine (good_any _ _ _).mono ?_
    rintro e w1 ⟨rfl, HW⟩
    rw [hg.out]
    obtain ⟨KA, KB, HB⟩ := bkAB HW
    have S_1 : Hid (Bk w1 w.heap.size #[.int .i64 b, .int .i64 d] 28) := KA
    have M_1 : Hid (Bk w1 (w.heap.size + 1) #[.int .i64 x0, .int .i64 x1, .int .i64 x2, .int .i64 x3, .int .i64 x4, .int .i64 x5, .int .i64 x6, .int .i64 x7, .slice a n cap] 82) := KB
    have BEL_1 : Hid (Below w.heap.size w w1) := HB
    clear HW KA KB HB
    obtain ⟨qS0, qS1⟩ := Bk.c2 S_1.out
    have lS := Bk.lt S_1.out
    obtain ⟨qM0, qM1, qM2, qM3, qM4, qM5, qM6, qM7, qM8⟩ := Bk.c9 M_1.out
    have lM := Bk.lt M_1.out
    go_wp2
    go_ret
    exact ⟨ret_bool hv.out.symm, BEL_1.out⟩
  have hg : Hid (gsB b d = true) := hg0
  have hgt : Hid (gsB b d = true) := hg0
  clear hg0
  cases hk0 : kdB x0
  · have hk : Hid (kdB x0 = false) := hk0
    have hv : Hid (gmB b d x0 x1 x2 x3 x4 x5 x6 x7 l = false) := gmB_n2 hk0
    clear hk0
    go_enter Try.func78, Try.ntmps78
    go_wp2_with fail
    refine (good_any _ _ _).mono ?_
    rintro e w1 ⟨rfl, HW⟩
    rw [hg.out]
    obtain ⟨KA, KB, HB⟩ := bkAB HW
    have S_1 : Hid (Bk w1 w.heap.size #[.int .i64 b, .int .i64 d] 28) := KA
    have M_1 : Hid (Bk w1 (w.heap.size + 1) #[.int .i64 x0, .int .i64 x1, .int .i64 x2, .int .i64 x3, .int .i64 x4, .int .i64 x5, .int .i64 x6, .int .i64 x7, .slice a n cap] 82) := KB
    have BEL_1 : Hid (Below w.heap.size w w1) := HB
    clear HW KA KB HB
    obtain ⟨qS0, qS1⟩ := Bk.c2 S_1.out
    have lS := Bk.lt S_1.out
    obtain ⟨qM0, qM1, qM2, qM3, qM4, qM5, qM6, qM7, qM8⟩ := Bk.c9 M_1.out
    have lM := Bk.lt M_1.out
    go_wp2_with fail
    refine (isKind_any _ _).mono ?_
    rintro e vx ⟨rfl, hx⟩
    have hx' := hx.symm
    clear hx
    subst hx'
    clear qS0 qS1 lS qM0 qM1 qM2 qM3 qM4 qM5 qM6 qM7 qM8 lM
    rw [hk.out]
    obtain ⟨qS0, qS1⟩ := Bk.c2 S_1.out
    have lS := Bk.lt S_1.out
    obtain ⟨qM0, qM1, qM2, qM3, qM4, qM5, qM6, qM7, qM8⟩ := Bk.c9 M_1.out
    have lM := Bk.lt M_1.out
    go_wp2
    go_ret
    exact ⟨ret_bool hv.out.symm, BEL_1.out⟩
  have hk : Hid (kdB x0 = true) := hk0
  have hk1 : Hid (inB x0 1 8 = true) := hk0
  clear hk0
  by_cases hx1 : 0 ≤ x1
  case neg =>
    have hv : Hid (gmB b d x0 x1 x2 x3 x4 x5 x6 x7 l = false) := gm_x1 (by omega)
    go_enter Try.func78, Try.ntmps78
    go_wp2_with fail
    refine (good_any _ _ _).mono ?_
    rintro e w1 ⟨rfl, HW⟩
    rw [hg.out]
    obtain ⟨KA, KB, HB⟩ := bkAB HW
    have S_1 : Hid (Bk w1 w.heap.size #[.int .i64 b, .int .i64 d] 28) := KA
    have M_1 : Hid (Bk w1 (w.heap.size + 1) #[.int .i64 x0, .int .i64 x1, .int .i64 x2, .int .i64 x3, .int .i64 x4, .int .i64 x5, .int .i64 x6, .int .i64 x7, .slice a n cap] 82) := KB
    have BEL_1 : Hid (Below w.heap.size w w1) := HB
    clear HW KA KB HB
    obtain ⟨qS0, qS1⟩ := Bk.c2 S_1.out
    have lS := Bk.lt S_1.out
    obtain ⟨qM0, qM1, qM2, qM3, qM4, qM5, qM6, qM7, qM8⟩ := Bk.c9 M_1.out
    have lM := Bk.lt M_1.out
    go_wp2_with fail
    refine (isKind_any _ _).mono ?_
    rintro e vx ⟨rfl, hx⟩
    have hx' := hx.symm
    clear hx
    subst hx'
    clear qS0 qS1 lS qM0 qM1 qM2 qM3 qM4 qM5 qM6 qM7 qM8 lM
    rw [hk.out]
    obtain ⟨qS0, qS1⟩ := Bk.c2 S_1.out
    have lS := Bk.lt S_1.out
    obtain ⟨qM0, qM1, qM2, qM3, qM4, qM5, qM6, qM7, qM8⟩ := Bk.c9 M_1.out
    have lM := Bk.lt M_1.out
    go_wp2
    go_ret
    exact ⟨ret_bool hv.out.symm, BEL_1.out⟩
  by_cases hx2 : x1 ≤ 255
  case neg =>
    have hv : Hid (gmB b d x0 x1 x2 x3 x4 x5 x6 x7 l = false) := gm_x1 (by omega)
    go_enter Try.func78, Try.ntmps78
    go_wp2_with fail
    refine (good_any _ _ _).mono ?_
    rintro e w1 ⟨rfl, HW⟩
    rw [hg.out]
    obtain ⟨KA, KB, HB⟩ := bkAB HW
    have S_1 : Hid (Bk w1 w.heap.size #[.int .i64 b, .int .i64 d] 28) := KA
    have M_1 : Hid (Bk w1 (w.heap.size + 1) #[.int .i64 x0, .int .i64 x1, .int .i64 x2, .int .i64 x3, .int .i64 x4, .int .i64 x5, .int .i64 x6, .int .i64 x7, .slice a n cap] 82) := KB
    have BEL_1 : Hid (Below w.heap.size w w1) := HB
    clear HW KA KB HB
    obtain ⟨qS0, qS1⟩ := Bk.c2 S_1.out
    have lS := Bk.lt S_1.out
    obtain ⟨qM0, qM1, qM2, qM3, qM4, qM5, qM6, qM7, qM8⟩ := Bk.c9 M_1.out
    have lM := Bk.lt M_1.out
    go_wp2_with fail
    refine (isKind_any _ _).mono ?_
    rintro e vx ⟨rfl, hx⟩
    have hx' := hx.symm
    clear hx
    subst hx'
    clear qS0 qS1 lS qM0 qM1 qM2 qM3 qM4 qM5 qM6 qM7 qM8 lM
    rw [hk.out]
    obtain ⟨qS0, qS1⟩ := Bk.c2 S_1.out
    have lS := Bk.lt S_1.out
    obtain ⟨qM0, qM1, qM2, qM3, qM4, qM5, qM6, qM7, qM8⟩ := Bk.c9 M_1.out
    have lM := Bk.lt M_1.out
    go_wp2
    go_ret
    exact ⟨ret_bool hv.out.symm, BEL_1.out⟩
  have h1 : Hid (inB x1 0 255 = true) := inB_yes hx1 hx2
  cases h20 : numB b d x2
  · have h2 : Hid (numB b d x2 = false) := h20
    have hv : Hid (gmB b d x0 x1 x2 x3 x4 x5 x6 x7 l = false) := gm_to h20
    clear h20
    go_enter Try.func78, Try.ntmps78
    go_wp2_with fail
    refine (good_any _ _ _).mono ?_
    rintro e w1 ⟨rfl, HW⟩
    rw [hg.out]
    obtain ⟨KA, KB, HB⟩ := bkAB HW
    have S_1 : Hid (Bk w1 w.heap.size #[.int .i64 b, .int .i64 d] 28) := KA
    have M_1 : Hid (Bk w1 (w.heap.size + 1) #[.int .i64 x0, .int .i64 x1, .int .i64 x2, .int .i64 x3, .int .i64 x4, .int .i64 x5, .int .i64 x6, .int .i64 x7, .slice a n cap] 82) := KB
    have BEL_1 : Hid (Below w.heap.size w w1) := HB
    clear HW KA KB HB
    obtain ⟨qS0, qS1⟩ := Bk.c2 S_1.out
    have lS := Bk.lt S_1.out
    obtain ⟨qM0, qM1, qM2, qM3, qM4, qM5, qM6, qM7, qM8⟩ := Bk.c9 M_1.out
    have lM := Bk.lt M_1.out
    go_wp2_with fail
    refine (isKind_any _ _).mono ?_
    rintro e vx ⟨rfl, hx⟩
    have hx' := hx.symm
    clear hx
    subst hx'
    clear qS0 qS1 lS qM0 qM1 qM2 qM3 qM4 qM5 qM6 qM7 qM8 lM
    rw [hk.out]
    obtain ⟨qS0, qS1⟩ := Bk.c2 S_1.out
    have lS := Bk.lt S_1.out
    obtain ⟨qM0, qM1, qM2, qM3, qM4, qM5, qM6, qM7, qM8⟩ := Bk.c9 M_1.out
    have lM := Bk.lt M_1.out
    go_wp2_with fail
    refine (isNumber_any _ _ _ _).mono ?_
    rintro e w2 ⟨rfl, HW⟩
    clear qS0 qS1 lS qM0 qM1 qM2 qM3 qM4 qM5 qM6 qM7 qM8 lM
    rw [h2.out]
    have S_2 : Hid (Bk w2 w.heap.size #[.int .i64 b, .int .i64 d] 28) := S_1.out.keep (HW)
    have M_2 : Hid (Bk w2 (w.heap.size + 1) #[.int .i64 x0, .int .i64 x1, .int .i64 x2, .int .i64 x3, .int .i64 x4, .int .i64 x5, .int .i64 x6, .int .i64 x7, .slice a n cap] 82) := M_1.out.keep (HW)
    have BEL_2 : Hid (Below w.heap.size w w2) := belt BEL_1.out (HW)
    clear S_1 M_1 BEL_1
    clear HW
    obtain ⟨qS0, qS1⟩ := Bk.c2 S_2.out
    have lS := Bk.lt S_2.out
    obtain ⟨qM0, qM1, qM2, qM3, qM4, qM5, qM6, qM7, qM8⟩ := Bk.c9 M_2.out
    have lM := Bk.lt M_2.out
    go_wp2
    go_ret
    exact ⟨ret_bool hv.out.symm, BEL_2.out⟩
  have h2 : Hid (numB b d x2 = true) := h20
  clear h20
  cases h30 : numB b d x3
  · have h3 : Hid (numB b d x3 = false) := h30
    have hv : Hid (gmB b d x0 x1 x2 x3 x4 x5 x6 x7 l = false) := gm_from h30
    clear h30
    go_enter Try.func78, Try.ntmps78
    go_wp2_with fail
    refine (good_any _ _ _).mono ?_
    rintro e w1 ⟨rfl, HW⟩
    rw [hg.out]
    obtain ⟨KA, KB, HB⟩ := bkAB HW
    have S_1 : Hid (Bk w1 w.heap.size #[.int .i64 b, .int .i64 d] 28) := KA
    have M_1 : Hid (Bk w1 (w.heap.size + 1) #[.int .i64 x0, .int .i64 x1, .int .i64 x2, .int .i64 x3, .int .i64 x4, .int .i64 x5, .int .i64 x6, .int .i64 x7, .slice a n cap] 82) := KB
    have BEL_1 : Hid (Below w.heap.size w w1) := HB
    clear HW KA KB HB
    obtain ⟨qS0, qS1⟩ := Bk.c2 S_1.out
    have lS := Bk.lt S_1.out
    obtain ⟨qM0, qM1, qM2, qM3, qM4, qM5, qM6, qM7, qM8⟩ := Bk.c9 M_1.out
    have lM := Bk.lt M_1.out
    go_wp2_with fail
    refine (isKind_any _ _).mono ?_
    rintro e vx ⟨rfl, hx⟩
    have hx' := hx.symm
    clear hx
    subst hx'
    clear qS0 qS1 lS qM0 qM1 qM2 qM3 qM4 qM5 qM6 qM7 qM8 lM
    rw [hk.out]
    obtain ⟨qS0, qS1⟩ := Bk.c2 S_1.out
    have lS := Bk.lt S_1.out
    obtain ⟨qM0, qM1, qM2, qM3, qM4, qM5, qM6, qM7, qM8⟩ := Bk.c9 M_1.out
    have lM := Bk.lt M_1.out
    go_wp2_with fail
    refine (isNumber_any _ _ _ _).mono ?_
    rintro e w2 ⟨rfl, HW⟩
    clear qS0 qS1 lS qM0 qM1 qM2 qM3 qM4 qM5 qM6 qM7 qM8 lM
    rw [h2.out]
    have S_2 : Hid (Bk w2 w.heap.size #[.int .i64 b, .int .i64 d] 28) := S_1.out.keep (HW)
    have M_2 : Hid (Bk w2 (w.heap.size + 1) #[.int .i64 x0, .int .i64 x1, .int .i64 x2, .int .i64 x3, .int .i64 x4, .int .i64 x5, .int .i64 x6, .int .i64 x7, .slice a n cap] 82) := M_1.out.keep (HW)
    have BEL_2 : Hid (Below w.heap.size w w2) := belt BEL_1.out (HW)
    clear S_1 M_1 BEL_1
    clear HW
    obtain ⟨qS0, qS1⟩ := Bk.c2 S_2.out
    have lS := Bk.lt S_2.out
    obtain ⟨qM0, qM1, qM2, qM3, qM4, qM5, qM6, qM7, qM8⟩ := Bk.c9 M_2.out
    have lM := Bk.lt M_2.out
    go_wp2_with fail
    refine (isNumber_any _ _ _ _).mono ?_
    rintro e w3 ⟨rfl, HW⟩
    clear qS0 qS1 lS qM0 qM1 qM2 qM3 qM4 qM5 qM6 qM7 qM8 lM
    rw [h3.out]
    have S_3 : Hid (Bk w3 w.heap.size #[.int .i64 b, .int .i64 d] 28) := S_2.out.keep (HW)
    have M_3 : Hid (Bk w3 (w.heap.size + 1) #[.int .i64 x0, .int .i64 x1, .int .i64 x2, .int .i64 x3, .int .i64 x4, .int .i64 x5, .int .i64 x6, .int .i64 x7, .slice a n cap] 82) := M_2.out.keep (HW)
    have BEL_3 : Hid (Below w.heap.size w w3) := belt BEL_2.out (HW)
    clear S_2 M_2 BEL_2
    clear HW
    obtain ⟨qS0, qS1⟩ := Bk.c2 S_3.out
    have lS := Bk.lt S_3.out
    obtain ⟨qM0, qM1, qM2, qM3, qM4, qM5, qM6, qM7, qM8⟩ := Bk.c9 M_3.out
    have lM := Bk.lt M_3.out
    go_wp2
    go_ret
    exact ⟨ret_bool hv.out.symm, BEL_3.out⟩
  have h3 : Hid (numB b d x3 = true) := h30
  clear h30
  have h23 : Hid (numsB b d [x2, x3] = true) := by unfold Hid; rw [numsB_2, h2.out, h3.out]; rfl
  cases ht0 : toldB b l
  · have ht : Hid (toldB b l = false) := ht0
    have hv : Hid (gmB b d x0 x1 x2 x3 x4 x5 x6 x7 l = false) := gm_told ht0
    clear ht0
    go_enter Try.func78, Try.ntmps78
    go_wp2_with fail
    refine (good_any _ _ _).mono ?_
    rintro e w1 ⟨rfl, HW⟩
    rw [hg.out]
    obtain ⟨KA, KB, HB⟩ := bkAB HW
    have S_1 : Hid (Bk w1 w.heap.size #[.int .i64 b, .int .i64 d] 28) := KA
    have M_1 : Hid (Bk w1 (w.heap.size + 1) #[.int .i64 x0, .int .i64 x1, .int .i64 x2, .int .i64 x3, .int .i64 x4, .int .i64 x5, .int .i64 x6, .int .i64 x7, .slice a n cap] 82) := KB
    have BEL_1 : Hid (Below w.heap.size w w1) := HB
    clear HW KA KB HB
    obtain ⟨qS0, qS1⟩ := Bk.c2 S_1.out
    have lS := Bk.lt S_1.out
    obtain ⟨qM0, qM1, qM2, qM3, qM4, qM5, qM6, qM7, qM8⟩ := Bk.c9 M_1.out
    have lM := Bk.lt M_1.out
    go_wp2_with fail
    refine (isKind_any _ _).mono ?_
    rintro e vx ⟨rfl, hx⟩
    have hx' := hx.symm
    clear hx
    subst hx'
    clear qS0 qS1 lS qM0 qM1 qM2 qM3 qM4 qM5 qM6 qM7 qM8 lM
    rw [hk.out]
    obtain ⟨qS0, qS1⟩ := Bk.c2 S_1.out
    have lS := Bk.lt S_1.out
    obtain ⟨qM0, qM1, qM2, qM3, qM4, qM5, qM6, qM7, qM8⟩ := Bk.c9 M_1.out
    have lM := Bk.lt M_1.out
    go_wp2_with fail
    refine (isNumber_any _ _ _ _).mono ?_
    rintro e w2 ⟨rfl, HW⟩
    clear qS0 qS1 lS qM0 qM1 qM2 qM3 qM4 qM5 qM6 qM7 qM8 lM
    rw [h2.out]
    have S_2 : Hid (Bk w2 w.heap.size #[.int .i64 b, .int .i64 d] 28) := S_1.out.keep (HW)
    have M_2 : Hid (Bk w2 (w.heap.size + 1) #[.int .i64 x0, .int .i64 x1, .int .i64 x2, .int .i64 x3, .int .i64 x4, .int .i64 x5, .int .i64 x6, .int .i64 x7, .slice a n cap] 82) := M_1.out.keep (HW)
    have BEL_2 : Hid (Below w.heap.size w w2) := belt BEL_1.out (HW)
    clear S_1 M_1 BEL_1
    clear HW
    obtain ⟨qS0, qS1⟩ := Bk.c2 S_2.out
    have lS := Bk.lt S_2.out
    obtain ⟨qM0, qM1, qM2, qM3, qM4, qM5, qM6, qM7, qM8⟩ := Bk.c9 M_2.out
    have lM := Bk.lt M_2.out
    go_wp2_with fail
    refine (isNumber_any _ _ _ _).mono ?_
    rintro e w3 ⟨rfl, HW⟩
    clear qS0 qS1 lS qM0 qM1 qM2 qM3 qM4 qM5 qM6 qM7 qM8 lM
    rw [h3.out]
    have S_3 : Hid (Bk w3 w.heap.size #[.int .i64 b, .int .i64 d] 28) := S_2.out.keep (HW)
    have M_3 : Hid (Bk w3 (w.heap.size + 1) #[.int .i64 x0, .int .i64 x1, .int .i64 x2, .int .i64 x3, .int .i64 x4, .int .i64 x5, .int .i64 x6, .int .i64 x7, .slice a n cap] 82) := M_2.out.keep (HW)
    have BEL_3 : Hid (Below w.heap.size w w3) := belt BEL_2.out (HW)
    clear S_2 M_2 BEL_2
    clear HW
    obtain ⟨qS0, qS1⟩ := Bk.c2 S_3.out
    have lS := Bk.lt S_3.out
    obtain ⟨qM0, qM1, qM2, qM3, qM4, qM5, qM6, qM7, qM8⟩ := Bk.c9 M_3.out
    have lM := Bk.lt M_3.out
    go_wp2_with fail
    refine (isTold_any b d a cap n l _ hgt.out hn hm (HR.out.keep BEL_3.out)).mono ?_
    rintro e w4 ⟨rfl, HW⟩
    clear qS0 qS1 lS qM0 qM1 qM2 qM3 qM4 qM5 qM6 qM7 qM8 lM
    rw [ht.out]
    have S_4 : Hid (Bk w4 w.heap.size #[.int .i64 b, .int .i64 d] 28) := S_3.out.keep (HW)
    have M_4 : Hid (Bk w4 (w.heap.size + 1) #[.int .i64 x0, .int .i64 x1, .int .i64 x2, .int .i64 x3, .int .i64 x4, .int .i64 x5, .int .i64 x6, .int .i64 x7, .slice a n cap] 82) := M_3.out.keep (HW)
    have BEL_4 : Hid (Below w.heap.size w w4) := belt BEL_3.out (HW)
    clear S_3 M_3 BEL_3
    clear HW
    obtain ⟨qS0, qS1⟩ := Bk.c2 S_4.out
    have lS := Bk.lt S_4.out
    obtain ⟨qM0, qM1, qM2, qM3, qM4, qM5, qM6, qM7, qM8⟩ := Bk.c9 M_4.out
    have lM := Bk.lt M_4.out
    go_wp2
    go_ret
    exact ⟨ret_bool hv.out.symm, BEL_4.out⟩
  have ht : Hid (toldB b l = true) := ht0
  clear ht0
  go_enter Try.func78, Try.ntmps78
  go_wp2_with fail
  refine (good_any _ _ _).mono ?_
  rintro e w1 ⟨rfl, HW⟩
  rw [hg.out]
  obtain ⟨KA, KB, HB⟩ := bkAB HW
  have S_1 : Hid (Bk w1 w.heap.size #[.int .i64 b, .int .i64 d] 28) := KA
  have M_1 : Hid (Bk w1 (w.heap.size + 1) #[.int .i64 x0, .int .i64 x1, .int .i64 x2, .int .i64 x3, .int .i64 x4, .int .i64 x5, .int .i64 x6, .int .i64 x7, .slice a n cap] 82) := KB
  have BEL_1 : Hid (Below w.heap.size w w1) := HB
  clear HW KA KB HB
  obtain ⟨qS0, qS1⟩ := Bk.c2 S_1.out
  have lS := Bk.lt S_1.out
  obtain ⟨qM0, qM1, qM2, qM3, qM4, qM5, qM6, qM7, qM8⟩ := Bk.c9 M_1.out
  have lM := Bk.lt M_1.out
  go_wp2_with fail
  refine (isKind_any _ _).mono ?_
  rintro e vx ⟨rfl, hx⟩
  have hx' := hx.symm
  clear hx
  subst hx'
  clear qS0 qS1 lS qM0 qM1 qM2 qM3 qM4 qM5 qM6 qM7 qM8 lM
  rw [hk.out]
  obtain ⟨qS0, qS1⟩ := Bk.c2 S_1.out
  have lS := Bk.lt S_1.out
  obtain ⟨qM0, qM1, qM2, qM3, qM4, qM5, qM6, qM7, qM8⟩ := Bk.c9 M_1.out
  have lM := Bk.lt M_1.out
  go_wp2_with fail
  refine (isNumber_any _ _ _ _).mono ?_
  rintro e w2 ⟨rfl, HW⟩
  clear qS0 qS1 lS qM0 qM1 qM2 qM3 qM4 qM5 qM6 qM7 qM8 lM
  rw [h2.out]
  have S_2 : Hid (Bk w2 w.heap.size #[.int .i64 b, .int .i64 d] 28) := S_1.out.keep (HW)
  have M_2 : Hid (Bk w2 (w.heap.size + 1) #[.int .i64 x0, .int .i64 x1, .int .i64 x2, .int .i64 x3, .int .i64 x4, .int .i64 x5, .int .i64 x6, .int .i64 x7, .slice a n cap] 82) := M_1.out.keep (HW)
  have BEL_2 : Hid (Below w.heap.size w w2) := belt BEL_1.out (HW)
  clear S_1 M_1 BEL_1
  clear HW
  obtain ⟨qS0, qS1⟩ := Bk.c2 S_2.out
  have lS := Bk.lt S_2.out
  obtain ⟨qM0, qM1, qM2, qM3, qM4, qM5, qM6, qM7, qM8⟩ := Bk.c9 M_2.out
  have lM := Bk.lt M_2.out
  go_wp2_with fail
  refine (isNumber_any _ _ _ _).mono ?_
  rintro e w3 ⟨rfl, HW⟩
  clear qS0 qS1 lS qM0 qM1 qM2 qM3 qM4 qM5 qM6 qM7 qM8 lM
  rw [h3.out]
  have S_3 : Hid (Bk w3 w.heap.size #[.int .i64 b, .int .i64 d] 28) := S_2.out.keep (HW)
  have M_3 : Hid (Bk w3 (w.heap.size + 1) #[.int .i64 x0, .int .i64 x1, .int .i64 x2, .int .i64 x3, .int .i64 x4, .int .i64 x5, .int .i64 x6, .int .i64 x7, .slice a n cap] 82) := M_2.out.keep (HW)
  have BEL_3 : Hid (Below w.heap.size w w3) := belt BEL_2.out (HW)
  clear S_2 M_2 BEL_2
  clear HW
  obtain ⟨qS0, qS1⟩ := Bk.c2 S_3.out
  have lS := Bk.lt S_3.out
  obtain ⟨qM0, qM1, qM2, qM3, qM4, qM5, qM6, qM7, qM8⟩ := Bk.c9 M_3.out
  have lM := Bk.lt M_3.out
  go_wp2_with fail
  refine (isTold_any b d a cap n l _ hgt.out hn hm (HR.out.keep BEL_3.out)).mono ?_
  rintro e w4 ⟨rfl, HW⟩
  clear qS0 qS1 lS qM0 qM1 qM2 qM3 qM4 qM5 qM6 qM7 qM8 lM
  rw [ht.out]
  have S_4 : Hid (Bk w4 w.heap.size #[.int .i64 b, .int .i64 d] 28) := S_3.out.keep (HW)
  have M_4 : Hid (Bk w4 (w.heap.size + 1) #[.int .i64 x0, .int .i64 x1, .int .i64 x2, .int .i64 x3, .int .i64 x4, .int .i64 x5, .int .i64 x6, .int .i64 x7, .slice a n cap] 82) := M_3.out.keep (HW)
  have BEL_4 : Hid (Below w.heap.size w w4) := belt BEL_3.out (HW)
  clear S_3 M_3 BEL_3
  clear HW
  obtain ⟨qS0, qS1⟩ := Bk.c2 S_4.out
  have lS := Bk.lt S_4.out
  obtain ⟨qM0, qM1, qM2, qM3, qM4, qM5, qM6, qM7, qM8⟩ := Bk.c9 M_4.out
  have lM := Bk.lt M_4.out
  go_wp2_with fail
  refine (fieldsOf_any x0 _).mono ?_
  rintro e w5 ⟨aF, nF, cF, rfl, hnF, hcF, oF, HW⟩
  clear qS0 qS1 lS qM0 qM1 qM2 qM3 qM4 qM5 qM6 qM7 qM8 lM
  have S_5 : Hid (Bk w5 w.heap.size #[.int .i64 b, .int .i64 d] 28) := S_4.out.keep (HW)
  have M_5 : Hid (Bk w5 (w.heap.size + 1) #[.int .i64 x0, .int .i64 x1, .int .i64 x2, .int .i64 x3, .int .i64 x4, .int .i64 x5, .int .i64 x6, .int .i64 x7, .slice a n cap] 82) := M_4.out.keep (HW)
  have BEL_5 : Hid (Below w.heap.size w w5) := belt BEL_4.out (HW)
  clear S_4 M_4 BEL_4
  have F_5 : Hid (RowAt w5 aF (fld x0)) := oF.rowAt
  clear HW oF
  have hF4 := fld_big x0
  have hF5 : Hid (RowAt w5 aF (fld x0)) := F_5
  go_wp2_with fail
  go_loopw [50] (fun vi wr => ∃ j : Nat, j ≤ nF ∧ vi = .int .i64 j ∧ Hid (∀ i, i < j → (fld x0).getD i 0 = 5 ∨ inB (vf x4 x5 x6 x7 ((fld x0).getD i 0)) 0 (mo b d ((fld x0).getD i 0)) = true) ∧ Hid (Below w5.heap.size w5 wr)) (fun vi _ => nF - (intOf vi).toNat)
  case atStart => exact ⟨0, Nat.zero_le _, rfl, fun i hi => by omega, Below.refl _ _⟩
  case round =>
    obtain ⟨j, hj, rfl, hs, hb⟩ := hrel
    obtain ⟨s0, s1⟩ := Bk.c2 (S_5.out.keep hb.out)
    obtain ⟨q0, q1, q2, q3, q4, q5, q6, q7, q8⟩ := Bk.c9 (M_5.out.keep hb.out)
    by_cases hlt2 : j < nF
    · have hmem := fld_mem x0 j (by omega)
      have hrow := F_5.out.keep hb.out
      obtain ⟨bk, off, hform⟩ := rowAt_form hrow (by omega)
      subst hform
      have hc1 := (rowAt_cell hrow (by omega)).2 j (by omega)
      clear hrow
      by_cases h5 : (fld x0).getD j 0 = 5
      · have SN : Hid (∀ i, i < j + 1 → (fld x0).getD i 0 = 5 ∨ inB (vf x4 x5 x6 x7 ((fld x0).getD i 0)) 0 (mo b d ((fld x0).getD i 0)) = true) := fun i hi => by
          by_cases he : i = j
          · subst he; exact .inl h5
          · exact hs.out i (by omega)
        have hf : (((fld x0).getD j 0) == 5) = true := by rw [h5]; rfl
        clear h5
        generalize (fld x0).getD j 0 = f at hc1 hf hmem
        go_wp2
        go_roundw
        case rel => exact ⟨j + 1, by omega, by go_num, SN, hb⟩
        case measure => simp [intOf]; omega
      · have hf : (((fld x0).getD j 0) == 5) = false := beq_eq_false_iff_ne.2 h5
        have hs8 : wr.cell? ⟨w.heap.size + 1, fo ((fld x0).getD j 0), none⟩ = some (.int .i64 (vf x4 x5 x6 x7 ((fld x0).getD j 0))) := ((M_5.out.keep hb.out).cell _).trans (vf_cell _ _ _ _ _ _ _ _ _ _)
        cases hin : inB (vf x4 x5 x6 x7 ((fld x0).getD j 0)) 0 (mo b d ((fld x0).getD j 0))
        · have hv : Hid (gmB b d x0 x1 x2 x3 x4 x5 x6 x7 l = false) := gm_field (by omega) h5 hin
          have hio := inB_false hin
          clear h5 hin
          generalize vf x4 x5 x6 x7 ((fld x0).getD j 0) = y at hs8 hio
          obtain ⟨m, hm0⟩ : ∃ m, mo b d ((fld x0).getD j 0) = m := ⟨_, rfl⟩
          rw [hm0] at hio
          have HM : Hid (mo b d ((fld x0).getD j 0) = m) := hm0
          clear hm0
          generalize (fld x0).getD j 0 = f at *
          by_cases hy : y < 0
          · clear hio
            go_wp2_with fail
            refine (numberAt_any _ _ _).mono ?_
            rintro e vx ⟨rfl, hx⟩
            have hx' := hx.symm
            clear hx
            subst hx'
            go_wp2
            go_ret
            exact ⟨ret_bool hv.out.symm, belt BEL_5.out hb.out⟩
          · have hym : m < y := by omega
            clear hio
            go_wp2_with fail
            refine (numberAt_any _ _ _).mono ?_
            rintro e vx ⟨rfl, hx⟩
            have hx' := hx.symm
            clear hx
            subst hx'
            go_wp2_with fail
            refine (mostOf_any _ _ _ _ hgt.out).mono ?_
            rintro e w6 ⟨rfl, hw6⟩
            rw [HM.out]
            go_wp2
            go_ret
            exact ⟨ret_bool hv.out.symm, belt BEL_5.out (belt hb.out hw6)⟩
        · have SN : Hid (∀ i, i < j + 1 → (fld x0).getD i 0 = 5 ∨ inB (vf x4 x5 x6 x7 ((fld x0).getD i 0)) 0 (mo b d ((fld x0).getD i 0)) = true) := fun i hi => by
            by_cases he : i = j
            · subst he; exact .inr hin
            · exact hs.out i (by omega)
          have hio := inB_true hin
          clear h5 hin
          generalize vf x4 x5 x6 x7 ((fld x0).getD j 0) = y at hs8 hio
          obtain ⟨m, hm0⟩ : ∃ m, mo b d ((fld x0).getD j 0) = m := ⟨_, rfl⟩
          rw [hm0] at hio
          have HM : Hid (mo b d ((fld x0).getD j 0) = m) := hm0
          clear hm0
          generalize (fld x0).getD j 0 = f at hc1 hf hs8 HM hmem
          obtain ⟨hio1, hio2⟩ := hio
          go_wp2_with fail
          refine (numberAt_any _ _ _).mono ?_
          rintro e vx ⟨rfl, hx⟩
          have hx' := hx.symm
          clear hx
          subst hx'
          go_wp2_with fail
          refine (mostOf_any _ _ _ _ hgt.out).mono ?_
          rintro e w6 ⟨rfl, hw6⟩
          rw [HM.out]
          go_wp2
          go_roundw
          case rel => exact ⟨j + 1, by omega, by go_num, SN, belt hb.out hw6⟩
          case measure => simp [intOf]; omega
    · have hv : Hid (gmB b d x0 x1 x2 x3 x4 x5 x6 x7 l = (hdB x0 x1 x2 x3 x4 x5 x6 x7 x0 x1 x2 x3 (pv (fld x0) (fld x0).length 1 x4) (pv (fld x0) (fld x0).length 2 x5) (pv (fld x0) (fld x0).length 3 x6) (pv (fld x0) (fld x0).length 4 x7) && sameB l (lO x0 l))) := gm_end h23.out hk1.out h1.out ht.out (fun i hi => hs.out i (by omega))
      obtain ⟨pa, pn, pc, hpC, hpn, hprow⟩ := pC_form x0 x1 x2 x3 x4 x5 x6 x7 a n cap l hn
      have HPC : Hid (pC (fld x0) (fld x0).length x0 x1 x2 x3 x4 x5 x6 x7 (.slice a n cap) = _) := hpC
      have HM := M_5.out.keep hb.out
      have HMH : Hid (Bk wr (w.heap.size + 1) _ _) := HM
      have HBW : Hid (Below w.heap.size w wr) := belt BEL_5.out hb.out
      have HRO : Hid (∀ w, RowAt w a l → RowAt w pa (lO x0 l)) := hprow
      clear hpC HM hprow
      generalize pv (fld x0) (fld x0).length 1 x4 = z4 at *
      generalize pv (fld x0) (fld x0).length 2 x5 = z5 at *
      generalize pv (fld x0) (fld x0).length 3 x6 = z6 at *
      generalize pv (fld x0) (fld x0).length 4 x7 = z7 at *
      go_wp2_with fail
      refine wp_region_held_drew (S := fun w' => Below wr.heap.size wr w') (by kernel_rfl) ((Below.refl _ _).drew) (fun hs0 => ?_)
      refine wpAnyH_take (i := 0) (oi := _) (v := _) rfl (by kernel_rfl) (by kernel_rfl) (by kernel_rfl) (fun _ _ _ h => h) (yieldsIf_bk rfl rfl rfl (fun w' h => (HMH.out).keep h) Try.underlying82 rfl (by kernel_rfl)) hs0 ?_
      simp only [Act.put, List.setIfInBounds_toArray, List.set_cons_zero, List.set_cons_succ]
      refine wpAnyH_ready (rs := [1]) (by kernel_rfl) (by simp) ?_
      refine AllReadyH.cons rfl (fun K hK => ?_) AllReadyH.nil
      go_simp
      refine (onlyFields_any (w.heap.size + 1) x0 x1 x2 x3 x4 x5 x6 x7 a n cap _ (HMH.out.keep hs0)).mono ?_
      rintro e wa ⟨rfl, hw1⟩
      have hs1 := belt hs0 hw1
      rw [HPC.out]
      refine hK.out _ _ hs1 (fun _ => ?_)
      clear hK K
      refine wpAnyH_ready (rs := [2]) (by kernel_rfl) (by simp) ?_
      refine AllReadyH.cons rfl (fun K hK => ?_) AllReadyH.nil
      go_simp
      refine (SameMsg_any x0 x1 x2 x3 x4 x5 x6 x7 x0 x1 x2 x3 z4 z5 z6 z7 a pa _ _ _ _ l (lO x0 l) _ hn hpn hm (HR.out.keep (belt HBW.out hs1)) (HRO.out _ (HR.out.keep (belt HBW.out hs1)))).mono ?_
      rintro e wb ⟨rfl, hw2⟩
      have hs2 := belt hs1 hw2
      refine hK.out _ _ hs2 (fun _ => ?_)
      clear hK K
      refine wpAnyH_ready (rs := [3]) (by kernel_rfl) (by simp) ?_
      refine AllReadyH.cons rfl (fun K hK => ?_) AllReadyH.nil
      go_simp
      refine hK.out _ _ hs2 (fun _ => ?_)
      clear hK K
      refine wpAnyH_done (by kernel_rfl) ?_ _
      go_wp2
      go_ret
      exact ⟨ret_bool hv.out.symm, belt HBW.out hs2⟩
end Go.Proofs.Ytioiacmaijgdoaa.Wire
namespace Go.Proofs.Ytioiacmaijgdoaa
open Go.RowKit Go.Deep
set_option linter.unusedVariables false
set_option linter.unusedSimpArgs false
theorem slIndex_any (a : Option Addr) (cap : Nat) (zs : List Int) (x : Int) (w : World) (hm : zs.length ≤ maxLen) (hr : RowAt w a zs) :
    Calls Try.prog 82 #[.slice a zs.length cap, .int .i64 x] w fun e w' => ∃ v : Int, e = .returned (.int .i64 v) ∧ ((hasB zs x = true ∧ 0 ≤ v) ∨ (hasB zs x = false ∧ v < 0)) ∧ w' = w := by
  have HR : Hid (RowAt w a zs) := hr
  clear hr
  unfold maxLen at hm
  go_enter Try.func82, Try.ntmps82
  go_wp2_with fail
  go_loop [8] (fun v => ∃ k : Nat, k ≤ zs.length ∧ v = .int .i64 k ∧ Hid (∀ i, i < k → ¬ zs.getD i 0 = x)) (fun v => zs.length - (intOf v).toNat)
  case atStart => exact ⟨0, Nat.zero_le _, rfl, fun i hi => by omega⟩
  case round =>
    obtain ⟨k, hk, rfl, HS⟩ := hrel
    by_cases hlt : k < zs.length
    · obtain ⟨bk, off, rfl⟩ := rowAt_form HR.out (by omega)
      have hc := (rowAt_cell HR.out (by omega)).2 k hlt
      by_cases he : zs.getD k 0 = x
      · have HV : Hid (hasB zs x = true) := decide_eq_true ⟨k, hlt, he⟩
        have hb : (x == zs.getD k 0) = true := by simpa using he.symm
        clear he
        generalize zs.getD k 0 = y at hc hb
        go_wp2
        go_ret
        exact ⟨_, rfl, .inl ⟨HV.out, by omega⟩, rfl⟩
      · have hb : (x == zs.getD k 0) = false := by simpa using fun h : x = zs.getD k 0 => he h.symm
        have HS2 : Hid (∀ i, i < k + 1 → ¬ zs.getD i 0 = x) := fun i hi => by
          by_cases hq : i = k
          · subst hq; exact he
          · exact HS.out i (by omega)
        clear he HS
        generalize zs.getD k 0 = y at hc hb
        go_wp2
        go_round
        case rel => exact ⟨k + 1, by omega, by go_num, HS2⟩
        case measure => simp [intOf]; omega
    · have HV : Hid (hasB zs x = false) := decide_eq_false (fun ⟨i, hi, he⟩ => HS.out i (by omega) he)
      go_wp2
      go_ret
      exact ⟨_, rfl, .inr ⟨HV.out, by omega⟩, rfl⟩
theorem slContains_any (a : Option Addr) (cap n : Nat) (zs : List Int) (x : Int) (w : World) (hn : zs.length = n) (hm : n ≤ maxLen) (hr : RowAt w a zs) :
    Calls Try.prog 57 #[.slice a n cap, .int .i64 x] w fun e w' => e = .returned (.bool (hasB zs x)) ∧ w' = w := by
  subst hn
  go_enter Try.func57, Try.ntmps57
  go_wp2_with fail
  refine (slIndex_any a cap zs x _ hm hr).mono ?_
  rintro e w1 ⟨v, rfl, hv, rfl⟩
  rcases hv with ⟨h1, h2⟩ | ⟨h1, h2⟩
  · have HV : Hid (hasB zs x = true) := h1
    clear h1
    go_wp2
    go_ret
    exact ⟨ret_bool HV.out.symm, rfl⟩
  · have HV : Hid (hasB zs x = false) := h1
    clear h1
    go_wp2
    go_ret
    exact ⟨ret_bool (by rw [HV.out]; exact decide_eq_false (by omega)), rfl⟩
theorem isLook_any (x : Int) (w : World) : Calls Try.prog 77 #[.int .i64 x] w fun e w' => e = .returned (.bool (inB x 0 255)) ∧ w' = w := by
  by_cases h1 : 0 ≤ x
  · by_cases h2 : x ≤ 255
    · have HV : Hid (inB x 0 255 = true) := inB_yes h1 h2
      go_enter Try.func77, Try.ntmps77
      go_wp2
      go_ret
      exact ⟨ret_bool HV.out.symm, rfl⟩
    · have HV : Hid (inB x 0 255 = false) := inB_no (fun h => h2 h.2)
      go_enter Try.func77, Try.ntmps77
      go_wp2
      go_ret
      exact ⟨ret_bool HV.out.symm, rfl⟩
  · have HV : Hid (inB x 0 255 = false) := inB_no (fun h => h1 h.1)
    go_enter Try.func77, Try.ntmps77
    go_wp2
    go_ret
    exact ⟨ret_bool HV.out.symm, rfl⟩
set_option maxHeartbeats 1600000 in
theorem areBegun_any (a : Option Addr) (cap : Nat) (zs : List Int) (w : World) (hm : zs.length ≤ maxLen) (hr : RowAt w a zs) :
    Calls Try.prog 50 #[.slice a zs.length cap] w fun e w' => e = .returned (.bool (decide (zs.length ≤ 12) && risB zs 0 255)) ∧ w' = w := by
  have HR : Hid (RowAt w a zs) := hr
  clear hr
  unfold maxLen at hm
  by_cases hl : zs.length ≤ 12
  · have HD : Hid ((decide (zs.length ≤ 12) && risB zs 0 255) = risB zs 0 255) := by unfold Hid; rw [decide_eq_true hl]; rfl
    rw [HD.out]
    go_enter Try.func50, Try.ntmps50
    go_wp2_with fail
    go_loop [10] (fun v => ∃ k : Nat, k ≤ zs.length ∧ v = .int .i64 k ∧ Hid (∀ i, i < k → (0 ≤ zs.getD i 0 ∧ zs.getD i 0 ≤ 255) ∧ (0 < i → zs.getD (i - 1) 0 < zs.getD i 0))) (fun v => zs.length - (intOf v).toNat)
    case atStart => exact ⟨0, Nat.zero_le _, rfl, fun i hi => by omega⟩
    case round =>
      obtain ⟨k, hk, rfl, HS⟩ := hrel
      by_cases hlt : k < zs.length
      · obtain ⟨bk, off, rfl⟩ := rowAt_form HR.out (by omega)
        have hc1 := (rowAt_cell HR.out (by omega)).2 k hlt
        have HNO : Hid (¬ ((0 ≤ zs.getD k 0 ∧ zs.getD k 0 ≤ 255) ∧ (0 < k → zs.getD (k - 1) 0 < zs.getD k 0)) → risB zs 0 255 = false) := risB_no hlt
        have HY : Hid (((0 ≤ zs.getD k 0 ∧ zs.getD k 0 ≤ 255) ∧ (0 < k → zs.getD (k - 1) 0 < zs.getD k 0)) → ∀ i, i < k + 1 → (0 ≤ zs.getD i 0 ∧ zs.getD i 0 ≤ 255) ∧ (0 < i → zs.getD (i - 1) 0 < zs.getD i 0)) := fun h i hi => by
          by_cases he : i = k
          · subst he; exact h
          · exact HS.out i (by omega)
        clear HS
        cases hn : inB (zs.getD k 0) 0 255
        · have HV : Hid (risB zs 0 255 = false) := HNO.out (fun g => by rw [inB_yes g.1.1 g.1.2] at hn; cases hn)
          generalize zs.getD k 0 = z at hc1 hn
          clear HNO HY
          go_wp2_with fail
          refine (isLook_any z _).mono ?_
          rw [hn]
          rintro e w1 ⟨rfl, rfl⟩
          clear hn
          go_wp2
          go_ret
          exact ⟨ret_bool HV.out.symm, rfl⟩
        · have hrg := inB_true hn
          by_cases h0 : 0 < k
          · have hc2 := (rowAt_cell HR.out (by omega)).2 (k - 1) (by omega)
            by_cases hx : zs.getD (k - 1) 0 < zs.getD k 0
            · have HS2 := HY.out ⟨hrg, fun _ => hx⟩
              have HS2 : Hid (∀ i, i < k + 1 → (0 ≤ zs.getD i 0 ∧ zs.getD i 0 ≤ 255) ∧ (0 < i → zs.getD (i - 1) 0 < zs.getD i 0)) := HS2
              clear HNO HY hrg
              have hx2 : ¬ zs.getD k 0 ≤ zs.getD (k - 1) 0 := by omega
              clear hx
              generalize zs.getD k 0 = z at hc1 hn hx2
              generalize zs.getD (k - 1) 0 = y at hc2 hx2
              go_wp2_with fail
              refine (isLook_any z _).mono ?_
              rw [hn]
              rintro e w1 ⟨rfl, rfl⟩
              clear hn
              go_wp2
              go_round
              case rel => exact ⟨k + 1, by omega, by go_num, HS2⟩
              case measure => simp [intOf]; omega
            · have HV : Hid (risB zs 0 255 = false) := HNO.out (fun g => hx (g.2 h0))
              clear HNO HY hrg
              have hx2 : zs.getD k 0 ≤ zs.getD (k - 1) 0 := by omega
              clear hx
              generalize zs.getD k 0 = z at hc1 hn hx2
              generalize zs.getD (k - 1) 0 = y at hc2 hx2
              go_wp2_with fail
              refine (isLook_any z _).mono ?_
              rw [hn]
              rintro e w1 ⟨rfl, rfl⟩
              clear hn
              go_wp2
              go_ret
              exact ⟨ret_bool HV.out.symm, rfl⟩
          · have HS2 : Hid (∀ i, i < k + 1 → (0 ≤ zs.getD i 0 ∧ zs.getD i 0 ≤ 255) ∧ (0 < i → zs.getD (i - 1) 0 < zs.getD i 0)) := HY.out ⟨hrg, fun h => absurd h h0⟩
            clear HNO HY hrg
            generalize zs.getD k 0 = z at hc1 hn
            go_wp2_with fail
            refine (isLook_any z _).mono ?_
            rw [hn]
            rintro e w1 ⟨rfl, rfl⟩
            clear hn
            go_wp2
            go_round
            case rel => exact ⟨k + 1, by omega, by go_num, HS2⟩
            case measure => simp [intOf]; omega
      · have HV : Hid (risB zs 0 255 = true) := risB_yes (fun i hi => HS.out i (by omega))
        go_wp2
        go_ret
        exact ⟨ret_bool HV.out.symm, rfl⟩
  · have HD : Hid ((decide (zs.length ≤ 12) && risB zs 0 255) = false) := by unfold Hid; rw [decide_eq_false hl]; rfl
    rw [HD.out]
    go_enter Try.func50, Try.ntmps50
    go_wp2
    go_ret
    exact ⟨rfl, rfl⟩
set_option maxHeartbeats 1600000 in
theorem looksInBag_any (q : Nat) (a : Option Addr) (cap : Nat) (ms : List Mg) (w : World) (hm : ms.length ≤ 1048576) (hq : q < w.heap.size) (c4 : w.cell? ⟨q, 4, none⟩ = some (.slice a ms.length cap)) (hr : LsAt tyMg w a ms) :
    Calls Try.prog 81 #[.pointer (some ⟨q, 0, none⟩)] w fun e w' => e = .returned (.slice (some ⟨w.heap.size, 0, none⟩) ms.length ms.length) ∧ OwnZ w w' w.heap.size (lkM ms) := by
  have hmk := make_ints ms.length hm
  have hil := lkM_len ms
  have HR : Hid (LsAt tyMg w a ms) := hr
  clear hr
  have hc40 : (w.alloc (.cells (zv (List.replicate ms.length 0)) 3)).cell? ⟨q, 4, none⟩ = some (.slice a ms.length cap) := (cell_alloc_old' _ hq trivial).trans c4
  go_enter Try.func81, Try.ntmps81
  go_wp2_with fail
  clear hmk
  have st0 : OwnZ w (w.alloc (.cells (zv (List.replicate ms.length 0)) 3)) w.heap.size (cop (lkM ms) 0) :=
    ⟨(Below.refl _ _).alloc (Nat.le_refl _) _, Nat.le_refl _, by rw [cop_none, hil]; exact heap_alloc_new _ _⟩
  go_loopw [16] (fun vi wr => ∃ k : Nat, k ≤ ms.length ∧ vi = .int .i64 k ∧ OwnZ w wr w.heap.size (cop (lkM ms) k)) (fun vi _ => ms.length - (intOf vi).toNat)
  case atStart => exact ⟨0, Nat.zero_le _, rfl, st0⟩
  case round =>
    obtain ⟨k, hk, rfl, st⟩ := hrel
    clear st0 hc40
    have hc4 : wr.cell? ⟨q, 4, none⟩ = some (.slice a ms.length cap) := (st.bel.cell (p := ⟨q, 4, none⟩) hq).trans c4
    by_cases hlt : k < ms.length
    · obtain ⟨bk, off, rfl⟩ := lsAt_form HR.out (by show 0 < ms.length; omega)
      obtain ⟨_, ab, cb, hc, _⟩ := msAt_cell (HR.out.keep st.bel) hlt
      have c1 := hc.m9.2.1
      clear hc
      obtain ⟨r0, r1⟩ := st.at k (by rw [cop_len (by omega)]; omega)
      have st2 := st.put k ((lkM ms).getD k 0)
      rw [cop_set (by omega)] at st2
      rw [← lkM_get hlt] at c1
      clear st
      generalize (lkM ms).getD k 0 = x0 at c1 st2
      generalize (cop (lkM ms) k).getD k 0 = y at r0
      go_wp2
      go_roundw
      case rel => exact ⟨k + 1, by omega, by go_num, st2⟩
      case measure => simp [intOf]; omega
    · have hkl : k = (lkM ms).length := by omega
      rw [hkl, cop_all] at st
      go_wp2
      go_ret
      exact ⟨rfl, st⟩
theorem ownZ_row {w wr : World} {g n : Nat} {l : List Int} (h : OwnZ w wr g l) (hn : l.length = n) (hm : n ≤ 1048576) : wr.ownsRow w.heap.size 3 1 (.slice (some ⟨g, 0, none⟩) n n) l.length (l.map (Value.int .i64)) := by
  subst hn
  refine ⟨by simp, .inr ⟨g, l.length, zv l, rfl, h.lo, h.row, Nat.le_refl _, by unfold maxLen; omega, by simp [zv], by simp [zv, List.take_of_length_le]⟩⟩
end Go.Proofs.Ytioiacmaijgdoaa
