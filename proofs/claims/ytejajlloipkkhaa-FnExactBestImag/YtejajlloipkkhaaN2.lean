/- Ways through the ring: with forwards enough the owner is found, and never another one. -/
import Derived.Test.YtejajlloipkkhaaN1
namespace Go.Proofs.Ytejajlloipkkhaa
open Go.RowKit
set_option linter.unusedVariables false
/-- a walk's At is a member, its Imag a number, and some digits are left -/
structure WOk (b : Int) (zs : List Int) (v : Wk) : Prop where
  mem : hasB zs v.at_ = true
  i1 : 0 ≤ v.imag
  i2 : v.imag < sz b
  l0 : 0 ≤ v.left
/-- how many forwards are left at most -/
def pot (zs : List Int) (k : Int) (v : Wk) : Nat :=
  if v.left = 0 then md zs.length (pvP zs k) (blw zs v.at_) else md zs.length (dnP zs v.imag) (blw zs v.at_) + v.left.toNat * zs.length
theorem at_place {b d : Int} {zs : List Int} (R : Ring b d zs) {x : Int} (h : hasB zs x = true) : blw zs x < zs.length ∧ zs.getD (blw zs x) 0 = x := by
  rw [← mem_has R] at h
  exact of_decide_eq_true h
theorem shf_rng (b d x g : Int) (hb1 : 1 ≤ b) (hb2 : b ≤ 12) : 0 ≤ shf b d x g ∧ shf b d x g < sz b := by
  unfold shf
  have h := sz_bd hb1 hb2
  exact ⟨Int.emod_nonneg _ (by omega), Int.emod_lt_of_pos _ (by omega)⟩
theorem pot_top {b d : Int} {zs : List Int} (R : Ring b d zs) (k : Int) {v : Wk} (l0 : 0 ≤ v.left) : pot zs k v + 1 ≤ (v.left.toNat + 1) * zs.length := by
  have l1 := R.l1
  unfold pot
  split
  · rename_i h
    have := md_lt (n := zs.length) (t := pvP zs k) (i := blw zs v.at_) (by omega)
    rw [h]
    simp
    omega
  · have := md_lt (n := zs.length) (t := dnP zs v.imag) (i := blw zs v.at_) (by omega)
    rw [Nat.add_mul, Nat.one_mul]
    omega
/-- what one step does -/
def Stp (b : Int) (zs : List Int) (k ttl : Int) (v x : Wk) : Prop :=
  x = ⟨v.at_, v.imag, v.left, v.points, v.succs, 1, ownI zs k⟩ ∨
  (x = ⟨v.at_, v.imag, v.left, v.points, v.succs, 2, v.owner⟩ ∧ ttl ≤ v.points + v.succs ∧ 1 ≤ pot zs k v) ∨
  (WOk b zs x ∧ x.state = v.state ∧ x.owner = v.owner ∧ v.points + v.succs < ttl ∧ pot zs k x + 1 ≤ pot zs k v ∧ ((x.points = v.points + 1 ∧ x.succs = v.succs ∧ x.left = v.left - 1) ∨ (x.points = v.points ∧ x.succs = v.succs + 1 ∧ x.left = v.left)))
theorem stp_kind {b d : Int} {ps : List Pr} {k ttl : Int} {v : Wk} (hg : goodP b d ps = true) (k1 : 0 ≤ k) (k2 : k < sz b) (hv : WOk b (idsP ps) v) : Stp b (idsP ps) k ttl v (stp b d ps k ttl v) := by
  have R := (goodP_true hg).1
  obtain ⟨hb1, hb2, hd1, hd2, _⟩ := gsB_true R.gs
  have l1 := R.l1
  obtain ⟨p1, p2, p3⟩ := peerI_good hg hv.mem
  obtain ⟨hi, he⟩ := at_place R hv.mem
  unfold stp
  by_cases c1 : k = v.at_
  · rw [if_pos c1]
    refine .inl ?_
    rw [c1, ← he, own_self R hi]
  · rw [if_neg c1]
    have c1' : ¬ k = (idsP ps).getD (blw (idsP ps) v.at_) 0 := by rw [he]; exact c1
    by_cases c2 : arcB b v.at_ k (peerI ps v.at_).succ = true
    · rw [if_pos c2]
      refine .inl ?_
      rw [p2] at c2 ⊢
      have := arc_own R k1 k2 hi c1' (by rw [he]; exact c2)
      rw [he] at this
      rw [this]
    · rw [if_neg c2]
      have hpv : ¬ pvP (idsP ps) k = blw (idsP ps) v.at_ := fun h => by
        rcases pv_arc R k1 k2 hi h with h | h
        · exact c1' h
        · rw [he, ← p2] at h; exact c2 h
      have hpl : pvP (idsP ps) k < (idsP ps).length := Nat.mod_lt _ (by omega)
      have hdl : dnP (idsP ps) v.imag < (idsP ps).length := Nat.mod_lt _ (by omega)
      have hmk : ¬ md (idsP ps).length (pvP (idsP ps) k) (blw (idsP ps) v.at_) = 0 := fun h => hpv (md_zero hpl hi h)
      by_cases c3 : ttl ≤ v.points + v.succs
      · rw [if_pos c3]
        refine .inr (.inl ⟨rfl, c3, ?_⟩)
        unfold pot
        split
        · omega
        · rename_i h
          have := hv.l0
          have h1 : 1 ≤ v.left.toNat := by omega
          have : 1 * 1 ≤ v.left.toNat * (idsP ps).length := Nat.mul_le_mul h1 l1
          omega
      · rw [if_neg c3]
        by_cases c4 : 0 < v.left ∧ (v.imag = v.at_ ∨ btwB b v.at_ v.imag (peerI ps v.at_).succ = true)
        · rw [if_pos c4]
          have hsh := shf_rng b d v.imag (dgt4 d k v.left) hb1 hb2
          refine .inr (.inr ⟨⟨p3, hsh.1, hsh.2, by show 0 ≤ v.left - 1; omega⟩, rfl, rfl, by omega, ?_, .inl ⟨rfl, rfl, rfl⟩⟩)
          have ht := pot_top R k (v := ⟨(peerI ps v.at_).point, shf b d v.imag (dgt4 d k v.left), v.left - 1, v.points + 1, v.succs, v.state, v.owner⟩) (by show 0 ≤ v.left - 1; omega)
          have e : (v.left - 1).toNat + 1 = v.left.toNat := by omega
          have hq : pot (idsP ps) k v = md (idsP ps).length (dnP (idsP ps) v.imag) (blw (idsP ps) v.at_) + v.left.toNat * (idsP ps).length := by
            unfold pot
            rw [if_neg (by omega)]
          rw [hq]
          show _ + 1 ≤ _
          have ht' : pot (idsP ps) k ⟨(peerI ps v.at_).point, shf b d v.imag (dgt4 d k v.left), v.left - 1, v.points + 1, v.succs, v.state, v.owner⟩ + 1 ≤ v.left.toNat * (idsP ps).length := by rw [← e]; exact ht
          omega
        · rw [if_neg c4]
          have hnx : (peerI ps v.at_).succ = (idsP ps).getD ((blw (idsP ps) v.at_ + 1) % (idsP ps).length) 0 := by rw [p2]; conv => lhs; rw [← he]; rw [nxt_at R hi]
          have hbs : blw (idsP ps) (peerI ps v.at_).succ = (blw (idsP ps) v.at_ + 1) % (idsP ps).length := by rw [hnx, blw_mem R (Nat.mod_lt _ (by omega))]
          refine .inr (.inr ⟨⟨by rw [p2]; exact nxt_has R _, hv.i1, hv.i2, hv.l0⟩, rfl, rfl, by omega, ?_, .inr ⟨rfl, rfl, rfl⟩⟩)
          unfold pot
          by_cases hl : v.left = 0
          · rw [if_pos hl, if_pos hl]
            show md _ _ (blw (idsP ps) (peerI ps v.at_).succ) + 1 ≤ _
            rw [hbs]
            exact Nat.le_of_eq (md_step hpl hi hmk)
          · rw [if_neg hl, if_neg hl]
            show md _ (dnP (idsP ps) v.imag) (blw (idsP ps) (peerI ps v.at_).succ) + v.left.toNat * _ + 1 ≤ _
            have hmi : ¬ md (idsP ps).length (dnP (idsP ps) v.imag) (blw (idsP ps) v.at_) = 0 := fun h => by
              rcases dn_btw R hv.i1 hv.i2 hi (md_zero hdl hi h) with h | h
              · exact c4 ⟨by have := hv.l0; omega, .inl (by rw [h, he])⟩
              · rw [he, ← p2] at h
                exact c4 ⟨by have := hv.l0; omega, .inr h⟩
            have := md_step hdl hi hmi
            rw [hbs]
            omega
/-- where a way ends -/
theorem rt_end {b d : Int} {ps : List Pr} {k ttl : Int} (hg : goodP b d ps = true) (k1 : 0 ≤ k) (k2 : k < sz b) : ∀ (F : Nat) (v : Wk), WOk b (idsP ps) v → v.state = 0 → v.owner = 0 → v.points + v.succs ≤ ttl → pot (idsP ps) k v < F →
    ((rtW b d ps k ttl F v).state = 1 ∧ (rtW b d ps k ttl F v).owner = ownI (idsP ps) k ∨ (rtW b d ps k ttl F v).state = 2 ∧ (rtW b d ps k ttl F v).owner = 0 ∧ ttl < v.points + v.succs + pot (idsP ps) k v) ∧
    (rtW b d ps k ttl F v).points + (rtW b d ps k ttl F v).succs ≤ v.points + v.succs + pot (idsP ps) k v ∧ (rtW b d ps k ttl F v).points + (rtW b d ps k ttl F v).succs ≤ ttl ∧
    (rtW b d ps k ttl F v).points + (rtW b d ps k ttl F v).succs = v.points + v.succs + ((rtL b d ps k ttl F v).length : Int) ∧ v.points ≤ (rtW b d ps k ttl F v).points ∧ v.succs ≤ (rtW b d ps k ttl F v).succs
  | 0, v, _, _, _, _, h => by omega
  | F + 1, v, hw, hs, ho, ht, hp => by
    have hk := stp_kind (ttl := ttl) hg k1 k2 hw
    unfold rtW rtL
    rw [if_pos hs, if_pos hs]
    rcases hk with h | ⟨h, h1, h2⟩ | ⟨hw', hs', ho', ht', hp', hl⟩
    ·
      have hst : (stp b d ps k ttl v).state = 1 := by rw [h]
      have e1 : rtW b d ps k ttl F (stp b d ps k ttl v) = stp b d ps k ttl v := by cases F <;> simp [rtW, hst]
      have e2 : rtL b d ps k ttl F (stp b d ps k ttl v) = [] := by cases F <;> simp [rtL, hst]
      rw [e1, e2, h]
      refine ⟨.inl ⟨rfl, rfl⟩, by show v.points + v.succs ≤ _; omega, ht, ?_, Int.le_refl _, Int.le_refl _⟩
      show v.points + v.succs = _
      simp
    ·
      have hst : (stp b d ps k ttl v).state = 2 := by rw [h]
      have e1 : rtW b d ps k ttl F (stp b d ps k ttl v) = stp b d ps k ttl v := by cases F <;> simp [rtW, hst]
      have e2 : rtL b d ps k ttl F (stp b d ps k ttl v) = [] := by cases F <;> simp [rtL, hst]
      rw [e1, e2, h]
      refine ⟨.inr ⟨rfl, ho, by omega⟩, by show v.points + v.succs ≤ _; omega, ht, ?_, Int.le_refl _, Int.le_refl _⟩
      show v.points + v.succs = _
      simp
    ·
      have hsum : (stp b d ps k ttl v).points + (stp b d ps k ttl v).succs = v.points + v.succs + 1 := by rcases hl with ⟨h1, h2, _⟩ | ⟨h1, h2, _⟩ <;> omega
      have ih := rt_end (ttl := ttl) hg k1 k2 F (stp b d ps k ttl v) hw' (hs'.trans hs) (ho'.trans ho) (by omega) (by omega)
      obtain ⟨i1, i2, i3, i4, i5, i6⟩ := ih
      rw [if_pos (by omega)]
      refine ⟨?_, by omega, i3, ?_, by rcases hl with ⟨h1, h2, _⟩ | ⟨h1, h2, _⟩ <;> omega, by rcases hl with ⟨h1, h2, _⟩ | ⟨h1, h2, _⟩ <;> omega⟩
      · rcases i1 with i1 | ⟨j1, j2, j3⟩
        · exact .inl i1
        · exact .inr ⟨j1, j2, by omega⟩
      · rw [i4, hsum]
        simp only [List.length_append, List.length_cons, List.length_nil]
        omega
/-- more fuel than is needed changes nothing -/
theorem rt_more {b d : Int} {ps : List Pr} {k ttl : Int} (hg : goodP b d ps = true) (k1 : 0 ≤ k) (k2 : k < sz b) : ∀ (F G : Nat) (v : Wk), WOk b (idsP ps) v → v.state = 0 → pot (idsP ps) k v < F → F ≤ G → rtW b d ps k ttl G v = rtW b d ps k ttl F v ∧ rtL b d ps k ttl G v = rtL b d ps k ttl F v
  | 0, _, v, _, _, h, _ => by omega
  | F + 1, 0, v, _, _, _, h => by omega
  | F + 1, G + 1, v, hw, hs, hp, hFG => by
    have hk := stp_kind (ttl := ttl) hg k1 k2 hw
    unfold rtW rtL
    rw [if_pos hs, if_pos hs, if_pos hs, if_pos hs]
    rcases hk with h | ⟨h, h1, h2⟩ | ⟨hw', hs', ho', ht', hp', hl⟩
    ·
      have hst : (stp b d ps k ttl v).state = 1 := by rw [h]
      constructor
      · cases F <;> cases G <;> simp [rtW, hst]
      · cases F <;> cases G <;> simp [rtL, hst]
    ·
      have hst : (stp b d ps k ttl v).state = 2 := by rw [h]
      constructor
      · cases F <;> cases G <;> simp [rtW, hst]
      · cases F <;> cases G <;> simp [rtL, hst]
    ·
      obtain ⟨e1, e2⟩ := rt_more (ttl := ttl) hg k1 k2 F G (stp b d ps k ttl v) hw' (hs'.trans hs) (by omega) (by omega)
      rw [e1, e2]
      exact ⟨rfl, rfl⟩
end Go.Proofs.Ytejajlloipkkhaa
