/- Ways through the ring: how a way ends, and what a step leaves of a walk, in numbers. -/
import Derived.Test.YtejajlloipkkhaaG8Z
namespace Go.Proofs.Ytejajlloipkkhaa
open Go.RowKit
set_option linter.unusedVariables false
theorem pot_bnd {b d : Int} {ps : List Pr} {x k : Int} (hg : goodP b d ps = true) (hx : hasB (idsP ps) x = true) (k1 : 0 ≤ k) (k2 : k < sz b) : (pot (idsP ps) k (stt b d ps x k) : Int) ≤ bndI b d ps.length := by
  have R := (goodP_true hg).1
  have ho := stt_on (ttl := 1000) hg hx k1 k2 (by omega)
  have h := pot_top R k (v := stt b d ps x k) ho.wv.l1
  have l1 := ho.wv.l1
  have l2 := ho.wv.l2
  have hl : (idsP ps).length = ps.length := idsP_len ps
  have e : (((stt b d ps x k).left.toNat : Nat) : Int) = (stt b d ps x k).left := Int.toNat_of_nonneg l1
  have h2 : (pot (idsP ps) k (stt b d ps x k) : Int) + 1 ≤ ((stt b d ps x k).left + 1) * (ps.length : Int) := by
    rw [hl] at h
    have := Int.ofNat_le.2 h
    rw [Int.natCast_mul, Int.natCast_add, Int.natCast_add, e] at this
    exact this
  have h3 : ((stt b d ps x k).left + 1) * (ps.length : Int) ≤ (b / d + 1) * (ps.length : Int) := Int.mul_le_mul_of_nonneg_right (by omega) (by omega)
  unfold bndI
  have h4 : (b / d + 1) * ((ps.length : Int) - 1) = (b / d + 1) * (ps.length : Int) - (b / d + 1) := by rw [Int.mul_sub, Int.mul_one]
  omega
/-- how a way ends -/
theorem way_end {b d : Int} {ps : List Pr} {x k ttl : Int} (h : rtOk b d ps x k ttl = true) :
    ((rtV b d ps x k ttl).state = 1 ∧ (rtV b d ps x k ttl).owner = ownI (idsP ps) k ∨ (rtV b d ps x k ttl).state = 2 ∧ ttl < bndI b d ps.length) ∧
    (rtV b d ps x k ttl).points + (rtV b d ps x k ttl).succs ≤ bndI b d ps.length ∧ (rtV b d ps x k ttl).points + (rtV b d ps x k ttl).succs ≤ ttl ∧
    ((rtP b d ps x k ttl).length : Int) = (rtV b d ps x k ttl).points + (rtV b d ps x k ttl).succs + 1 ∧ 0 ≤ (rtV b d ps x k ttl).points ∧ 0 ≤ (rtV b d ps x k ttl).succs ∧ (rtP b d ps x k ttl).getD 0 0 = x ∧ ttl ≤ 1000 := by
  have h0 := h
  unfold rtOk at h0
  rw [Bool.and_eq_true] at h0
  obtain ⟨hg, hx, k1, k2⟩ := askP_parts h0.1
  obtain ⟨t1, t2⟩ := inB_true h0.2
  have ho := stt_on (ttl := ttl) hg hx k1 k2 t1
  have hp := pot_bnd hg hx k1 k2
  obtain ⟨g1, g2, g3, g4, g5, g6⟩ := rt_end (ttl := ttl) hg k1 k2 300 (stt b d ps x k) ho.wv.ok rfl rfl ho.le ho.pt
  have e1 : (stt b d ps x k).points = 0 := rfl
  have e2 : (stt b d ps x k).succs = 0 := rfl
  rw [e1, e2] at g1 g2 g4
  rw [e1] at g5
  rw [e2] at g6
  have eV : rtV b d ps x k ttl = rtW b d ps k ttl 300 (stt b d ps x k) := by unfold rtV; rw [if_pos h]
  have eP : rtP b d ps x k ttl = x :: rtL b d ps k ttl 300 (stt b d ps x k) := by unfold rtP; rw [if_pos h]
  rw [eV, eP]
  refine ⟨?_, by omega, g3, by simp; omega, g5, g6, rfl, t2⟩
  rcases g1 with g | ⟨q1, _, q3⟩
  · exact .inl g
  · exact .inr ⟨q1, by omega⟩
theorem stp_ttl {b d : Int} {ps : List Pr} {k t t' : Int} {v : Wk} (ht : t ≤ t') : stp b d ps k t' v = stp b d ps k t v ∨ (stp b d ps k t v).state = 2 := by
  unfold stp
  split
  · exact .inl rfl
  · split
    · exact .inl rfl
    · by_cases h : t ≤ v.points + v.succs
      · rw [if_pos h]; exact .inr rfl
      · rw [if_neg h, if_neg (by omega)]; exact .inl rfl
/-- who is found with few forwards is found so with more -/
theorem rt_ttl {b d : Int} {ps : List Pr} {k t t' : Int} (ht : t ≤ t') : ∀ (F : Nat) (v : Wk), (rtW b d ps k t F v).state = 1 → rtW b d ps k t' F v = rtW b d ps k t F v
  | 0, v, _ => rfl
  | F + 1, v, h => by
    unfold rtW at h ⊢
    by_cases hs : v.state = 0
    · rw [if_pos hs] at h ⊢
      rw [if_pos hs]
      rcases stp_ttl (b := b) (d := d) (ps := ps) (k := k) (v := v) ht with e | e
      · rw [e]; exact rt_ttl ht F _ h
      · rw [rtW_off (by rw [e]; omega)] at h
        rw [e] at h
        omega
    · rw [if_neg hs, if_neg hs]
theorem way_more {b d : Int} {ps : List Pr} {x k ttl : Int} (h : rtOk b d ps x k ttl = true) (hb : bndI b d ps.length ≤ ttl) : rtW b d ps k 1000 300 (stt b d ps x k) = rtV b d ps x k ttl := by
  obtain ⟨h1, _, _, _, _, _, _, h8⟩ := way_end h
  have eV : rtV b d ps x k ttl = rtW b d ps k ttl 300 (stt b d ps x k) := by unfold rtV; rw [if_pos h]
  rcases h1 with ⟨s, _⟩ | ⟨_, s⟩
  · rw [eV] at s ⊢
    exact rt_ttl h8 300 _ s
  · omega
theorem own_in {b d : Int} {zs : List Int} (R : Ring b d zs) (k : Int) : hasB zs (ownI zs k) = true := decide_eq_true ⟨blw zs k % zs.length, Nat.mod_lt _ (by have := R.l1; omega), rfl⟩
/-- what a step leaves of a good walk -/
theorem step_end {b d : Int} {ps : List Pr} {k ttl : Int} {v : Wk} (h : swOk b d ps k ttl v = true) :
    goodW b d ps k (swV b d ps k ttl v) = true ∧ v.left - (swV b d ps k ttl v).left = (swV b d ps k ttl v).points - v.points ∧ v.state = 0 ∧
    (((swV b d ps k ttl v).points + (swV b d ps k ttl v).succs = v.points + v.succs ∧ ¬ (swV b d ps k ttl v).state = 0) ∨ ((swV b d ps k ttl v).points + (swV b d ps k ttl v).succs = v.points + v.succs + 1 ∧ (swV b d ps k ttl v).state = 0)) ∧
    WV b d ps k v ∧ WV b d ps k (swV b d ps k ttl v) := by
  have h0 := h
  unfold swOk at h0
  simp only [Bool.and_eq_true, decide_eq_true_eq] at h0
  obtain ⟨⟨⟨⟨hgw, hs⟩, hp⟩, hq⟩, ht⟩ := h0
  obtain ⟨hg, k1, k2, wv⟩ := goodW_parts hgw
  obtain ⟨t1, t2⟩ := inB_true ht
  have R := (goodP_true hg).1
  have hgw' := hgw
  unfold goodW askP wkB at hgw'
  simp only [Bool.and_eq_true] at hgw'
  have hnk : numB b d k = true := hgw'.1.2
  have ho : v.owner = 0 := by
    have := hgw'.2.2
    rw [if_neg (by omega)] at this
    exact of_decide_eq_true this
  have eV : swV b d ps k ttl v = stp b d ps k ttl v := by unfold swV; rw [if_pos h]
  rw [eV]
  have gs := R.gs
  have good : ∀ u : Wk, WV b d ps k u → 0 ≤ u.state → u.state ≤ 2 → (if u.state = 1 then hasB (idsP ps) u.owner else decide (u.owner = 0)) = true → goodW b d ps k u = true := by
    intro u hu s1 s2 h3
    unfold goodW askP wkB
    have n1 : numB b d u.imag = true := by unfold numB; rw [gs]; exact inB_yes hu.i1 (by have := hu.i2; omega)
    rw [hg, hu.mem, hnk, n1, h3, inB_yes hu.l1 hu.l2, inB_yes hu.p1 hu.p2, inB_yes hu.s1 hu.s2, inB_yes s1 s2]
    rfl
  rcases stp_kind (ttl := ttl) hg k1 k2 wv.ok with e | ⟨e, _, _⟩ | ⟨hw', hs', ho', ht', hp', hl⟩
  · rw [e]
    have wv' : WV b d ps k ⟨v.at_, v.imag, v.left, v.points, v.succs, 1, ownI (idsP ps) k⟩ := ⟨wv.mem, wv.i1, wv.i2, wv.l1, wv.l2, wv.p1, wv.p2, wv.s1, wv.s2⟩
    refine ⟨good _ wv' (by simp) (by simp) ?_, by simp, hs, .inl ⟨rfl, by simp⟩, wv, wv'⟩
    rw [if_pos rfl]
    exact own_in R k
  · rw [e]
    have wv' : WV b d ps k ⟨v.at_, v.imag, v.left, v.points, v.succs, 2, v.owner⟩ := ⟨wv.mem, wv.i1, wv.i2, wv.l1, wv.l2, wv.p1, wv.p2, wv.s1, wv.s2⟩
    refine ⟨good _ wv' (by simp) (by simp) ?_, by simp, hs, .inl ⟨rfl, by simp⟩, wv, wv'⟩
    rw [if_neg (by simp)]
    exact decide_eq_true ho
  · have wv' : WV b d ps k (stp b d ps k ttl v) := by
      refine ⟨hw'.mem, hw'.i1, hw'.i2, hw'.l0, ?_, ?_, ?_, ?_, ?_⟩
      · have := wv.l2; rcases hl with ⟨_, _, h3⟩ | ⟨_, _, h3⟩ <;> omega
      · have := wv.p1; rcases hl with ⟨h1, h2, _⟩ | ⟨h1, h2, _⟩ <;> omega
      · rcases hl with ⟨h1, h2, _⟩ | ⟨h1, h2, _⟩ <;> omega
      · have := wv.s1; rcases hl with ⟨h1, h2, _⟩ | ⟨h1, h2, _⟩ <;> omega
      · rcases hl with ⟨h1, h2, _⟩ | ⟨h1, h2, _⟩ <;> omega
    refine ⟨good _ wv' (by omega) (by omega) ?_, ?_, hs, .inr ⟨?_, by omega⟩, wv, wv'⟩
    · rw [if_neg (by omega)]; exact decide_eq_true (by omega)
    · rcases hl with ⟨h1, h2, h3⟩ | ⟨h1, h2, h3⟩ <;> omega
    · rcases hl with ⟨h1, h2, h3⟩ | ⟨h1, h2, h3⟩ <;> omega
end Go.Proofs.Ytejajlloipkkhaa
