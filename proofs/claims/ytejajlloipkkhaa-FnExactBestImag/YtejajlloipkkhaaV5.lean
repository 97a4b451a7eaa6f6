/- Marks on a list of peers, and on peers. -/
import Derived.Test.YtejajlloipkkhaaV4
namespace Go.Proofs.Ytejajlloipkkhaa
open Go.RowKit
set_option linter.unusedVariables false

theorem Within.trans {B T : Nat} {w w1 w2 : World} (h : Within B T w w1) (k : Within B T w1 w2) : Within B T w w2 :=
  ⟨k.os.trans h.os, k.tape.trans h.tape, k.output.trans h.output, k.size.trans h.size, fun i hi => (k.block i hi).trans (h.block i hi)⟩
theorem markIntS_empty (a : Option Addr) (cap : Nat) (k0 : Int) (w : World) :
    Calls Try.prog 46 #[.slice a 0 cap, .int .i64 k0] w fun e w' => e = .returned (.int .i64 k0) ∧ w' = w := by
  go_enter Try.func46, Try.ntmps46
  go_wp2
  go_loop [1, 5] (fun k i => i = .int .i64 0 ∧ k = .int .i64 k0) (fun _ i => 0)
  case atStart => exact ⟨rfl, rfl⟩
  case round =>
    obtain ⟨rfl, rfl⟩ := hrel
    go_wp2
    go_ret
    exact ⟨rfl, rfl⟩
theorem mrk_range (k0 : Int) (zs : List Int) : mrk k0 zs zs.length = (List.range zs.length).map (fun j : Nat => k0 + (j : Int)) := by simp [mrk]
/-- the backs of one peer are marked -/
theorem markVal_any (B T g : Nat) (L : List (Pr × Value)) (i : Nat) (k0 : Int) (w : World) (h : OwnP B T w g L) (hi : i < L.length) (k1 : 0 ≤ k0) (k2 : k0 ≤ 1099511627776) :
    Calls Try.prog 46 #[(L.getD i d0).2, .int .i64 k0] w fun e w' => e = .returned (.int .i64 (k0 + ((L.getD i d0).1.backs.length : Int))) ∧
      OwnP B T w' g (L.set i (⟨(L.getD i d0).1.id, (L.getD i d0).1.succ, (L.getD i d0).1.point, (List.range (L.getD i d0).1.backs.length).map (fun j : Nat => k0 + (j : Int))⟩, (L.getD i d0).2)) ∧ Within B T w w' := by
  obtain ⟨ab, cb, hv, hcb, hm, ho⟩ := h.val i hi
  by_cases hn : (L.getD i d0).1.backs = []
  · have e0 : (L.getD i d0).1.backs.length = 0 := by rw [hn]; rfl
    have es : L.set i (⟨(L.getD i d0).1.id, (L.getD i d0).1.succ, (L.getD i d0).1.point, (List.range (L.getD i d0).1.backs.length).map (fun j : Nat => k0 + (j : Int))⟩, (L.getD i d0).2) = L := by
      rw [e0]
      have : (⟨(L.getD i d0).1.id, (L.getD i d0).1.succ, (L.getD i d0).1.point, (List.range 0).map (fun j : Nat => k0 + (j : Int))⟩ : Pr) = (L.getD i d0).1 := by
        have hb := hn
        generalize (L.getD i d0).1 = p at *
        obtain ⟨x, y, z, l⟩ := p
        simp at hb
        subst hb
        rfl
      rw [this]
      have e2 : ((L.getD i d0).1, (L.getD i d0).2) = L.getD i d0 := rfl
      rw [e2, List.getD_eq_getElem?_getD, List.getElem?_eq_getElem hi]
      simp
    rw [es, hv, e0]
    refine (markIntS_empty ab cb k0 w).mono ?_
    rintro e w1 ⟨he, hw⟩
    subst hw
    exact ⟨by rw [he]; simp, h, Within.refl _ _ _⟩
  · rcases ho with ho | ⟨gb, ha, ht, os⟩
    · exact absurd ho hn
    · have C := markOwn_any B gb cb (L.getD i d0).1.backs k0 w hm k1 k2 os
      have hob : (L.getD i d0).2.ownBlock = some gb := by rw [hv, ha]; rfl
      rw [hv, ha]
      refine C.mono ?_
      rintro e w1 ⟨he, os1, on1⟩
      rw [mrk_range] at os1
      have := h.tail hi (l := (List.range (L.getD i d0).1.backs.length).map (fun j : Nat => k0 + (j : Int))) (by simp) hn hob os1 on1
      rw [hv, ha] at this
      exact ⟨he, this, (Within.refl _ _ _).only on1 os.lo ht⟩

set_option maxRecDepth 100000 in
set_option maxHeartbeats 6400000 in
theorem markPeerS_any (B T g cap : Nat) (L : List (Pr × Value)) (k0 : Int) (w : World) (hb : L.length + bsum (L.map (·.1)) ≤ 1048576) (k1 : 0 ≤ k0) (k2 : k0 ≤ 1000000000000) (h : OwnP B T w g L) :
    Calls Try.prog 88 #[.slice (some ⟨g, 0, none⟩) L.length cap, .int .i64 k0] w fun e w' => e = .returned (.int .i64 (kAt k0 (L.map (·.1)) L.length)) ∧ Within B T w w' ∧ ∃ L', L'.map (·.1) = mrkP k0 (L.map (·.1)) ∧ OwnP B T w' g L' := by
  have hz : L.length ≤ 1048576 := by omega
  have HO : Hid (OwnP B T w g L) := h
  clear h
  obtain ⟨ps, hps⟩ : ∃ ps, ps = L.map (·.1) := ⟨_, rfl⟩
  have hpl : ps.length = L.length := by rw [hps]; simp
  have HPL : Hid (ps.length = L.length) := hpl
  have HPG : Hid (∀ i, i < L.length → ps.getD i pr0 = (L.getD i d0).1) := fun i hi => by rw [hps]; simp [List.getD_eq_getElem?_getD, List.getElem?_eq_getElem hi]
  rw [← hps] at hb ⊢
  have hb' : ps.length + bsum ps ≤ 1048576 := by rw [hpl]; exact hb
  have HBB : Hid (ps.length + bsum ps ≤ 1048576) := hb'
  clear hps hpl hb'
  go_enter Try.func88, Try.ntmps88
  go_wp2_with fail
  go_loopw [1, 5] (fun vk vi wr => ∃ (i : Nat) (M : List (Pr × Value)), i ≤ L.length ∧ vi = .int .i64 i ∧ vk = .int .i64 (kAt k0 ps i) ∧ M.length = L.length ∧ Hid (∀ j, j < i → (M.getD j d0).1 = (mrkP k0 ps).getD j pr0) ∧ Hid (∀ j, i ≤ j → j < L.length → (M.getD j d0).1 = ps.getD j pr0) ∧ OwnP B T wr g M ∧ Within B T w wr) (fun _ vi _ => L.length - (intOf vi).toNat)
  case atStart => exact ⟨0, L, Nat.zero_le _, rfl, by simp [kAt, bsum], rfl, fun j hj => by omega, fun j _ hj => (HPG.out j hj).symm, HO.out, Within.refl _ _ _⟩
  case round =>
    obtain ⟨i, M, hi, rfl, rfl, hM, hs1, hs2, ow, wi⟩ := hrel
    have HML : Hid (M.length = L.length) := hM
    have HOW : Hid (OwnP B T wr g M) := ow
    have HW : Hid (Within B T w wr) := wi
    clear hM ow wi
    by_cases hlt : i < L.length
    · have hiM : i < M.length := by rw [HML.out]; exact hlt
      have hip : i < ps.length := by rw [HPL.out]; exact hlt
      have hbk : Hid ((M.getD i d0).1.backs.length = (ps.getD i pr0).backs.length) := by
        show (M.getD i d0).1.backs.length = _
        rw [hs2.out i (Nat.le_refl _) hlt]
      have hbd := kAt_bd (k := k0) (Nat.le_of_lt hip) HBB.out
      have HS : Hid (kAt k0 ps (i + 1) = kAt k0 ps i + 3 + ((ps.getD i pr0).backs.length : Int)) := kAt_succ hip
      have hmk := mrkP_get ps k0 i hip
      have HMK : Hid ((mrkP k0 ps).getD i pr0 = ⟨kAt k0 ps i, kAt k0 ps i + 1, kAt k0 ps i + 2, (List.range (ps.getD i pr0).backs.length).map (fun j : Nat => kAt k0 ps i + 3 + (j : Int))⟩) := hmk
      clear hmk
      obtain ⟨u1, u2⟩ := hbd
      have hnb := bsum_mem hip
      have hnb2 : (ps.getD i pr0).backs.length ≤ 1048576 := by have := HBB.out; omega
      have HNB : Hid ((ps.getD i pr0).backs.length ≤ 1048576) := hnb2
      clear hnb hnb2
      obtain ⟨K, hK⟩ : ∃ K, K = kAt k0 ps i := ⟨_, rfl⟩
      rw [← hK] at u1 u2 HS HMK ⊢
      clear hK
      obtain ⟨cur, hcur⟩ := HOW.out.blk
      obtain ⟨c0, c1, c2, c3⟩ := HOW.out.cel i hiM
      have f0 : wr.frozen? ⟨g, i * 4, none⟩ = false := frozen_of_row wr _ _ _ _ hcur
      have f1 : wr.frozen? ⟨g, i * 4 + 1, none⟩ = false := frozen_of_row wr _ _ _ _ hcur
      have f2 : wr.frozen? ⟨g, i * 4 + 2, none⟩ = false := frozen_of_row wr _ _ _ _ hcur
      clear hcur
      have ow1 := HOW.out.head hiM K (K + 1) (K + 2)
      have wi1 := ((HW.out.put HOW.out.lo HOW.out.hi (i * 4) (.int .i64 K)).put HOW.out.lo HOW.out.hi (i * 4 + 1) (.int .i64 (K + 1))).put HOW.out.lo HOW.out.hi (i * 4 + 2) (.int .i64 (K + 2))
      have hg1 : (M.set i (⟨K, K + 1, K + 2, (M.getD i d0).1.backs⟩, (M.getD i d0).2)).getD i d0 = (⟨K, K + 1, K + 2, (M.getD i d0).1.backs⟩, (M.getD i d0).2) := by rw [getD_set hiM, if_pos rfl]
      have C := markVal_any B T g _ i (K + 3) _ ow1 (by rw [List.length_set]; exact hiM) (by omega) (by omega)
      rw [hg1] at C
      simp only [List.set_set] at C
      rw [hbk.out] at C
      obtain ⟨ab, cb, hv, hv1, hv2, hv3⟩ := HOW.out.val i hiM
      clear hv1 hv2 hv3
      rw [hbk.out] at hv
      have e2 : K + 1 + 1 = K + 2 := by omega
      have e3 : K + 2 + 1 = K + 3 := by omega
      have WI1 : Hid (Within B T w (((wr.setCell ⟨g, i * 4, none⟩ (.int .i64 K)).setCell ⟨g, i * 4 + 1, none⟩ (.int .i64 (K + 1))).setCell ⟨g, i * 4 + 2, none⟩ (.int .i64 (K + 2)))) := wi1
      clear wi1 ow1 hg1
      rw [hv] at C c3
      have HV : Hid ((M.getD i d0).2 = .slice ab (ps.getD i pr0).backs.length cb) := hv
      clear hv
      generalize (M.getD i d0).1.id = g0 at c0
      generalize (M.getD i d0).1.succ = g1 at c1
      generalize (M.getD i d0).1.point = g2 at c2
      obtain ⟨nb, hnb⟩ : ∃ nb, nb = (ps.getD i pr0).backs.length := ⟨_, rfl⟩
      have HNE : Hid (nb = (ps.getD i pr0).backs.length) := hnb
      rw [← hnb] at C c3 HS HMK HNB
      clear hnb
      have hnb3 : nb ≤ 1048576 := HNB.out
      go_wp2_with fail
      refine C.mono ?_
      rintro e w1 ⟨rfl, ow2, wi2⟩
      have OW2 : Hid (OwnP B T w1 g (M.set i (⟨K, K + 1, K + 2, (List.range nb).map (fun j : Nat => K + 3 + (j : Int))⟩, .slice ab nb cb))) := ow2
      have WI2 : Hid (Within B T w w1) := WI1.out.trans wi2
      clear ow2 wi2 C
      have HS1 : Hid (∀ j, j < i + 1 → ((M.set i (⟨K, K + 1, K + 2, (List.range nb).map (fun j : Nat => K + 3 + (j : Int))⟩, .slice ab nb cb)).getD j d0).1 = (mrkP k0 ps).getD j pr0) := fun j hj => by
        rw [getD_set (by omega)]
        by_cases hij : i = j
        · subst hij; rw [if_pos rfl, HMK.out]
        · rw [if_neg hij]; exact hs1.out j (by omega)
      have HS2 : Hid (∀ j, i + 1 ≤ j → j < L.length → ((M.set i (⟨K, K + 1, K + 2, (List.range nb).map (fun j : Nat => K + 3 + (j : Int))⟩, .slice ab nb cb)).getD j d0).1 = ps.getD j pr0) := fun j hj hjl => by
        rw [getD_set (by rw [HML.out]; exact hjl), if_neg (by omega)]
        exact hs2.out j (by omega) hjl
      go_wp2
      go_roundw
      case rel => exact ⟨i + 1, _, by omega, by go_num, by rw [HS.out], by rw [List.length_set]; exact HML.out, HS1, HS2, OW2.out, WI2.out⟩
      case measure => simp [intOf]; omega
    · have hie : i = L.length := by omega
      subst hie
      have hfin : Hid (M.map (·.1) = mrkP k0 ps) := map_fst (by rw [mrkP_len, HPL.out, HML.out]) (fun j hj => by rw [mrkP_len, HPL.out] at hj; exact hs1.out j hj)
      go_wp2
      go_ret
      exact ⟨rfl, HW.out, M, hfin.out, HOW.out⟩

theorem markPeers_any (b d : Int) (B T g cap : Nat) (L : List (Pr × Value)) (k0 : Int) (w : World) (hb : L.length + bsum (L.map (·.1)) ≤ 1048576) (k1 : 0 ≤ k0) (k2 : k0 ≤ 1000000000000) (hT : T ≤ w.heap.size) (h : OwnP B T w g L) :
    Calls Try.prog 45 #[.agg #[.int .i64 b, .int .i64 d, .slice (some ⟨g, 0, none⟩) L.length cap], .int .i64 k0] w fun e w' => e = .returned (.int .i64 (kAt k0 (L.map (·.1)) L.length)) ∧ (∀ n w0, n ≤ B → Below n w0 w → Below n w0 w') ∧ (∀ k, k < w.heap.size → ¬ (B ≤ k ∧ k < T) → w'.heap[k]? = w.heap[k]?) ∧ w.heap.size ≤ w'.heap.size ∧ ∃ L', L'.map (·.1) = mrkP k0 (L.map (·.1)) ∧ OwnP B T w' g L' := by
  have hlo := h.lo
  have hhi := h.hi
  have h1 := h.keep ((Below.refl _ _).alloc (Nat.le_refl _) (.cells #[.int .i64 b, .int .i64 d, .slice (some ⟨g, 0, none⟩) L.length cap] 28))
  have C := markPeerS_any B T g cap L k0 _ hb k1 k2 h1
  have hbd := kAt_bd (k := k0) (ps := L.map (·.1)) (i := L.length) (by simp) (by simpa using hb)
  clear h h1
  go_enter Try.func45, Try.ntmps45
  go_wp2_with fail
  refine C.mono ?_
  rintro e w1 ⟨rfl, wi, ow⟩
  go_wp2
  go_ret
  have hs := wi.size
  simp at hs
  exact ⟨rfl, fun n w0 hn hb0 => wi.below (hb0.alloc (Nat.le_trans hn (by omega)) _) hn, fun k hk hne => (wi.block k hne).trans (heap_alloc_old _ _ hk), by omega, ow⟩
end Go.Proofs.Ytejajlloipkkhaa
