/- Slices of Row that are owned are marked, and looked at again. -/
import Derived.Test.YtpgngfdhnoonjaaTr1
namespace Go.Proofs.Ytpgngfdhnoonjaa.Tb
open Go.RowKit Wire
set_option linter.unusedVariables false
set_option linter.unusedSimpArgs false
theorem own_elemTr {t : TypeId} {B T : Nat} {w : World} {g cap : Nat} {m : List Rw} {F : List Nat} (h : (tySlice t tyRw).own B T w [.slice (some ⟨g, 0, none⟩) m.length cap] m F) (hn : F.Nodup) {i : Nat} (hi : i < m.length) :
    CellsAt w g (i * 4) (rwV (m.getD i rw0)) ∧ B ≤ g ∧ g < T ∧ (∃ cur, w.heap[g]? = some (.cells cur t (0, 0))) ∧
      ∀ (w1 : World) (m1 : Rw), (∃ cur1, w1.heap[g]? = some (.cells cur1 t (0, 0))) → (∀ k, ¬ k = g → w1.heap[k]? = w.heap[k]?) →
        CellsAt w1 g (i * 4) (rwV m1) → (∀ j v, (j < i * 4 ∨ (i + 1) * 4 ≤ j) → w.cell? ⟨g, j, none⟩ = some v → w1.cell? ⟨g, j, none⟩ = some v) →
        (tySlice t tyRw).own B T w1 [.slice (some ⟨g, 0, none⟩) m.length cap] (List.set m i m1) F := by
  obtain ⟨ci, Fi, q1, ⟨rfl, rfl⟩, q3, q4, q5, q6, q7, q8⟩ := own_focus h hn hi
  have bd := (tySlice t tyRw).own_bd h g q5
  exact ⟨q1, bd.1, bd.2.1, q7, fun w1 m1 ⟨cur1, r1⟩ r2 r3 r4 => q8 w1 _ m1 cur1 r1 (fun k _ hk1 hk2 => r2 k hk1) r3 r4 ⟨rfl, rfl⟩⟩
set_option maxRecDepth 100000 in
set_option maxHeartbeats 6400000 in
theorem markRowS_any (B T g cap0 cap : Nat) (ms : List Rw) (F : List Nat) (k0 : Int) (w : World) (hz : ms.length ≤ 1048576) (k1 : 0 ≤ k0) (k2 : k0 ≤ 1000000000000) (h : (tySlice 37 tyRw).own B T w [.slice (some ⟨g, 0, none⟩) ms.length cap0] ms F) (hn : F.Nodup) :
    Calls Try.prog 41 #[.slice (some ⟨g, 0, none⟩) ms.length cap, .int .i64 k0] w fun e w' => e = .returned (.int .i64 (k0 + 4 * (ms.length : Int))) ∧ Within B T w w' ∧ (tySlice 37 tyRw).own B T w' [.slice (some ⟨g, 0, none⟩) (mrkTr k0 ms).length cap0] (mrkTr k0 ms) F := by
  have HO : Hid ((tySlice 37 tyRw).own B T w [.slice (some ⟨g, 0, none⟩) ms.length cap0] ms F) := h
  have HN : Hid (F.Nodup) := hn
  clear h hn
  go_enter Try.func41, Try.ntmps41
  go_wp2_with fail
  go_loopw [1, 5] (fun vk vi wr => ∃ (i : Nat) (M : List Rw), i ≤ ms.length ∧ vi = .int .i64 i ∧ vk = .int .i64 (k0 + 4 * (i : Int)) ∧ M.length = ms.length ∧ Hid (∀ j, j < i → M.getD j rw0 = (mrkTr k0 ms).getD j rw0) ∧ (tySlice 37 tyRw).own B T wr [.slice (some ⟨g, 0, none⟩) M.length cap0] M F ∧ Within B T w wr) (fun _ vi _ => ms.length - (intOf vi).toNat)
  case atStart => exact ⟨0, ms, Nat.zero_le _, rfl, by simp, rfl, fun j hj => by omega, HO.out, Within.refl _ _ _⟩
  case round =>
    obtain ⟨i, M, hi, rfl, rfl, hM, hs1, ow, wi⟩ := hrel
    have HML : Hid (M.length = ms.length) := hM
    have HOW : Hid ((tySlice 37 tyRw).own B T wr [.slice (some ⟨g, 0, none⟩) M.length cap0] M F) := ow
    have HW : Hid (Within B T w wr) := wi
    clear hM ow wi
    by_cases hlt : i < ms.length
    · have hiM : i < M.length := by rw [HML.out]; exact hlt
      have HMK : Hid ((mrkTr k0 ms).getD i rw0 = rwK (k0 + 4 * (i : Int))) := mrkTr_get hlt
      have HS : Hid (k0 + 4 * ((i + 1 : Nat) : Int) = k0 + 4 * (i : Int) + 4) := by unfold Hid; omega
      obtain ⟨K, hK⟩ : ∃ K, K = k0 + 4 * (i : Int) := ⟨_, rfl⟩
      have u1 : 0 ≤ K := by omega
      have u2 : K ≤ 1000100000000 := by omega
      rw [← hK] at HMK HS ⊢
      clear hK
      obtain ⟨fc, fB, fT, ⟨cur, hcur⟩, fput⟩ := own_elemTr HOW.out HN.out hiM
      generalize M.getD i rw0 = p at fc
      obtain ⟨c0, c1, c2, c3⟩ := CellsAt.rw fc
      have f0 : wr.frozen? ⟨g, i * 4, none⟩ = false := frozen_of_row wr _ _ _ _ hcur
      have f1 : wr.frozen? ⟨g, i * 4 + 1, none⟩ = false := frozen_of_row wr _ _ _ _ hcur
      have f2 : wr.frozen? ⟨g, i * 4 + 2, none⟩ = false := frozen_of_row wr _ _ _ _ hcur
      have f3 : wr.frozen? ⟨g, i * 4 + 3, none⟩ = false := frozen_of_row wr _ _ _ _ hcur
      have HO2 : Hid ((tySlice 37 tyRw).own B T (setTr wr g (i * 4) (.int .i64 K) (.int .i64 (K + 1)) (.int .i64 (K + 2)) (.bool (decide ((K + 3) % 3 = 0)))) [.slice (some ⟨g, 0, none⟩) (M.set i (rwK K)).length cap0] (M.set i (rwK K)) F) := by
        have hsl : (M.set i (rwK K)).length = M.length := List.length_set
        rw [Hid, hsl]
        refine fput (setTr wr g (i * 4) (.int .i64 K) (.int .i64 (K + 1)) (.int .i64 (K + 2)) (.bool (decide ((K + 3) % 3 = 0)))) (rwK K) (setO_row [.int .i64 K, .int .i64 (K + 1), .int .i64 (K + 2), .bool (decide ((K + 3) % 3 = 0))] (i * 4) ⟨cur, hcur⟩) (fun q hq => setO_oth hq [.int .i64 K, .int .i64 (K + 1), .int .i64 (K + 2), .bool (decide ((K + 3) % 3 = 0))] wr (i * 4)) ?_ (fun j v hj hv => setO_out [.int .i64 K, .int .i64 (K + 1), .int .i64 (K + 2), .bool (decide ((K + 3) % 3 = 0))] (i * 4) (by simp only [List.length_cons, List.length_nil]; omega) hv)
        exact setO_more (old := rwV p) (rest := []) (vs := [.int .i64 K, .int .i64 (K + 1), .int .i64 (K + 2), .bool (decide ((K + 3) % 3 = 0))]) (by rw [List.append_nil]; exact fc) rfl
      have HW1 : Hid (Within B T w (setTr wr g (i * 4) (.int .i64 K) (.int .i64 (K + 1)) (.int .i64 (K + 2)) (.bool (decide ((K + 3) % 3 = 0))))) := within_setO fB fT [.int .i64 K, .int .i64 (K + 1), .int .i64 (K + 2), .bool (decide ((K + 3) % 3 = 0))] (i * 4) HW.out
      have HS1 : Hid (∀ j, j < i + 1 → (M.set i (rwK K)).getD j rw0 = (mrkTr k0 ms).getD j rw0) := fun j hj => by
        rw [getD_set' (by omega)]
        by_cases hij : i = j
        · subst hij; rw [if_pos rfl, HMK.out]
        · rw [if_neg hij]; exact hs1.out j (by omega)
      have HMN : Hid ((M.set i (rwK K)).length = ms.length) := List.length_set.trans HML.out
      clear fput fc hcur hs1
      generalize p.x0 = y0 at c0
      generalize p.x1 = y1 at c1
      generalize p.x2 = y2 at c2
      generalize p.b = y3 at c3
      have e3 : K + 3 + 1 = K + 4 := by omega
      have e2 : K + 2 + 1 = K + 3 := by omega
      have e1 : K + 1 + 1 = K + 2 := by omega
      by_cases h3 : (K + 3) % 3 = 0
      · rw [decide_eq_true h3] at HO2 HW1
        go_wp2
        go_roundw
        case rel => exact ⟨i + 1, _, by omega, by go_num, by rw [HS.out], HMN.out, HS1, HO2.out, HW1.out⟩
        case measure => simp [intOf]; omega
      · rw [decide_eq_false h3] at HO2 HW1
        have h3b : (K % 3 == 0) = false := by simp; omega
        clear h3
        go_wp2
        go_roundw
        case rel => exact ⟨i + 1, _, by omega, by go_num, by rw [HS.out], HMN.out, HS1, HO2.out, HW1.out⟩
        case measure => simp [intOf]; omega
    · have hie : i = ms.length := by omega
      subst hie
      have HME : Hid (M = mrkTr k0 ms) := getD_seq (by rw [mrkTr_len]; exact HML.out) (fun j hj => hs1.out j (by rw [mrkTr_len] at hj; exact hj))
      go_wp2
      go_ret
      refine ⟨rfl, HW.out, ?_⟩
      have := HOW.out
      rw [HME.out] at this
      exact this
theorem markRowS_empty (a : Option Addr) (cap : Nat) (k0 : Int) (w : World) :
    Calls Try.prog 41 #[.slice a 0 cap, .int .i64 k0] w fun e w' => e = .returned (.int .i64 k0) ∧ w' = w := by
  go_enter Try.func41, Try.ntmps41
  go_wp2
  go_loop [1, 5] (fun k i => i = .int .i64 0 ∧ k = .int .i64 k0) (fun _ i => 0)
  case atStart => exact ⟨rfl, rfl⟩
  case round =>
    obtain ⟨rfl, rfl⟩ := hrel
    go_wp2
    go_ret
    exact ⟨rfl, rfl⟩
theorem markRowS_own (B T cap : Nat) (a : Option Addr) (n : Nat) (ms : List Rw) (k0 : Int) (w : World) (k1 : 0 ≤ k0) (k2 : k0 ≤ 1000000000000) (h : OwnEs tyRw 37 B T w a n ms) :
    Calls Try.prog 41 #[.slice a n cap, .int .i64 k0] w fun e w' => e = .returned (.int .i64 (k0 + 4 * (n : Int))) ∧ Mk B T w w' ∧ OwnEs tyRw 37 B T w' a n (mrkTr k0 ms) := by
  obtain ⟨rfl, hn, ho⟩ := h
  rcases ho with he | ⟨g, F, cap0, rfl, hF, os⟩
  · have he' : ms = [] := he
    subst he'
    refine (markRowS_empty a cap k0 w).mono ?_
    rintro e w1 ⟨rfl, rfl⟩
    exact ⟨by show _ = Ending.returned (.int .i64 (k0 + 4 * ((0 : Nat) : Int))); simp, Mk.refl _ _ _, rfl, hn, .inl rfl⟩
  · refine (markRowS_any B T g cap0 cap ms F k0 w hn k1 k2 os hF).mono ?_
    rintro e w1 ⟨rfl, wi, os1⟩
    exact ⟨rfl, within_mk wi, mrkTr_len _ _, hn, .inr ⟨g, F, cap0, rfl, hF, os1⟩⟩
theorem heldRowS_own (B T cap : Nat) (a : Option Addr) (n : Nat) (ms : List Rw) (k0 : Int) (w : World) (hm : n ≤ 1048576) (hz : ms.length = n) (k1 : 0 ≤ k0) (k2 : k0 ≤ 1000000000000) (ho : OwnEs tyRw 37 B T w a n (mrkTr k0 ms)) :
    Calls Try.prog 42 #[.slice a n cap, .int .i64 k0] w fun e w' => e = .returned (.int .i64 (k0 + 4 * (n : Int))) ∧ Below w.heap.size w w' := by
  subst hz
  refine (heldRowS_any a cap ms k0 w hm k1 k2 ho.at).mono ?_
  rintro e w1 ⟨rfl, rfl⟩
  exact ⟨rfl, Below.refl _ _⟩
end Go.Proofs.Ytpgngfdhnoonjaa.Tb
