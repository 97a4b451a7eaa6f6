/- Which of two rows stays; tables joined in a map. -/
import Derived.Test.YtpgngfdhnoonjaaMp0
namespace Go.Proofs.Ytpgngfdhnoonjaa.Tb
open Go.RowKit Wire Go.Deep
set_option linter.unusedVariables false
set_option linter.unusedSimpArgs false
theorem belB (w : World) (p q : Obj) : Below w.heap.size w ((w.alloc p).alloc q) := ((Below.refl _ _).alloc (Nat.le_refl _) _).alloc (by simp) _
set_option maxHeartbeats 3200000 in
theorem isLater_any (x0 x1 x2 y0 y1 y2 : Int) (g c : Bool) (w : World) :
    Calls Try.prog 68 #[.agg #[.int .i64 x0, .int .i64 x1, .int .i64 x2, .bool g], .agg #[.int .i64 y0, .int .i64 y1, .int .i64 y2, .bool c]] w fun e w' => e = .returned (.bool (newB ⟨x0, x1, x2, g⟩ ⟨y0, y1, y2, c⟩)) ∧ Below w.heap.size w w' := by
  have HB : Hid (Below w.heap.size w ((w.alloc (.cells #[.int .i64 x0, .int .i64 x1, .int .i64 x2, .bool g] 37)).alloc (.cells #[.int .i64 y0, .int .i64 y1, .int .i64 y2, .bool c] 37))) := belB _ _ _
  have HV : Hid (newB ⟨x0, x1, x2, g⟩ ⟨y0, y1, y2, c⟩ = if x1 = y1 then (if g = c then decide (y2 < x2) else g) else decide (y1 < x1)) := rfl
  generalize newB ⟨x0, x1, x2, g⟩ ⟨y0, y1, y2, c⟩ = A at *
  by_cases h1 : x1 = y1
  · have HV1 : Hid (A = if g = c then decide (y2 < x2) else g) := by unfold Hid; rw [HV.out, if_pos h1]
    subst h1
    clear HV
    cases g <;> cases c
    · have HV2 : Hid (A = decide (y2 < x2)) := HV1.out
      clear HV1
      go_enter Try.func68, Try.ntmps68
      go_wp2
      go_ret
      exact ⟨ret_bool HV2.out.symm, HB.out⟩
    · have HV2 : Hid (A = false) := HV1.out
      clear HV1
      go_enter Try.func68, Try.ntmps68
      go_wp2
      go_ret
      exact ⟨ret_bool HV2.out.symm, HB.out⟩
    · have HV2 : Hid (A = true) := HV1.out
      clear HV1
      go_enter Try.func68, Try.ntmps68
      go_wp2
      go_ret
      exact ⟨ret_bool HV2.out.symm, HB.out⟩
    · have HV2 : Hid (A = decide (y2 < x2)) := HV1.out
      clear HV1
      go_enter Try.func68, Try.ntmps68
      go_wp2
      go_ret
      exact ⟨ret_bool HV2.out.symm, HB.out⟩
  · have HV1 : Hid (A = decide (y1 < x1)) := by unfold Hid; rw [HV.out, if_neg h1]
    have h1b : (x1 != y1) = true := by simpa using h1
    have h1c : (x1 == y1) = false := by simpa using h1
    clear HV h1
    go_enter Try.func68, Try.ntmps68
    go_wp2
    go_ret
    exact ⟨ret_bool HV1.out.symm, HB.out⟩
/-- the maps of the first tables -/
def foldT (M : Nat → List Rw) : Nat → Int → Option Rw
  | 0 => fun _ => none
  | k + 1 => foldF (foldT M k) (M k)
theorem foldF_take {f : Int → Option Rw} {ms : List Rw} {j : Nat} (h : j < ms.length) : foldF f (ms.take (j + 1)) = stepF (foldF f (ms.take j)) (ms.getD j rw0) := by
  rw [List.take_succ_eq_append_getElem h, foldF_snoc, getD_at h]
set_option maxRecDepth 100000 in
set_option maxHeartbeats 6400000 in
theorem joined_any (q m mc : Nat) (A : Nat → Option Addr) (C : Nat → Nat) (M : Nat → List Rw) (w : World) (hm : m ≤ 2) (hq : q < w.heap.size) (hc : ∀ i, i < m → w.cell? ⟨q, i, none⟩ = some (.slice (A i) (M i).length (C i)))
    (hr : ∀ i, i < m → LsAt tyRw w (A i) (M i)) (hl : ∀ i, i < m → (M i).length ≤ 8) (hk : ∀ i, i < m → ∀ r ∈ M i, Wf r.x0) :
    Calls Try.prog 50 #[.slice (some ⟨q, 0, none⟩) m mc] w fun e w' => e = .returned (.map (some w.heap.size)) ∧ (∃ n, n ≤ 32 ∧ MapR w' w.heap.size n (foldT M m)) ∧ Below w.heap.size w w' := by
  have HC : Hid (∀ i, i < m → w.cell? ⟨q, i, none⟩ = some (.slice (A i) (M i).length (C i))) := hc
  have HR : Hid (∀ i, i < m → LsAt tyRw w (A i) (M i)) := hr
  have HL : Hid (∀ i, i < m → (M i).length ≤ 8) := hl
  have HK : Hid (∀ i, i < m → ∀ r ∈ M i, Wf r.x0) := hk
  have HQ : Hid (q < w.heap.size) := hq
  clear hc hr hl hk hq
  have hmm := @run_makeMap Try.prog
  have M0 : Hid (MapR (w.alloc (.map #[] 0)) w.heap.size 0 (fun _ => none)) := mapR_made w
  have B0 : Hid (Below w.heap.size w (w.alloc (.map #[] 0))) := belA _ _
  go_enter Try.func50, Try.ntmps50
  go_wp2_with fail
  clear hmm
  go_loopw [11] (fun vi wr => ∃ k n : Nat, k ≤ m ∧ vi = .int .i64 k ∧ n ≤ 8 * k ∧ Hid (MapR wr w.heap.size n (foldT M k)) ∧ Hid (Below w.heap.size w wr)) (fun vi _ => m - (intOf vi).toNat)
  case atStart => exact ⟨0, 0, Nat.zero_le _, rfl, Nat.le_refl _, M0, B0⟩
  case round =>
    obtain ⟨k, n, hk, rfl, hn, HM, HB⟩ := hrel
    clear M0 B0
    by_cases hlt : k < m
    · have hcell : wr.cell? ⟨q, k, none⟩ = some (.slice (A k) (M k).length (C k)) := (HB.out.cell (p := ⟨q, k, none⟩) HQ.out).trans (HC.out k hlt)
      have HRk : Hid (LsAt tyRw w (A k) (M k)) := HR.out k hlt
      have hlk : (M k).length ≤ 8 := HL.out k hlt
      have HKk : Hid (∀ r ∈ M k, Wf r.x0) := HK.out k hlt
      have HS : Hid (foldT M (k + 1) = foldF (foldT M k) (M k)) := rfl
      have HM0 : Hid (MapR wr w.heap.size n (foldF (foldT M k) ((M k).take 0))) := HM
      generalize A k = a at hcell HRk
      generalize C k = cc at hcell
      generalize M k = ms at hcell HRk hlk HKk HS HM0
      generalize foldT M k = f at HS HM0 HM
      clear HM
      have hm8 : ms.length ≤ 1000 := by omega
      go_wp2_with fail
      go_loopw [17] (fun vj wr2 => ∃ j n2 : Nat, j ≤ ms.length ∧ vj = .int .i64 j ∧ n2 ≤ n + j ∧ Hid (MapR wr2 w.heap.size n2 (foldF f (ms.take j))) ∧ Hid (Below w.heap.size w wr2)) (fun vj _ => ms.length - (intOf vj).toNat)
      case atStart => exact ⟨0, n, Nat.zero_le _, rfl, Nat.le_refl _, HM0, HB⟩
      case round =>
        clear HM0 HB hcell
        obtain ⟨j, n2, hj, rfl, hn2, HM, HB⟩ := hrel
        by_cases hjl : j < ms.length
        · obtain ⟨bk, off, rfl⟩ := lsAt_form HRk.out (by show 0 < ms.length; omega)
          obtain ⟨hb1, hcr⟩ := rwAt_cell (HRk.out.keep HB.out) hjl
          obtain ⟨c0, c1, c2, c3⟩ := CellsAt.rw hcr
          clear hcr hb1
          have HF : Hid (foldF f (ms.take (j + 1)) = stepF (foldF f (ms.take j)) (ms.getD j rw0)) := foldF_take hjl
          have HW : Hid (Wf (ms.getD j rw0).x0) := HKk.out _ (by rw [getD_at hjl]; exact List.getElem_mem hjl)
          generalize ms.getD j rw0 = r at c0 c1 c2 c3 HF HW
          generalize foldF f (ms.take j) = fj at HF HM
          obtain ⟨fj1, hfe⟩ : ∃ z, Hid (z = foldF f (ms.take (j + 1))) := ⟨_, rfl⟩
          rw [← hfe.out] at HF
          obtain ⟨x0, x1, x2, g⟩ := r
          have HW : Hid (Wf x0) := HW
          have HMb : Hid (MapR (wr.alloc (.cells #[.int .i64 x0, .int .i64 x1, .int .i64 x2, .bool g] 37)) w.heap.size n2 fj) := HM.out.keep (belA _ _)
          have hlook := HMb.out.look HW.out
          obtain ⟨p, hp⟩ : ∃ p, p = (fj x0).getD rw0 := ⟨_, rfl⟩
          have HP : Hid (p = (fj x0).getD rw0) := hp
          rw [← hp] at hlook
          clear hp
          obtain ⟨y0, y1, y2, c⟩ := p
          simp only [rwA] at hlook
          have HKR : Hid (Wire.Bk (wr.alloc (.cells #[.int .i64 x0, .int .i64 x1, .int .i64 x2, .bool g] 37)) wr.heap.size #[.int .i64 x0, .int .i64 x1, .int .i64 x2, .bool g] 37) := Wire.Bk.new _ _ _
          go_wp2_with fail
          refine (isLater_any x0 x1 x2 y0 y1 y2 g c _).mono ?_
          rintro e w1 ⟨rfl, hw1⟩
          have HB1 : Hid (Below w.heap.size w w1) := belt HB.out (belt (belA _ _) hw1)
          have HM1 : Hid (MapR w1 w.heap.size n2 fj) := HMb.out.keep hw1
          obtain ⟨r0, r1, r2, r3⟩ := Wire.Bk.c4 (HKR.out.keep hw1)
          clear hlook c0 c1 c2 c3 hw1 HMb HM HB HKR
          cases hnew : newB ⟨x0, x1, x2, g⟩ ⟨y0, y1, y2, c⟩
          · have HFF : Hid (fj1 = fj) := by unfold Hid; rw [HF.out]; unfold stepF; rw [← HP.out, hnew]; rfl
            clear HF HP hnew
            go_wp2
            go_roundw
            case rel => exact ⟨j + 1, n2, by omega, by go_num, by omega, by rw [← hfe.out, HFF.out]; exact HM1, HB1⟩
            case measure => simp [intOf]; omega
          · have HFF : Hid (fj1 = upd fj x0 ⟨x0, x1, x2, g⟩) := by unfold Hid; rw [HF.out]; unfold stepF; rw [← HP.out, hnew]; rfl
            clear HF HP hnew
            go_wp2_with (first | (at_mapUpdate; refine wpList_store_R rfl _ _ _ rfl w.heap.size n2 fj rfl HM1.out (by unfold maxLen; omega) x0 ⟨x0, x1, x2, g⟩ rfl rfl HW.out ?_; intro w3 hM3 hg3 hs3) | fail)
            have HM3 : Hid (MapR w3 w.heap.size (n2 + 1) fj1) := by rw [HFF.out]; exact hM3
            have HB3 : Hid (Below w.heap.size w w3) := HB1.out.trans ⟨hg3.os, hg3.tape, hg3.output, hg3.size, fun i hi => hg3.block i (by have := HB1.out.size; omega) (by simp; omega)⟩
            clear hM3 hg3 hs3 HFF r0 r1 r2 r3
            go_wp2
            go_roundw
            case rel => exact ⟨j + 1, n2 + 1, by omega, by go_num, by omega, by rw [← hfe.out]; exact HM3, HB3⟩
            case measure => simp [intOf]; omega
        · have hje : j = ms.length := by omega
          subst hje
          have HM2 : Hid (MapR wr w.heap.size n2 (foldT M (k + 1))) := by
            have h := HM.out
            rw [List.take_of_length_le (Nat.le_refl _)] at h
            rw [HS.out]
            exact h
          clear HM HS
          go_wp2
          go_roundw
          case rel => exact ⟨k + 1, n2, by omega, by go_num, by omega, HM2, HB⟩
          case measure => simp [intOf]; omega
    · have hke : k = m := by omega
      subst hke
      go_wp2
      go_ret
      exact ⟨rfl, ⟨n, by omega, HM.out⟩, HB.out⟩
end Go.Proofs.Ytpgngfdhnoonjaa.Tb
