/- The specification's owner, next one, one ahead and gap. -/
import Derived.Test.YtejajlloipkkhaaR2
namespace Go.Proofs.Ytejajlloipkkhaa
open Go.RowKit
set_option linter.unusedVariables false

set_option maxHeartbeats 1600000 in
theorem lowner_any (b d : Int) (a : Option Addr) (cap : Nat) (zs : List Int) (k : Int) (w : World) (R : Ring b d zs) (hr : RowAt w a zs) (k1 : 0 ≤ k) (k2 : k < sz b) :
    Calls Try.prog 123 #[.agg #[.int .i64 b, .int .i64 d], .slice a zs.length cap, .int .i64 k] w fun e w' => e = .returned (.int .i64 (ownI zs k)) ∧ Below w.heap.size w w' := by
  obtain ⟨hb1, hb2, _, _, _⟩ := gsB_true R.gs
  obtain ⟨hs1, hs2⟩ := sz_bd hb1 hb2
  have l1 := R.l1
  have l2 := R.l2
  have HR : Hid (RowAt w a zs) := hr
  have RR : Hid (Ring b d zs) := R
  clear hr R
  obtain ⟨bk, off, rfl⟩ := rowAt_form HR.out (by omega)
  have hc0 := (rowAt_cell HR.out (by omega)).2 0 (by omega)
  have hlb := (rowAt_cell HR.out (by omega)).1
  rw [Nat.add_zero] at hc0
  obtain ⟨z0, hz0⟩ : ∃ z, z = zs.getD 0 0 := ⟨_, rfl⟩
  rw [← hz0] at hc0
  have P0 : Hid (∃ t, t < zs.length ∧ z0 = zs.getD t 0) := ⟨0, by omega, hz0⟩
  clear hz0
  go_enter Try.func123, Try.ntmps123
  go_wp2_with fail
  clear hc0
  go_loopw [7, 15] (fun vb vi wr => ∃ (j : Nat) (y : Int), j ≤ zs.length ∧ vi = .int .i64 j ∧ vb = .int .i64 y ∧ Hid (∃ t, t < zs.length ∧ y = zs.getD t 0) ∧ Hid (∀ i, i < j → dist b k y ≤ dist b k (zs.getD i 0)) ∧ Below (w.heap.size + 1) (w.alloc (.cells #[.int .i64 b, .int .i64 d] 25)) wr) (fun _ vi _ => zs.length - (intOf vi).toNat)
  case atStart => exact ⟨0, z0, Nat.zero_le _, rfl, rfl, P0, fun i hi => by omega, Below.refl _ _⟩
  case round =>
    obtain ⟨j, y, hj, rfl, rfl, hp, hs, hbel⟩ := hrel
    have q0 : wr.cell? ⟨w.heap.size, 0, none⟩ = some (.int .i64 b) := (hbel.cell (p := ⟨w.heap.size, 0, none⟩) (by simp)).trans (by simp)
    have q1 : wr.cell? ⟨w.heap.size, 1, none⟩ = some (.int .i64 d) := (hbel.cell (p := ⟨w.heap.size, 1, none⟩) (by simp)).trans (by simp)
    have hsz : w.heap.size < wr.heap.size := by have := hbel.size; simp at this; omega
    have HB : Hid (Below w.heap.size w wr) := bel1 hbel (by simp)
    by_cases hlt : j < zs.length
    · have hR : Hid (RowAt wr (some ⟨bk, off, none⟩) zs) := HR.out.keep HB.out
      have hc1 := (rowAt_cell hR.out (by omega)).2 j hlt
      have rz := RR.out.rng j hlt
      have ry : 0 ≤ y ∧ y < sz b := by obtain ⟨t, ht, e⟩ := hp.out; rw [e]; exact RR.out.rng t ht
      obtain ⟨z, hz⟩ : ∃ z, z = zs.getD j 0 := ⟨_, rfl⟩
      rw [← hz] at hc1 rz
      have hpz : Hid (∃ t, t < zs.length ∧ z = zs.getD t 0) := ⟨j, hlt, hz⟩
      have HZ : Hid (z = zs.getD j 0) := hz
      clear hz
      obtain ⟨rz1, rz2⟩ := rz
      obtain ⟨ry1, ry2⟩ := ry
      by_cases hd : dist b k z < dist b k y
      · have hn : Hid (∀ i, i < j + 1 → dist b k z ≤ dist b k (zs.getD i 0)) := fun i hi => by
          by_cases he : i = j
          · subst he; rw [← HZ.out]; omega
          · have := hs.out i (by omega); omega
        go_wp2
        have c0 : ∀ p : Kin wr.heap.size wr, p.v.cell? ⟨w.heap.size, 0, none⟩ = some (.int .i64 b) := kin_cell hsz q0
        have c1 : ∀ p : Kin wr.heap.size wr, p.v.cell? ⟨w.heap.size, 1, none⟩ = some (.int .i64 d) := kin_cell hsz q1
        refine region_kin wr.heap.size (by kernel_rfl) (by kernel_rfl) (fun hne => ?_)
        repeat (go_big_quiet_step ((go_at_call 112; exact kin_of (Nat.le_refl _) (ldist_any _ _ _ _ _ hb1 hb2 (by assumption) (by assumption) (by assumption) (by assumption)))))
        refine wpQuiet_nil ?_
        intro _ hw'
        obtain ⟨⟨w1, hw1⟩, hw''⟩ := hw'
        obtain rfl : _ = w1 := hw''
        clear c0 c1 hne
        have hbel1 := hbel.trans (hw1.mono (by omega))
        go_wp2
        go_roundw
        case rel => exact ⟨j + 1, z, by omega, by go_num, rfl, hpz, hn, hbel1⟩
        case measure => simp [intOf]; omega
      · have hn : Hid (∀ i, i < j + 1 → dist b k y ≤ dist b k (zs.getD i 0)) := fun i hi => by
          by_cases he : i = j
          · subst he; rw [← HZ.out]; omega
          · exact hs.out i (by omega)
        go_wp2
        have c0 : ∀ p : Kin wr.heap.size wr, p.v.cell? ⟨w.heap.size, 0, none⟩ = some (.int .i64 b) := kin_cell hsz q0
        have c1 : ∀ p : Kin wr.heap.size wr, p.v.cell? ⟨w.heap.size, 1, none⟩ = some (.int .i64 d) := kin_cell hsz q1
        refine region_kin wr.heap.size (by kernel_rfl) (by kernel_rfl) (fun hne => ?_)
        repeat (go_big_quiet_step ((go_at_call 112; exact kin_of (Nat.le_refl _) (ldist_any _ _ _ _ _ hb1 hb2 (by assumption) (by assumption) (by assumption) (by assumption)))))
        refine wpQuiet_nil ?_
        intro _ hw'
        obtain ⟨⟨w1, hw1⟩, hw''⟩ := hw'
        obtain rfl : _ = w1 := hw''
        clear c0 c1 hne
        have hbel1 := hbel.trans (hw1.mono (by omega))
        go_wp2
        go_roundw
        case rel => exact ⟨j + 1, y, by omega, by go_num, rfl, hp, hn, hbel1⟩
        case measure => simp [intOf]; omega
    · have hv : Hid (y = ownI zs k) := by
        obtain ⟨t, ht, e⟩ := hp.out
        rw [e]
        exact min_own RR.out k1 k2 ht (fun i hi => by have := hs.out i (by omega); rwa [e] at this)
      go_wp2
      go_ret
      exact ⟨ret_int hv.out, HB.out⟩

set_option maxHeartbeats 1600000 in
theorem lprev_any (b d : Int) (a : Option Addr) (cap : Nat) (zs : List Int) (x : Int) (w : World) (R : Ring b d zs) (hr : RowAt w a zs) (x1 : 0 ≤ x) (x2 : x < sz b) :
    Calls Try.prog 131 #[.agg #[.int .i64 b, .int .i64 d], .slice a zs.length cap, .int .i64 x] w fun e w' => e = .returned (.int .i64 (prvI zs x)) ∧ Below w.heap.size w w' := by
  obtain ⟨hb1, hb2, _, _, _⟩ := gsB_true R.gs
  obtain ⟨hs1, hs2⟩ := sz_bd hb1 hb2
  have l1 := R.l1
  have l2 := R.l2
  have HR : Hid (RowAt w a zs) := hr
  have RR : Hid (Ring b d zs) := R
  clear hr R
  obtain ⟨bk, off, rfl⟩ := rowAt_form HR.out (by omega)
  have hlb := (rowAt_cell HR.out (by omega)).1
  obtain ⟨z0, hz0⟩ : ∃ z, z = zs.getD 0 0 := ⟨_, rfl⟩
  have P0 : Hid (∃ t, t < zs.length ∧ z0 = zs.getD t 0) := ⟨0, by omega, hz0⟩
  have HZ0 : Hid (z0 = zs.getD 0 0) := hz0
  clear hz0
  go_enter Try.func131, Try.ntmps131
  go_wp2
  have c0 : ∀ p : Kin (w.heap.size + 1) (w.alloc (.cells #[.int .i64 b, .int .i64 d] 25)), p.v.cell? ⟨w.heap.size, 0, none⟩ = some (.int .i64 b) := kin_cell (by omega) (by go_simp)
  have c1 : ∀ p : Kin (w.heap.size + 1) (w.alloc (.cells #[.int .i64 b, .int .i64 d] 25)), p.v.cell? ⟨w.heap.size, 1, none⟩ = some (.int .i64 d) := kin_cell (by omega) (by go_simp)
  refine region_kin (w.heap.size + 1) (by kernel_rfl) (by kernel_rfl) (fun hne => ?_)
  repeat (go_big_quiet_step ((go_at_call 76; exact kin_of (by simp) (lsize_any _ _ _ hb1 hb2))))
  refine wpQuiet_nil ?_
  intro _ hw'
  obtain ⟨⟨w0, hw0⟩, hw''⟩ := hw'
  obtain rfl : _ = w0 := hw''
  clear c0 c1 hne
  have hc0 := (rowAt_cell (HR.out.keep (bel1 hw0 (by simp))) (by omega)).2 0 (by omega)
  rw [Nat.add_zero, ← HZ0.out] at hc0
  obtain ⟨k, hk⟩ : ∃ k, k = (x + sz b - 1) % sz b := ⟨_, rfl⟩
  have rk := down_rng x1 x2
  rw [← hk] at rk ⊢
  obtain ⟨k1, k2⟩ := rk
  have HK : Hid (k = (x + sz b - 1) % sz b) := hk
  clear hk
  go_wp2_with fail
  clear hc0
  go_loopw [8, 24] (fun vb vi wr => ∃ (j : Nat) (y : Int), j ≤ zs.length ∧ vi = .int .i64 j ∧ vb = .int .i64 y ∧ Hid (∃ t, t < zs.length ∧ y = zs.getD t 0) ∧ Hid (∀ i, i < j → dist b y k ≤ dist b (zs.getD i 0) k) ∧ Below (w.heap.size + 1) (w.alloc (.cells #[.int .i64 b, .int .i64 d] 25)) wr) (fun _ vi _ => zs.length - (intOf vi).toNat)
  case atStart => exact ⟨0, z0, Nat.zero_le _, rfl, rfl, P0, fun i hi => by omega, hw0⟩
  case round =>
    obtain ⟨j, y, hj, rfl, rfl, hp, hs, hbel⟩ := hrel
    have q0 : wr.cell? ⟨w.heap.size, 0, none⟩ = some (.int .i64 b) := (hbel.cell (p := ⟨w.heap.size, 0, none⟩) (by simp)).trans (by simp)
    have q1 : wr.cell? ⟨w.heap.size, 1, none⟩ = some (.int .i64 d) := (hbel.cell (p := ⟨w.heap.size, 1, none⟩) (by simp)).trans (by simp)
    have hsz : w.heap.size < wr.heap.size := by have := hbel.size; simp at this; omega
    have HB : Hid (Below w.heap.size w wr) := bel1 hbel (by simp)
    by_cases hlt : j < zs.length
    · have hR : Hid (RowAt wr (some ⟨bk, off, none⟩) zs) := HR.out.keep HB.out
      have hc1 := (rowAt_cell hR.out (by omega)).2 j hlt
      have rz := RR.out.rng j hlt
      have ry : 0 ≤ y ∧ y < sz b := by obtain ⟨t, ht, e⟩ := hp.out; rw [e]; exact RR.out.rng t ht
      obtain ⟨z, hz⟩ : ∃ z, z = zs.getD j 0 := ⟨_, rfl⟩
      rw [← hz] at hc1 rz
      have hpz : Hid (∃ t, t < zs.length ∧ z = zs.getD t 0) := ⟨j, hlt, hz⟩
      have HZ : Hid (z = zs.getD j 0) := hz
      clear hz
      obtain ⟨rz1, rz2⟩ := rz
      obtain ⟨ry1, ry2⟩ := ry
      by_cases hd : dist b z k < dist b y k
      · have hn : Hid (∀ i, i < j + 1 → dist b z k ≤ dist b (zs.getD i 0) k) := fun i hi => by
          by_cases he : i = j
          · subst he; rw [← HZ.out]; omega
          · have := hs.out i (by omega); omega
        go_wp2
        have c0 : ∀ p : Kin wr.heap.size wr, p.v.cell? ⟨w.heap.size, 0, none⟩ = some (.int .i64 b) := kin_cell hsz q0
        have c1 : ∀ p : Kin wr.heap.size wr, p.v.cell? ⟨w.heap.size, 1, none⟩ = some (.int .i64 d) := kin_cell hsz q1
        refine region_kin wr.heap.size (by kernel_rfl) (by kernel_rfl) (fun hne => ?_)
        repeat (go_big_quiet_step ((go_at_call 112; exact kin_of (Nat.le_refl _) (ldist_any _ _ _ _ _ hb1 hb2 (by assumption) (by assumption) (by assumption) (by assumption)))))
        refine wpQuiet_nil ?_
        intro _ hw'
        obtain ⟨⟨w1, hw1⟩, hw''⟩ := hw'
        obtain rfl : _ = w1 := hw''
        clear c0 c1 hne
        have hbel1 := hbel.trans (hw1.mono (by omega))
        go_wp2
        go_roundw
        case rel => exact ⟨j + 1, z, by omega, by go_num, rfl, hpz, hn, hbel1⟩
        case measure => simp [intOf]; omega
      · have hn : Hid (∀ i, i < j + 1 → dist b y k ≤ dist b (zs.getD i 0) k) := fun i hi => by
          by_cases he : i = j
          · subst he; rw [← HZ.out]; omega
          · exact hs.out i (by omega)
        go_wp2
        have c0 : ∀ p : Kin wr.heap.size wr, p.v.cell? ⟨w.heap.size, 0, none⟩ = some (.int .i64 b) := kin_cell hsz q0
        have c1 : ∀ p : Kin wr.heap.size wr, p.v.cell? ⟨w.heap.size, 1, none⟩ = some (.int .i64 d) := kin_cell hsz q1
        refine region_kin wr.heap.size (by kernel_rfl) (by kernel_rfl) (fun hne => ?_)
        repeat (go_big_quiet_step ((go_at_call 112; exact kin_of (Nat.le_refl _) (ldist_any _ _ _ _ _ hb1 hb2 (by assumption) (by assumption) (by assumption) (by assumption)))))
        refine wpQuiet_nil ?_
        intro _ hw'
        obtain ⟨⟨w1, hw1⟩, hw''⟩ := hw'
        obtain rfl : _ = w1 := hw''
        clear c0 c1 hne
        have hbel1 := hbel.trans (hw1.mono (by omega))
        go_wp2
        go_roundw
        case rel => exact ⟨j + 1, y, by omega, by go_num, rfl, hp, hn, hbel1⟩
        case measure => simp [intOf]; omega
    · have hv : Hid (y = prvI zs x) := by
        obtain ⟨t, ht, e⟩ := hp.out
        rw [e]
        exact min_prv RR.out x1 x2 ht (fun i hi => by have := hs.out i (by omega); rwa [e, HK.out] at this)
      go_wp2
      go_ret
      exact ⟨ret_int hv.out, HB.out⟩

set_option maxHeartbeats 800000 in
theorem lnext_any (b d : Int) (a : Option Addr) (cap : Nat) (zs : List Int) (x : Int) (w : World) (R : Ring b d zs) (hr : RowAt w a zs) (x1 : 0 ≤ x) (x2 : x < sz b) :
    Calls Try.prog 99 #[.agg #[.int .i64 b, .int .i64 d], .slice a zs.length cap, .int .i64 x] w fun e w' => e = .returned (.int .i64 (nxtI zs x)) ∧ Below w.heap.size w w' := by
  rw [← own_next R x1 x2]
  obtain ⟨hb1, hb2, _, _, _⟩ := gsB_true R.gs
  obtain ⟨hs1, hs2⟩ := sz_bd hb1 hb2
  obtain ⟨k1, k2⟩ := next_rng x1 x2
  have hr1 := hr.alloc (.cells #[.int .i64 b, .int .i64 d] 25)
  have RR : Hid (Ring b d zs) := R
  clear R hr
  have HR1 : Hid (RowAt (w.alloc (.cells #[.int .i64 b, .int .i64 d] 25)) a zs) := hr1
  clear hr1
  go_enter Try.func99, Try.ntmps99
  go_wp2
  have c0 : ∀ p : Kin (w.heap.size + 1) (w.alloc (.cells #[.int .i64 b, .int .i64 d] 25)), p.v.cell? ⟨w.heap.size, 0, none⟩ = some (.int .i64 b) := kin_cell (by omega) (by go_simp)
  have c1 : ∀ p : Kin (w.heap.size + 1) (w.alloc (.cells #[.int .i64 b, .int .i64 d] 25)), p.v.cell? ⟨w.heap.size, 1, none⟩ = some (.int .i64 d) := kin_cell (by omega) (by go_simp)
  refine region_kin (w.heap.size + 1) (by kernel_rfl) (by kernel_rfl) (fun hne => ?_)
  repeat (go_big_quiet_step (first | (go_at_call 76; exact kin_of (by simp) (lsize_any _ _ _ hb1 hb2)) | (go_at_call 123; exact kin_of (by simp) (lowner_any b d a cap zs _ _ RR.out (HR1.out.keepB (Kin.bel _) (by simp)) k1 k2))))
  refine wpQuiet_nil ?_
  intro _ hw'
  obtain ⟨⟨w1, hw1⟩, hw''⟩ := hw'
  obtain rfl : _ = w1 := hw''
  clear c0 c1 hne
  go_wp2
  go_ret
  exact ⟨rfl, ((Below.refl _ _).alloc (Nat.le_refl _) _).trans (hw1.mono (by omega))⟩

theorem nxt_rng {b d : Int} {zs : List Int} (R : Ring b d zs) (x : Int) : 0 ≤ nxtI zs x ∧ nxtI zs x < sz b := by
  obtain ⟨t, ht, e, _⟩ := nxt_place R x
  rw [e]; exact R.rng t ht
theorem prv_rng {b d : Int} {zs : List Int} (R : Ring b d zs) (x : Int) : 0 ≤ prvI zs x ∧ prvI zs x < sz b := by
  obtain ⟨t, ht, e, _⟩ := prv_place R x
  rw [e]; exact R.rng t ht
theorem own_rng {b d : Int} {zs : List Int} (R : Ring b d zs) (x : Int) : 0 ≤ ownI zs x ∧ ownI zs x < sz b := by
  obtain ⟨t, ht, e, _⟩ := own_place R x
  rw [e]; exact R.rng t ht

end Go.Proofs.Ytejajlloipkkhaa
