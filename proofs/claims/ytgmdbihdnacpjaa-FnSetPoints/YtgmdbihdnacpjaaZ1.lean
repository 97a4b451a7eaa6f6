/- The specification's owner, next one, one ahead and gap. The exported functions of chapter 2 that answer a number, in the program and in its specification. Lists of ints that a call owns: read, marked, looked at again. Peers in memory: how they are read; how much they hold; when two are the same. Two peers that read the same are told so; marks that were laid are found again. Peers copied whole, into memory of their own. A list of peers copied whole; peers copied whole. Peers that are owned are marked. Marks on a list of peers, and on peers. FromDigits on both sides: of so many digits the number. A list of ints that came in. A law's argument of peers, opened. JoinRing, in the program. -/
import Derived.ArgAppend
import Derived.Lib.SmallJoins
import Derived.Laws.OwnMore
import Derived.Laws.AppendOwnNone
import Derived.Laws.MakeOwn
import Derived.Deep.Slices
import Derived.Maps.AppendAt
import Derived.Test.YtgmdbihdnacpjaaZ0
namespace Go.Proofs.Ytgmdbihdnacpjaa
open Go.RowKit
set_option linter.unusedVariables false

set_option maxHeartbeats 1600000 in
theorem lowner_any (b d : Int) (a : Option Addr) (cap : Nat) (zs : List Int) (k : Int) (w : World) (R : Ring b d zs) (hr : RowAt w a zs) (k1 : 0 ≤ k) (k2 : k < sz b) :
    Calls Try.prog 100 #[.agg #[.int .i64 b, .int .i64 d], .slice a zs.length cap, .int .i64 k] w fun e w' => e = .returned (.int .i64 (ownI zs k)) ∧ Below w.heap.size w w' := by
  obtain ⟨hb1, hb2, _, _, _⟩ := gsB_true R.gs
  obtain ⟨hs1, hs2⟩ := sz_bd hb1 hb2
  have l1 := R.l1
  have l2 := R.l2
  have HR : Hid (RowAt w a zs) := hr
  have RR : Hid (Ring b d zs) := R
  clear hr R
  obtain ⟨bk, off, rfl⟩ := rowAt_form HR.out (by omega)
  have hc0 := (rowAt_cell HR.out (by omega)).2 0 (by omega)
  have hlb := (rowAt_cell HR.out (by omega)).1
  rw [Nat.add_zero] at hc0
  obtain ⟨z0, hz0⟩ : ∃ z, z = zs.getD 0 0 := ⟨_, rfl⟩
  rw [← hz0] at hc0
  have P0 : Hid (∃ t, t < zs.length ∧ z0 = zs.getD t 0) := ⟨0, by omega, hz0⟩
  clear hz0
  go_enter Try.func100, Try.ntmps100
  go_wp2_with fail
  clear hc0
  go_loopw [7, 15] (fun vb vi wr => ∃ (j : Nat) (y : Int), j ≤ zs.length ∧ vi = .int .i64 j ∧ vb = .int .i64 y ∧ Hid (∃ t, t < zs.length ∧ y = zs.getD t 0) ∧ Hid (∀ i, i < j → dist b k y ≤ dist b k (zs.getD i 0)) ∧ Below (w.heap.size + 1) (w.alloc (.cells #[.int .i64 b, .int .i64 d] 25)) wr) (fun _ vi _ => zs.length - (intOf vi).toNat)
  case atStart => exact ⟨0, z0, Nat.zero_le _, rfl, rfl, P0, fun i hi => by omega, Below.refl _ _⟩
  case round =>
    obtain ⟨j, y, hj, rfl, rfl, hp, hs, hbel⟩ := hrel
    have q0 : wr.cell? ⟨w.heap.size, 0, none⟩ = some (.int .i64 b) := (hbel.cell (p := ⟨w.heap.size, 0, none⟩) (by simp)).trans (by simp)
    have q1 : wr.cell? ⟨w.heap.size, 1, none⟩ = some (.int .i64 d) := (hbel.cell (p := ⟨w.heap.size, 1, none⟩) (by simp)).trans (by simp)
    have hsz : w.heap.size < wr.heap.size := by have := hbel.size; simp at this; omega
    have HB : Hid (Below w.heap.size w wr) := bel1 hbel (by simp)
    by_cases hlt : j < zs.length
    · have hR : Hid (RowAt wr (some ⟨bk, off, none⟩) zs) := HR.out.keep HB.out
      have hc1 := (rowAt_cell hR.out (by omega)).2 j hlt
      have rz := RR.out.rng j hlt
      have ry : 0 ≤ y ∧ y < sz b := by obtain ⟨t, ht, e⟩ := hp.out; rw [e]; exact RR.out.rng t ht
      obtain ⟨z, hz⟩ : ∃ z, z = zs.getD j 0 := ⟨_, rfl⟩
      rw [← hz] at hc1 rz
      have hpz : Hid (∃ t, t < zs.length ∧ z = zs.getD t 0) := ⟨j, hlt, hz⟩
      have HZ : Hid (z = zs.getD j 0) := hz
      clear hz
      obtain ⟨rz1, rz2⟩ := rz
      obtain ⟨ry1, ry2⟩ := ry
      by_cases hd : dist b k z < dist b k y
      · have hn : Hid (∀ i, i < j + 1 → dist b k z ≤ dist b k (zs.getD i 0)) := fun i hi => by
          by_cases he : i = j
          · subst he; rw [← HZ.out]; omega
          · have := hs.out i (by omega); omega
        go_wp2
        have c0 : ∀ p : Kin wr.heap.size wr, p.v.cell? ⟨w.heap.size, 0, none⟩ = some (.int .i64 b) := kin_cell hsz q0
        have c1 : ∀ p : Kin wr.heap.size wr, p.v.cell? ⟨w.heap.size, 1, none⟩ = some (.int .i64 d) := kin_cell hsz q1
        refine region_kin wr.heap.size (by kernel_rfl) (by kernel_rfl) (fun hne => ?_)
        repeat (go_big_quiet_step ((go_at_call 98; exact kin_of (Nat.le_refl _) (ldist_any _ _ _ _ _ hb1 hb2 (by assumption) (by assumption) (by assumption) (by assumption)))))
        refine wpQuiet_nil ?_
        intro _ hw'
        obtain ⟨⟨w1, hw1⟩, hw''⟩ := hw'
        obtain rfl : _ = w1 := hw''
        clear c0 c1 hne
        have hbel1 := hbel.trans (hw1.mono (by omega))
        go_wp2
        go_roundw
        case rel => exact ⟨j + 1, z, by omega, by go_num, rfl, hpz, hn, hbel1⟩
        case measure => simp [intOf]; omega
      · have hn : Hid (∀ i, i < j + 1 → dist b k y ≤ dist b k (zs.getD i 0)) := fun i hi => by
          by_cases he : i = j
          · subst he; rw [← HZ.out]; omega
          · exact hs.out i (by omega)
        go_wp2
        have c0 : ∀ p : Kin wr.heap.size wr, p.v.cell? ⟨w.heap.size, 0, none⟩ = some (.int .i64 b) := kin_cell hsz q0
        have c1 : ∀ p : Kin wr.heap.size wr, p.v.cell? ⟨w.heap.size, 1, none⟩ = some (.int .i64 d) := kin_cell hsz q1
        refine region_kin wr.heap.size (by kernel_rfl) (by kernel_rfl) (fun hne => ?_)
        repeat (go_big_quiet_step ((go_at_call 98; exact kin_of (Nat.le_refl _) (ldist_any _ _ _ _ _ hb1 hb2 (by assumption) (by assumption) (by assumption) (by assumption)))))
        refine wpQuiet_nil ?_
        intro _ hw'
        obtain ⟨⟨w1, hw1⟩, hw''⟩ := hw'
        obtain rfl : _ = w1 := hw''
        clear c0 c1 hne
        have hbel1 := hbel.trans (hw1.mono (by omega))
        go_wp2
        go_roundw
        case rel => exact ⟨j + 1, y, by omega, by go_num, rfl, hp, hn, hbel1⟩
        case measure => simp [intOf]; omega
    · have hv : Hid (y = ownI zs k) := by
        obtain ⟨t, ht, e⟩ := hp.out
        rw [e]
        exact min_own RR.out k1 k2 ht (fun i hi => by have := hs.out i (by omega); rwa [e] at this)
      go_wp2
      go_ret
      exact ⟨ret_int hv.out, HB.out⟩

set_option maxHeartbeats 1600000 in
theorem lprev_any (b d : Int) (a : Option Addr) (cap : Nat) (zs : List Int) (x : Int) (w : World) (R : Ring b d zs) (hr : RowAt w a zs) (x1 : 0 ≤ x) (x2 : x < sz b) :
    Calls Try.prog 104 #[.agg #[.int .i64 b, .int .i64 d], .slice a zs.length cap, .int .i64 x] w fun e w' => e = .returned (.int .i64 (prvI zs x)) ∧ Below w.heap.size w w' := by
  obtain ⟨hb1, hb2, _, _, _⟩ := gsB_true R.gs
  obtain ⟨hs1, hs2⟩ := sz_bd hb1 hb2
  have l1 := R.l1
  have l2 := R.l2
  have HR : Hid (RowAt w a zs) := hr
  have RR : Hid (Ring b d zs) := R
  clear hr R
  obtain ⟨bk, off, rfl⟩ := rowAt_form HR.out (by omega)
  have hlb := (rowAt_cell HR.out (by omega)).1
  obtain ⟨z0, hz0⟩ : ∃ z, z = zs.getD 0 0 := ⟨_, rfl⟩
  have P0 : Hid (∃ t, t < zs.length ∧ z0 = zs.getD t 0) := ⟨0, by omega, hz0⟩
  have HZ0 : Hid (z0 = zs.getD 0 0) := hz0
  clear hz0
  go_enter Try.func104, Try.ntmps104
  go_wp2
  have c0 : ∀ p : Kin (w.heap.size + 1) (w.alloc (.cells #[.int .i64 b, .int .i64 d] 25)), p.v.cell? ⟨w.heap.size, 0, none⟩ = some (.int .i64 b) := kin_cell (by omega) (by go_simp)
  have c1 : ∀ p : Kin (w.heap.size + 1) (w.alloc (.cells #[.int .i64 b, .int .i64 d] 25)), p.v.cell? ⟨w.heap.size, 1, none⟩ = some (.int .i64 d) := kin_cell (by omega) (by go_simp)
  refine region_kin (w.heap.size + 1) (by kernel_rfl) (by kernel_rfl) (fun hne => ?_)
  repeat (go_big_quiet_step ((go_at_call 60; exact kin_of (by simp) (lsize_any _ _ _ hb1 hb2))))
  refine wpQuiet_nil ?_
  intro _ hw'
  obtain ⟨⟨w0, hw0⟩, hw''⟩ := hw'
  obtain rfl : _ = w0 := hw''
  clear c0 c1 hne
  have hc0 := (rowAt_cell (HR.out.keep (bel1 hw0 (by simp))) (by omega)).2 0 (by omega)
  rw [Nat.add_zero, ← HZ0.out] at hc0
  obtain ⟨k, hk⟩ : ∃ k, k = (x + sz b - 1) % sz b := ⟨_, rfl⟩
  have rk := down_rng x1 x2
  rw [← hk] at rk ⊢
  obtain ⟨k1, k2⟩ := rk
  have HK : Hid (k = (x + sz b - 1) % sz b) := hk
  clear hk
  go_wp2_with fail
  clear hc0
  go_loopw [8, 24] (fun vb vi wr => ∃ (j : Nat) (y : Int), j ≤ zs.length ∧ vi = .int .i64 j ∧ vb = .int .i64 y ∧ Hid (∃ t, t < zs.length ∧ y = zs.getD t 0) ∧ Hid (∀ i, i < j → dist b y k ≤ dist b (zs.getD i 0) k) ∧ Below (w.heap.size + 1) (w.alloc (.cells #[.int .i64 b, .int .i64 d] 25)) wr) (fun _ vi _ => zs.length - (intOf vi).toNat)
  case atStart => exact ⟨0, z0, Nat.zero_le _, rfl, rfl, P0, fun i hi => by omega, hw0⟩
  case round =>
    obtain ⟨j, y, hj, rfl, rfl, hp, hs, hbel⟩ := hrel
    have q0 : wr.cell? ⟨w.heap.size, 0, none⟩ = some (.int .i64 b) := (hbel.cell (p := ⟨w.heap.size, 0, none⟩) (by simp)).trans (by simp)
    have q1 : wr.cell? ⟨w.heap.size, 1, none⟩ = some (.int .i64 d) := (hbel.cell (p := ⟨w.heap.size, 1, none⟩) (by simp)).trans (by simp)
    have hsz : w.heap.size < wr.heap.size := by have := hbel.size; simp at this; omega
    have HB : Hid (Below w.heap.size w wr) := bel1 hbel (by simp)
    by_cases hlt : j < zs.length
    · have hR : Hid (RowAt wr (some ⟨bk, off, none⟩) zs) := HR.out.keep HB.out
      have hc1 := (rowAt_cell hR.out (by omega)).2 j hlt
      have rz := RR.out.rng j hlt
      have ry : 0 ≤ y ∧ y < sz b := by obtain ⟨t, ht, e⟩ := hp.out; rw [e]; exact RR.out.rng t ht
      obtain ⟨z, hz⟩ : ∃ z, z = zs.getD j 0 := ⟨_, rfl⟩
      rw [← hz] at hc1 rz
      have hpz : Hid (∃ t, t < zs.length ∧ z = zs.getD t 0) := ⟨j, hlt, hz⟩
      have HZ : Hid (z = zs.getD j 0) := hz
      clear hz
      obtain ⟨rz1, rz2⟩ := rz
      obtain ⟨ry1, ry2⟩ := ry
      by_cases hd : dist b z k < dist b y k
      · have hn : Hid (∀ i, i < j + 1 → dist b z k ≤ dist b (zs.getD i 0) k) := fun i hi => by
          by_cases he : i = j
          · subst he; rw [← HZ.out]; omega
          · have := hs.out i (by omega); omega
        go_wp2
        have c0 : ∀ p : Kin wr.heap.size wr, p.v.cell? ⟨w.heap.size, 0, none⟩ = some (.int .i64 b) := kin_cell hsz q0
        have c1 : ∀ p : Kin wr.heap.size wr, p.v.cell? ⟨w.heap.size, 1, none⟩ = some (.int .i64 d) := kin_cell hsz q1
        refine region_kin wr.heap.size (by kernel_rfl) (by kernel_rfl) (fun hne => ?_)
        repeat (go_big_quiet_step ((go_at_call 98; exact kin_of (Nat.le_refl _) (ldist_any _ _ _ _ _ hb1 hb2 (by assumption) (by assumption) (by assumption) (by assumption)))))
        refine wpQuiet_nil ?_
        intro _ hw'
        obtain ⟨⟨w1, hw1⟩, hw''⟩ := hw'
        obtain rfl : _ = w1 := hw''
        clear c0 c1 hne
        have hbel1 := hbel.trans (hw1.mono (by omega))
        go_wp2
        go_roundw
        case rel => exact ⟨j + 1, z, by omega, by go_num, rfl, hpz, hn, hbel1⟩
        case measure => simp [intOf]; omega
      · have hn : Hid (∀ i, i < j + 1 → dist b y k ≤ dist b (zs.getD i 0) k) := fun i hi => by
          by_cases he : i = j
          · subst he; rw [← HZ.out]; omega
          · exact hs.out i (by omega)
        go_wp2
        have c0 : ∀ p : Kin wr.heap.size wr, p.v.cell? ⟨w.heap.size, 0, none⟩ = some (.int .i64 b) := kin_cell hsz q0
        have c1 : ∀ p : Kin wr.heap.size wr, p.v.cell? ⟨w.heap.size, 1, none⟩ = some (.int .i64 d) := kin_cell hsz q1
        refine region_kin wr.heap.size (by kernel_rfl) (by kernel_rfl) (fun hne => ?_)
        repeat (go_big_quiet_step ((go_at_call 98; exact kin_of (Nat.le_refl _) (ldist_any _ _ _ _ _ hb1 hb2 (by assumption) (by assumption) (by assumption) (by assumption)))))
        refine wpQuiet_nil ?_
        intro _ hw'
        obtain ⟨⟨w1, hw1⟩, hw''⟩ := hw'
        obtain rfl : _ = w1 := hw''
        clear c0 c1 hne
        have hbel1 := hbel.trans (hw1.mono (by omega))
        go_wp2
        go_roundw
        case rel => exact ⟨j + 1, y, by omega, by go_num, rfl, hp, hn, hbel1⟩
        case measure => simp [intOf]; omega
    · have hv : Hid (y = prvI zs x) := by
        obtain ⟨t, ht, e⟩ := hp.out
        rw [e]
        exact min_prv RR.out x1 x2 ht (fun i hi => by have := hs.out i (by omega); rwa [e, HK.out] at this)
      go_wp2
      go_ret
      exact ⟨ret_int hv.out, HB.out⟩

set_option maxHeartbeats 800000 in
theorem lnext_any (b d : Int) (a : Option Addr) (cap : Nat) (zs : List Int) (x : Int) (w : World) (R : Ring b d zs) (hr : RowAt w a zs) (x1 : 0 ≤ x) (x2 : x < sz b) :
    Calls Try.prog 72 #[.agg #[.int .i64 b, .int .i64 d], .slice a zs.length cap, .int .i64 x] w fun e w' => e = .returned (.int .i64 (nxtI zs x)) ∧ Below w.heap.size w w' := by
  rw [← own_next R x1 x2]
  obtain ⟨hb1, hb2, _, _, _⟩ := gsB_true R.gs
  obtain ⟨hs1, hs2⟩ := sz_bd hb1 hb2
  obtain ⟨k1, k2⟩ := next_rng x1 x2
  have hr1 := hr.alloc (.cells #[.int .i64 b, .int .i64 d] 25)
  have RR : Hid (Ring b d zs) := R
  clear R hr
  have HR1 : Hid (RowAt (w.alloc (.cells #[.int .i64 b, .int .i64 d] 25)) a zs) := hr1
  clear hr1
  go_enter Try.func72, Try.ntmps72
  go_wp2
  have c0 : ∀ p : Kin (w.heap.size + 1) (w.alloc (.cells #[.int .i64 b, .int .i64 d] 25)), p.v.cell? ⟨w.heap.size, 0, none⟩ = some (.int .i64 b) := kin_cell (by omega) (by go_simp)
  have c1 : ∀ p : Kin (w.heap.size + 1) (w.alloc (.cells #[.int .i64 b, .int .i64 d] 25)), p.v.cell? ⟨w.heap.size, 1, none⟩ = some (.int .i64 d) := kin_cell (by omega) (by go_simp)
  refine region_kin (w.heap.size + 1) (by kernel_rfl) (by kernel_rfl) (fun hne => ?_)
  repeat (go_big_quiet_step (first | (go_at_call 60; exact kin_of (by simp) (lsize_any _ _ _ hb1 hb2)) | (go_at_call 100; exact kin_of (by simp) (lowner_any b d a cap zs _ _ RR.out (HR1.out.keepB (Kin.bel _) (by simp)) k1 k2))))
  refine wpQuiet_nil ?_
  intro _ hw'
  obtain ⟨⟨w1, hw1⟩, hw''⟩ := hw'
  obtain rfl : _ = w1 := hw''
  clear c0 c1 hne
  go_wp2
  go_ret
  exact ⟨rfl, ((Below.refl _ _).alloc (Nat.le_refl _) _).trans (hw1.mono (by omega))⟩

theorem nxt_rng {b d : Int} {zs : List Int} (R : Ring b d zs) (x : Int) : 0 ≤ nxtI zs x ∧ nxtI zs x < sz b := by
  obtain ⟨t, ht, e, _⟩ := nxt_place R x
  rw [e]; exact R.rng t ht
theorem prv_rng {b d : Int} {zs : List Int} (R : Ring b d zs) (x : Int) : 0 ≤ prvI zs x ∧ prvI zs x < sz b := by
  obtain ⟨t, ht, e, _⟩ := prv_place R x
  rw [e]; exact R.rng t ht
theorem own_rng {b d : Int} {zs : List Int} (R : Ring b d zs) (x : Int) : 0 ≤ ownI zs x ∧ ownI zs x < sz b := by
  obtain ⟨t, ht, e, _⟩ := own_place R x
  rw [e]; exact R.rng t ht

set_option maxHeartbeats 800000 in
theorem lgap_any (b d : Int) (a : Option Addr) (cap : Nat) (zs : List Int) (x : Int) (w : World) (R : Ring b d zs) (hr : RowAt w a zs) (x1 : 0 ≤ x) (x2 : x < sz b) :
    Calls Try.prog 68 #[.agg #[.int .i64 b, .int .i64 d], .slice a zs.length cap, .int .i64 x] w fun e w' => e = .returned (.int .i64 (gapS b zs x)) ∧ Below w.heap.size w w' := by
  obtain ⟨hb1, hb2, _, _, _⟩ := gsB_true R.gs
  obtain ⟨hs1, hs2⟩ := sz_bd hb1 hb2
  obtain ⟨k1, k2⟩ := nxt_rng R x
  have l2 := R.l2
  have hr1 := hr.alloc (.cells #[.int .i64 b, .int .i64 d] 25)
  have RR : Hid (Ring b d zs) := R
  clear R hr
  have HR1 : Hid (RowAt (w.alloc (.cells #[.int .i64 b, .int .i64 d] 25)) a zs) := hr1
  clear hr1
  unfold gapS
  by_cases hl : zs.length = 1
  · rw [if_pos hl]
    have he : ((zs.length : Int) == 1) = true := by simp [hl]
    clear hl
    go_enter Try.func68, Try.ntmps68
    go_wp2_with (go_at_call 60; refine (lsize_any _ _ _ hb1 hb2).mono ?_; rintro e w1 ⟨rfl, hw1⟩)
    go_ret
    exact ⟨rfl, bel1 hw1 (by simp)⟩
  · rw [if_neg hl]
    have he : ((zs.length : Int) == 1) = false := by simp only [beq_eq_false_iff_ne, ne_eq]; omega
    clear hl
    go_enter Try.func68, Try.ntmps68
    go_wp2
    have c0 : ∀ p : Kin (w.heap.size + 1) (w.alloc (.cells #[.int .i64 b, .int .i64 d] 25)), p.v.cell? ⟨w.heap.size, 0, none⟩ = some (.int .i64 b) := kin_cell (by omega) (by go_simp)
    have c1 : ∀ p : Kin (w.heap.size + 1) (w.alloc (.cells #[.int .i64 b, .int .i64 d] 25)), p.v.cell? ⟨w.heap.size, 1, none⟩ = some (.int .i64 d) := kin_cell (by omega) (by go_simp)
    refine region_kin (w.heap.size + 1) (by kernel_rfl) (by kernel_rfl) (fun hne => ?_)
    repeat (go_big_quiet_step (first | (go_at_call 72; exact kin_of (by simp) (lnext_any b d a cap zs _ _ RR.out (HR1.out.keepB (Kin.bel _) (by simp)) x1 x2)) | (go_at_call 98; exact kin_of (by simp) (ldist_any _ _ _ _ _ hb1 hb2 x1 x2 k1 k2))))
    refine wpQuiet_nil ?_
    intro _ hw'
    obtain ⟨⟨w1, hw1⟩, hw''⟩ := hw'
    obtain rfl : _ = w1 := hw''
    clear c0 c1 hne
    go_wp2
    go_ret
    exact ⟨rfl, ((Below.refl _ _).alloc (Nat.le_refl _) _).trans (hw1.mono (by omega))⟩
end Go.Proofs.Ytgmdbihdnacpjaa
namespace Go.Proofs.Ytgmdbihdnacpjaa
open Go.RowKit
set_option linter.unusedVariables false

def oVal (b d : Int) (zs : List Int) (x v : Int) : Int := if askB b d zs x = true then v else 0
def okG (b d : Int) (zs : List Int) (x : Int) : Bool := ringB b d zs && memI zs x
def gVal (b d : Int) (zs : List Int) (x v : Int) : Int := if okG b d zs x = true then v else 0
theorem okG_ask {b d : Int} {zs : List Int} {x : Int} (h : okG b d zs x = true) : askB b d zs x = true ∧ hasB zs x = true ∧ Ring b d zs ∧ 0 ≤ x ∧ x < sz b := by
  unfold okG at h
  rw [Bool.and_eq_true] at h
  have R := ringB_true h.1
  obtain ⟨j, hj, rfl⟩ := mem_place R h.2
  have r := R.rng j hj
  refine ⟨?_, ?_, R, r.1, r.2⟩
  · unfold askB; rw [h.1, numB_yes R.gs r.1 r.2]; rfl
  · rw [← mem_has R]; exact h.2
theorem okG_no {b d : Int} {zs : List Int} {x : Int} (h : okG b d zs x = false) : askB b d zs x = false ∨ (askB b d zs x = true ∧ hasB zs x = false) := by
  cases ha : askB b d zs x
  · exact .inl rfl
  · refine .inr ⟨rfl, ?_⟩
    unfold askB at ha
    rw [Bool.and_eq_true] at ha
    unfold okG at h
    rw [ha.1, Bool.true_and] at h
    rw [← mem_has (ringB_true ha.1)]; exact h

end Go.Proofs.Ytgmdbihdnacpjaa
namespace Go.Proofs.Ytgmdbihdnacpjaa
open Go.RowKit
set_option linter.unusedVariables false

/-- block g holds the list l at its head, and it lies at or beyond B -/
structure OwnS (B : Nat) (w : World) (g : Nat) (l : List Int) : Prop where
  lo : B ≤ g
  row : ∃ cur, w.heap[g]? = some (.cells cur 3 (0, 0)) ∧ cur.toList.take l.length = l.map (Value.int .i64)
theorem OwnS.lt {B : Nat} {w : World} {g : Nat} {l : List Int} (h : OwnS B w g l) : g < w.heap.size := by
  obtain ⟨cur, hc, _⟩ := h.row
  exact (Array.getElem?_eq_some_iff.1 hc).1
theorem OwnS.keep {B : Nat} {w w1 : World} {g : Nat} {l : List Int} (h : OwnS B w g l) (hb : Below w.heap.size w w1) : OwnS B w1 g l := by
  obtain ⟨cur, hc, ht⟩ := h.row
  exact ⟨h.lo, cur, (hb.block _ h.lt).trans hc, ht⟩
theorem OwnS.only {B : Nat} {w w1 : World} {g q : Nat} {l : List Int} (h : OwnS B w g l) (hb : Only q w w1) (hq : ¬ g = q) : OwnS B w1 g l := by
  obtain ⟨cur, hc, ht⟩ := h.row
  exact ⟨h.lo, cur, (hb.block _ hq).trans hc, ht⟩
theorem OwnS.size {B : Nat} {w : World} {g : Nat} {l : List Int} (h : OwnS B w g l) : ∃ cur, w.heap[g]? = some (.cells cur 3 (0, 0)) ∧ l.length ≤ cur.size ∧ ∀ i, i < l.length → cur[i]? = some (.int .i64 (l.getD i 0)) := by
  obtain ⟨cur, hc, ht⟩ := h.row
  have hl := congrArg List.length ht
  have hl2 : l.length ≤ cur.size := by
    simp only [List.length_take, List.length_map] at hl
    have : cur.toList.length = cur.size := Array.length_toList
    omega
  refine ⟨cur, hc, hl2, fun i hi => ?_⟩
  have := congrArg (·[i]?) ht
  simp only [List.getElem?_map] at this
  rw [List.getElem?_take_of_lt hi, Array.getElem?_toList] at this
  rw [this, List.getD_eq_getElem?_getD, List.getElem?_eq_getElem hi]
  rfl
theorem OwnS.at {B : Nat} {w : World} {g : Nat} {l : List Int} (h : OwnS B w g l) (i : Nat) (hi : i < l.length) : w.cell? ⟨g, i, none⟩ = some (.int .i64 (l.getD i 0)) ∧ w.frozen? ⟨g, i, none⟩ = false := by
  obtain ⟨cur, hc, hl, ht⟩ := h.size
  exact ⟨(cell_of_row w _ _ _ _ _ hc).trans (ht i hi), frozen_of_row w _ _ _ _ hc⟩
theorem OwnS.rowAt {B : Nat} {w : World} {g : Nat} {l : List Int} (h : OwnS B w g l) : RowAt w (some ⟨g, 0, none⟩) l :=
  .inr ⟨g, 0, rfl, h.lt, fun i hi => by rw [Nat.zero_add]; exact (h.at i hi).1⟩
theorem OwnS.put {B : Nat} {w : World} {g : Nat} {l : List Int} (h : OwnS B w g l) (i : Nat) (hi : i < l.length) (v : Int) : OwnS B (w.setCell ⟨g, i, none⟩ (.int .i64 v)) g (l.set i v) := by
  obtain ⟨cur, hc, ht⟩ := h.row
  refine ⟨h.lo, _, heap_setCell_same _ _ _ _ _ _ hc, ?_⟩
  rw [Array.toList_setIfInBounds, List.length_set, List.take_set, ht, List.map_set]
theorem OwnS.of_owns {B : Nat} {w : World} {g cap : Nat} {l : List Int} {n : Nat} (h : w.ownsRow B 3 1 (.slice (some ⟨g, 0, none⟩) n cap) n (l.map (Value.int .i64))) : OwnS B w g l ∧ l.length = n ∧ n ≤ cap := by
  obtain ⟨hl, h2⟩ := h
  rcases h2 with ⟨h2, _⟩ | ⟨g', cap', cur, hv, hb, hc, hn, _, _, ht⟩
  · cases h2
  · simp at hv
    obtain ⟨rfl, rfl⟩ := hv
    simp at hl
    exact ⟨⟨hb, cur, hc, by rw [hl]; simpa using ht⟩, hl, hn⟩
theorem OwnS.mono {B B' : Nat} {w : World} {g : Nat} {l : List Int} (h : OwnS B w g l) (hb : B' ≤ B) : OwnS B' w g l := ⟨Nat.le_trans hb h.lo, h.row⟩
theorem OwnZ.owns {w wr : World} {g : Nat} {l : List Int} (h : OwnZ w wr g l) : OwnS w.heap.size wr g l :=
  ⟨h.lo, _, h.row, by rw [List.take_of_length_le (by simp [zv])]; simp [zv]⟩

set_option maxHeartbeats 800000 in
theorem markOwn_any (B g cap : Nat) (zs : List Int) (k0 : Int) (w : World) (hm : zs.length ≤ 1048576) (k1 : 0 ≤ k0) (k2 : k0 ≤ 1099511627776) (ho : OwnS B w g zs) :
    Calls Try.prog 30 #[.slice (some ⟨g, 0, none⟩) zs.length cap, .int .i64 k0] w fun e w' => e = .returned (.int .i64 (k0 + (zs.length : Int))) ∧ OwnS B w' g (mrk k0 zs zs.length) ∧ Only g w w' := by
  go_enter Try.func30, Try.ntmps30
  go_wp2_with fail
  go_loopw [1, 5] (fun vk vi wr => ∃ i : Nat, i ≤ zs.length ∧ vi = .int .i64 i ∧ vk = .int .i64 (k0 + (i : Int)) ∧ OwnS B wr g (mrk k0 zs i) ∧ Only g w wr) (fun _ vi _ => zs.length - (intOf vi).toNat)
  case atStart => exact ⟨0, Nat.zero_le _, rfl, by simp, by simpa [mrk] using ho, Only.refl _ _⟩
  case round =>
    obtain ⟨i, hi, rfl, rfl, st, on⟩ := hrel
    clear ho
    by_cases hlt : i < zs.length
    · obtain ⟨r0, r1⟩ := st.at i (by rw [mrk_len hi]; exact hlt)
      have st2 := st.put i (by rw [mrk_len hi]; exact hlt) (k0 + (i : Int))
      rw [mrk_set hlt] at st2
      have on2 := on.put i (.int .i64 (k0 + (i : Int)))
      clear st on
      generalize (mrk k0 zs i).getD i 0 = y at r0
      go_wp2
      go_roundw
      case rel => exact ⟨i + 1, by omega, by go_num, by go_num, st2, on2⟩
      case measure => simp [intOf]; omega
    · have hkl : i = zs.length := by omega
      subst hkl
      go_wp2
      go_ret
      exact ⟨rfl, st, on⟩
end Go.Proofs.Ytgmdbihdnacpjaa
namespace Go.Proofs.Ytgmdbihdnacpjaa
open Go.RowKit
set_option linter.unusedVariables false

structure Pr where
  id : Int
  succ : Int
  point : Int
  backs : List Int
def pr0 : Pr := ⟨0, 0, 0, []⟩
/-- one peer, from a cell on -/
structure PeerAt (w : World) (b o : Nat) (p : Pr) : Prop where
  c0 : w.cell? ⟨b, o, none⟩ = some (.int .i64 p.id)
  c1 : w.cell? ⟨b, o + 1, none⟩ = some (.int .i64 p.succ)
  c2 : w.cell? ⟨b, o + 2, none⟩ = some (.int .i64 p.point)
  c3 : ∃ ab cb, w.cell? ⟨b, o + 3, none⟩ = some (.slice ab p.backs.length cb) ∧ RowAt w ab p.backs ∧ p.backs.length ≤ maxLen ∧ p.backs.length ≤ cb ∧ (ab = none → cb = 0)
/-- a slice of peers that reads as ps -/
def PeersAt (w : World) (a : Option Addr) (ps : List Pr) : Prop :=
  ps = [] ∨ ∃ b off, a = some ⟨b, off, none⟩ ∧ b < w.heap.size ∧ ∀ i, i < ps.length → PeerAt w b (off + i * 4) (ps.getD i pr0)
theorem PeerAt.keep {w w1 : World} {b o : Nat} {p : Pr} (h : PeerAt w b o p) (hb : Below w.heap.size w w1) (hl : b < w.heap.size) : PeerAt w1 b o p := by
  obtain ⟨c0, c1, c2, ab, cb, c3, hr, hm, hc⟩ := h
  exact ⟨(hb.cell (p := ⟨b, o, none⟩) hl).trans c0, (hb.cell (p := ⟨b, o + 1, none⟩) hl).trans c1, (hb.cell (p := ⟨b, o + 2, none⟩) hl).trans c2, ab, cb, (hb.cell (p := ⟨b, o + 3, none⟩) hl).trans c3, hr.keep hb, hm, hc⟩
theorem PeersAt.keep {w w1 : World} {a : Option Addr} {ps : List Pr} (h : PeersAt w a ps) (hb : Below w.heap.size w w1) : PeersAt w1 a ps := by
  rcases h with h | ⟨b, off, ha, hl, hc⟩
  · exact .inl h
  · exact .inr ⟨b, off, ha, Nat.lt_of_lt_of_le hl hb.size, fun i hi => (hc i hi).keep hb hl⟩
theorem PeersAt.keepB {w w1 : World} {a : Option Addr} {ps : List Pr} {B : Nat} (h : PeersAt w a ps) (hb : Below B w w1) (hB : w.heap.size ≤ B) : PeersAt w1 a ps := h.keep (hb.mono hB)
theorem PeersAt.alloc {w : World} {a : Option Addr} {ps : List Pr} (h : PeersAt w a ps) (o : Obj) : PeersAt (w.alloc o) a ps := h.keep ((Below.refl _ _).alloc (Nat.le_refl _) _)
theorem peersAt_form {w : World} {a : Option Addr} {ps : List Pr} (h : PeersAt w a ps) (hz : 0 < ps.length) : ∃ bk off, a = some ⟨bk, off, none⟩ := by
  rcases h with rfl | ⟨b', o', h, _⟩
  · simp at hz
  · exact ⟨b', o', h⟩
theorem peersAt_cell {w : World} {bk off : Nat} {ps : List Pr} (h : PeersAt w (some ⟨bk, off, none⟩) ps) (hz : 0 < ps.length) : bk < w.heap.size ∧ ∀ i, i < ps.length → PeerAt w bk (off + i * 4) (ps.getD i pr0) := by
  rcases h with rfl | ⟨b', o', h, hl, hc⟩
  · simp at hz
  · simp at h; obtain ⟨rfl, rfl⟩ := h; exact ⟨hl, hc⟩
/-- how many numbers the first k peers have as backs -/
def bsum : List Pr → Nat
  | [] => 0
  | p :: ps => p.backs.length + bsum ps
theorem bsum_take {ps : List Pr} : ∀ {k : Nat}, k < ps.length → bsum (ps.take (k + 1)) = bsum (ps.take k) + (ps.getD k pr0).backs.length := by
  induction ps with
  | nil => intro k hk; simp at hk
  | cons p ps ih =>
    intro k hk
    cases k with
    | zero => simp [bsum]
    | succ k =>
      have := ih (k := k) (by simpa using hk)
      simp only [List.take_succ_cons, bsum]
      rw [this]
      simp only [List.getD_cons_succ]
      omega
theorem bsum_mem {ps : List Pr} : ∀ {k : Nat}, k < ps.length → (ps.getD k pr0).backs.length ≤ bsum ps := by
  induction ps with
  | nil => intro k hk; simp at hk
  | cons p ps ih =>
    intro k hk
    cases k with
    | zero => simp [bsum]
    | succ k =>
      have := ih (k := k) (by simpa using hk)
      simp only [bsum, List.getD_cons_succ]
      omega

theorem szIntS_any (a : Option Addr) (n cap : Nat) (l : Int) (w : World) (hn : n ≤ maxLen) (l1 : 0 ≤ l) (l2 : l ≤ 1048576) :
    Calls Try.prog 112 #[.slice a n cap, .int .i64 l] w fun e w' => e = .returned (.int .i64 (if l - (n : Int) < 0 then -1 else l - (n : Int))) ∧ w' = w := by
  unfold maxLen at hn
  by_cases h : l - (n : Int) < 0
  · rw [if_pos h]
    go_enter Try.func112, Try.ntmps112
    go_wp2
    go_ret
    exact ⟨rfl, rfl⟩
  · rw [if_neg h]
    go_enter Try.func112, Try.ntmps112
    go_wp2
    go_ret
    exact ⟨rfl, rfl⟩
theorem szPeer_any (x y z : Int) (a : Option Addr) (n cap : Nat) (l : Int) (w : World) (hn : n ≤ maxLen) (l1 : 0 ≤ l) (l2 : l ≤ 1048576) :
    Calls Try.prog 101 #[.agg #[.int .i64 x, .int .i64 y, .int .i64 z, .slice a n cap], .int .i64 l] w fun e w' => e = .returned (.int .i64 (if l - (n : Int) < 0 then -1 else l - (n : Int))) ∧ Below w.heap.size w w' := by
  by_cases h : l - (n : Int) < 0
  · have C := szIntS_any a n cap l (w.alloc (.cells #[.int .i64 x, .int .i64 y, .int .i64 z, .slice a n cap] 108)) hn l1 l2
    rw [if_pos h] at C ⊢
    go_enter Try.func101, Try.ntmps101
    go_wp2_with fail
    refine C.mono ?_
    rintro e w1 ⟨rfl, rfl⟩
    go_wp2
    go_ret
    exact ⟨rfl, (Below.refl _ _).alloc (Nat.le_refl _) _⟩
  · have C := szIntS_any a n cap l (w.alloc (.cells #[.int .i64 x, .int .i64 y, .int .i64 z, .slice a n cap] 108)) hn l1 l2
    rw [if_neg h] at C ⊢
    go_enter Try.func101, Try.ntmps101
    go_wp2_with fail
    refine C.mono ?_
    rintro e w1 ⟨rfl, rfl⟩
    go_wp2
    go_ret
    exact ⟨rfl, (Below.refl _ _).alloc (Nat.le_refl _) _⟩

set_option maxHeartbeats 1600000 in
theorem szPeerS_any (a : Option Addr) (cap : Nat) (ps : List Pr) (w : World) (hm : ps.length ≤ maxLen) (hr : PeersAt w a ps) :
    Calls Try.prog 74 #[.slice a ps.length cap, .int .i64 1048576] w fun e w' => ∃ v : Int, e = .returned (.int .i64 v) ∧ (v < 0 ∨ (0 ≤ v ∧ ps.length + bsum ps ≤ 1048576)) ∧ -1 ≤ v ∧ v ≤ 1048576 ∧ Below w.heap.size w w' := by
  unfold maxLen at hm
  have HR : Hid (PeersAt w a ps) := hr
  clear hr
  by_cases hbig : 1048576 < ps.length
  · go_enter Try.func74, Try.ntmps74
    go_wp2
    go_ret
    exact ⟨-1, rfl, .inl (by omega), by omega, by omega, Below.refl _ _⟩
  · have hz : ps.length ≤ 1048576 := by omega
    go_enter Try.func74, Try.ntmps74
    go_wp2_with fail
    go_loopw [1, 5] (fun vl vi wr => ∃ (k : Nat) (l : Int), k ≤ ps.length ∧ vi = .int .i64 k ∧ vl = .int .i64 l ∧ 0 ≤ l ∧ l = 1048576 - (ps.length : Int) - (bsum (ps.take k) : Int) ∧ Below w.heap.size w wr) (fun _ vi _ => ps.length - (intOf vi).toNat)
    case atStart => exact ⟨0, _, Nat.zero_le _, rfl, rfl, by omega, by simp [bsum], Below.refl _ _⟩
    case round =>
      obtain ⟨k, l, hk, rfl, rfl, l1, hl, hbel⟩ := hrel
      have HL : Hid (l = 1048576 - (ps.length : Int) - (bsum (ps.take k) : Int)) := hl
      have l2 : l ≤ 1048576 := by omega
      clear hl
      by_cases hlt : k < ps.length
      · obtain ⟨bk, off, rfl⟩ := peersAt_form HR.out (by omega)
        obtain ⟨c0, c1, c2, ab, cb, c3, _, hn, _⟩ := (peersAt_cell (HR.out.keep hbel) (by omega)).2 k hlt
        have hbt := bsum_take hlt
        have HBT : Hid (bsum (ps.take (k + 1)) = bsum (ps.take k) + (ps.getD k pr0).backs.length) := hbt
        clear hbt
        obtain ⟨nb, hnb⟩ : ∃ nb, nb = (ps.getD k pr0).backs.length := ⟨_, rfl⟩
        rw [← hnb] at c3 hn HBT
        clear hnb
        generalize (ps.getD k pr0).id = x0 at c0
        generalize (ps.getD k pr0).succ = x1 at c1
        generalize (ps.getD k pr0).point = x2 at c2
        have C := szPeer_any x0 x1 x2 ab nb cb l wr hn l1 l2
        by_cases hneg : l - (nb : Int) < 0
        · rw [if_pos hneg] at C
          go_wp2_with fail
          refine C.mono ?_
          rintro e w1 ⟨rfl, hw1⟩
          go_wp2
          go_ret
          exact ⟨-1, rfl, .inl (by omega), by omega, by omega, belt hbel hw1⟩
        · rw [if_neg hneg] at C
          go_wp2_with fail
          refine C.mono ?_
          rintro e w1 ⟨rfl, hw1⟩
          have hbel1 := belt hbel hw1
          go_wp2_with fail
          go_roundw
          case rel => exact ⟨k + 1, _, by omega, by go_num, rfl, by omega, by rw [HBT.out]; have := HL.out; omega, hbel1⟩
          case measure => simp [intOf]; omega
      · have hh := HL.out
        rw [List.take_of_length_le (by omega)] at hh
        have HH : Hid (ps.length + bsum ps ≤ 1048576) := by unfold Hid; omega
        clear hh
        go_wp2
        go_ret
        exact ⟨l, rfl, .inr ⟨l1, HH.out⟩, by omega, by omega, hbel⟩

theorem szPeers_any (b d : Int) (a : Option Addr) (cap : Nat) (ps : List Pr) (w : World) (hm : ps.length ≤ maxLen) (hr : PeersAt w a ps) :
    Calls Try.prog 21 #[.agg #[.int .i64 b, .int .i64 d, .slice a ps.length cap], .int .i64 1048576] w fun e w' => ∃ v : Int, e = .returned (.int .i64 v) ∧ (v < 0 ∨ (0 ≤ v ∧ ps.length + bsum ps ≤ 1048576)) ∧ Below w.heap.size w w' := by
  have hr1 := hr.alloc (.cells #[.int .i64 b, .int .i64 d, .slice a ps.length cap] 46)
  go_enter Try.func21, Try.ntmps21
  go_wp2_with fail
  refine (szPeerS_any a cap ps _ hm hr1).mono ?_
  rintro e w1 ⟨v, rfl, hv, v1, v2, hw1⟩
  by_cases hn : v < 0
  · go_wp2
    go_ret
    exact ⟨-1, rfl, .inl (by omega), bel1 hw1 (by simp)⟩
  · go_wp2
    go_ret
    exact ⟨v, rfl, hv, bel1 hw1 (by simp)⟩
end Go.Proofs.Ytgmdbihdnacpjaa
namespace Go.Proofs.Ytgmdbihdnacpjaa
open Go.RowKit
set_option linter.unusedVariables false

theorem bne_same (x : Int) : (x != x) = false := by simp
set_option maxHeartbeats 800000 in
theorem eqSpace_same (b d : Int) (w : World) :
    Calls Try.prog 76 #[.agg #[.int .i64 b, .int .i64 d], .agg #[.int .i64 b, .int .i64 d]] w fun e w' => e = .returned (.bool true) ∧ Below w.heap.size w w' := by
  go_enter Try.func76, Try.ntmps76
  go_wp2
  go_ret
  exact ⟨rfl, ((Below.refl _ _).alloc (Nat.le_refl _) _).alloc (by simp) _⟩
set_option maxHeartbeats 1600000 in
theorem eqPeer_same (x y z : Int) (a a' : Option Addr) (cap cap' : Nat) (l : List Int) (w : World) (hm : l.length ≤ maxLen) (hr : RowAt w a l) (hr' : RowAt w a' l) :
    Calls Try.prog 103 #[.agg #[.int .i64 x, .int .i64 y, .int .i64 z, .slice a l.length cap], .agg #[.int .i64 x, .int .i64 y, .int .i64 z, .slice a' l.length cap']] w fun e w' => e = .returned (.bool true) ∧ Below w.heap.size w w' := by
  have hb2 : Below w.heap.size w ((w.alloc (.cells #[.int .i64 x, .int .i64 y, .int .i64 z, .slice a l.length cap] 37)).alloc (.cells #[.int .i64 x, .int .i64 y, .int .i64 z, .slice a' l.length cap'] 37)) := ((Below.refl _ _).alloc (Nat.le_refl _) _).alloc (by simp) _
  have C := eqIntS_any a a' cap cap' l l _ hm (hr.keep hb2) (hr'.keep hb2)
  have hs : sameB l l = true := decide_eq_true rfl
  rw [hs] at C
  have HB2 : Hid _ := hb2
  clear hr hr' hs hb2
  go_enter Try.func103, Try.ntmps103
  go_wp2_with fail
  refine C.mono ?_
  rintro e w1 ⟨rfl, hw1⟩
  go_wp2
  go_ret
  exact ⟨rfl, HB2.out.trans (hw1.mono HB2.out.size)⟩

set_option maxRecDepth 100000 in
set_option maxHeartbeats 3200000 in
theorem eqPeerS_same (a a' : Option Addr) (cap cap' : Nat) (ps : List Pr) (w : World) (hm : ps.length ≤ 1048576) (hx : PeersAt w a ps) (hy : PeersAt w a' ps) :
    Calls Try.prog 77 #[.slice a ps.length cap, .slice a' ps.length cap'] w fun e w' => e = .returned (.bool true) ∧ Below w.heap.size w w' := by
  have HX : Hid (PeersAt w a ps) := hx
  have HY : Hid (PeersAt w a' ps) := hy
  clear hx hy
  go_enter Try.func77, Try.ntmps77
  go_wp2_with fail
  go_loopw [5] (fun vi wr => ∃ k : Nat, k ≤ ps.length ∧ vi = .int .i64 k ∧ Below w.heap.size w wr) (fun vi _ => ps.length - (intOf vi).toNat)
  case atStart => exact ⟨0, Nat.zero_le _, rfl, Below.refl _ _⟩
  case round =>
    obtain ⟨k, hk, rfl, hbel⟩ := hrel
    by_cases hlt : k < ps.length
    · obtain ⟨bk, off, rfl⟩ := peersAt_form HX.out (by omega)
      obtain ⟨bk2, off2, rfl⟩ := peersAt_form HY.out (by omega)
      obtain ⟨hb1, hp1⟩ := peersAt_cell (HX.out.keep hbel) (by omega)
      obtain ⟨hb2, hp2⟩ := peersAt_cell (HY.out.keep hbel) (by omega)
      obtain ⟨c0, c1, c2, ab, cb, c3, hr, hn, hcb⟩ := hp1 k hlt
      obtain ⟨d0, d1, d2, ab2, cb2, d3, hr2, hn2, hcb2⟩ := hp2 k hlt
      clear hp1 hp2 hcb hcb2 hn2
      generalize ps.getD k pr0 = p at *
      obtain ⟨x, y, z, l⟩ := p
      have g0 : ∀ q : Kin wr.heap.size wr, q.v.cell? ⟨bk, off + k * 4, none⟩ = some (.int .i64 x) := kin_cell hb1 c0
      have g1 : ∀ q : Kin wr.heap.size wr, q.v.cell? ⟨bk, off + k * 4 + 1, none⟩ = some (.int .i64 y) := kin_cell hb1 c1
      have g2 : ∀ q : Kin wr.heap.size wr, q.v.cell? ⟨bk, off + k * 4 + 2, none⟩ = some (.int .i64 z) := kin_cell hb1 c2
      have g3 : ∀ q : Kin wr.heap.size wr, q.v.cell? ⟨bk, off + k * 4 + 3, none⟩ = some (.slice ab l.length cb) := kin_cell hb1 c3
      have f0 : ∀ q : Kin wr.heap.size wr, q.v.cell? ⟨bk2, off2 + k * 4, none⟩ = some (.int .i64 x) := kin_cell hb2 d0
      have f1 : ∀ q : Kin wr.heap.size wr, q.v.cell? ⟨bk2, off2 + k * 4 + 1, none⟩ = some (.int .i64 y) := kin_cell hb2 d1
      have f2 : ∀ q : Kin wr.heap.size wr, q.v.cell? ⟨bk2, off2 + k * 4 + 2, none⟩ = some (.int .i64 z) := kin_cell hb2 d2
      have f3 : ∀ q : Kin wr.heap.size wr, q.v.cell? ⟨bk2, off2 + k * 4 + 3, none⟩ = some (.slice ab2 l.length cb2) := kin_cell hb2 d3
      have HRA : Hid (RowAt wr ab l) := hr
      have HRB : Hid (RowAt wr ab2 l) := hr2
      have HN : Hid (l.length ≤ maxLen) := hn
      clear c0 c1 c2 c3 d0 d1 d2 d3 hr hr2 hn
      go_wp2
      refine region_kin wr.heap.size (by kernel_rfl) (by kernel_rfl) (fun hne => ?_)
      repeat (go_big_quiet_step ((go_at_call 103; exact kin_of (Nat.le_refl _) (eqPeer_same x y z ab ab2 cb cb2 l _ HN.out (HRA.out.keepB (Kin.bel _) (Nat.le_refl _)) (HRB.out.keepB (Kin.bel _) (Nat.le_refl _))))))
      refine wpQuiet_nil ?_
      intro xw hw'
      obtain ⟨⟨w1, hw1⟩, hw1'⟩ := hw'
      have hw1'' : w1 = xw := hw1'.symm
      subst hw1''
      clear g0 g1 g2 g3 f0 f1 f2 f3 hne
      have hbel1 := belt hbel hw1
      have hkw : IntKind.i64.wrap ((k : Int) + 1) = (k : Int) + 1 := by rw [IntKind.wrap_i64]; omega
      go_wp2
      go_roundw
      case rel => exact ⟨k + 1, by omega, by go_num, hbel1⟩
      case measure => simp [intOf]; omega
    · go_wp2
      go_ret
      exact ⟨rfl, hbel⟩

set_option maxHeartbeats 1600000 in
theorem eqPeers_same (b d : Int) (a a' : Option Addr) (cap cap' : Nat) (ps : List Pr) (w : World) (hm : ps.length ≤ 1048576) (hx : PeersAt w a ps) (hy : PeersAt w a' ps) :
    Calls Try.prog 24 #[.agg #[.int .i64 b, .int .i64 d, .slice a ps.length cap], .agg #[.int .i64 b, .int .i64 d, .slice a' ps.length cap']] w fun e w' => e = .returned (.bool true) ∧ Below w.heap.size w w' := by
  have HX : Hid (PeersAt w a ps) := hx
  have HY : Hid (PeersAt w a' ps) := hy
  clear hx hy
  go_enter Try.func24, Try.ntmps24
  go_wp2_with fail
  refine (eqSpace_same b d _).mono ?_
  rintro e w1 ⟨rfl, hw1⟩
  have HB1 : Hid (Below w.heap.size w w1) := bel2 hw1 (by simp; omega)
  have q0 := (hw1.cell (p := ⟨w.heap.size, 2, none⟩) (by simp; omega))
  have q1 := (hw1.cell (p := ⟨w.heap.size + 1, 2, none⟩) (by simp))
  simp at q0 q1
  go_wp2_with fail
  refine (eqPeerS_same a a' cap cap' ps _ hm (HX.out.keep HB1.out) (HY.out.keep HB1.out)).mono ?_
  rintro e w2 ⟨rfl, hw2⟩
  go_wp2
  go_ret
  exact ⟨rfl, belt HB1.out hw2⟩

/-- the marks that are laid from k on -/
def mrkP : Int → List Pr → List Pr
  | _, [] => []
  | k, p :: ps => ⟨k, k + 1, k + 2, (List.range p.backs.length).map (fun j : Nat => k + 3 + (j : Int))⟩ :: mrkP (k + 3 + (p.backs.length : Int)) ps
/-- where the marks of peer i begin -/
def kAt (k : Int) (ps : List Pr) (i : Nat) : Int := k + 3 * (i : Int) + (bsum (ps.take i) : Int)
theorem mrkP_len : ∀ (ps : List Pr) (k : Int), (mrkP k ps).length = ps.length
  | [], _ => rfl
  | p :: ps, k => by simp [mrkP, mrkP_len ps]
theorem mrkP_get : ∀ (ps : List Pr) (k : Int) (i : Nat), i < ps.length → (mrkP k ps).getD i pr0 = ⟨kAt k ps i, kAt k ps i + 1, kAt k ps i + 2, (List.range (ps.getD i pr0).backs.length).map (fun j : Nat => kAt k ps i + 3 + (j : Int))⟩
  | [], _, i, h => by simp at h
  | p :: ps, k, 0, _ => by simp [mrkP, kAt, bsum]
  | p :: ps, k, i + 1, h => by
    have ih := mrkP_get ps (k + 3 + (p.backs.length : Int)) i (by simpa using h)
    have e : kAt (k + 3 + (p.backs.length : Int)) ps i = kAt k (p :: ps) (i + 1) := by
      unfold kAt
      simp only [List.take_succ_cons, bsum]
      omega
    simp only [mrkP, List.getD_cons_succ]
    rw [ih, e]
theorem kAt_succ {k : Int} {ps : List Pr} {i : Nat} (hi : i < ps.length) : kAt k ps (i + 1) = kAt k ps i + 3 + ((ps.getD i pr0).backs.length : Int) := by
  unfold kAt; rw [bsum_take hi]; omega
theorem kAt_bd {k : Int} {ps : List Pr} {i : Nat} (hi : i ≤ ps.length) (hb : ps.length + bsum ps ≤ 1048576) : k ≤ kAt k ps i ∧ kAt k ps i ≤ k + 4194304 := by
  have : bsum (ps.take i) ≤ bsum ps := by
    clear hb
    revert i
    induction ps with
    | nil => intro i _; simp
    | cons p ps ih =>
      intro i hi
      cases i with
      | zero => simp [bsum]
      | succ i => simp only [List.take_succ_cons, bsum]; have := ih (i := i) (by simpa using hi); omega
  unfold kAt; omega

set_option maxHeartbeats 3200000 in
theorem heldPeerS_any (a : Option Addr) (cap : Nat) (ps : List Pr) (k0 : Int) (w : World) (hb : ps.length + bsum ps ≤ 1048576) (k1 : 0 ≤ k0) (k2 : k0 ≤ 1000000000000) (hr : PeersAt w a (mrkP k0 ps)) :
    Calls Try.prog 83 #[.slice a ps.length cap, .int .i64 k0] w fun e w' => e = .returned (.int .i64 (kAt k0 ps ps.length)) ∧ w' = w := by
  have HR : Hid (PeersAt w a (mrkP k0 ps)) := hr
  clear hr
  have hl := mrkP_len ps k0
  have HL : Hid ((mrkP k0 ps).length = ps.length) := hl
  clear hl
  have hz : ps.length ≤ 1048576 := by omega
  go_enter Try.func83, Try.ntmps83
  go_wp2_with fail
  go_loop [1, 5] (fun vk vi => ∃ i : Nat, i ≤ ps.length ∧ vi = .int .i64 i ∧ vk = .int .i64 (kAt k0 ps i)) (fun _ vi => ps.length - (intOf vi).toNat)
  case atStart => exact ⟨0, Nat.zero_le _, rfl, by simp [kAt, bsum]⟩
  case round =>
    obtain ⟨i, hi, rfl, rfl⟩ := hrel
    by_cases hlt : i < ps.length
    · obtain ⟨bk, off, rfl⟩ := peersAt_form HR.out (by rw [HL.out]; omega)
      obtain ⟨hb1, hp1⟩ := peersAt_cell HR.out (by rw [HL.out]; omega)
      have hp := hp1 i (by rw [HL.out]; exact hlt)
      rw [mrkP_get ps k0 i hlt] at hp
      obtain ⟨c0, c1, c2, ab, cb, c3, hr, _, _⟩ := hp
      have hs := kAt_succ (k := k0) hlt
      have hbd := kAt_bd (k := k0) hi hb
      have hnb := bsum_mem hlt
      have HS : Hid (kAt k0 ps (i + 1) = kAt k0 ps i + 3 + ((ps.getD i pr0).backs.length : Int)) := hs
      clear hs hp1
      obtain ⟨nb, hnbe⟩ : ∃ nb, nb = (ps.getD i pr0).backs.length := ⟨_, rfl⟩
      rw [← hnbe] at c3 hr HS hnb
      clear hnbe
      simp only [List.length_map, List.length_range] at c3
      obtain ⟨u1, u2⟩ := hbd
      generalize kAt k0 ps i = K at *
      have C := heldIntS_any ab cb ((List.range nb).map (fun j : Nat => K + 3 + (j : Int))) (K + 3) w (by simp; omega) (by omega) (by omega) hr (fun j hj => by simp at hj; simp [List.getD_eq_getElem?_getD, hj])
      simp only [List.length_map, List.length_range] at C
      have e3 : K + 2 + 1 = K + 3 := by omega
      have e2 : K + 1 + 1 = K + 2 := by omega
      clear hr
      go_wp2_with fail
      try rw [e3]
      refine C.mono ?_
      rintro e w1 ⟨rfl, he1⟩
      have he1 := he1.symm
      subst he1
      go_wp2
      go_round
      case rel => exact ⟨i + 1, by omega, by go_num, by rw [HS.out]⟩
      case measure => simp [intOf]; omega
    · have hkl : i = ps.length := by omega
      subst hkl
      go_wp2
      go_ret
      exact ⟨rfl, rfl⟩

theorem heldPeers_any (b d : Int) (a : Option Addr) (cap : Nat) (ps : List Pr) (k0 : Int) (w : World) (hb : ps.length + bsum ps ≤ 1048576) (k1 : 0 ≤ k0) (k2 : k0 ≤ 1000000000000) (hr : PeersAt w a (mrkP k0 ps)) :
    Calls Try.prog 32 #[.agg #[.int .i64 b, .int .i64 d, .slice a ps.length cap], .int .i64 k0] w fun e w' => e = .returned (.int .i64 (kAt k0 ps ps.length)) ∧ Below w.heap.size w w' := by
  have hr1 := hr.alloc (.cells #[.int .i64 b, .int .i64 d, .slice a ps.length cap] 28)
  have hbd := kAt_bd (k := k0) (Nat.le_refl ps.length) hb
  obtain ⟨u1, u2⟩ := hbd
  have C := heldPeerS_any a cap ps k0 _ hb k1 k2 hr1
  generalize kAt k0 ps ps.length = K at *
  go_enter Try.func32, Try.ntmps32
  go_wp2_with fail
  refine C.mono ?_
  rintro e w1 ⟨rfl, rfl⟩
  go_wp2
  go_ret
  exact ⟨rfl, (Below.refl _ _).alloc (Nat.le_refl _) _⟩
end Go.Proofs.Ytgmdbihdnacpjaa
namespace Go.Proofs.Ytgmdbihdnacpjaa
open Go.RowKit
set_option linter.unusedVariables false

theorem cell_set {w : World} {q i j : Nat} {u v : Value} (h : w.cell? ⟨q, i, none⟩ = some u) : (w.setCell ⟨q, j, none⟩ v).cell? ⟨q, i, none⟩ = some (if i = j then v else u) := by
  by_cases e : i = j
  · subst e; rw [if_pos rfl]; exact World.cell?_setCell_same _ _ _ h
  · rw [if_neg e]
    rw [World.cell?_setCell_other]; exact h
    simp; try exact e
theorem cell_far {w : World} {q r i j : Nat} {v : Value} (h : ¬ r = q) : (w.setCell ⟨q, j, none⟩ v).cell? ⟨r, i, none⟩ = w.cell? ⟨r, i, none⟩ :=
  World.cell?_of_block (w := w) (a := ⟨r, i, none⟩) (heap_setCell_other _ _ _ _ (by simpa using h))

/-- four cells of one block that are written one behind the other -/
def set4 (w : World) (q o : Nat) (a b c d : Value) : World := (((w.setCell ⟨q, o, none⟩ a).setCell ⟨q, o + 1, none⟩ b).setCell ⟨q, o + 2, none⟩ c).setCell ⟨q, o + 3, none⟩ d
theorem set4_in {w : World} {q o : Nat} {a b c d u0 u1 u2 u3 : Value} (h0 : w.cell? ⟨q, o, none⟩ = some u0) (h1 : w.cell? ⟨q, o + 1, none⟩ = some u1) (h2 : w.cell? ⟨q, o + 2, none⟩ = some u2) (h3 : w.cell? ⟨q, o + 3, none⟩ = some u3) :
    (set4 w q o a b c d).cell? ⟨q, o, none⟩ = some a ∧ (set4 w q o a b c d).cell? ⟨q, o + 1, none⟩ = some b ∧ (set4 w q o a b c d).cell? ⟨q, o + 2, none⟩ = some c ∧ (set4 w q o a b c d).cell? ⟨q, o + 3, none⟩ = some d := by
  unfold set4
  refine ⟨?_, ?_, ?_, ?_⟩
  · have := cell_set (j := o + 3) (v := d) (cell_set (j := o + 2) (v := c) (cell_set (j := o + 1) (v := b) (cell_set (j := o) (v := a) h0))); simpa using this
  · have := cell_set (j := o + 3) (v := d) (cell_set (j := o + 2) (v := c) (cell_set (j := o + 1) (v := b) (cell_set (j := o) (v := a) h1))); simpa using this
  · have := cell_set (j := o + 3) (v := d) (cell_set (j := o + 2) (v := c) (cell_set (j := o + 1) (v := b) (cell_set (j := o) (v := a) h2))); simpa using this
  · have := cell_set (j := o + 3) (v := d) (cell_set (j := o + 2) (v := c) (cell_set (j := o + 1) (v := b) (cell_set (j := o) (v := a) h3))); simpa using this
theorem set4_out {w : World} {q o i : Nat} {a b c d u : Value} (hi : i < o ∨ o + 4 ≤ i) (h : w.cell? ⟨q, i, none⟩ = some u) : (set4 w q o a b c d).cell? ⟨q, i, none⟩ = some u := by
  unfold set4
  have := cell_set (j := o + 3) (v := d) (cell_set (j := o + 2) (v := c) (cell_set (j := o + 1) (v := b) (cell_set (j := o) (v := a) h)))
  rw [if_neg (by omega), if_neg (by omega), if_neg (by omega), if_neg (by omega)] at this
  exact this
theorem set4_block {w : World} {q o k : Nat} {a b c d : Value} (h : ¬ k = q) : (set4 w q o a b c d).heap[k]? = w.heap[k]? := by
  unfold set4
  rw [heap_setCell_other _ _ _ _ (by simpa using h), heap_setCell_other _ _ _ _ (by simpa using h), heap_setCell_other _ _ _ _ (by simpa using h), heap_setCell_other _ _ _ _ (by simpa using h)]
theorem set4_row {w : World} {q o : Nat} {a b c d : Value} {cur : Array Value} {t : TypeId} (h : w.heap[q]? = some (.cells cur t (0, 0))) : ∃ cur', (set4 w q o a b c d).heap[q]? = some (.cells cur' t (0, 0)) :=
  ⟨_, heap_setCell_same _ _ _ _ _ _ (heap_setCell_same _ _ _ _ _ _ (heap_setCell_same _ _ _ _ _ _ (heap_setCell_same _ _ _ _ _ _ h)))⟩
theorem set4_below {n : Nat} {w0 w : World} {q o : Nat} {a b c d : Value} (h : Below n w0 w) (hq : n ≤ q) : Below n w0 (set4 w q o a b c d) := (((h.setCell (p := ⟨q, o, none⟩) hq a).setCell (p := ⟨q, o + 1, none⟩) hq b).setCell (p := ⟨q, o + 2, none⟩) hq c).setCell (p := ⟨q, o + 3, none⟩) hq d
theorem set4_size {w : World} {q o : Nat} {a b c d : Value} : (set4 w q o a b c d).heap.size = w.heap.size := by simp [set4, World.setCell]

set_option maxHeartbeats 3200000 in
theorem toPeer_any (x y z : Int) (a : Option Addr) (cap : Nat) (l : List Int) (w : World) (hm : l.length ≤ 1048576) (hr : RowAt w a l) :
    Calls Try.prog 102 #[.agg #[.int .i64 x, .int .i64 y, .int .i64 z, .slice a l.length cap]] w fun e w' => ∃ g, e = .returned (.agg #[.int .i64 x, .int .i64 y, .int .i64 z, .slice (some ⟨g, 0, none⟩) l.length l.length]) ∧ OwnS w.heap.size w' g l ∧ Below w.heap.size w w' := by
  have HR : Hid (RowAt w a l) := hr
  clear hr
  have HB3 : Hid (Below w.heap.size w (((w.alloc (.cells #[.int .i64 x, .int .i64 y, .int .i64 z, .slice a l.length cap] 108)).alloc (.cells #[.int .i64 0, .int .i64 0, .int .i64 0, .slice none 0 0] 37)).alloc (.cells #[.int .i64 x, .int .i64 y, .int .i64 z, .slice none 0 0] 37))) := (((Below.refl _ _).alloc (Nat.le_refl _) _).alloc (by simp) _).alloc (by simp; try omega) _
  go_enter Try.func102, Try.ntmps102
  go_wp2_with fail
  refine (toIntS_any _ _ l _ hm (HR.out.keep HB3.out)).mono ?_
  rintro e w1 ⟨rfl, ow1⟩
  have hw1 := ow1.bel
  have HB1 : Hid (Below w.heap.size w w1) := HB3.out.trans (hw1.mono HB3.out.size)
  have OW1 : Hid (OwnS (w.heap.size + 1 + 1 + 1) w1 (w.heap.size + 1 + 1 + 1) l) := by
    have := ow1.owns
    simp only [World.size_alloc] at this
    exact this
  have RO : Hid (w1.heap[w.heap.size + 1 + 1]? = some (.cells #[.int .i64 x, .int .i64 y, .int .i64 z, .slice none 0 0] 37 (0, 0))) := by
    refine (hw1.block _ (by simp; try omega)).trans ?_
    have := heap_alloc_new ((w.alloc (.cells #[.int .i64 x, .int .i64 y, .int .i64 z, .slice a l.length cap] 108)).alloc (.cells #[.int .i64 0, .int .i64 0, .int .i64 0, .slice none 0 0] 37)) (.cells #[.int .i64 x, .int .i64 y, .int .i64 z, .slice none 0 0] 37)
    simpa using this
  have RR : Hid (w1.heap[w.heap.size + 1]? = some (.cells #[.int .i64 0, .int .i64 0, .int .i64 0, .slice none 0 0] 37 (0, 0))) := by
    refine (hw1.block _ (by simp; try omega)).trans ?_
    rw [heap_alloc_old _ _ (by simp)]
    have := heap_alloc_new (w.alloc (.cells #[.int .i64 x, .int .i64 y, .int .i64 z, .slice a l.length cap] 108)) (.cells #[.int .i64 0, .int .i64 0, .int .i64 0, .slice none 0 0] 37)
    simpa using this
  have o0 : w1.cell? ⟨w.heap.size + 1 + 1, 0, none⟩ = some (.int .i64 x) := (cell_of_row w1 _ _ _ _ _ RO.out).trans rfl
  have o1 : w1.cell? ⟨w.heap.size + 1 + 1, 1, none⟩ = some (.int .i64 y) := (cell_of_row w1 _ _ _ _ _ RO.out).trans rfl
  have o2 : w1.cell? ⟨w.heap.size + 1 + 1, 2, none⟩ = some (.int .i64 z) := (cell_of_row w1 _ _ _ _ _ RO.out).trans rfl
  have o3 : w1.cell? ⟨w.heap.size + 1 + 1, 3, none⟩ = some (.slice none 0 0) := (cell_of_row w1 _ _ _ _ _ RO.out).trans rfl
  have p3 : w1.frozen? ⟨w.heap.size + 1 + 1, 3, none⟩ = false := frozen_of_row w1 _ _ _ _ RO.out
  have r0 : w1.cell? ⟨w.heap.size + 1, 0, none⟩ = some (.int .i64 0) := (cell_of_row w1 _ _ _ _ _ RR.out).trans rfl
  have r1 : w1.cell? ⟨w.heap.size + 1, 1, none⟩ = some (.int .i64 0) := (cell_of_row w1 _ _ _ _ _ RR.out).trans rfl
  have r2 : w1.cell? ⟨w.heap.size + 1, 2, none⟩ = some (.int .i64 0) := (cell_of_row w1 _ _ _ _ _ RR.out).trans rfl
  have r3 : w1.cell? ⟨w.heap.size + 1, 3, none⟩ = some (.slice none 0 0) := (cell_of_row w1 _ _ _ _ _ RR.out).trans rfl
  have q0 : w1.frozen? ⟨w.heap.size + 1, 0, none⟩ = false := frozen_of_row w1 _ _ _ _ RR.out
  have q1 : w1.frozen? ⟨w.heap.size + 1, 1, none⟩ = false := frozen_of_row w1 _ _ _ _ RR.out
  have q2 : w1.frozen? ⟨w.heap.size + 1, 2, none⟩ = false := frozen_of_row w1 _ _ _ _ RR.out
  have q3 : w1.frozen? ⟨w.heap.size + 1, 3, none⟩ = false := frozen_of_row w1 _ _ _ _ RR.out
  clear ow1 hw1
  go_wp2
  have HE : ∀ v : Value, Hid ((set4 (w1.setCell ⟨w.heap.size + 1 + 1, 3, none⟩ v) (w.heap.size + 1) 0 (.int .i64 x) (.int .i64 y) (.int .i64 z) v).heap[w.heap.size + 1]? = some (.cells #[.int .i64 x, .int .i64 y, .int .i64 z, v] 37 (0, 0))) := fun v => by
    have h0 : (w1.setCell ⟨w.heap.size + 1 + 1, 3, none⟩ v).heap[w.heap.size + 1]? = some (.cells #[.int .i64 0, .int .i64 0, .int .i64 0, .slice none 0 0] 37 (0, 0)) := (heap_setCell_other _ _ _ _ (by simp)).trans RR.out
    exact heap_setCell_same _ _ 3 _ _ _ (heap_setCell_same _ _ 2 _ _ _ (heap_setCell_same _ _ 1 _ _ _ (heap_setCell_same _ _ 0 _ _ _ h0)))
  refine bodyPost_ret (results_cell_row Try.results102 _ _ (w.heap.size + 1) _ _ _ _ rfl (HE _).out Try.underlying37 rfl (by kernel_rfl)) rfl ⟨w.heap.size + 1 + 1 + 1, rfl, ?_, ?_⟩
  · obtain ⟨hlo, cur, hc, ht⟩ := OW1.out
    refine ⟨by omega, cur, ?_, ht⟩
    refine (set4_block (by omega)).trans ((heap_setCell_other _ _ _ _ (by simp)).trans hc)
  · exact set4_below (HB1.out.setCell (p := ⟨w.heap.size + 1 + 1, 3, none⟩) (by simp; try omega) _) (by omega)

def d0 : Pr × Value := (pr0, .slice none 0 0)
/-- the four cells of peer i in a block -/
structure PCell (w : World) (g i : Nat) (e : Pr × Value) : Prop where
  c0 : w.cell? ⟨g, i * 4, none⟩ = some (.int .i64 e.1.id)
  c1 : w.cell? ⟨g, i * 4 + 1, none⟩ = some (.int .i64 e.1.succ)
  c2 : w.cell? ⟨g, i * 4 + 2, none⟩ = some (.int .i64 e.1.point)
  c3 : w.cell? ⟨g, i * 4 + 3, none⟩ = some e.2
/-- the value in the last cell owns the backs, among the blocks from B to T -/
def ValOk (B T : Nat) (w : World) (e : Pr × Value) : Prop :=
  ∃ ab cb, e.2 = .slice ab e.1.backs.length cb ∧ (e.1.backs.length ≤ cb ∧ (ab = none → cb = 0)) ∧ e.1.backs.length ≤ 1048576 ∧ (e.1.backs = [] ∨ ∃ gb, ab = some ⟨gb, 0, none⟩ ∧ gb < T ∧ OwnS B w gb e.1.backs)
structure OwnP (B T : Nat) (w : World) (g : Nat) (L : List (Pr × Value)) : Prop where
  lo : B ≤ g
  hi : g < T
  blk : ∃ cur, w.heap[g]? = some (.cells cur 37 (0, 0))
  cel : ∀ i, i < L.length → PCell w g i (L.getD i d0)
  val : ∀ i, i < L.length → ValOk B T w (L.getD i d0)
  sep : ∀ i j, i < j → j < L.length → ¬ (L.getD i d0).1.backs = [] → ¬ (L.getD j d0).1.backs = [] → ¬ (L.getD i d0).2.ownBlock = (L.getD j d0).2.ownBlock
theorem OwnP.lt {B T : Nat} {w : World} {g : Nat} {L : List (Pr × Value)} (h : OwnP B T w g L) : g < w.heap.size := by
  obtain ⟨cur, hc⟩ := h.blk
  exact (Array.getElem?_eq_some_iff.1 hc).1
theorem PCell.of_block {w w1 : World} {g i : Nat} {e : Pr × Value} (h : PCell w g i e) (hb : w1.heap[g]? = w.heap[g]?) : PCell w1 g i e :=
  ⟨(World.cell?_of_block (w := w) (a := ⟨g, i * 4, none⟩) hb).trans h.c0, (World.cell?_of_block (w := w) (a := ⟨g, i * 4 + 1, none⟩) hb).trans h.c1, (World.cell?_of_block (w := w) (a := ⟨g, i * 4 + 2, none⟩) hb).trans h.c2, (World.cell?_of_block (w := w) (a := ⟨g, i * 4 + 3, none⟩) hb).trans h.c3⟩
theorem OwnS.of_block {B : Nat} {w w1 : World} {g : Nat} {l : List Int} (h : OwnS B w g l) (hb : w1.heap[g]? = w.heap[g]?) : OwnS B w1 g l := by
  obtain ⟨cur, hc, ht⟩ := h.row
  exact ⟨h.lo, cur, hb.trans hc, ht⟩
theorem ValOk.blocks {B T : Nat} {w w1 : World} {e : Pr × Value} (h : ValOk B T w e) (hb : ∀ k, B ≤ k → k < T → k < w.heap.size → w1.heap[k]? = w.heap[k]?) : ValOk B T w1 e := by
  obtain ⟨ab, cb, hv, hc, hm, ho⟩ := h
  refine ⟨ab, cb, hv, hc, hm, ?_⟩
  rcases ho with ho | ⟨gb, ha, ht, os⟩
  · exact .inl ho
  · exact .inr ⟨gb, ha, ht, os.of_block (hb gb os.lo ht os.lt)⟩
theorem OwnP.blocks {B T : Nat} {w w1 : World} {g : Nat} {L : List (Pr × Value)} (h : OwnP B T w g L) (hb : ∀ k, B ≤ k → k < T → k < w.heap.size → w1.heap[k]? = w.heap[k]?) : OwnP B T w1 g L := by
  have hg := hb g h.lo h.hi h.lt
  obtain ⟨cur, hc⟩ := h.blk
  exact ⟨h.lo, h.hi, ⟨cur, hg.trans hc⟩, fun i hi => (h.cel i hi).of_block hg, fun i hi => (h.val i hi).blocks hb, h.sep⟩
theorem OwnP.keep {B T : Nat} {w w1 : World} {g : Nat} {L : List (Pr × Value)} (h : OwnP B T w g L) (hb : Below w.heap.size w w1) : OwnP B T w1 g L := h.blocks (fun k _ _ hk => hb.block k hk)
theorem ValOk.wide {B T T' : Nat} {w : World} {e : Pr × Value} (h : ValOk B T w e) (ht : T ≤ T') : ValOk B T' w e := by
  obtain ⟨ab, cb, hv, hc, hm, ho⟩ := h
  refine ⟨ab, cb, hv, hc, hm, ?_⟩
  rcases ho with ho | ⟨gb, ha, hl, os⟩
  · exact .inl ho
  · exact .inr ⟨gb, ha, by omega, os⟩
theorem OwnP.wide {B T T' : Nat} {w : World} {g : Nat} {L : List (Pr × Value)} (h : OwnP B T w g L) (ht : T ≤ T') : OwnP B T' w g L :=
  ⟨h.lo, by have := h.hi; omega, h.blk, h.cel, fun i hi => (h.val i hi).wide ht, h.sep⟩
theorem OwnP.peersAt {B T : Nat} {w : World} {g : Nat} {L : List (Pr × Value)} (h : OwnP B T w g L) : PeersAt w (some ⟨g, 0, none⟩) (L.map (·.1)) := by
  refine .inr ⟨g, 0, rfl, h.lt, fun i hi => ?_⟩
  rw [List.length_map] at hi
  have hc := h.cel i hi
  obtain ⟨ab, cb, hv, hcb, hm, ho⟩ := h.val i hi
  have e : (L.map (·.1)).getD i pr0 = (L.getD i d0).1 := by simp [List.getD_eq_getElem?_getD, List.getElem?_eq_getElem hi]
  rw [e, Nat.zero_add]
  refine ⟨hc.c0, hc.c1, hc.c2, ab, cb, by rw [hc.c3, hv], ?_, by unfold maxLen; omega, hcb⟩
  rcases ho with ho | ⟨gb, ha, _, os⟩
  · exact .inl ho
  · rw [ha]; exact os.rowAt
/-- a peer is stored, whose backs lie in a block that is new -/
theorem OwnP.store {B T : Nat} {w w1 : World} {g : Nat} {L : List (Pr × Value)} {i : Nat} {p : Pr} {gb cb : Nat} (h : OwnP B T w g L) (hT : T = w.heap.size) (hb : Below w.heap.size w w1) (hi : i < L.length) (hm : p.backs.length ≤ 1048576) (hcb : p.backs.length ≤ cb) (os : OwnS w.heap.size w1 gb p.backs) :
    OwnP B w1.heap.size (set4 w1 g (i * 4) (.int .i64 p.id) (.int .i64 p.succ) (.int .i64 p.point) (.slice (some ⟨gb, 0, none⟩) p.backs.length cb)) g (L.set i (p, .slice (some ⟨gb, 0, none⟩) p.backs.length cb)) := by
  have hlt := h.lt
  have hslo := os.lo
  have hne : ¬ gb = g := by omega
  have h1 := (h.keep hb).wide (T' := w1.heap.size) (by have := hb.size; omega)
  have hci := h1.cel i hi
  obtain ⟨cur, hc⟩ := h1.blk
  have hBw : B ≤ w.heap.size := by have := h.lo; omega
  have hb4 : ∀ k, ¬ k = g → (set4 w1 g (i * 4) (.int .i64 p.id) (.int .i64 p.succ) (.int .i64 p.point) (.slice (some ⟨gb, 0, none⟩) p.backs.length cb)).heap[k]? = w1.heap[k]? := fun k hk => set4_block hk
  have ex : ∀ j, j < L.length → ∀ e, (L.set i e).getD j d0 = if i = j then e else L.getD j d0 := fun j hj e => by
    rw [List.getD_eq_getElem?_getD, List.getElem?_set]
    by_cases hij : i = j
    · subst hij; simp [hj]
    · rw [if_neg hij, if_neg hij, List.getD_eq_getElem?_getD]
  refine ⟨h.lo, h1.hi, set4_row hc, fun j hj => ?_, fun j hj => ?_, fun j k hjk hk => ?_⟩
  · rw [List.length_set] at hj
    rw [ex j hj]
    by_cases hij : i = j
    · subst hij
      rw [if_pos rfl]
      obtain ⟨s0, s1, s2, s3⟩ := set4_in (a := .int .i64 p.id) (b := .int .i64 p.succ) (c := .int .i64 p.point) (d := .slice (some ⟨gb, 0, none⟩) p.backs.length cb) hci.c0 hci.c1 hci.c2 hci.c3
      exact ⟨s0, s1, s2, s3⟩
    · rw [if_neg hij]
      have hcj := h1.cel j hj
      exact ⟨set4_out (by omega) hcj.c0, set4_out (by omega) hcj.c1, set4_out (by omega) hcj.c2, set4_out (by omega) hcj.c3⟩
  · rw [List.length_set] at hj
    rw [ex j hj]
    by_cases hij : i = j
    · rw [if_pos hij]
      exact ⟨_, cb, rfl, ⟨hcb, fun h => by cases h⟩, hm, .inr ⟨gb, rfl, os.lt, (os.mono hBw).of_block (hb4 gb hne)⟩⟩
    · rw [if_neg hij]
      obtain ⟨ab, cb', hv, hc', hm', ho⟩ := h1.val j hj
      refine ⟨ab, cb', hv, hc', hm', ?_⟩
      rcases ho with ho | ⟨gj, ha, ht, osj⟩
      · exact .inl ho
      · refine .inr ⟨gj, ha, ht, osj.of_block (hb4 gj ?_)⟩
        intro he
        obtain ⟨cj, hcj, _⟩ := osj.row
        rw [he, hc] at hcj
        simp at hcj
  · rw [List.length_set] at hk
    rw [ex j (by omega), ex k hk]
    have old : ∀ q, q < L.length → ¬ (L.getD q d0).1.backs = [] → ¬ (L.getD q d0).2.ownBlock = some gb := fun q hq hn he => by
      obtain ⟨ab, cb', hv, _, _, ho⟩ := h.val q hq
      rcases ho with ho | ⟨gq, ha, ht, _⟩
      · exact hn ho
      · rw [hv, ha] at he
        simp [Value.ownBlock] at he
        omega
    by_cases hij : i = j
    · rw [if_pos hij, if_neg (by omega)]
      intro _ hn he
      exact old k hk hn (by rw [← he]; rfl)
    · rw [if_neg hij]
      by_cases hik : i = k
      · rw [if_pos hik]
        intro hn _ he
        exact old j (by omega) hn (by rw [he]; rfl)
      · rw [if_neg hik]
        exact h.sep j k hjk hk

theorem info_peer : (Try.prog.info? 37).map (fun i => (i.zero, i.size, i.bytes)) = some (some (.agg #[.int .i64 0, .int .i64 0, .int .i64 0, .slice none 0 0]), 4, 48) := by kernel_rfl
theorem make_peers (n : Nat) (hn : n ≤ 1048576) (w : World) :
    (Instr.makeSlice 26 (.int .i64 (n : Int)) (.int .i64 (n : Int))).run Try.prog w = .ok (.slice (some ⟨w.heap.size, 0, none⟩) n n) (w.alloc (.cells (madeCells #[.int .i64 0, .int .i64 0, .int .i64 0, .slice none 0 0] (n * 4)) 37)) := by
  obtain ⟨i0, hi, hz0, hz1, hz2⟩ := info_parts info_peer
  have := run_make (P := Try.prog) w 26 37 i0 _ Try.underlying26 hi hz0 .i64 .i64 (n : Int) (n : Int) (by omega) (by omega) (by rw [hz2]; omega) (by omega)
  rw [hz1] at this
  rw [this]
  simp
  rfl
theorem made_four (j n r : Nat) (hj : j < n) (hr : j % 4 = r) {v : Value} (hv : (#[Value.int .i64 0, .int .i64 0, .int .i64 0, .slice none 0 0] : Array Value)[r]! = v) : (madeCells #[.int .i64 0, .int .i64 0, .int .i64 0, .slice none 0 0] n)[j]? = some v := by
  have e : (madeCells #[.int .i64 0, .int .i64 0, .int .i64 0, .slice none 0 0] n)[j]? = some ((#[Value.int .i64 0, .int .i64 0, .int .i64 0, .slice none 0 0] : Array Value)[j % 4]!) := by
    unfold madeCells
    rw [Array.getElem?_map, Array.getElem?_range, if_pos hj]
    rfl
  rw [e, hr, hv]
theorem made_peers (w : World) (n : Nat) : OwnP w.heap.size (w.heap.size + 1) (w.alloc (.cells (madeCells #[.int .i64 0, .int .i64 0, .int .i64 0, .slice none 0 0] (n * 4)) 37)) w.heap.size (List.replicate n d0) := by
  have hrow := heap_alloc_new w (.cells (madeCells #[.int .i64 0, .int .i64 0, .int .i64 0, .slice none 0 0] (n * 4)) 37)
  have hg : ∀ i, i < n → (List.replicate n d0).getD i d0 = d0 := fun i hi => by simp [List.getD_eq_getElem?_getD, hi]
  refine ⟨Nat.le_refl _, by omega, ⟨_, hrow⟩, fun i hi => ?_, fun i hi => ?_, fun i j hij hj h1 => ?_⟩
  · rw [List.length_replicate] at hi
    rw [hg i hi]
    refine ⟨(cell_of_row _ _ _ _ _ _ hrow).trans ?_, (cell_of_row _ _ _ _ _ _ hrow).trans ?_, (cell_of_row _ _ _ _ _ _ hrow).trans ?_, (cell_of_row _ _ _ _ _ _ hrow).trans ?_⟩
    · exact made_four (i * 4) (n * 4) 0 (by omega) (by omega) rfl
    · exact made_four (i * 4 + 1) (n * 4) 1 (by omega) (by omega) rfl
    · exact made_four (i * 4 + 2) (n * 4) 2 (by omega) (by omega) rfl
    · exact made_four (i * 4 + 3) (n * 4) 3 (by omega) (by omega) rfl
  · rw [List.length_replicate] at hi
    rw [hg i hi]
    exact ⟨none, 0, rfl, ⟨Nat.le_refl _, fun _ => rfl⟩, by simp [d0, pr0], .inl rfl⟩
  · rw [List.length_replicate] at hj
    rw [hg i (by omega)] at h1
    exact absurd rfl h1
end Go.Proofs.Ytgmdbihdnacpjaa
namespace Go.Proofs.Ytgmdbihdnacpjaa
open Go.RowKit
set_option linter.unusedVariables false

theorem map_fst {L : List (Pr × Value)} {ps : List Pr} (hl : L.length = ps.length) (h : ∀ i, i < ps.length → (L.getD i d0).1 = ps.getD i pr0) : L.map (·.1) = ps := by
  refine List.ext_getElem (by simp [hl]) (fun i h1 h2 => ?_)
  have hi : i < L.length := by omega
  have := h i h2
  simp [List.getD_eq_getElem?_getD, List.getElem?_eq_getElem hi, List.getElem?_eq_getElem h2] at this
  simpa using this

set_option maxRecDepth 100000 in
set_option maxHeartbeats 3200000 in
theorem toPeerS_any (a : Option Addr) (cap : Nat) (ps : List Pr) (w : World) (hb : ps.length + bsum ps ≤ 1048576) (hr : PeersAt w a ps) :
    Calls Try.prog 75 #[.slice a ps.length cap] w fun e w' => e = .returned (.slice (some ⟨w.heap.size, 0, none⟩) ps.length ps.length) ∧ (∃ L, L.map (·.1) = ps ∧ OwnP w.heap.size w'.heap.size w' w.heap.size L) ∧ Below w.heap.size w w' := by
  have HR : Hid (PeersAt w a ps) := hr
  clear hr
  have hz : ps.length ≤ 1048576 := by omega
  have hmk := make_peers ps.length hz
  have OW0 : Hid (OwnP w.heap.size (w.heap.size + 1) (w.alloc (.cells (madeCells #[.int .i64 0, .int .i64 0, .int .i64 0, .slice none 0 0] (ps.length * 4)) 37)) w.heap.size (List.replicate ps.length d0)) := made_peers w ps.length
  go_enter Try.func75, Try.ntmps75
  go_wp2_with fail
  clear hmk
  go_loopw [4] (fun vi wr => ∃ (k : Nat) (L : List (Pr × Value)), k ≤ ps.length ∧ vi = .int .i64 k ∧ L.length = ps.length ∧ Hid (∀ i, i < k → (L.getD i d0).1 = ps.getD i pr0) ∧ OwnP w.heap.size wr.heap.size wr w.heap.size L ∧ Below w.heap.size w wr) (fun vi _ => ps.length - (intOf vi).toNat)
  case atStart => exact ⟨0, List.replicate ps.length d0, Nat.zero_le _, rfl, List.length_replicate, fun i hi => by omega, by have := OW0.out; simpa using this, (Below.refl _ _).alloc (Nat.le_refl _) _⟩
  case round =>
    obtain ⟨k, L, hk, rfl, hL, hs, ow, hbel⟩ := hrel
    have HOW : Hid (OwnP w.heap.size wr.heap.size wr w.heap.size L) := ow
    have HB : Hid (Below w.heap.size w wr) := hbel
    have HL : Hid (L.length = ps.length) := hL
    clear ow hbel hL OW0
    by_cases hlt : k < ps.length
    · obtain ⟨bk, off, rfl⟩ := peersAt_form HR.out (by omega)
      obtain ⟨hb1, hp1⟩ := peersAt_cell (HR.out.keep HB.out) (by omega)
      obtain ⟨c0, c1, c2, ab, cb, c3, hrb, hn, hcb⟩ := hp1 k hlt
      have hnb := bsum_mem hlt
      obtain ⟨p, hp⟩ : ∃ p, p = ps.getD k pr0 := ⟨_, rfl⟩
      have HP : Hid (p = ps.getD k pr0) := hp
      rw [← hp] at c0 c1 c2 c3 hrb hn hcb hnb
      clear hp hp1 hn hcb
      obtain ⟨x, y, z, l⟩ := p
      have hll : l.length ≤ 1048576 := by simp at hnb; omega
      have HRB : Hid (RowAt wr ab l) := hrb
      clear hrb hnb
      go_wp2_with fail
      refine (toPeer_any x y z ab cb l _ hll HRB.out).mono ?_
      rintro e w1 ⟨gb, rfl, os1, hw1⟩
      have hkL : k < L.length := by rw [HL.out]; exact hlt
      have ow1 := HOW.out.keep hw1
      obtain ⟨e0, e1, e2, e3⟩ := ow1.cel k hkL
      obtain ⟨cur, hcur⟩ := ow1.blk
      have f0 : w1.frozen? ⟨w.heap.size, k * 4, none⟩ = false := frozen_of_row w1 _ _ _ _ hcur
      have f1 : w1.frozen? ⟨w.heap.size, k * 4 + 1, none⟩ = false := frozen_of_row w1 _ _ _ _ hcur
      have f2 : w1.frozen? ⟨w.heap.size, k * 4 + 2, none⟩ = false := frozen_of_row w1 _ _ _ _ hcur
      have f3 : w1.frozen? ⟨w.heap.size, k * 4 + 3, none⟩ = false := frozen_of_row w1 _ _ _ _ hcur
      have OWN : Hid (OwnP w.heap.size w1.heap.size (set4 w1 w.heap.size (k * 4) (.int .i64 x) (.int .i64 y) (.int .i64 z) (.slice (some ⟨gb, 0, none⟩) l.length l.length)) w.heap.size (L.set k (⟨x, y, z, l⟩, .slice (some ⟨gb, 0, none⟩) l.length l.length))) :=
        HOW.out.store (p := ⟨x, y, z, l⟩) rfl hw1 hkL hll (Nat.le_refl _) os1
      have HB1 : Hid (Below w.heap.size w (set4 w1 w.heap.size (k * 4) (.int .i64 x) (.int .i64 y) (.int .i64 z) (.slice (some ⟨gb, 0, none⟩) l.length l.length))) := set4_below (belt HB.out hw1) (Nat.le_refl _)
      have HS1 : Hid (∀ i, i < k + 1 → ((L.set k (⟨x, y, z, l⟩, .slice (some ⟨gb, 0, none⟩) l.length l.length)).getD i d0).1 = ps.getD i pr0) := fun i hi => by
        rw [List.getD_eq_getElem?_getD, List.getElem?_set]
        by_cases hik : k = i
        · subst hik; rw [if_pos rfl, if_pos hkL]; exact HP.out
        · rw [if_neg hik, ← List.getD_eq_getElem?_getD]; exact hs.out i (by omega)
      generalize (L.getD k d0).1.id = g0 at e0
      generalize (L.getD k d0).1.succ = g1 at e1
      generalize (L.getD k d0).1.point = g2 at e2
      generalize (L.getD k d0).2 = g3 at e3
      clear os1 hcur ow1
      go_wp2
      go_roundw
      case rel => exact ⟨k + 1, _, by omega, by go_num, by rw [List.length_set]; exact HL.out, HS1, by have := OWN.out; unfold set4 at this; simpa [World.setCell] using this, HB1.out⟩
      case measure => simp [intOf]; omega
    · have hke : k = ps.length := by omega
      subst hke
      go_wp2
      go_ret
      exact ⟨rfl, ⟨L, map_fst HL.out hs.out, HOW.out⟩, HB.out⟩

theorem OwnP.mono {B B' T : Nat} {w : World} {g : Nat} {L : List (Pr × Value)} (h : OwnP B T w g L) (hb : B' ≤ B) : OwnP B' T w g L := by
  refine ⟨Nat.le_trans hb h.lo, h.hi, h.blk, h.cel, fun i hi => ?_, h.sep⟩
  obtain ⟨ab, cb, hv, hc, hm, ho⟩ := h.val i hi
  refine ⟨ab, cb, hv, hc, hm, ?_⟩
  rcases ho with ho | ⟨gb, ha, ht, os⟩
  · exact .inl ho
  · exact .inr ⟨gb, ha, ht, os.mono hb⟩

theorem OwnP.far3 {B T : Nat} {w : World} {g q1 q2 : Nat} {L : List (Pr × Value)} (h : OwnP B T w g L) (h1 : q1 < B) (h2 : q2 < B) (u0 u1 u2 u3 : Value) : OwnP B T ((((w.setCell ⟨q1, 2, none⟩ u0).setCell ⟨q2, 0, none⟩ u1).setCell ⟨q2, 1, none⟩ u2).setCell ⟨q2, 2, none⟩ u3) g L :=
  h.blocks (fun k hk _ _ => by
    rw [heap_setCell_other _ _ _ _ (by simp; omega), heap_setCell_other _ _ _ _ (by simp; omega), heap_setCell_other _ _ _ _ (by simp; omega), heap_setCell_other _ _ _ _ (by simp; omega)])

set_option maxRecDepth 100000 in
set_option maxHeartbeats 3200000 in
theorem toPeers_any (b d : Int) (a : Option Addr) (cap : Nat) (ps : List Pr) (w : World) (hb : ps.length + bsum ps ≤ 1048576) (hr : PeersAt w a ps) :
    Calls Try.prog 23 #[.agg #[.int .i64 b, .int .i64 d, .slice a ps.length cap]] w fun e w' => ∃ g, e = .returned (.agg #[.int .i64 b, .int .i64 d, .slice (some ⟨g, 0, none⟩) ps.length ps.length]) ∧ (∃ L, L.map (·.1) = ps ∧ OwnP w.heap.size w'.heap.size w' g L) ∧ Below w.heap.size w w' := by
  have HR : Hid (PeersAt w a ps) := hr
  clear hr
  go_enter Try.func23, Try.ntmps23
  go_wp2_with fail
  refine (toSpace_any _ _ _).mono ?_
  rintro e w1 ⟨rfl, hw1⟩
  have HB1 : Hid (Below w.heap.size w w1) := (((( Below.refl _ _).alloc (Nat.le_refl _) _).alloc (by simp) _).alloc (by simp; try omega) _).trans (hw1.mono (by simp; try omega))
  have hs1 : w.heap.size + 1 + 1 < w1.heap.size := by have := hw1.size; simp at this; omega
  have RB : Hid (w1.heap[w.heap.size]? = some (.cells #[.int .i64 b, .int .i64 d, .slice a ps.length cap] 46 (0, 0))) := by
    refine (hw1.block _ (by simp; try omega)).trans ?_
    rw [heap_alloc_old _ _ (by simp; try omega), heap_alloc_old _ _ (by simp; try omega)]
    exact heap_alloc_new _ _
  have RO : Hid (w1.heap[w.heap.size + 1 + 1]? = some (.cells #[.int .i64 0, .int .i64 0, .slice none 0 0] 28 (0, 0))) := by
    refine (hw1.block _ (by simp; try omega)).trans ?_
    have := heap_alloc_new ((w.alloc (.cells #[.int .i64 b, .int .i64 d, .slice a ps.length cap] 46)).alloc (.cells #[.int .i64 0, .int .i64 0, .slice none 0 0] 28)) (.cells #[.int .i64 0, .int .i64 0, .slice none 0 0] 28)
    simpa using this
  have RR : Hid (w1.heap[w.heap.size + 1]? = some (.cells #[.int .i64 0, .int .i64 0, .slice none 0 0] 28 (0, 0))) := by
    refine (hw1.block _ (by simp; try omega)).trans ?_
    rw [heap_alloc_old _ _ (by simp)]
    have := heap_alloc_new (w.alloc (.cells #[.int .i64 b, .int .i64 d, .slice a ps.length cap] 46)) (.cells #[.int .i64 0, .int .i64 0, .slice none 0 0] 28)
    simpa using this
  have o0 : w1.cell? ⟨w.heap.size + 1 + 1, 0, none⟩ = some (.int .i64 0) := (cell_of_row w1 _ _ _ _ _ RO.out).trans rfl
  have o1 : w1.cell? ⟨w.heap.size + 1 + 1, 1, none⟩ = some (.int .i64 0) := (cell_of_row w1 _ _ _ _ _ RO.out).trans rfl
  have p0 : w1.frozen? ⟨w.heap.size + 1 + 1, 0, none⟩ = false := frozen_of_row w1 _ _ _ _ RO.out
  have p1 : w1.frozen? ⟨w.heap.size + 1 + 1, 1, none⟩ = false := frozen_of_row w1 _ _ _ _ RO.out
  have b2 : w1.cell? ⟨w.heap.size, 2, none⟩ = some (.slice a ps.length cap) := (cell_of_row w1 _ _ _ _ _ RB.out).trans rfl
  clear hw1
  go_wp2_with fail
  obtain ⟨W2, hW2⟩ : ∃ W2, (w1.setCell ⟨w.heap.size + 1 + 1, 0, none⟩ (.int .i64 b)).setCell ⟨w.heap.size + 1 + 1, 1, none⟩ (.int .i64 d) = W2 := ⟨_, rfl⟩
  have hsz2 : W2.heap.size = w1.heap.size := by rw [← hW2]; simp [World.setCell]
  have HB2 : Hid (Below w.heap.size w W2) := by rw [← hW2]; exact (HB1.out.setCell (p := ⟨w.heap.size + 1 + 1, 0, none⟩) (by simp; try omega) _).setCell (p := ⟨w.heap.size + 1 + 1, 1, none⟩) (by simp; try omega) _
  have RO2 : Hid (W2.heap[w.heap.size + 1 + 1]? = some (.cells #[.int .i64 b, .int .i64 d, .slice none 0 0] 28 (0, 0))) := by rw [← hW2]; exact heap_setCell_same _ _ 1 _ _ _ (heap_setCell_same _ _ 0 _ _ _ RO.out)
  have RR2 : Hid (W2.heap[w.heap.size + 1]? = some (.cells #[.int .i64 0, .int .i64 0, .slice none 0 0] 28 (0, 0))) := by
    rw [← hW2, heap_setCell_other _ _ _ _ (by simp), heap_setCell_other _ _ _ _ (by simp)]
    exact RR.out
  rw [hW2]
  have hs2 : w.heap.size + 1 + 1 < W2.heap.size := by omega
  clear hW2 o0 o1 p0 p1 b2 hsz2
  refine (toPeerS_any a cap ps _ hb (HR.out.keep HB2.out)).mono ?_
  rintro e w3 ⟨rfl, ⟨L, hL, ow3⟩, hw3⟩
  have HB3 : Hid (Below w.heap.size w w3) := belt HB2.out hw3
  have RO3 : Hid (w3.heap[w.heap.size + 1 + 1]? = some (.cells #[.int .i64 b, .int .i64 d, .slice none 0 0] 28 (0, 0))) := (hw3.block _ (by omega)).trans RO2.out
  have RR3 : Hid (w3.heap[w.heap.size + 1]? = some (.cells #[.int .i64 0, .int .i64 0, .slice none 0 0] 28 (0, 0))) := (hw3.block _ (by omega)).trans RR2.out
  have OW3 : Hid (OwnP W2.heap.size w3.heap.size w3 W2.heap.size L) := ow3
  have o0 : w3.cell? ⟨w.heap.size + 1 + 1, 0, none⟩ = some (.int .i64 b) := (cell_of_row w3 _ _ _ _ _ RO3.out).trans rfl
  have o1 : w3.cell? ⟨w.heap.size + 1 + 1, 1, none⟩ = some (.int .i64 d) := (cell_of_row w3 _ _ _ _ _ RO3.out).trans rfl
  have o2 : w3.cell? ⟨w.heap.size + 1 + 1, 2, none⟩ = some (.slice none 0 0) := (cell_of_row w3 _ _ _ _ _ RO3.out).trans rfl
  have p2 : w3.frozen? ⟨w.heap.size + 1 + 1, 2, none⟩ = false := frozen_of_row w3 _ _ _ _ RO3.out
  have r0 : w3.cell? ⟨w.heap.size + 1, 0, none⟩ = some (.int .i64 0) := (cell_of_row w3 _ _ _ _ _ RR3.out).trans rfl
  have r1 : w3.cell? ⟨w.heap.size + 1, 1, none⟩ = some (.int .i64 0) := (cell_of_row w3 _ _ _ _ _ RR3.out).trans rfl
  have r2 : w3.cell? ⟨w.heap.size + 1, 2, none⟩ = some (.slice none 0 0) := (cell_of_row w3 _ _ _ _ _ RR3.out).trans rfl
  have q0 : w3.frozen? ⟨w.heap.size + 1, 0, none⟩ = false := frozen_of_row w3 _ _ _ _ RR3.out
  have q1 : w3.frozen? ⟨w.heap.size + 1, 1, none⟩ = false := frozen_of_row w3 _ _ _ _ RR3.out
  have q2 : w3.frozen? ⟨w.heap.size + 1, 2, none⟩ = false := frozen_of_row w3 _ _ _ _ RR3.out
  have HLL : Hid (L.map (·.1) = ps) := hL
  clear ow3 hw3 hL
  go_wp2
  have HE : ∀ v : Value, Hid (((((w3.setCell ⟨w.heap.size + 1 + 1, 2, none⟩ v).setCell ⟨w.heap.size + 1, 0, none⟩ (.int .i64 b)).setCell ⟨w.heap.size + 1, 1, none⟩ (.int .i64 d)).setCell ⟨w.heap.size + 1, 2, none⟩ v).heap[w.heap.size + 1]? = some (.cells #[.int .i64 b, .int .i64 d, v] 28 (0, 0))) := fun v => by
    have h0 : (w3.setCell ⟨w.heap.size + 1 + 1, 2, none⟩ v).heap[w.heap.size + 1]? = some (.cells #[.int .i64 0, .int .i64 0, .slice none 0 0] 28 (0, 0)) := (heap_setCell_other _ _ _ _ (by simp)).trans RR3.out
    exact heap_setCell_same _ _ 2 _ _ _ (heap_setCell_same _ _ 1 _ _ _ (heap_setCell_same _ _ 0 _ _ _ h0))
  refine bodyPost_ret (results_cell_row Try.results23 _ _ (w.heap.size + 1) _ _ _ _ rfl (HE _).out Try.underlying28 rfl (by kernel_rfl)) rfl ⟨W2.heap.size, rfl, ⟨L, HLL.out, ?_⟩, ?_⟩
  · exact ((OW3.out.far3 (q1 := w.heap.size + 1 + 1) (q2 := w.heap.size + 1) (by omega) (by omega) _ _ _ _).mono (by omega)).wide (by simp [World.setCell])
  · exact (((HB3.out.setCell (p := ⟨w.heap.size + 1 + 1, 2, none⟩) (by simp; try omega) _).setCell (p := ⟨w.heap.size + 1, 0, none⟩) (by simp) _).setCell (p := ⟨w.heap.size + 1, 1, none⟩) (by simp) _).setCell (p := ⟨w.heap.size + 1, 2, none⟩) (by simp) _
end Go.Proofs.Ytgmdbihdnacpjaa
namespace Go.Proofs.Ytgmdbihdnacpjaa
open Go.RowKit
set_option linter.unusedVariables false

/-- nothing but blocks from B to T has turned -/
structure Within (B T : Nat) (w w' : World) : Prop where
  os : w'.os = w.os
  tape : w'.tape = w.tape
  output : w'.output = w.output
  size : w'.heap.size = w.heap.size
  block : ∀ k, ¬ (B ≤ k ∧ k < T) → w'.heap[k]? = w.heap[k]?
theorem Within.refl (B T : Nat) (w : World) : Within B T w w := ⟨rfl, rfl, rfl, rfl, fun _ _ => rfl⟩
theorem Within.put {B T g : Nat} {w w' : World} (h : Within B T w w') (h1 : B ≤ g) (h2 : g < T) (i : Nat) (v : Value) : Within B T w (w'.setCell ⟨g, i, none⟩ v) :=
  ⟨h.os, h.tape, h.output, by simpa [World.setCell] using h.size, fun k hk => (heap_setCell_other _ _ _ _ (by simp; omega)).trans (h.block k hk)⟩
theorem Within.only {B T g : Nat} {w w1 w2 : World} (h : Within B T w w1) (ho : Only g w1 w2) (h1 : B ≤ g) (h2 : g < T) : Within B T w w2 :=
  ⟨ho.os.trans h.os, ho.tape.trans h.tape, ho.output.trans h.output, ho.size.trans h.size, fun k hk => (ho.block k (by omega)).trans (h.block k hk)⟩
theorem Within.below {B T n : Nat} {w0 w w' : World} (h : Within B T w w') (hb : Below n w0 w) (hn : n ≤ B) : Below n w0 w' :=
  hb.trans ⟨h.os, h.tape, h.output, by rw [h.size]; exact Nat.le_refl _, fun k hk => h.block k (by omega)⟩
theorem getD_set {L : List (Pr × Value)} {i j : Nat} {e : Pr × Value} (hj : j < L.length) : (L.set i e).getD j d0 = if i = j then e else L.getD j d0 := by
  rw [List.getD_eq_getElem?_getD, List.getElem?_set]
  by_cases hij : i = j
  · subst hij; simp [hj]
  · rw [if_neg hij, if_neg hij, List.getD_eq_getElem?_getD]
theorem OwnS.ne_peer {B : Nat} {w : World} {gb g : Nat} {l : List Int} {cur : Array Value} (h : OwnS B w gb l) (hc : w.heap[g]? = some (.cells cur 37 (0, 0))) : ¬ gb = g := by
  intro he
  obtain ⟨cj, hcj, _⟩ := h.row
  rw [he, hc] at hcj
  simp at hcj
/-- the three numbers of a peer are written -/
theorem OwnP.head {B T : Nat} {w : World} {g : Nat} {L : List (Pr × Value)} (h : OwnP B T w g L) {i : Nat} (hi : i < L.length) (x y z : Int) :
    OwnP B T (((w.setCell ⟨g, i * 4, none⟩ (.int .i64 x)).setCell ⟨g, i * 4 + 1, none⟩ (.int .i64 y)).setCell ⟨g, i * 4 + 2, none⟩ (.int .i64 z)) g (L.set i (⟨x, y, z, (L.getD i d0).1.backs⟩, (L.getD i d0).2)) := by
  obtain ⟨cur, hc⟩ := h.blk
  have hb4 : ∀ k, ¬ k = g → (((w.setCell ⟨g, i * 4, none⟩ (.int .i64 x)).setCell ⟨g, i * 4 + 1, none⟩ (.int .i64 y)).setCell ⟨g, i * 4 + 2, none⟩ (.int .i64 z)).heap[k]? = w.heap[k]? := fun k hk => by
    rw [heap_setCell_other _ _ _ _ (by simpa using hk), heap_setCell_other _ _ _ _ (by simpa using hk), heap_setCell_other _ _ _ _ (by simpa using hk)]
  have hcell : ∀ j u, w.cell? ⟨g, j, none⟩ = some u → (((w.setCell ⟨g, i * 4, none⟩ (.int .i64 x)).setCell ⟨g, i * 4 + 1, none⟩ (.int .i64 y)).setCell ⟨g, i * 4 + 2, none⟩ (.int .i64 z)).cell? ⟨g, j, none⟩ = some (if j = i * 4 + 2 then .int .i64 z else if j = i * 4 + 1 then .int .i64 y else if j = i * 4 then .int .i64 x else u) := fun j u hu =>
    cell_set (j := i * 4 + 2) (cell_set (j := i * 4 + 1) (cell_set (j := i * 4) hu))
  refine ⟨h.lo, h.hi, ⟨_, heap_setCell_same _ _ _ _ _ _ (heap_setCell_same _ _ _ _ _ _ (heap_setCell_same _ _ _ _ _ _ hc))⟩, fun j hj => ?_, fun j hj => ?_, fun j k hjk hk => ?_⟩
  · rw [List.length_set] at hj
    rw [getD_set hj]
    have hcj := h.cel j hj
    have k0 := hcell _ _ hcj.c0
    have k1 := hcell _ _ hcj.c1
    have k2 := hcell _ _ hcj.c2
    have k3 := hcell _ _ hcj.c3
    by_cases hij : i = j
    · subst hij
      rw [if_pos rfl]
      rw [if_neg (by omega), if_neg (by omega), if_pos rfl] at k0
      rw [if_neg (by omega), if_pos rfl] at k1
      rw [if_pos rfl] at k2
      rw [if_neg (by omega), if_neg (by omega), if_neg (by omega)] at k3
      exact ⟨k0, k1, k2, k3⟩
    · rw [if_neg hij]
      rw [if_neg (by omega), if_neg (by omega), if_neg (by omega)] at k0 k1 k2 k3
      exact ⟨k0, k1, k2, k3⟩
  · rw [List.length_set] at hj
    rw [getD_set hj]
    have old : ∀ q, q < L.length → ValOk B T (((w.setCell ⟨g, i * 4, none⟩ (.int .i64 x)).setCell ⟨g, i * 4 + 1, none⟩ (.int .i64 y)).setCell ⟨g, i * 4 + 2, none⟩ (.int .i64 z)) (L.getD q d0) := fun q hq => by
      obtain ⟨ab, cb, hv, hcb, hm, ho⟩ := h.val q hq
      refine ⟨ab, cb, hv, hcb, hm, ?_⟩
      rcases ho with ho | ⟨gb, ha, ht, os⟩
      · exact .inl ho
      · exact .inr ⟨gb, ha, ht, os.of_block (hb4 gb (os.ne_peer hc))⟩
    by_cases hij : i = j
    · rw [if_pos hij]; exact old i hi
    · rw [if_neg hij]; exact old j hj
  · rw [List.length_set] at hk
    rw [getD_set (by omega), getD_set hk]
    by_cases hij : i = j
    · rw [if_pos hij, if_neg (by omega)]
      subst hij
      exact h.sep i k hjk hk
    · rw [if_neg hij]
      by_cases hik : i = k
      · rw [if_pos hik]
        subst hik
        exact h.sep j i hjk hk
      · rw [if_neg hik]
        exact h.sep j k hjk hk
/-- the backs of one peer have turned in their own block -/
theorem OwnP.tail {B T : Nat} {w w1 : World} {g gb : Nat} {L : List (Pr × Value)} (h : OwnP B T w g L) {i : Nat} (hi : i < L.length) {l : List Int} (hl : l.length = (L.getD i d0).1.backs.length) (hn : ¬ (L.getD i d0).1.backs = [])
    (hv : (L.getD i d0).2.ownBlock = some gb) (os : OwnS B w1 gb l) (ho : Only gb w w1) : OwnP B T w1 g (L.set i (⟨(L.getD i d0).1.id, (L.getD i d0).1.succ, (L.getD i d0).1.point, l⟩, (L.getD i d0).2)) := by
  obtain ⟨cur, hc⟩ := h.blk
  have hne : ¬ g = gb := by
    obtain ⟨ab, cb, hvi, _, _, hoi⟩ := h.val i hi
    rcases hoi with hoi | ⟨gi, ha, _, osi⟩
    · exact absurd hoi hn
    · rw [hvi, ha] at hv
      simp [Value.ownBlock] at hv
      subst hv
      exact fun e => osi.ne_peer hc e.symm
  have hg : w1.heap[g]? = w.heap[g]? := ho.block g hne
  have hln : ¬ l = [] := fun e => hn (by rw [e] at hl; exact List.length_eq_zero_iff.1 hl.symm)
  refine ⟨h.lo, h.hi, ⟨cur, hg.trans hc⟩, fun j hj => ?_, fun j hj => ?_, fun j k hjk hk => ?_⟩
  · rw [List.length_set] at hj
    rw [getD_set hj]
    have hcj := (h.cel j hj).of_block hg
    by_cases hij : i = j
    · subst hij; rw [if_pos rfl]; exact ⟨hcj.c0, hcj.c1, hcj.c2, hcj.c3⟩
    · rw [if_neg hij]; exact hcj
  · rw [List.length_set] at hj
    rw [getD_set hj]
    by_cases hij : i = j
    · subst hij
      rw [if_pos rfl]
      obtain ⟨ab, cb, hvi, hcb, hm, hoi⟩ := h.val i hi
      rcases hoi with hoi | ⟨gi, ha, ht, osi⟩
      · exact absurd hoi hn
      · have e : gi = gb := by rw [hvi, ha] at hv; simpa [Value.ownBlock] using hv
        subst e
        exact ⟨ab, cb, by rw [hvi, hl], by rw [hl]; exact hcb, by rw [hl]; exact hm, .inr ⟨gi, ha, ht, os⟩⟩
    · rw [if_neg hij]
      obtain ⟨ab, cb, hvj, hcb, hm, hoj⟩ := h.val j hj
      refine ⟨ab, cb, hvj, hcb, hm, ?_⟩
      by_cases hbn : (L.getD j d0).1.backs = []
      · exact .inl hbn
      · rcases hoj with hoj | ⟨gj, ha, ht, osj⟩
        · exact .inl hoj
        · refine .inr ⟨gj, ha, ht, osj.of_block (ho.block gj ?_)⟩
          intro e
          have hvj2 : (L.getD j d0).2.ownBlock = some gb := by rw [hvj, ha, e]; rfl
          by_cases hlt : i < j
          · exact h.sep i j hlt hj hn hbn (hv.trans hvj2.symm)
          · exact h.sep j i (by omega) hi hbn hn (hvj2.trans hv.symm)
  · rw [List.length_set] at hk
    rw [getD_set (by omega), getD_set hk]
    by_cases hij : i = j
    · rw [if_pos hij, if_neg (by omega)]
      subst hij
      exact fun _ h2 => h.sep i k hjk hk hn h2
    · rw [if_neg hij]
      by_cases hik : i = k
      · rw [if_pos hik]
        subst hik
        exact fun h1 _ => h.sep j i hjk hk h1 hn
      · rw [if_neg hik]
        exact h.sep j k hjk hk
end Go.Proofs.Ytgmdbihdnacpjaa
namespace Go.Proofs.Ytgmdbihdnacpjaa
open Go.RowKit
set_option linter.unusedVariables false

theorem Within.trans {B T : Nat} {w w1 w2 : World} (h : Within B T w w1) (k : Within B T w1 w2) : Within B T w w2 :=
  ⟨k.os.trans h.os, k.tape.trans h.tape, k.output.trans h.output, k.size.trans h.size, fun i hi => (k.block i hi).trans (h.block i hi)⟩
theorem markIntS_empty (a : Option Addr) (cap : Nat) (k0 : Int) (w : World) :
    Calls Try.prog 30 #[.slice a 0 cap, .int .i64 k0] w fun e w' => e = .returned (.int .i64 k0) ∧ w' = w := by
  go_enter Try.func30, Try.ntmps30
  go_wp2
  go_loop [1, 5] (fun k i => i = .int .i64 0 ∧ k = .int .i64 k0) (fun _ i => 0)
  case atStart => exact ⟨rfl, rfl⟩
  case round =>
    obtain ⟨rfl, rfl⟩ := hrel
    go_wp2
    go_ret
    exact ⟨rfl, rfl⟩
theorem mrk_range (k0 : Int) (zs : List Int) : mrk k0 zs zs.length = (List.range zs.length).map (fun j : Nat => k0 + (j : Int)) := by simp [mrk]
/-- the backs of one peer are marked -/
theorem markVal_any (B T g : Nat) (L : List (Pr × Value)) (i : Nat) (k0 : Int) (w : World) (h : OwnP B T w g L) (hi : i < L.length) (k1 : 0 ≤ k0) (k2 : k0 ≤ 1099511627776) :
    Calls Try.prog 30 #[(L.getD i d0).2, .int .i64 k0] w fun e w' => e = .returned (.int .i64 (k0 + ((L.getD i d0).1.backs.length : Int))) ∧
      OwnP B T w' g (L.set i (⟨(L.getD i d0).1.id, (L.getD i d0).1.succ, (L.getD i d0).1.point, (List.range (L.getD i d0).1.backs.length).map (fun j : Nat => k0 + (j : Int))⟩, (L.getD i d0).2)) ∧ Within B T w w' := by
  obtain ⟨ab, cb, hv, hcb, hm, ho⟩ := h.val i hi
  by_cases hn : (L.getD i d0).1.backs = []
  · have e0 : (L.getD i d0).1.backs.length = 0 := by rw [hn]; rfl
    have es : L.set i (⟨(L.getD i d0).1.id, (L.getD i d0).1.succ, (L.getD i d0).1.point, (List.range (L.getD i d0).1.backs.length).map (fun j : Nat => k0 + (j : Int))⟩, (L.getD i d0).2) = L := by
      rw [e0]
      have : (⟨(L.getD i d0).1.id, (L.getD i d0).1.succ, (L.getD i d0).1.point, (List.range 0).map (fun j : Nat => k0 + (j : Int))⟩ : Pr) = (L.getD i d0).1 := by
        have hb := hn
        generalize (L.getD i d0).1 = p at *
        obtain ⟨x, y, z, l⟩ := p
        simp at hb
        subst hb
        rfl
      rw [this]
      have e2 : ((L.getD i d0).1, (L.getD i d0).2) = L.getD i d0 := rfl
      rw [e2, List.getD_eq_getElem?_getD, List.getElem?_eq_getElem hi]
      simp
    rw [es, hv, e0]
    refine (markIntS_empty ab cb k0 w).mono ?_
    rintro e w1 ⟨he, hw⟩
    subst hw
    exact ⟨by rw [he]; simp, h, Within.refl _ _ _⟩
  · rcases ho with ho | ⟨gb, ha, ht, os⟩
    · exact absurd ho hn
    · have C := markOwn_any B gb cb (L.getD i d0).1.backs k0 w hm k1 k2 os
      have hob : (L.getD i d0).2.ownBlock = some gb := by rw [hv, ha]; rfl
      rw [hv, ha]
      refine C.mono ?_
      rintro e w1 ⟨he, os1, on1⟩
      rw [mrk_range] at os1
      have := h.tail hi (l := (List.range (L.getD i d0).1.backs.length).map (fun j : Nat => k0 + (j : Int))) (by simp) hn hob os1 on1
      rw [hv, ha] at this
      exact ⟨he, this, (Within.refl _ _ _).only on1 os.lo ht⟩

set_option maxRecDepth 100000 in
set_option maxHeartbeats 6400000 in
theorem markPeerS_any (B T g cap : Nat) (L : List (Pr × Value)) (k0 : Int) (w : World) (hb : L.length + bsum (L.map (·.1)) ≤ 1048576) (k1 : 0 ≤ k0) (k2 : k0 ≤ 1000000000000) (h : OwnP B T w g L) :
    Calls Try.prog 82 #[.slice (some ⟨g, 0, none⟩) L.length cap, .int .i64 k0] w fun e w' => e = .returned (.int .i64 (kAt k0 (L.map (·.1)) L.length)) ∧ Within B T w w' ∧ ∃ L', L'.map (·.1) = mrkP k0 (L.map (·.1)) ∧ OwnP B T w' g L' := by
  have hz : L.length ≤ 1048576 := by omega
  have HO : Hid (OwnP B T w g L) := h
  clear h
  obtain ⟨ps, hps⟩ : ∃ ps, ps = L.map (·.1) := ⟨_, rfl⟩
  have hpl : ps.length = L.length := by rw [hps]; simp
  have HPL : Hid (ps.length = L.length) := hpl
  have HPG : Hid (∀ i, i < L.length → ps.getD i pr0 = (L.getD i d0).1) := fun i hi => by rw [hps]; simp [List.getD_eq_getElem?_getD, List.getElem?_eq_getElem hi]
  rw [← hps] at hb ⊢
  have hb' : ps.length + bsum ps ≤ 1048576 := by rw [hpl]; exact hb
  have HBB : Hid (ps.length + bsum ps ≤ 1048576) := hb'
  clear hps hpl hb'
  go_enter Try.func82, Try.ntmps82
  go_wp2_with fail
  go_loopw [1, 5] (fun vk vi wr => ∃ (i : Nat) (M : List (Pr × Value)), i ≤ L.length ∧ vi = .int .i64 i ∧ vk = .int .i64 (kAt k0 ps i) ∧ M.length = L.length ∧ Hid (∀ j, j < i → (M.getD j d0).1 = (mrkP k0 ps).getD j pr0) ∧ Hid (∀ j, i ≤ j → j < L.length → (M.getD j d0).1 = ps.getD j pr0) ∧ OwnP B T wr g M ∧ Within B T w wr) (fun _ vi _ => L.length - (intOf vi).toNat)
  case atStart => exact ⟨0, L, Nat.zero_le _, rfl, by simp [kAt, bsum], rfl, fun j hj => by omega, fun j _ hj => (HPG.out j hj).symm, HO.out, Within.refl _ _ _⟩
  case round =>
    obtain ⟨i, M, hi, rfl, rfl, hM, hs1, hs2, ow, wi⟩ := hrel
    have HML : Hid (M.length = L.length) := hM
    have HOW : Hid (OwnP B T wr g M) := ow
    have HW : Hid (Within B T w wr) := wi
    clear hM ow wi
    by_cases hlt : i < L.length
    · have hiM : i < M.length := by rw [HML.out]; exact hlt
      have hip : i < ps.length := by rw [HPL.out]; exact hlt
      have hbk : Hid ((M.getD i d0).1.backs.length = (ps.getD i pr0).backs.length) := by
        show (M.getD i d0).1.backs.length = _
        rw [hs2.out i (Nat.le_refl _) hlt]
      have hbd := kAt_bd (k := k0) (Nat.le_of_lt hip) HBB.out
      have HS : Hid (kAt k0 ps (i + 1) = kAt k0 ps i + 3 + ((ps.getD i pr0).backs.length : Int)) := kAt_succ hip
      have hmk := mrkP_get ps k0 i hip
      have HMK : Hid ((mrkP k0 ps).getD i pr0 = ⟨kAt k0 ps i, kAt k0 ps i + 1, kAt k0 ps i + 2, (List.range (ps.getD i pr0).backs.length).map (fun j : Nat => kAt k0 ps i + 3 + (j : Int))⟩) := hmk
      clear hmk
      obtain ⟨u1, u2⟩ := hbd
      have hnb := bsum_mem hip
      have hnb2 : (ps.getD i pr0).backs.length ≤ 1048576 := by have := HBB.out; omega
      have HNB : Hid ((ps.getD i pr0).backs.length ≤ 1048576) := hnb2
      clear hnb hnb2
      obtain ⟨K, hK⟩ : ∃ K, K = kAt k0 ps i := ⟨_, rfl⟩
      rw [← hK] at u1 u2 HS HMK ⊢
      clear hK
      obtain ⟨cur, hcur⟩ := HOW.out.blk
      obtain ⟨c0, c1, c2, c3⟩ := HOW.out.cel i hiM
      have f0 : wr.frozen? ⟨g, i * 4, none⟩ = false := frozen_of_row wr _ _ _ _ hcur
      have f1 : wr.frozen? ⟨g, i * 4 + 1, none⟩ = false := frozen_of_row wr _ _ _ _ hcur
      have f2 : wr.frozen? ⟨g, i * 4 + 2, none⟩ = false := frozen_of_row wr _ _ _ _ hcur
      clear hcur
      have ow1 := HOW.out.head hiM K (K + 1) (K + 2)
      have wi1 := ((HW.out.put HOW.out.lo HOW.out.hi (i * 4) (.int .i64 K)).put HOW.out.lo HOW.out.hi (i * 4 + 1) (.int .i64 (K + 1))).put HOW.out.lo HOW.out.hi (i * 4 + 2) (.int .i64 (K + 2))
      have hg1 : (M.set i (⟨K, K + 1, K + 2, (M.getD i d0).1.backs⟩, (M.getD i d0).2)).getD i d0 = (⟨K, K + 1, K + 2, (M.getD i d0).1.backs⟩, (M.getD i d0).2) := by rw [getD_set hiM, if_pos rfl]
      have C := markVal_any B T g _ i (K + 3) _ ow1 (by rw [List.length_set]; exact hiM) (by omega) (by omega)
      rw [hg1] at C
      simp only [List.set_set] at C
      rw [hbk.out] at C
      obtain ⟨ab, cb, hv, hv1, hv2, hv3⟩ := HOW.out.val i hiM
      clear hv1 hv2 hv3
      rw [hbk.out] at hv
      have e2 : K + 1 + 1 = K + 2 := by omega
      have e3 : K + 2 + 1 = K + 3 := by omega
      have WI1 : Hid (Within B T w (((wr.setCell ⟨g, i * 4, none⟩ (.int .i64 K)).setCell ⟨g, i * 4 + 1, none⟩ (.int .i64 (K + 1))).setCell ⟨g, i * 4 + 2, none⟩ (.int .i64 (K + 2)))) := wi1
      clear wi1 ow1 hg1
      rw [hv] at C c3
      have HV : Hid ((M.getD i d0).2 = .slice ab (ps.getD i pr0).backs.length cb) := hv
      clear hv
      generalize (M.getD i d0).1.id = g0 at c0
      generalize (M.getD i d0).1.succ = g1 at c1
      generalize (M.getD i d0).1.point = g2 at c2
      obtain ⟨nb, hnb⟩ : ∃ nb, nb = (ps.getD i pr0).backs.length := ⟨_, rfl⟩
      have HNE : Hid (nb = (ps.getD i pr0).backs.length) := hnb
      rw [← hnb] at C c3 HS HMK HNB
      clear hnb
      have hnb3 : nb ≤ 1048576 := HNB.out
      go_wp2_with fail
      refine C.mono ?_
      rintro e w1 ⟨rfl, ow2, wi2⟩
      have OW2 : Hid (OwnP B T w1 g (M.set i (⟨K, K + 1, K + 2, (List.range nb).map (fun j : Nat => K + 3 + (j : Int))⟩, .slice ab nb cb))) := ow2
      have WI2 : Hid (Within B T w w1) := WI1.out.trans wi2
      clear ow2 wi2 C
      have HS1 : Hid (∀ j, j < i + 1 → ((M.set i (⟨K, K + 1, K + 2, (List.range nb).map (fun j : Nat => K + 3 + (j : Int))⟩, .slice ab nb cb)).getD j d0).1 = (mrkP k0 ps).getD j pr0) := fun j hj => by
        rw [getD_set (by omega)]
        by_cases hij : i = j
        · subst hij; rw [if_pos rfl, HMK.out]
        · rw [if_neg hij]; exact hs1.out j (by omega)
      have HS2 : Hid (∀ j, i + 1 ≤ j → j < L.length → ((M.set i (⟨K, K + 1, K + 2, (List.range nb).map (fun j : Nat => K + 3 + (j : Int))⟩, .slice ab nb cb)).getD j d0).1 = ps.getD j pr0) := fun j hj hjl => by
        rw [getD_set (by rw [HML.out]; exact hjl), if_neg (by omega)]
        exact hs2.out j (by omega) hjl
      go_wp2
      go_roundw
      case rel => exact ⟨i + 1, _, by omega, by go_num, by rw [HS.out], by rw [List.length_set]; exact HML.out, HS1, HS2, OW2.out, WI2.out⟩
      case measure => simp [intOf]; omega
    · have hie : i = L.length := by omega
      subst hie
      have hfin : Hid (M.map (·.1) = mrkP k0 ps) := map_fst (by rw [mrkP_len, HPL.out, HML.out]) (fun j hj => by rw [mrkP_len, HPL.out] at hj; exact hs1.out j hj)
      go_wp2
      go_ret
      exact ⟨rfl, HW.out, M, hfin.out, HOW.out⟩

theorem markPeers_any (b d : Int) (B T g cap : Nat) (L : List (Pr × Value)) (k0 : Int) (w : World) (hb : L.length + bsum (L.map (·.1)) ≤ 1048576) (k1 : 0 ≤ k0) (k2 : k0 ≤ 1000000000000) (hT : T ≤ w.heap.size) (h : OwnP B T w g L) :
    Calls Try.prog 31 #[.agg #[.int .i64 b, .int .i64 d, .slice (some ⟨g, 0, none⟩) L.length cap], .int .i64 k0] w fun e w' => e = .returned (.int .i64 (kAt k0 (L.map (·.1)) L.length)) ∧ (∀ n w0, n ≤ B → Below n w0 w → Below n w0 w') ∧ (∀ k, k < w.heap.size → ¬ (B ≤ k ∧ k < T) → w'.heap[k]? = w.heap[k]?) ∧ w.heap.size ≤ w'.heap.size ∧ ∃ L', L'.map (·.1) = mrkP k0 (L.map (·.1)) ∧ OwnP B T w' g L' := by
  have hlo := h.lo
  have hhi := h.hi
  have h1 := h.keep ((Below.refl _ _).alloc (Nat.le_refl _) (.cells #[.int .i64 b, .int .i64 d, .slice (some ⟨g, 0, none⟩) L.length cap] 28))
  have C := markPeerS_any B T g cap L k0 _ hb k1 k2 h1
  have hbd := kAt_bd (k := k0) (ps := L.map (·.1)) (i := L.length) (by simp) (by simpa using hb)
  clear h h1
  go_enter Try.func31, Try.ntmps31
  go_wp2_with fail
  refine C.mono ?_
  rintro e w1 ⟨rfl, wi, ow⟩
  go_wp2
  go_ret
  have hs := wi.size
  simp at hs
  exact ⟨rfl, fun n w0 hn hb0 => wi.below (hb0.alloc (Nat.le_trans hn (by omega)) _) hn, fun k hk hne => (wi.block k hne).trans (heap_alloc_old _ _ hk), by omega, ow⟩
end Go.Proofs.Ytgmdbihdnacpjaa
namespace Go.Proofs.Ytgmdbihdnacpjaa
open Go.RowKit
set_option linter.unusedVariables false

def fOk (b d : Int) (zs : List Int) : Bool := gsB b d && (zs.length == cnt b d) && allB zs 0 (sz d - 1)
def fVal (b d : Int) (zs : List Int) : Int := if fOk b d zs = true then ofD (sz d) zs else 0

/-- the boxed space is there, and nothing old has turned -/
structure BoxAt (w wr : World) (b d : Int) : Prop where
  bel : Below w.heap.size w wr
  c0 : wr.cell? ⟨w.heap.size, 0, none⟩ = some (.int .i64 b)
  c1 : wr.cell? ⟨w.heap.size, 1, none⟩ = some (.int .i64 d)
  lt : w.heap.size < wr.heap.size
theorem BoxAt.keep {w wr w1 : World} {b d : Int} (h : BoxAt w wr b d) (hb : Below wr.heap.size wr w1) : BoxAt w w1 b d :=
  ⟨h.bel.trans (hb.mono h.bel.size), (hb.cell (p := ⟨w.heap.size, 0, none⟩) h.lt).trans h.c0, (hb.cell (p := ⟨w.heap.size, 1, none⟩) h.lt).trans h.c1, Nat.lt_of_lt_of_le h.lt hb.size⟩
theorem boxAt1 {w w1 : World} {b d : Int} {T : TypeId} {N : Nat} (hb : Below N (w.alloc (.cells #[.int .i64 b, .int .i64 d] T)) w1) (hN : w.heap.size + 1 ≤ N) : BoxAt w w1 b d := by
  refine ⟨bel1 hb (by omega), ?_, ?_, ?_⟩
  · rw [hb.cell (p := ⟨w.heap.size, 0, none⟩) (by show w.heap.size < N; omega)]; simp
  · rw [hb.cell (p := ⟨w.heap.size, 1, none⟩) (by show w.heap.size < N; omega)]; simp
  · have := hb.size; simp at this; omega
theorem digs_bd {d : Int} {zs : List Int} {k : Nat} (hk : k ≤ zs.length) (h : allB (zs.take k) 0 (sz d - 1) = true) : ∀ i, i < k → 0 ≤ zs.getD i 0 ∧ zs.getD i 0 < sz d := by
  intro i hi
  unfold allB at h
  rw [List.all_eq_true] at h
  have hm : zs.getD i 0 ∈ zs.take k := by
    rw [List.getD_eq_getElem?_getD, List.getElem?_eq_getElem (by omega)]
    exact List.mem_take_iff_getElem.2 ⟨i, by omega, rfl⟩
  have := inB_true (h _ hm)
  omega
/-- a part's number is small -/
theorem part_bd {b d : Int} {zs : List Int} {k : Nat} (hb1 : 1 ≤ b) (hb2 : b ≤ 12) (hd1 : 1 ≤ d) (hd2 : d ≤ b) (h5 : b % d = 0) (hl : zs.length = cnt b d) (hk : k ≤ zs.length) (h : allB (zs.take k) 0 (sz d - 1) = true) :
    0 ≤ ofD (sz d) (zs.take k) ∧ ofD (sz d) (zs.take k) < sz b := by
  obtain ⟨s1, s2⟩ := sz_bd hd1 (by omega : d ≤ 12)
  obtain ⟨p1, p2⟩ := ofD_bd (by omega : 0 < sz d) zs k hk (digs_bd hk h)
  have := pow_le (by omega : 1 ≤ sz d) (by omega : k ≤ cnt b d)
  rw [pow_cnt hb1 hd1 hd2 h5] at this
  exact ⟨p1, by omega⟩

theorem allB_part {zs : List Int} {lo hi : Int} {k : Nat} (h : allB zs lo hi = true) : allB (zs.take k) lo hi = true := by
  unfold allB at *
  rw [List.all_eq_true] at *
  exact fun x hx => h x (List.mem_of_mem_take hx)

end Go.Proofs.Ytgmdbihdnacpjaa
namespace Go.Proofs.Ytgmdbihdnacpjaa
open Go.RowKit
set_option linter.unusedVariables false

/-- a slice of ints or bytes that came in: nil, or a row of 'cap' cells of which the first 'len' are its elements -/
def IsRow (k : IntKind) (w : World) (a : Option Addr) (len cap : Nat) (zs : List Int) : Prop :=
  (a = none ∧ len = 0 ∧ cap = 0 ∧ zs = []) ∨
  ∃ x, a = some x ∧ len ≤ cap ∧ cap ≤ maxLen ∧ zs.length = cap ∧ (∀ i, i < zs.length → w.cell? (x.add i) = some (.int k (zs.getD i 0))) ∧ ∀ n ∈ zs, (Lit.int k n).wf = true
theorem add_none' (b o j : Nat) : (⟨b, o, none⟩ : Addr).add j = ⟨b, o + j, none⟩ := by unfold Addr.add; split <;> simp_all
theorem isRow_rowAt {w : World} {a : Option Addr} {len cap : Nat} {zs : List Int} (h : IsRow .i64 w a len cap zs) : ∃ ys : List Int, ys.length = len ∧ len ≤ maxLen ∧ RowAt w a ys := by
  rcases h with ⟨rfl, rfl, rfl, rfl⟩ | ⟨⟨b, off, spot⟩, rfl, hl, hm, hz, hc, _⟩
  · exact ⟨[], rfl, Nat.zero_le _, .inl rfl⟩
  · by_cases h0 : len = 0
    · subst h0; exact ⟨[], rfl, Nat.zero_le _, .inl rfl⟩
    · have hc0 := hc 0 (by omega)
      have hs : spot = none := by simpa [Addr.add] using World.cell?_spot hc0
      subst hs
      refine ⟨zs.take len, by simp; omega, by omega, .inr ⟨b, off, rfl, by simpa [add_none'] using block_lt_of_cell hc0, fun i hi => ?_⟩⟩
      have hi' : i < len := by simp at hi; omega
      have := hc i (by omega)
      rw [add_none'] at this
      rw [this]
      simp [List.getD_eq_getElem?_getD, hi']
end Go.Proofs.Ytgmdbihdnacpjaa
namespace Go.Proofs.Ytgmdbihdnacpjaa
open Go.RowKit Go.ChangeShapes Go.WideShapes Go.Deep
set_option linter.unusedVariables false
section
variable {H : Type} {enc : TypeId × Value → H} {W : World} {base : Nat} {held : Bool}
theorem ints_row {fuel : Nat} {a : Option Addr} {n cap : Nat} {x : DataW H × List MemPlace} (h : DataW.trod enc Try.prog W base (fun _ => true) held fuel 29 [.slice a n cap] = some x) :
    ∃ ys : List Int, ys.length = n ∧ n ≤ maxLen ∧ (n ≤ cap ∧ (a = none → cap = 0)) ∧ RowAt W a ys := by
  rcases open_ints Try.underlying29 Try.underlying3 (by kernel_rfl) h with ⟨hcs, _⟩ | ⟨x, l, c, zs, hcs, _, hl, hm, hz, _, hcell, hwz⟩
  · simp at hcs
    obtain ⟨rfl, rfl, rfl⟩ := hcs
    exact ⟨[], rfl, Nat.zero_le _, ⟨Nat.zero_le _, fun _ => rfl⟩, .inl rfl⟩
  · simp at hcs
    obtain ⟨rfl, rfl, rfl⟩ := hcs
    obtain ⟨ys, h1, h2, h3⟩ := isRow_rowAt (w := W) (a := some x) (len := n) (cap := cap) (zs := zs) (.inr ⟨_, rfl, hl, hm, by simpa using hz, hcell, hwz⟩)
    exact ⟨ys, h1, h2, ⟨hl, fun h => by cases h⟩, h3⟩
theorem slice_of_trod {t e : TypeId} {fuel : Nat} {v : Value} {x : DataW H × List MemPlace} (ht : Try.prog.underlying t = some (.slice e)) (h : DataW.trod enc Try.prog W base (fun _ => true) held fuel t [v] = some x) : ∃ a n cap, v = .slice a n cap := by
  rcases open_slice ht h with ⟨hcs, _⟩ | ⟨a, l, c, _, _, _, _, hcs, _⟩
  · simp at hcs; exact ⟨_, _, _, hcs⟩
  · simp at hcs; exact ⟨_, _, _, hcs⟩
theorem cells4 {cs : List Value} (h : cs.length = 4) : ∃ c0 c1 c2 c3, cs = [c0, c1, c2, c3] := by
  match cs, h with
  | [c0, c1, c2, c3], _ => exact ⟨c0, c1, c2, c3, rfl⟩
theorem cellsP : Try.prog.cellsOf 108 = 4 := by kernel_rfl
theorem cellsPs : Try.prog.cellsOf 46 = 3 := by kernel_rfl
theorem cellsI : Try.prog.cellsOf 3 = 1 := by kernel_rfl
theorem cellsIs : Try.prog.cellsOf 29 = 1 := by kernel_rfl
theorem cellsPl : Try.prog.cellsOf 44 = 1 := by kernel_rfl
theorem peer_of_trod {fuel : Nat} {cs : List Value} {x : DataW H × List MemPlace} (h : DataW.trod enc Try.prog W base (fun _ => true) held fuel 108 cs = some x) :
    ∃ (p : Pr) (ab : Option Addr) (cb : Nat), cs = [.int .i64 p.id, .int .i64 p.succ, .int .i64 p.point, .slice ab p.backs.length cb] ∧ RowAt W ab p.backs ∧ p.backs.length ≤ maxLen ∧ p.backs.length ≤ cb ∧ (ab = none → cb = 0) := by
  obtain ⟨y0, y1, y2, y3, n, _, hl, h0, h1, h2, h3⟩ := Joins.trod_struct4 Try.underlying108 h
  obtain ⟨c0, c1, c2, c3, rfl⟩ := cells4 (hl.trans cellsP)
  simp [cellsI] at h0 h1 h2
  simp [cellsIs] at h3
  obtain ⟨a0, e0, _, _⟩ := DataW.trod_int Try.underlying3 h0
  obtain ⟨a1, e1, _, _⟩ := DataW.trod_int Try.underlying3 h1
  obtain ⟨a2, e2, _, _⟩ := DataW.trod_int Try.underlying3 h2
  simp at e0 e1 e2
  subst e0 e1 e2
  obtain ⟨ab, nb, cb, rfl⟩ := slice_of_trod Try.underlying29 h3
  obtain ⟨ys, rfl, hm, hc, hr⟩ := ints_row h3
  exact ⟨⟨a0, a1, a2, ys⟩, ab, cb, rfl, hr, hm, hc⟩
theorem peersl_of_trod {fuel : Nat} {a : Option Addr} {n cap : Nat} {x : DataW H × List MemPlace} (h : DataW.trod enc Try.prog W base (fun _ => true) held fuel 44 [.slice a n cap] = some x) :
    ∃ ps : List Pr, ps.length = n ∧ n ≤ maxLen ∧ n ≤ cap ∧ PeersAt W a ps := by
  rcases open_slice Try.underlying44 h with ⟨hcs, _⟩ | ⟨⟨b, off, spot⟩, l, c, m, k, D, Pl, hcs, _, hl, hm, hmm, _, hx⟩
  · simp at hcs
    obtain ⟨rfl, rfl, rfl⟩ := hcs
    exact ⟨[], rfl, Nat.zero_le _, Nat.zero_le _, .inl rfl⟩
  · simp at hcs
    obtain ⟨rfl, rfl, rfl⟩ := hcs
    simp at hmm
    subst hmm
    by_cases h0 : n = 0
    · subst h0; exact ⟨[], rfl, Nat.zero_le _, Nat.zero_le _, .inl rfl⟩
    rw [cellsP] at hx
    have hs : spot = none := by
      obtain ⟨cs, h1, h2⟩ := hx 0 (by omega)
      obtain ⟨p, ab, cb, rfl, hr, hm', hc'⟩ := peer_of_trod h2
      obtain ⟨_, _, hce⟩ := World.cells?_some h1
      have g0 := hce 0 (by omega)
      simp at g0
      simpa [Addr.add] using World.cell?_spot g0
    subst hs
    have key : ∀ i, i < n → ∃ p : Pr, b < W.heap.size ∧ PeerAt W b (off + i * 4) p := by
      intro i hi
      obtain ⟨cs, h1, h2⟩ := hx i (by omega)
      obtain ⟨p, ab, cb, rfl, hr, hm', hc'⟩ := peer_of_trod h2
      obtain ⟨_, _, hce⟩ := World.cells?_some h1
      have g0 := hce 0 (by omega)
      have g1 := hce 1 (by omega)
      have g2 := hce 2 (by omega)
      have g3 := hce 3 (by omega)
      rw [add_add] at g0 g1 g2 g3
      simp at g0 g1 g2 g3
      rw [add_none'] at g0 g1 g2 g3
      exact ⟨p, by simpa using block_lt_of_cell g0, g0, by simpa [Nat.add_assoc] using g1, by simpa [Nat.add_assoc] using g2, ab, cb, by simpa [Nat.add_assoc] using g3, hr, hm', hc'⟩
    obtain ⟨f, hf⟩ := @choose_lt Pr ⟨pr0⟩ _ _ key
    obtain ⟨hb, _⟩ := hf 0 (by omega)
    refine ⟨(List.range n).map f, by simp, by omega, hl, .inr ⟨b, off, rfl, hb, fun i hi => ?_⟩⟩
    have hi' : i < n := by simpa using hi
    have := (hf i hi').2
    simpa [List.getD_eq_getElem?_getD, hi'] using this
set_option maxRecDepth 100000 in
theorem open_peers {v : Value} {r : Reach} {b0 : Nat} {d : DataW H} {p : List MemPlace} (hv : Value.okWide Try.prog W r b0 46 v) (h : DataW.Trod enc Try.prog W base (fun _ => true) held 46 v d p) :
    ∃ (b g : Int) (a : Option Addr) (cap : Nat) (ps : List Pr), v = .agg #[.int .i64 b, .int .i64 g, .slice a ps.length cap] ∧ ps.length ≤ maxLen ∧ ps.length ≤ cap ∧ PeersAt W a ps := by
  obtain ⟨cs, rfl, hsz⟩ := okWide_struct Try.underlying46 hv
  obtain ⟨c0, c1, c2, rfl⟩ := Joins.array3 (hsz.trans cellsPs)
  obtain ⟨fuel, hf⟩ := h
  obtain ⟨y0, y1, n, _, _, h0, h1⟩ := trod_struct2 Try.underlying46 hf
  simp [Value.cells, cellsS] at h0
  simp [Value.cells, cellsPl] at h1
  obtain ⟨z0, z1, m, _, _, i0, i1⟩ := trod_struct2 Try.underlying43 h0
  simp [cellsI] at i0 i1
  obtain ⟨b, e0, _, _⟩ := DataW.trod_int Try.underlying3 i0
  obtain ⟨g, e1, _, _⟩ := DataW.trod_int Try.underlying3 i1
  simp at e0 e1
  subst e0 e1
  obtain ⟨a, n, cap, rfl⟩ := slice_of_trod Try.underlying44 h1
  obtain ⟨ps, rfl, hm, hc, hr⟩ := peersl_of_trod h1
  exact ⟨b, g, a, cap, ps, rfl, hm, hc, hr⟩
end
end Go.Proofs.Ytgmdbihdnacpjaa
namespace Go.Proofs.Ytgmdbihdnacpjaa
open Go.RowKit
set_option linter.unusedVariables false

def joinL (zs : List Int) (x : Int) : List Int := zs.take (blw zs x) ++ x :: zs.drop (blw zs x)
theorem joinL_len (zs : List Int) (x : Int) : (joinL zs x).length = zs.length + 1 := by
  have := blw_le x zs
  simp [joinL]; omega
def okJ (b d : Int) (zs : List Int) (x : Int) : Bool := askB b d zs x && !memI zs x && !decide (zs.length = 16)
theorem info_parts' : ∃ i0, Try.prog.info? 3 = some i0 ∧ i0.zero = some (.int .i64 0) ∧ i0.size = 1 ∧ i0.bytes = 8 := by
  obtain ⟨i0, h1, h2, h3, h4⟩ := info_parts info_int
  exact ⟨i0, h1, h2, h3, h4⟩
/-- the head of a row that came in -/
theorem olds_cells {w : World} {bk off : Nat} {zs : List Int} (h : RowAt w (some ⟨bk, off, none⟩) zs) (p : Nat) :
    ∀ q : Addr, some (⟨bk, off, none⟩ : Addr) = some q → ∀ (j : Nat) (u : Value), ((zs.take p).map (Value.int .i64))[j]? = some u → w.cell? (q.add j) = some u := by
  rintro q hq j u hj
  obtain rfl := Option.some.inj hq
  have hjl := (List.getElem?_eq_some_iff.1 hj).1
  simp only [List.length_map, List.length_take] at hjl
  rcases h with rfl | ⟨b', o', h, hl, hc⟩
  · simp at hjl
  · simp at h
    obtain ⟨rfl, rfl⟩ := h
    rw [Addr.add_lit, hc j (by omega)]
    rw [List.getElem?_map, List.getElem?_take_of_lt (by omega), List.getElem?_eq_getElem (by omega)] at hj
    rw [List.getD_eq_getElem?_getD, List.getElem?_eq_getElem (by omega)]
    simpa using hj
/-- its tail -/
theorem tail_cells {w : World} {bk off : Nat} {zs : List Int} (h : RowAt w (some ⟨bk, off, none⟩) zs) (p : Nat) :
    ∀ (j : Nat) (u : Value), ((zs.drop p).map (Value.int .i64))[j]? = some u → w.cell? ((⟨bk, off + p, none⟩ : Addr).add j) = some u := by
  intro j u hj
  have hjl := (List.getElem?_eq_some_iff.1 hj).1
  simp only [List.length_map, List.length_drop] at hjl
  rcases h with rfl | ⟨b', o', h, hl, hc⟩
  · simp at hjl
  · simp at h
    obtain ⟨rfl, rfl⟩ := h
    rw [Addr.add_lit, Nat.add_assoc, hc (p + j) (by omega)]
    rw [List.getElem?_map, List.getElem?_drop, List.getElem?_eq_getElem (by omega)] at hj
    rw [List.getD_eq_getElem?_getD, List.getElem?_eq_getElem (by omega)]
    simpa using hj
theorem tail_none {w : World} {zs : List Int} {p : Nat} (hp : zs.length ≤ p) (q : Addr) : ∀ (j : Nat) (u : Value), ((zs.drop p).map (Value.int .i64))[j]? = some u → w.cell? (q.add j) = some u := by
  intro j u hj
  rw [List.drop_of_length_le hp] at hj
  simp at hj
theorem tail_if {w : World} {bk off cap p : Nat} {zs : List Int} {A : Addr} (hA : (if cap = p then some (⟨bk, off, none⟩ : Addr) else some ⟨bk, off + p, none⟩) = some A) (h : RowAt w (some ⟨bk, off, none⟩) zs) (hcap : zs.length ≤ cap) (hp : p ≤ zs.length) :
    ∀ (j : Nat) (u : Value), ((zs.drop p).map (Value.int .i64))[j]? = some u → w.cell? (A.add j) = some u := by
  by_cases hpc : cap = p
  · exact tail_none (by omega) _
  · rw [if_neg hpc] at hA
    obtain rfl := Option.some.inj hA
    exact tail_cells h p
theorem grown_alloc {w w4 w5 : World} {o : Obj} (h : Below w.heap.size w w4) (hg : (w4.alloc o).grownBy w5 none) : Below w.heap.size w w5 :=
  (h.alloc h.size o).grown hg (by have := h.size; simp; omega) (fun k hk => by cases hk)
theorem alloc_size {w w4 : World} {o : Obj} (h : Below w.heap.size w w4) : w.heap.size ≤ (w4.alloc o).heap.size := by have := h.size; simp; omega
theorem grown_bel {n : Nat} {w0 w w1 : World} {r : Option Nat} (h : Below n w0 w) (hg : w.grownBy w1 r) (hn : n ≤ w.heap.size) (hr : ∀ k, r = some k → n ≤ k) : Below n w0 w1 := h.grown hg hn hr

end Go.Proofs.Ytgmdbihdnacpjaa
