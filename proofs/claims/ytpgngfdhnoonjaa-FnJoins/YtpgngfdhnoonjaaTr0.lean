/- Row as an element of slices: what it reads as, its marks; slices of it weighed, compared, looked at again. -/
import Derived.Test.YtpgngfdhnoonjaaEs0
import Derived.Test.YtpgngfdhnoonjaaA4
namespace Go.Proofs.Ytpgngfdhnoonjaa.Tb
open Go.RowKit Wire
set_option linter.unusedVariables false
set_option linter.unusedSimpArgs false
structure Rw where
  x0 : Int
  x1 : Int
  x2 : Int
  b : Bool
def rw0 : Rw := ⟨0, 0, 0, false⟩
def rwV (m : Rw) : List Value := [.int .i64 m.x0, .int .i64 m.x1, .int .i64 m.x2, .bool m.b]
def rwK (k : Int) : Rw := ⟨k, k + 1, k + 2, decide ((k + 3) % 3 = 0)⟩
def tyRw : TyI where
  den := Rw
  wide := 4
  dflt := rw0
  rep := fun _ cs m => cs = rwV m
  own := fun _ _ _ cs m F => cs = rwV m ∧ F = []
  mrk := fun k _ => (rwK k, k + 4)
  cnt := fun _ => 4
  tot := fun _ => 0
  leaf := 4
  rep_len := fun h => by rw [h]; rfl
  rep_keep := fun h _ => h
  own_len := fun h => by rw [h.1]; rfl
  own_blocks := fun h _ => h
  own_bd := fun h k hk => by rw [h.2] at hk; simp at hk
  own_wide := fun h _ _ => h
  own_rep := fun h => h.1
  mrk_end := fun _ _ => rfl
  cnt_tot := fun _ => by simp
theorem CellsAt.rw {w : World} {b o : Nat} {m : Rw} (h : CellsAt w b o (rwV m)) : w.cell? ⟨b, o, none⟩ = some (.int .i64 m.x0) ∧ w.cell? ⟨b, o + 1, none⟩ = some (.int .i64 m.x1) ∧ w.cell? ⟨b, o + 2, none⟩ = some (.int .i64 m.x2) ∧ w.cell? ⟨b, o + 3, none⟩ = some (.bool m.b) :=
  ⟨h 0 _ rfl, h 1 _ rfl, h 2 _ rfl, h 3 _ rfl⟩
theorem rwAt_cell {w : World} {bk off : Nat} {ms : List Rw} (h : LsAt tyRw w (some ⟨bk, off, none⟩) ms) {i : Nat} (hi : i < ms.length) : bk < w.heap.size ∧ CellsAt w bk (off + i * 4) (rwV (ms.getD i rw0)) := by
  obtain ⟨h1, ci, h2, rfl⟩ := lsAt_cell h hi
  exact ⟨h1, h2⟩
theorem szRowS_any (a : Option Addr) (cap n : Nat) (l : Int) (w : World) (hn : n ≤ maxLen) (l1 : 0 ≤ l) (l2 : l ≤ 1048576) :
    Calls Try.prog 36 #[.slice a n cap, .int .i64 l] w fun e w' => e = .returned (.int .i64 (if l - (n : Int) < 0 then -1 else l - (n : Int))) ∧ w' = w := by
  unfold maxLen at hn
  by_cases h : l - (n : Int) < 0
  · rw [if_pos h]
    go_enter Try.func36, Try.ntmps36
    go_wp2
    go_ret
    exact ⟨rfl, rfl⟩
  · rw [if_neg h]
    go_enter Try.func36, Try.ntmps36
    go_wp2
    go_ret
    exact ⟨rfl, rfl⟩
theorem szRowS_all (a : Option Addr) (n cap : Nat) (l : Int) (w : World) (hn : n ≤ maxLen) (l1 : 0 ≤ l) (l2 : l ≤ 1048576) :
    Calls Try.prog 36 #[.slice a n cap, .int .i64 l] w fun e w' => ∃ v : Int, e = .returned (.int .i64 v) ∧ (v < 0 ∨ (0 ≤ v ∧ n ≤ 1048576)) ∧ v ≤ 1048576 ∧ Below w.heap.size w w' := by
  refine (szRowS_any a cap n l w hn l1 l2).mono ?_
  rintro e w1 ⟨rfl, rfl⟩
  by_cases h : l - (n : Int) < 0
  · exact ⟨-1, by rw [if_pos h], .inl (by omega), by omega, Below.refl _ _⟩
  · exact ⟨_, by rw [if_neg h], .inr ⟨by omega, by omega⟩, by omega, Below.refl _ _⟩
set_option maxHeartbeats 1600000 in
theorem eqRow_same (x0 x1 x2 : Int) (b : Bool) (w : World) :
    Calls Try.prog 40 #[.agg #[.int .i64 x0, .int .i64 x1, .int .i64 x2, .bool b], .agg #[.int .i64 x0, .int .i64 x1, .int .i64 x2, .bool b]] w fun e w' => e = .returned (.bool true) ∧ Below w.heap.size w w' := by
  have hbb := bne_self_bool b
  go_enter Try.func40, Try.ntmps40
  go_wp2
  go_ret
  exact ⟨rfl, ((Below.refl _ _).alloc (Nat.le_refl _) _).alloc (by simp) _⟩
set_option maxRecDepth 100000 in
set_option maxHeartbeats 3200000 in
theorem eqRowS_same (a a' : Option Addr) (cap cap' : Nat) (ms : List Rw) (w : World) (hm : ms.length ≤ 1048576) (hx : LsAt tyRw w a ms) (hy : LsAt tyRw w a' ms) :
    Calls Try.prog 39 #[.slice a ms.length cap, .slice a' ms.length cap'] w fun e w' => e = .returned (.bool true) ∧ Below w.heap.size w w' := by
  have HX : Hid (LsAt tyRw w a ms) := hx
  have HY : Hid (LsAt tyRw w a' ms) := hy
  clear hx hy
  go_enter Try.func39, Try.ntmps39
  go_wp2_with fail
  go_loopw [5] (fun vi wr => ∃ k : Nat, k ≤ ms.length ∧ vi = .int .i64 k ∧ Below w.heap.size w wr) (fun vi _ => ms.length - (intOf vi).toNat)
  case atStart => exact ⟨0, Nat.zero_le _, rfl, Below.refl _ _⟩
  case round =>
    obtain ⟨k, hk, rfl, hbel⟩ := hrel
    by_cases hlt : k < ms.length
    · obtain ⟨bk, off, rfl⟩ := lsAt_form HX.out (by show 0 < ms.length; omega)
      obtain ⟨bk2, off2, rfl⟩ := lsAt_form HY.out (by show 0 < ms.length; omega)
      obtain ⟨hb1, hc⟩ := rwAt_cell (HX.out.keep hbel) hlt
      obtain ⟨hb2, hc2⟩ := rwAt_cell (HY.out.keep hbel) hlt
      obtain ⟨c0, c1, c2, c3⟩ := CellsAt.rw hc
      obtain ⟨d0, d1, d2, d3⟩ := CellsAt.rw hc2
      clear hc hc2
      generalize ms.getD k rw0 = p at *
      obtain ⟨x0, x1, x2, b⟩ := p
      have g0 : ∀ q : Kin wr.heap.size wr, q.v.cell? ⟨bk, off + k * 4, none⟩ = some (.int .i64 x0) := kin_cell hb1 c0
      have f0 : ∀ q : Kin wr.heap.size wr, q.v.cell? ⟨bk2, off2 + k * 4, none⟩ = some (.int .i64 x0) := kin_cell hb2 d0
      have g1 : ∀ q : Kin wr.heap.size wr, q.v.cell? ⟨bk, off + k * 4 + 1, none⟩ = some (.int .i64 x1) := kin_cell hb1 c1
      have f1 : ∀ q : Kin wr.heap.size wr, q.v.cell? ⟨bk2, off2 + k * 4 + 1, none⟩ = some (.int .i64 x1) := kin_cell hb2 d1
      have g2 : ∀ q : Kin wr.heap.size wr, q.v.cell? ⟨bk, off + k * 4 + 2, none⟩ = some (.int .i64 x2) := kin_cell hb1 c2
      have f2 : ∀ q : Kin wr.heap.size wr, q.v.cell? ⟨bk2, off2 + k * 4 + 2, none⟩ = some (.int .i64 x2) := kin_cell hb2 d2
      have g3 : ∀ q : Kin wr.heap.size wr, q.v.cell? ⟨bk, off + k * 4 + 3, none⟩ = some (.bool b) := kin_cell hb1 c3
      have f3 : ∀ q : Kin wr.heap.size wr, q.v.cell? ⟨bk2, off2 + k * 4 + 3, none⟩ = some (.bool b) := kin_cell hb2 d3
      clear c0 d0 c1 d1 c2 d2 c3 d3
      go_wp2
      refine region_kin wr.heap.size (by kernel_rfl) (by kernel_rfl) (fun hne => ?_)
      repeat (go_big_quiet_step ((go_at_call 40; exact kin_of (Nat.le_refl _) (eqRow_same x0 x1 x2 b _))))
      refine wpQuiet_nil ?_
      intro xw hw'
      obtain ⟨⟨w1, hw1⟩, hw1'⟩ := hw'
      have hw1'' : w1 = xw := hw1'.symm
      subst hw1''
      clear g0 f0 g1 f1 g2 f2 g3 f3 hne
      have hbel1 := belt hbel hw1
      have hkw : IntKind.i64.wrap ((k : Int) + 1) = (k : Int) + 1 := by rw [IntKind.wrap_i64]; omega
      go_wp2
      go_roundw
      case rel => exact ⟨k + 1, by omega, by go_num, hbel1⟩
      case measure => simp [intOf]; omega
    · go_wp2
      go_ret
      exact ⟨rfl, hbel⟩
theorem eqRowS_own (a a' : Option Addr) (cap cap' n : Nat) (ms : List Rw) (w : World) (hn : ms.length = n) (hm : n ≤ 1048576) (hx : LsAt tyRw w a ms) (hy : LsAt tyRw w a' ms) :
    Calls Try.prog 39 #[.slice a n cap, .slice a' n cap'] w fun e w' => e = .returned (.bool true) ∧ Below w.heap.size w w' := by
  subst hn
  exact eqRowS_same a a' cap cap' ms w hm hx hy
def mrkTr (k : Int) (ms : List Rw) : List Rw := (mrkL tyRw.mrk k ms).1
theorem mrkTr_len (k : Int) (ms : List Rw) : (mrkTr k ms).length = ms.length := mrkL_len _ _ _
theorem sumTr (ms : List Rw) (i : Nat) (h : i ≤ ms.length) : sumL tyRw.cnt (ms.take i) = 4 * i := by
  have : ∀ l : List Rw, sumL tyRw.cnt l = 4 * l.length := fun l => by
    induction l with
    | nil => rfl
    | cons x xs ih => simp only [sumL, List.length_cons]; rw [ih]; show 4 + 4 * xs.length = _; omega
  exact (this (ms.take i)).trans (by rw [List.length_take, Nat.min_eq_left h])
theorem mrkTr_get {k : Int} {ms : List Rw} {i : Nat} (h : i < ms.length) : (mrkTr k ms).getD i rw0 = rwK (k + 4 * (i : Int)) := by
  have h1 := mrkL_get (e := tyRw) k ms i h
  unfold kAtT at h1
  rw [sumTr ms i (by omega)] at h1
  have e : k + 4 * (i : Int) = k + ((4 * i : Nat) : Int) := by omega
  rw [e]
  exact h1
set_option maxRecDepth 100000 in
set_option maxHeartbeats 6400000 in
theorem heldRowS_any (a : Option Addr) (cap : Nat) (ms : List Rw) (k0 : Int) (w : World) (hz : ms.length ≤ 1048576) (k1 : 0 ≤ k0) (k2 : k0 ≤ 1000000000000) (hr : LsAt tyRw w a (mrkTr k0 ms)) :
    Calls Try.prog 42 #[.slice a ms.length cap, .int .i64 k0] w fun e w' => e = .returned (.int .i64 (k0 + 4 * (ms.length : Int))) ∧ w' = w := by
  have HR : Hid (LsAt tyRw w a (mrkTr k0 ms)) := hr
  clear hr
  have HL : Hid ((mrkTr k0 ms).length = ms.length) := mrkTr_len k0 ms
  go_enter Try.func42, Try.ntmps42
  go_wp2_with fail
  go_loop [1, 5] (fun vk vi => ∃ i : Nat, i ≤ ms.length ∧ vi = .int .i64 i ∧ vk = .int .i64 (k0 + 4 * (i : Int))) (fun _ vi => ms.length - (intOf vi).toNat)
  case atStart => exact ⟨0, Nat.zero_le _, rfl, by simp⟩
  case round =>
    obtain ⟨i, hi, rfl, rfl⟩ := hrel
    by_cases hlt : i < ms.length
    · obtain ⟨bk, off, rfl⟩ := lsAt_form HR.out (by show 0 < (mrkTr k0 ms).length; rw [HL.out]; omega)
      obtain ⟨hb1, hc⟩ := rwAt_cell HR.out (by rw [HL.out]; exact hlt)
      rw [mrkTr_get hlt] at hc
      obtain ⟨c0, c1, c2, c3⟩ := CellsAt.rw hc
      clear hc
      simp only [rwK] at c0 c1 c2 c3
      have HS : Hid (k0 + 4 * ((i + 1 : Nat) : Int) = k0 + 4 * (i : Int) + 4) := by unfold Hid; omega
      obtain ⟨K, hK⟩ : ∃ K, K = k0 + 4 * (i : Int) := ⟨_, rfl⟩
      have u1 : 0 ≤ K := by omega
      have u2 : K ≤ 1000100000000 := by omega
      rw [← hK] at c0 c1 c2 c3 HS ⊢
      clear hK
      have e3 : K + 3 + 1 = K + 4 := by omega
      have e2 : K + 2 + 1 = K + 3 := by omega
      have e1 : K + 1 + 1 = K + 2 := by omega
      by_cases h3 : (K + 3) % 3 = 0
      · rw [decide_eq_true h3] at c3
        go_wp2
        go_round
        case rel => exact ⟨i + 1, by omega, by go_num, by rw [HS.out]⟩
        case measure => simp [intOf]; omega
      · rw [decide_eq_false h3] at c3
        go_wp2
        go_round
        case rel => exact ⟨i + 1, by omega, by go_num, by rw [HS.out]⟩
        case measure => simp [intOf]; omega
    · have hkl : i = ms.length := by omega
      subst hkl
      go_wp2
      go_ret
      exact ⟨rfl, rfl⟩
end Go.Proofs.Ytpgngfdhnoonjaa.Tb
