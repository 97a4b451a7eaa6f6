/- Crowds: how many members lie between two shifted numbers, on both sides. -/
import Derived.Test.YtgmdbihdnacpjaaQ1
import Derived.Laws.Small
namespace Go.Proofs.Ytgmdbihdnacpjaa
open Go.RowKit
set_option linter.unusedVariables false

def bcnt (b f t : Int) (zs : List Int) : Nat := (zs.filter (fun y => btwB b f y t)).length
theorem bcnt_take {b f t : Int} {zs : List Int} {k : Nat} (hk : k < zs.length) : bcnt b f t (zs.take (k + 1)) = bcnt b f t (zs.take k) + (btwB b f (zs.getD k 0) t).toNat := by
  unfold bcnt
  rw [List.take_succ_eq_append_getElem hk, List.filter_append, List.length_append]
  congr 1
  have e : zs.getD k 0 = zs[k] := by simp [List.getD_eq_getElem?_getD, List.getElem?_eq_getElem hk]
  rw [e]
  cases h : btwB b f zs[k] t <;> simp [h]
theorem bcnt_le (b f t : Int) (zs : List Int) : bcnt b f t zs ≤ zs.length := List.length_filter_le _ _
def crw1 (b d : Int) (zs : List Int) (x : Int) (m : Nat) : Nat :=
  if rnd b x (nxtI zs x) * sz d ≤ sz b then (if bcnt b (shf b d x 0) (shf b d (nxtI zs x) 0) zs > m then bcnt b (shf b d x 0) (shf b d (nxtI zs x) 0) zs else m) else m
def crw (b d : Int) (zs : List Int) : Nat → Nat
  | 0 => 0
  | k + 1 => crw1 b d zs (zs.getD k 0) (crw b d zs k)
theorem crw_le (b d : Int) (zs : List Int) : ∀ k, crw b d zs k ≤ zs.length
  | 0 => Nat.zero_le _
  | k + 1 => by
    have h1 := crw_le b d zs k
    have h2 := bcnt_le b (shf b d (zs.getD k 0) 0) (shf b d (nxtI zs (zs.getD k 0)) 0) zs
    unfold crw crw1
    split
    · split <;> omega
    · exact h1
theorem rnd_bd {b x y : Int} (h1 : 1 ≤ b) (h2 : b ≤ 12) : 0 ≤ rnd b x y ∧ rnd b x y ≤ sz b := by
  have := sz_bd h1 h2
  have := dist_bd x y h1 h2
  unfold rnd
  split <;> omega

set_option maxHeartbeats 1600000 in
theorem countBetween_any (b d : Int) (a : Option Addr) (cap : Nat) (zs : List Int) (f t : Int) (w : World) (R : Ring b d zs) (hr : RowAt w a zs) (f1 : 0 ≤ f) (f2 : f < sz b) (t1 : 0 ≤ t) (t2 : t < sz b) :
    Calls Try.prog 65 #[.agg #[.int .i64 b, .int .i64 d], .slice a zs.length cap, .int .i64 f, .int .i64 t] w fun e w' => e = .returned (.int .i64 (bcnt b f t zs)) ∧ Below w.heap.size w w' := by
  obtain ⟨hb1, hb2, hd1, hd2, _⟩ := gsB_true R.gs
  have l2 := R.l2
  have RR : Hid (Ring b d zs) := R
  have HR : Hid (RowAt w a zs) := hr
  clear R hr
  go_enter Try.func65, Try.ntmps65
  go_wp2_with fail
  go_loopw [9, 14] (fun vn vi wr => ∃ k n : Nat, k ≤ zs.length ∧ n ≤ k ∧ vi = .int .i64 k ∧ vn = .int .i64 n ∧ Hid (n = bcnt b f t (zs.take k)) ∧ Below (w.heap.size + 1) (w.alloc (.cells #[.int .i64 b, .int .i64 d] 25)) wr) (fun _ vi _ => zs.length - (intOf vi).toNat)
  case atStart => exact ⟨0, 0, Nat.zero_le _, Nat.zero_le _, rfl, rfl, rfl, Below.refl _ _⟩
  case round =>
    obtain ⟨k, n, hk, hnk, rfl, rfl, HN, hbel⟩ := hrel
    have q0 : wr.cell? ⟨w.heap.size, 0, none⟩ = some (.int .i64 b) := (hbel.cell (p := ⟨w.heap.size, 0, none⟩) (by simp)).trans (by simp)
    have q1 : wr.cell? ⟨w.heap.size, 1, none⟩ = some (.int .i64 d) := (hbel.cell (p := ⟨w.heap.size, 1, none⟩) (by simp)).trans (by simp)
    have hsz : w.heap.size < wr.heap.size := by have := hbel.size; simp at this; omega
    have HB : Hid (Below w.heap.size w wr) := bel1 hbel (by simp)
    by_cases hlt : k < zs.length
    · obtain ⟨bk, off, rfl⟩ := rowAt_form HR.out (by omega)
      have hc1 := (rowAt_cell (HR.out.keep HB.out) (by omega)).2 k hlt
      obtain ⟨x1, x2⟩ := RR.out.rng k hlt
      have HT : Hid (bcnt b f t (zs.take (k + 1)) = bcnt b f t (zs.take k) + (btwB b f (zs.getD k 0) t).toNat) := bcnt_take hlt
      generalize zs.getD k 0 = z at hc1 x1 x2 HT
      have C := place_any b d f z t wr hb1 hb2 f1 f2 x1 x2 t1 t2
      rcases plc_btw (b := b) f1 f2 x1 x2 t1 t2 with ⟨hp, hv⟩ | ⟨hp, hv⟩
      · rw [hp] at C
        have HN2 : Hid (n + 1 = bcnt b f t (zs.take (k + 1))) := by unfold Hid; rw [HT.out, hv, HN.out]; rfl
        clear hp hv HT
        go_wp2_with fail
        refine C.mono ?_
        rintro e w1 ⟨rfl, hw1⟩
        have hbel1 := hbel.trans (hw1.mono (by omega))
        go_wp2
        go_roundw
        case rel => exact ⟨k + 1, n + 1, by omega, by omega, by go_num, by go_num, HN2, hbel1⟩
        case measure => simp [intOf]; omega
      · have hpb : (plc b f z t == 2) = false := by simpa using hp
        have HN2 : Hid (n = bcnt b f t (zs.take (k + 1))) := by unfold Hid; rw [HT.out, hv, HN.out]; rfl
        clear hp hv HT
        generalize plc b f z t = pl at C hpb
        go_wp2_with fail
        refine C.mono ?_
        rintro e w1 ⟨rfl, hw1⟩
        have hbel1 := hbel.trans (hw1.mono (by omega))
        go_wp2
        go_roundw
        case rel => exact ⟨k + 1, n, by omega, by omega, by go_num, rfl, HN2, hbel1⟩
        case measure => simp [intOf]; omega
    · have HN2 : Hid (n = bcnt b f t zs) := by have := HN.out; rwa [List.take_of_length_le (by omega)] at this
      go_wp2
      go_ret
      exact ⟨ret_nat HN2.out, HB.out⟩
end Go.Proofs.Ytgmdbihdnacpjaa
