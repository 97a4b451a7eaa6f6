/- The specification's pointers: down, the point, the members of peers. -/
import Derived.Test.YtejajlloipkkhaaV6
import Derived.Test.YtejajlloipkkhaaR4
import Derived.Test.YtejajlloipkkhaaS4
namespace Go.Proofs.Ytejajlloipkkhaa
open Go.RowKit
set_option linter.unusedVariables false

def dwnI (zs : List Int) (x : Int) : Int := if hasB zs x = true then x else prvI zs x
def pntI (b d : Int) (zs : List Int) (x : Int) : Int := dwnI zs (shf b d x 0)
theorem dwn_rng {b d : Int} {zs : List Int} (R : Ring b d zs) {x : Int} (x1 : 0 ≤ x) (x2 : x < sz b) : 0 ≤ dwnI zs x ∧ dwnI zs x < sz b := by
  unfold dwnI
  split
  · exact ⟨x1, x2⟩
  · exact prv_rng R x
theorem dwn_has {b d : Int} {zs : List Int} (R : Ring b d zs) (x : Int) : hasB zs (dwnI zs x) = true := by
  unfold dwnI
  split
  · assumption
  · obtain ⟨t, ht, e, _⟩ := prv_place R x
    exact decide_eq_true ⟨t, ht, e.symm⟩

set_option maxHeartbeats 800000 in
theorem ldown_any (b d : Int) (a : Option Addr) (cap : Nat) (zs : List Int) (x : Int) (w : World) (R : Ring b d zs) (hr : RowAt w a zs) (x1 : 0 ≤ x) (x2 : x < sz b) :
    Calls Try.prog 132 #[.agg #[.int .i64 b, .int .i64 d], .slice a zs.length cap, .int .i64 x] w fun e w' => e = .returned (.int .i64 (dwnI zs x)) ∧ Below w.heap.size w w' := by
  have hm : zs.length ≤ maxLen := by have := R.l2; unfold maxLen; omega
  have hr1 := hr.alloc (.cells #[.int .i64 b, .int .i64 d] 25)
  have CH := lhas_any a cap zs x _ hm hr1
  have CP := lprev_any b d a cap zs x _ R hr1 x1 x2
  unfold dwnI
  cases hh : hasB zs x
  · rw [hh] at CH
    rw [if_neg (by simp)]
    go_enter Try.func132, Try.ntmps132
    go_wp2_with fail
    refine CH.mono ?_
    rintro e w1 ⟨rfl, hw1⟩
    subst hw1
    go_wp2_with fail
    refine CP.mono ?_
    rintro e w2 ⟨rfl, hw2⟩
    go_wp2
    go_ret
    exact ⟨rfl, bel1 hw2 (by simp)⟩
  · rw [hh] at CH
    rw [if_pos rfl]
    go_enter Try.func132, Try.ntmps132
    go_wp2_with fail
    refine CH.mono ?_
    rintro e w1 ⟨rfl, hw1⟩
    subst hw1
    go_wp2
    go_ret
    exact ⟨rfl, (Below.refl _ _).alloc (Nat.le_refl _) _⟩

set_option maxHeartbeats 800000 in
theorem lpoint_any (b d : Int) (a : Option Addr) (cap : Nat) (zs : List Int) (x : Int) (w : World) (R : Ring b d zs) (hr : RowAt w a zs) (x1 : 0 ≤ x) (x2 : x < sz b) :
    Calls Try.prog 130 #[.agg #[.int .i64 b, .int .i64 d], .slice a zs.length cap, .int .i64 x] w fun e w' => e = .returned (.int .i64 (pntI b d zs x)) ∧ Below w.heap.size w w' := by
  obtain ⟨hb1, hb2, hd1, hd2, _⟩ := gsB_true R.gs
  obtain ⟨hs1, hs2⟩ := sz_bd hb1 hb2
  obtain ⟨hs3, hs4⟩ := sz_bd hd1 (by omega)
  obtain ⟨k1, k2⟩ := shf_bd d x 0 hb1 hb2
  have hr1 := hr.alloc (.cells #[.int .i64 b, .int .i64 d] 25)
  have HR1 : Hid (RowAt (w.alloc (.cells #[.int .i64 b, .int .i64 d] 25)) a zs) := hr1
  have RR : Hid (Ring b d zs) := R
  clear R hr hr1
  unfold pntI
  go_enter Try.func130, Try.ntmps130
  go_wp2
  have c0 : ∀ p : Kin (w.heap.size + 1) (w.alloc (.cells #[.int .i64 b, .int .i64 d] 25)), p.v.cell? ⟨w.heap.size, 0, none⟩ = some (.int .i64 b) := kin_cell (by omega) (by go_simp)
  have c1 : ∀ p : Kin (w.heap.size + 1) (w.alloc (.cells #[.int .i64 b, .int .i64 d] 25)), p.v.cell? ⟨w.heap.size, 1, none⟩ = some (.int .i64 d) := kin_cell (by omega) (by go_simp)
  refine region_kin (w.heap.size + 1) (by kernel_rfl) (by kernel_rfl) (fun hne => ?_)
  repeat (go_big_quiet_step (first | (go_at_call 105; exact kin_of (by simp) (lshift_any b d x 0 _ hb1 hb2 hd1 (by omega) x1 x2 (by omega) (by omega))) | (go_at_call 132; exact kin_of (by simp) (ldown_any b d a cap zs _ _ RR.out (HR1.out.keepB (Kin.bel _) (by simp)) k1 k2))))
  refine wpQuiet_nil ?_
  intro _ hw'
  obtain ⟨⟨w1, hw1⟩, hw''⟩ := hw'
  obtain rfl : _ = w1 := hw''
  clear c0 c1 hne
  go_wp2
  go_ret
  exact ⟨rfl, ((Below.refl _ _).alloc (Nat.le_refl _) _).trans (hw1.mono (by omega))⟩
end Go.Proofs.Ytejajlloipkkhaa
