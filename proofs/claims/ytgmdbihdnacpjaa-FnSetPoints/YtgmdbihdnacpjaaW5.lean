/- The specification's IsIdeal. -/
import Derived.Test.YtgmdbihdnacpjaaW4
namespace Go.Proofs.Ytgmdbihdnacpjaa
open Go.RowKit
set_option linter.unusedVariables false
theorem goodP_true {b d : Int} {ps : List Pr} (h : goodP b d ps = true) : Ring b d (idsP ps) ∧ ∀ i, i < ps.length → prB (idsP ps) (ps.getD i pr0) = true := by
  unfold goodP at h
  rw [Bool.and_eq_true] at h
  exact ⟨ringB_true h.1, of_decide_eq_true h.2⟩
def idlB (b d : Int) (ps : List Pr) : Bool := goodP b d ps && sameP ps (idealL b d (idsP ps) (ps.getD 0 pr0).backs.length)
structure ISt (w wr : World) (b d : Int) (bk off n cap : Nat) (v : Value) : Prop where
  bx : BxP w wr b d (.slice (some ⟨bk, off, none⟩) n cap)
  lt : bk < wr.heap.size
  c3 : wr.cell? ⟨bk, off + 3, none⟩ = some v
theorem ISt.keep {w wr w1 : World} {b d : Int} {bk off n cap : Nat} {v : Value} (h : ISt w wr b d bk off n cap v) (hb : Below wr.heap.size wr w1) : ISt w w1 b d bk off n cap v :=
  ⟨h.bx.keep hb, Nat.lt_of_lt_of_le h.lt hb.size, (hb.cell (p := ⟨bk, off + 3, none⟩) h.lt).trans h.c3⟩
theorem ISt.qq {w wr : World} {b d : Int} {bk off n cap : Nat} {v : Value} (h : ISt w wr b d bk off n cap v) : wr.cell? ⟨w.heap.size, 0, none⟩ = some (.int .i64 b) ∧ wr.cell? ⟨w.heap.size, 1, none⟩ = some (.int .i64 d) ∧ wr.cell? ⟨w.heap.size, 2, none⟩ = some (.slice (some ⟨bk, off, none⟩) n cap) ∧ wr.cell? ⟨bk, off + 3, none⟩ = some v := ⟨h.bx.c0, h.bx.c1, h.bx.c2, h.c3⟩
set_option maxHeartbeats 6400000 in
theorem lIsIdeal_any (b d : Int) (a : Option Addr) (cap : Nat) (ps : List Pr) (w : World) (hm : ps.length ≤ 1048576) (hr : PeersAt w a ps) :
    Calls Try.prog 35 #[.agg #[.int .i64 b, .int .i64 d, .slice a ps.length cap]] w fun e w' => e = .returned (.tuple #[.bool (idlB b d ps), .bool (goodP b d ps)]) ∧ Below w.heap.size w w' := by
  have hr1 := hr.alloc (.cells #[.int .i64 b, .int .i64 d, .slice a ps.length cap] 28)
  have CG := lgood_any b d a cap ps _ hm hr1
  have HR : Hid (PeersAt w a ps) := hr
  clear hr hr1
  unfold idlB
  cases hg : goodP b d ps
  · rw [hg] at CG
    go_enter Try.func35, Try.ntmps35
    go_wp2_with fail
    refine CG.mono ?_
    rintro e w1 ⟨rfl, hw1⟩
    go_wp2
    go_ret2
    exact ⟨rfl, bel1 hw1 (by simp)⟩
  · rw [hg] at CG
    obtain ⟨R, hp⟩ := goodP_true hg
    have hl1 : 1 ≤ ps.length := by have := R.l1; rwa [idsP_len] at this
    have hmm : ps.length ≤ maxLen := by unfold maxLen; omega
    have hn3 := (prB_parts.1 (hp 0 (by omega))).2.2.1
    have RR : Hid (Ring b d (idsP ps)) := R
    clear R hp
    obtain ⟨bk, off, rfl⟩ := peersAt_form HR.out (by omega)
    obtain ⟨_, _, _, ab, cb, c3, _, _, _⟩ := (peersAt_cell HR.out (by omega)).2 0 (by omega)
    have hbk := (peersAt_cell HR.out (by omega)).1
    have HC3 : Hid (w.cell? ⟨bk, off + 3, none⟩ = some (.slice ab (ps.getD 0 pr0).backs.length cb)) := by unfold Hid; simpa using c3
    clear c3
    generalize (ps.getD 0 pr0).backs.length = nb at HC3 hn3
    go_enter Try.func35, Try.ntmps35
    go_wp2_with fail
    refine CG.mono ?_
    rintro e w1 ⟨rfl, hw1⟩
    have hbel := bel1 hw1 (by simp)
    have ST : Hid (ISt w w1 b d bk off ps.length cap (.slice ab nb cb)) := ⟨bxP1 hw1 (by simp), Nat.lt_of_lt_of_le hbk hbel.size, (hbel.cell (p := ⟨bk, off + 3, none⟩) hbk).trans HC3.out⟩
    clear CG hw1 hbel HC3
    have hpos : 0 < ps.length := hl1
    have hposI : (0 : Int) < (ps.length : Int) := by omega
    go_wp2_with fail
    have sta := ST.out.keep ((Below.refl _ _).drew)
    go_region_held (fun w' => w'.cell? ⟨w.heap.size, 0, none⟩ = some (.int .i64 b) ∧ w'.cell? ⟨w.heap.size, 1, none⟩ = some (.int .i64 d) ∧ w'.cell? ⟨w.heap.size, 2, none⟩ = some (.slice (some ⟨bk, off, none⟩) ps.length cap) ∧ w'.cell? ⟨bk, off + 3, none⟩ = some (.slice ab nb cb)) (with_reducible (first | exact sta.qq | exact stb.qq | exact stc.qq | exact std.qq)) (first
      | (go_at_call 54; refine (lmembers_any b d _ cap ps _ hm (HR.out.keep sta.bx.bel)).mono ?_; rintro e wa ⟨va, rfl, owa, hwa⟩; obtain ⟨a1, cap1, rfl, hc1, hrow1⟩ := own_rowAt owa; have HROW : Hid (RowAt wa a1 (idsP ps)) := hrow1; have stb := sta.keep hwa; clear owa hrow1 hc1)
      | (go_at_call 79; refine (lideal_any b d nb a1 cap1 (idsP ps) _ RR.out HROW.out hn3).mono ?_; rintro e wb ⟨vl, L, rfl, hL, lp, hwb⟩; obtain ⟨al, cl, rfl, hcl⟩ := lp.form; have stc := stb.keep hwb; have CS := lsameP_any b d (some ⟨bk, off, none⟩) al cap cl ps (L.map (·.1)) wb hmm (HR.out.keep stc.bx.bel) lp.peersAt; rw [List.length_map, hL] at CS; clear lp hL hcl)
      | (go_at_call 87; refine CS.mono ?_; rintro e wd ⟨rfl, hwd⟩; have std := stc.keep hwd))
    all_goals (go_wp2; go_ret2; exact ⟨rfl, std.bx.bel⟩)
end Go.Proofs.Ytgmdbihdnacpjaa
