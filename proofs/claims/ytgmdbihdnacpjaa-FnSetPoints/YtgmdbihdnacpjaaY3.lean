/- What is drawn for SetPoint: what is kept meanwhile; the specification's members as new memory. -/
import Derived.Test.YtgmdbihdnacpjaaY2
import Derived.Test.YtgmdbihdnacpjaaC3
namespace Go.Proofs.Ytgmdbihdnacpjaa
open Go.RowKit Go.Deep
set_option linter.unusedVariables false
set_option maxHeartbeats 1600000 in
theorem lMembersOf_new (b d : Int) (a : Option Addr) (cap : Nat) (ps : List Pr) (w : World) (hm : ps.length ≤ 1048576) (hr : PeersAt w a ps) :
    Calls Try.prog 37 #[.agg #[.int .i64 b, .int .i64 d, .slice a ps.length cap]] w fun e w' => ∃ a' n c ok, e = .returned (.tuple #[.slice a' n c, .bool ok]) ∧ Below w.heap.size w w' ∧ (ok = true → 1 ≤ n ∧ n ≤ 16 ∧ ∃ g l, a' = some ⟨g, 0, none⟩ ∧ l.length = n ∧ OwnS w.heap.size w' g l) := by
  have hil := idsP_len ps
  have hr1 := hr.alloc (.cells #[.int .i64 b, .int .i64 d, .slice a ps.length cap] 28)
  have HR : Hid (PeersAt w a ps) := hr
  clear hr
  have C := lgood_any b d a cap ps _ hm hr1
  cases hg : goodP b d ps
  · rw [hg] at C
    go_enter Try.func37, Try.ntmps37
    go_wp2_with fail
    refine C.mono ?_
    rintro e w1 ⟨rfl, hw1⟩
    go_wp2
    go_ret2
    exact ⟨_, _, _, _, rfl, bel1 hw1 (by simp), fun h => by cases h⟩
  · rw [hg] at C
    have R := (goodP_true hg).1
    have l1 := R.l1
    have l2 := R.l2
    go_enter Try.func37, Try.ntmps37
    go_wp2_with fail
    refine C.mono ?_
    rintro e w1 ⟨rfl, hw1⟩
    have BX : Hid (BxP w w1 b d (.slice a ps.length cap)) := bxP1 hw1 (by simp)
    obtain ⟨_, _, q0, q1, q2⟩ := BX.out
    go_wp2_with fail
    refine (lmembers_any b d a cap ps w1 hm (HR.out.keep BX.out.bel)).mono ?_
    rintro e w2 ⟨v, rfl, hown, hw2⟩
    obtain ⟨g, cp, rfl⟩ := Joins.ownsRow_form hown (by omega)
    obtain ⟨os, hl, _⟩ := OwnS.of_owns hown
    go_wp2
    go_ret2
    exact ⟨_, _, _, _, rfl, belt BX.out.bel hw2, fun _ => ⟨by omega, by omega, g, _, rfl, hil, os.mono BX.out.bel.size⟩⟩
theorem rowU_of {w w1 : World} {a : Option Addr} {zs : List Int} (h : RowB w a zs) (hb : Below w.heap.size w w1) : RowU w1 (w.heap.size + 1) a zs := by
  rcases h with h | ⟨b, off, ha, hl, hc⟩
  · exact .inl h
  · exact .inr ⟨b, off, ha, Nat.lt_of_lt_of_le hl hb.size, by omega, fun i hi => ⟨(hb.cell (p := ⟨b, off + i, none⟩) hl).trans (hc i hi).1, (hc i hi).2⟩⟩
/-- the cursor, the answer's box, the box of peers and the peers, some members; all of it below T -/
structure DSt (w wr : World) (N : Nat) (a : Option Addr) (cap : Nat) (zs : List Int) (b d : Int) (X cp T : Nat) (ap : Option Addr) (ps : List Pr) : Prop where
  bel : Below w.heap.size w wr
  cur : CurAt wr (w.heap.size + 1) N a cap zs
  r : wr.heap[w.heap.size]? = some (.cells #[.int .i64 0, .int .i64 0, .slice none 0 0] 28 (0, 0))
  x : wr.heap[X]? = some (.cells #[.int .i64 b, .int .i64 d, .slice ap ps.length cp] 28 (0, 0))
  ow : OwnPs (w.heap.size + 2) T wr ap ps.length ps
  xlo : w.heap.size + 2 ≤ X
  xhi : X < T
  thi : T ≤ wr.heap.size
  row : RowB w a zs
section
variable {w wr : World} {N : Nat} {a : Option Addr} {cap : Nat} {zs : List Int} {b d : Int} {X cp T : Nat} {ap : Option Addr} {ps : List Pr}
theorem DSt.chg {w1 : World} {M : Nat} (h : DSt w wr N a cap zs b d X cp T ap ps) (hb : Below w.heap.size w w1) (hc : CurAt w1 (w.heap.size + 1) M a cap zs) (hs : wr.heap.size ≤ w1.heap.size) (hk : ∀ k, k < T → ¬ k = w.heap.size + 1 → w1.heap[k]? = wr.heap[k]?) : DSt w w1 M a cap zs b d X cp T ap ps := by
  have := h.xlo
  have := h.xhi
  exact ⟨hb, hc, (hk _ (by omega) (by omega)).trans h.r, (hk _ h.xhi (by omega)).trans h.x, h.ow.blocks (fun k h1 h2 _ => hk k h2 (by omega)), h.xlo, h.xhi, Nat.le_trans h.thi hs, h.row⟩
theorem DSt.step {w1 : World} {M : Nat} (h : DSt w wr N a cap zs b d X cp T ap ps) (mv : Mv (w.heap.size + 1) wr w1) (hc : CurAt w1 (w.heap.size + 1) M a cap zs) : DSt w w1 M a cap zs b d X cp T ap ps :=
  h.chg (mv.below h.bel (by omega)) hc mv.size (fun k hk hg => mv.block k (by have := h.thi; omega) hg)
theorem DSt.keep {w1 : World} (h : DSt w wr N a cap zs b d X cp T ap ps) (hb : Below wr.heap.size wr w1) : DSt w w1 N a cap zs b d X cp T ap ps := h.step (Mv.of_below hb) (h.cur.keep hb)
theorem DSt.more {M : Nat} (h : DSt w wr N a cap zs b d X cp T ap ps) (hM : N ≤ M) : DSt w wr M a cap zs b d X cp T ap ps := h.chg h.bel (h.cur.more hM) (Nat.le_refl _) (fun _ _ _ => rfl)
theorem DSt.xc (h : DSt w wr N a cap zs b d X cp T ap ps) : wr.cell? ⟨X, 0, none⟩ = some (.int .i64 b) ∧ wr.cell? ⟨X, 1, none⟩ = some (.int .i64 d) ∧ wr.cell? ⟨X, 2, none⟩ = some (.slice ap ps.length cp) :=
  ⟨(cell_of_row wr _ _ _ _ _ h.x).trans rfl, (cell_of_row wr _ _ _ _ _ h.x).trans rfl, (cell_of_row wr _ _ _ _ _ h.x).trans rfl⟩
theorem DSt.rc (h : DSt w wr N a cap zs b d X cp T ap ps) : wr.cell? ⟨w.heap.size, 0, none⟩ = some (.int .i64 0) ∧ wr.cell? ⟨w.heap.size, 1, none⟩ = some (.int .i64 0) ∧ wr.cell? ⟨w.heap.size, 2, none⟩ = some (.slice none 0 0) ∧
    wr.frozen? ⟨w.heap.size, 0, none⟩ = false ∧ wr.frozen? ⟨w.heap.size, 1, none⟩ = false ∧ wr.frozen? ⟨w.heap.size, 2, none⟩ = false :=
  ⟨(cell_of_row wr _ _ _ _ _ h.r).trans rfl, (cell_of_row wr _ _ _ _ _ h.r).trans rfl, (cell_of_row wr _ _ _ _ _ h.r).trans rfl, frozen_of_row wr _ _ _ _ h.r, frozen_of_row wr _ _ _ _ h.r, frozen_of_row wr _ _ _ _ h.r⟩
theorem DSt.grown {w1 : World} {r : Option Nat} (h : DSt w wr N a cap zs b d X cp T ap ps) (hg : wr.grownBy w1 r) (hr : ∀ k, r = some k → T ≤ k) : DSt w w1 N a cap zs b d X cp T ap ps := by
  have h1 := h.xlo
  have h2 := h.xhi
  have h3 := h.thi
  have hblk : ∀ k, k < T → w1.heap[k]? = wr.heap[k]? := fun k hk => hg.block k (by omega) (fun he => by have := hr k he.symm; omega)
  have hb : Below w.heap.size w w1 := h.bel.grown hg (by omega) (fun k hk => by have := hr k hk; omega)
  refine h.chg hb ?_ hg.size (fun k hk _ => hblk k hk)
  obtain ⟨k, sd, hB, hk, hw⟩ := h.cur.st
  exact ⟨⟨k, sd, (hblk _ (by omega)).trans hB, hk, hw⟩, rowU_of h.row hb, h.cur.len⟩
end
end Go.Proofs.Ytgmdbihdnacpjaa
