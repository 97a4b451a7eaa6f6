/- A list of peers copied whole; peers copied whole. -/
import Derived.Test.YtejajlloipkkhaaV2
import Derived.Test.YtejajlloipkkhaaK0
namespace Go.Proofs.Ytejajlloipkkhaa
open Go.RowKit
set_option linter.unusedVariables false

theorem map_fst {L : List (Pr × Value)} {ps : List Pr} (hl : L.length = ps.length) (h : ∀ i, i < ps.length → (L.getD i d0).1 = ps.getD i pr0) : L.map (·.1) = ps := by
  refine List.ext_getElem (by simp [hl]) (fun i h1 h2 => ?_)
  have hi : i < L.length := by omega
  have := h i h2
  simp [List.getD_eq_getElem?_getD, List.getElem?_eq_getElem hi, List.getElem?_eq_getElem h2] at this
  simpa using this

set_option maxRecDepth 100000 in
set_option maxHeartbeats 3200000 in
theorem toPeerS_any (a : Option Addr) (cap : Nat) (ps : List Pr) (w : World) (hb : ps.length + bsum ps ≤ 1048576) (hr : PeersAt w a ps) :
    Calls Try.prog 85 #[.slice a ps.length cap] w fun e w' => e = .returned (.slice (some ⟨w.heap.size, 0, none⟩) ps.length ps.length) ∧ (∃ L, L.map (·.1) = ps ∧ OwnP w.heap.size w'.heap.size w' w.heap.size L) ∧ Below w.heap.size w w' := by
  have HR : Hid (PeersAt w a ps) := hr
  clear hr
  have hz : ps.length ≤ 1048576 := by omega
  have hmk := make_peers ps.length hz
  have OW0 : Hid (OwnP w.heap.size (w.heap.size + 1) (w.alloc (.cells (madeCells #[.int .i64 0, .int .i64 0, .int .i64 0, .slice none 0 0] (ps.length * 4)) 101)) w.heap.size (List.replicate ps.length d0)) := made_peers w ps.length
  go_enter Try.func85, Try.ntmps85
  go_wp2_with fail
  clear hmk
  go_loopw [4] (fun vi wr => ∃ (k : Nat) (L : List (Pr × Value)), k ≤ ps.length ∧ vi = .int .i64 k ∧ L.length = ps.length ∧ Hid (∀ i, i < k → (L.getD i d0).1 = ps.getD i pr0) ∧ OwnP w.heap.size wr.heap.size wr w.heap.size L ∧ Below w.heap.size w wr) (fun vi _ => ps.length - (intOf vi).toNat)
  case atStart => exact ⟨0, List.replicate ps.length d0, Nat.zero_le _, rfl, List.length_replicate, fun i hi => by omega, by have := OW0.out; simpa using this, (Below.refl _ _).alloc (Nat.le_refl _) _⟩
  case round =>
    obtain ⟨k, L, hk, rfl, hL, hs, ow, hbel⟩ := hrel
    have HOW : Hid (OwnP w.heap.size wr.heap.size wr w.heap.size L) := ow
    have HB : Hid (Below w.heap.size w wr) := hbel
    have HL : Hid (L.length = ps.length) := hL
    clear ow hbel hL OW0
    by_cases hlt : k < ps.length
    · obtain ⟨bk, off, rfl⟩ := peersAt_form HR.out (by omega)
      obtain ⟨hb1, hp1⟩ := peersAt_cell (HR.out.keep HB.out) (by omega)
      obtain ⟨c0, c1, c2, ab, cb, c3, hrb, hn, hcb⟩ := hp1 k hlt
      have hnb := bsum_mem hlt
      obtain ⟨p, hp⟩ : ∃ p, p = ps.getD k pr0 := ⟨_, rfl⟩
      have HP : Hid (p = ps.getD k pr0) := hp
      rw [← hp] at c0 c1 c2 c3 hrb hn hcb hnb
      clear hp hp1 hn hcb
      obtain ⟨x, y, z, l⟩ := p
      have hll : l.length ≤ 1048576 := by simp at hnb; omega
      have HRB : Hid (RowAt wr ab l) := hrb
      clear hrb hnb
      go_wp2_with fail
      refine (toPeer_any x y z ab cb l _ hll HRB.out).mono ?_
      rintro e w1 ⟨gb, rfl, os1, hw1⟩
      have hkL : k < L.length := by rw [HL.out]; exact hlt
      have ow1 := HOW.out.keep hw1
      obtain ⟨e0, e1, e2, e3⟩ := ow1.cel k hkL
      obtain ⟨cur, hcur⟩ := ow1.blk
      have f0 : w1.frozen? ⟨w.heap.size, k * 4, none⟩ = false := frozen_of_row w1 _ _ _ _ hcur
      have f1 : w1.frozen? ⟨w.heap.size, k * 4 + 1, none⟩ = false := frozen_of_row w1 _ _ _ _ hcur
      have f2 : w1.frozen? ⟨w.heap.size, k * 4 + 2, none⟩ = false := frozen_of_row w1 _ _ _ _ hcur
      have f3 : w1.frozen? ⟨w.heap.size, k * 4 + 3, none⟩ = false := frozen_of_row w1 _ _ _ _ hcur
      have OWN : Hid (OwnP w.heap.size w1.heap.size (set4 w1 w.heap.size (k * 4) (.int .i64 x) (.int .i64 y) (.int .i64 z) (.slice (some ⟨gb, 0, none⟩) l.length l.length)) w.heap.size (L.set k (⟨x, y, z, l⟩, .slice (some ⟨gb, 0, none⟩) l.length l.length))) :=
        HOW.out.store (p := ⟨x, y, z, l⟩) rfl hw1 hkL hll (Nat.le_refl _) os1
      have HB1 : Hid (Below w.heap.size w (set4 w1 w.heap.size (k * 4) (.int .i64 x) (.int .i64 y) (.int .i64 z) (.slice (some ⟨gb, 0, none⟩) l.length l.length))) := set4_below (belt HB.out hw1) (Nat.le_refl _)
      have HS1 : Hid (∀ i, i < k + 1 → ((L.set k (⟨x, y, z, l⟩, .slice (some ⟨gb, 0, none⟩) l.length l.length)).getD i d0).1 = ps.getD i pr0) := fun i hi => by
        rw [List.getD_eq_getElem?_getD, List.getElem?_set]
        by_cases hik : k = i
        · subst hik; rw [if_pos rfl, if_pos hkL]; exact HP.out
        · rw [if_neg hik, ← List.getD_eq_getElem?_getD]; exact hs.out i (by omega)
      generalize (L.getD k d0).1.id = g0 at e0
      generalize (L.getD k d0).1.succ = g1 at e1
      generalize (L.getD k d0).1.point = g2 at e2
      generalize (L.getD k d0).2 = g3 at e3
      clear os1 hcur ow1
      go_wp2
      go_roundw
      case rel => exact ⟨k + 1, _, by omega, by go_num, by rw [List.length_set]; exact HL.out, HS1, by have := OWN.out; unfold set4 at this; simpa [World.setCell] using this, HB1.out⟩
      case measure => simp [intOf]; omega
    · have hke : k = ps.length := by omega
      subst hke
      go_wp2
      go_ret
      exact ⟨rfl, ⟨L, map_fst HL.out hs.out, HOW.out⟩, HB.out⟩

theorem OwnP.mono {B B' T : Nat} {w : World} {g : Nat} {L : List (Pr × Value)} (h : OwnP B T w g L) (hb : B' ≤ B) : OwnP B' T w g L := by
  refine ⟨Nat.le_trans hb h.lo, h.hi, h.blk, h.cel, fun i hi => ?_, h.sep⟩
  obtain ⟨ab, cb, hv, hc, hm, ho⟩ := h.val i hi
  refine ⟨ab, cb, hv, hc, hm, ?_⟩
  rcases ho with ho | ⟨gb, ha, ht, os⟩
  · exact .inl ho
  · exact .inr ⟨gb, ha, ht, os.mono hb⟩

theorem OwnP.far3 {B T : Nat} {w : World} {g q1 q2 : Nat} {L : List (Pr × Value)} (h : OwnP B T w g L) (h1 : q1 < B) (h2 : q2 < B) (u0 u1 u2 u3 : Value) : OwnP B T ((((w.setCell ⟨q1, 2, none⟩ u0).setCell ⟨q2, 0, none⟩ u1).setCell ⟨q2, 1, none⟩ u2).setCell ⟨q2, 2, none⟩ u3) g L :=
  h.blocks (fun k hk _ _ => by
    rw [heap_setCell_other _ _ _ _ (by simp; omega), heap_setCell_other _ _ _ _ (by simp; omega), heap_setCell_other _ _ _ _ (by simp; omega), heap_setCell_other _ _ _ _ (by simp; omega)])

set_option maxRecDepth 100000 in
set_option maxHeartbeats 3200000 in
theorem toPeers_any (b d : Int) (a : Option Addr) (cap : Nat) (ps : List Pr) (w : World) (hb : ps.length + bsum ps ≤ 1048576) (hr : PeersAt w a ps) :
    Calls Try.prog 40 #[.agg #[.int .i64 b, .int .i64 d, .slice a ps.length cap]] w fun e w' => ∃ g, e = .returned (.agg #[.int .i64 b, .int .i64 d, .slice (some ⟨g, 0, none⟩) ps.length ps.length]) ∧ (∃ L, L.map (·.1) = ps ∧ OwnP w.heap.size w'.heap.size w' g L) ∧ Below w.heap.size w w' := by
  have HR : Hid (PeersAt w a ps) := hr
  clear hr
  go_enter Try.func40, Try.ntmps40
  go_wp2_with fail
  refine (toSpace_any _ _ _).mono ?_
  rintro e w1 ⟨rfl, hw1⟩
  have HB1 : Hid (Below w.heap.size w w1) := (((( Below.refl _ _).alloc (Nat.le_refl _) _).alloc (by simp) _).alloc (by simp; try omega) _).trans (hw1.mono (by simp; try omega))
  have hs1 : w.heap.size + 1 + 1 < w1.heap.size := by have := hw1.size; simp at this; omega
  have RB : Hid (w1.heap[w.heap.size]? = some (.cells #[.int .i64 b, .int .i64 d, .slice a ps.length cap] 65 (0, 0))) := by
    refine (hw1.block _ (by simp; try omega)).trans ?_
    rw [heap_alloc_old _ _ (by simp; try omega), heap_alloc_old _ _ (by simp; try omega)]
    exact heap_alloc_new _ _
  have RO : Hid (w1.heap[w.heap.size + 1 + 1]? = some (.cells #[.int .i64 0, .int .i64 0, .slice none 0 0] 28 (0, 0))) := by
    refine (hw1.block _ (by simp; try omega)).trans ?_
    have := heap_alloc_new ((w.alloc (.cells #[.int .i64 b, .int .i64 d, .slice a ps.length cap] 65)).alloc (.cells #[.int .i64 0, .int .i64 0, .slice none 0 0] 28)) (.cells #[.int .i64 0, .int .i64 0, .slice none 0 0] 28)
    simpa using this
  have RR : Hid (w1.heap[w.heap.size + 1]? = some (.cells #[.int .i64 0, .int .i64 0, .slice none 0 0] 28 (0, 0))) := by
    refine (hw1.block _ (by simp; try omega)).trans ?_
    rw [heap_alloc_old _ _ (by simp)]
    have := heap_alloc_new (w.alloc (.cells #[.int .i64 b, .int .i64 d, .slice a ps.length cap] 65)) (.cells #[.int .i64 0, .int .i64 0, .slice none 0 0] 28)
    simpa using this
  have o0 : w1.cell? ⟨w.heap.size + 1 + 1, 0, none⟩ = some (.int .i64 0) := (cell_of_row w1 _ _ _ _ _ RO.out).trans rfl
  have o1 : w1.cell? ⟨w.heap.size + 1 + 1, 1, none⟩ = some (.int .i64 0) := (cell_of_row w1 _ _ _ _ _ RO.out).trans rfl
  have p0 : w1.frozen? ⟨w.heap.size + 1 + 1, 0, none⟩ = false := frozen_of_row w1 _ _ _ _ RO.out
  have p1 : w1.frozen? ⟨w.heap.size + 1 + 1, 1, none⟩ = false := frozen_of_row w1 _ _ _ _ RO.out
  have b2 : w1.cell? ⟨w.heap.size, 2, none⟩ = some (.slice a ps.length cap) := (cell_of_row w1 _ _ _ _ _ RB.out).trans rfl
  clear hw1
  go_wp2_with fail
  obtain ⟨W2, hW2⟩ : ∃ W2, (w1.setCell ⟨w.heap.size + 1 + 1, 0, none⟩ (.int .i64 b)).setCell ⟨w.heap.size + 1 + 1, 1, none⟩ (.int .i64 d) = W2 := ⟨_, rfl⟩
  have hsz2 : W2.heap.size = w1.heap.size := by rw [← hW2]; simp [World.setCell]
  have HB2 : Hid (Below w.heap.size w W2) := by rw [← hW2]; exact (HB1.out.setCell (p := ⟨w.heap.size + 1 + 1, 0, none⟩) (by simp; try omega) _).setCell (p := ⟨w.heap.size + 1 + 1, 1, none⟩) (by simp; try omega) _
  have RO2 : Hid (W2.heap[w.heap.size + 1 + 1]? = some (.cells #[.int .i64 b, .int .i64 d, .slice none 0 0] 28 (0, 0))) := by rw [← hW2]; exact heap_setCell_same _ _ 1 _ _ _ (heap_setCell_same _ _ 0 _ _ _ RO.out)
  have RR2 : Hid (W2.heap[w.heap.size + 1]? = some (.cells #[.int .i64 0, .int .i64 0, .slice none 0 0] 28 (0, 0))) := by
    rw [← hW2, heap_setCell_other _ _ _ _ (by simp), heap_setCell_other _ _ _ _ (by simp)]
    exact RR.out
  rw [hW2]
  have hs2 : w.heap.size + 1 + 1 < W2.heap.size := by omega
  clear hW2 o0 o1 p0 p1 b2 hsz2
  refine (toPeerS_any a cap ps _ hb (HR.out.keep HB2.out)).mono ?_
  rintro e w3 ⟨rfl, ⟨L, hL, ow3⟩, hw3⟩
  have HB3 : Hid (Below w.heap.size w w3) := belt HB2.out hw3
  have RO3 : Hid (w3.heap[w.heap.size + 1 + 1]? = some (.cells #[.int .i64 b, .int .i64 d, .slice none 0 0] 28 (0, 0))) := (hw3.block _ (by omega)).trans RO2.out
  have RR3 : Hid (w3.heap[w.heap.size + 1]? = some (.cells #[.int .i64 0, .int .i64 0, .slice none 0 0] 28 (0, 0))) := (hw3.block _ (by omega)).trans RR2.out
  have OW3 : Hid (OwnP W2.heap.size w3.heap.size w3 W2.heap.size L) := ow3
  have o0 : w3.cell? ⟨w.heap.size + 1 + 1, 0, none⟩ = some (.int .i64 b) := (cell_of_row w3 _ _ _ _ _ RO3.out).trans rfl
  have o1 : w3.cell? ⟨w.heap.size + 1 + 1, 1, none⟩ = some (.int .i64 d) := (cell_of_row w3 _ _ _ _ _ RO3.out).trans rfl
  have o2 : w3.cell? ⟨w.heap.size + 1 + 1, 2, none⟩ = some (.slice none 0 0) := (cell_of_row w3 _ _ _ _ _ RO3.out).trans rfl
  have p2 : w3.frozen? ⟨w.heap.size + 1 + 1, 2, none⟩ = false := frozen_of_row w3 _ _ _ _ RO3.out
  have r0 : w3.cell? ⟨w.heap.size + 1, 0, none⟩ = some (.int .i64 0) := (cell_of_row w3 _ _ _ _ _ RR3.out).trans rfl
  have r1 : w3.cell? ⟨w.heap.size + 1, 1, none⟩ = some (.int .i64 0) := (cell_of_row w3 _ _ _ _ _ RR3.out).trans rfl
  have r2 : w3.cell? ⟨w.heap.size + 1, 2, none⟩ = some (.slice none 0 0) := (cell_of_row w3 _ _ _ _ _ RR3.out).trans rfl
  have q0 : w3.frozen? ⟨w.heap.size + 1, 0, none⟩ = false := frozen_of_row w3 _ _ _ _ RR3.out
  have q1 : w3.frozen? ⟨w.heap.size + 1, 1, none⟩ = false := frozen_of_row w3 _ _ _ _ RR3.out
  have q2 : w3.frozen? ⟨w.heap.size + 1, 2, none⟩ = false := frozen_of_row w3 _ _ _ _ RR3.out
  have HLL : Hid (L.map (·.1) = ps) := hL
  clear ow3 hw3 hL
  go_wp2
  have HE : ∀ v : Value, Hid (((((w3.setCell ⟨w.heap.size + 1 + 1, 2, none⟩ v).setCell ⟨w.heap.size + 1, 0, none⟩ (.int .i64 b)).setCell ⟨w.heap.size + 1, 1, none⟩ (.int .i64 d)).setCell ⟨w.heap.size + 1, 2, none⟩ v).heap[w.heap.size + 1]? = some (.cells #[.int .i64 b, .int .i64 d, v] 28 (0, 0))) := fun v => by
    have h0 : (w3.setCell ⟨w.heap.size + 1 + 1, 2, none⟩ v).heap[w.heap.size + 1]? = some (.cells #[.int .i64 0, .int .i64 0, .slice none 0 0] 28 (0, 0)) := (heap_setCell_other _ _ _ _ (by simp)).trans RR3.out
    exact heap_setCell_same _ _ 2 _ _ _ (heap_setCell_same _ _ 1 _ _ _ (heap_setCell_same _ _ 0 _ _ _ h0))
  refine bodyPost_ret (results_cell_row Try.results40 _ _ (w.heap.size + 1) _ _ _ _ rfl (HE _).out Try.underlying28 rfl (by kernel_rfl)) rfl ⟨W2.heap.size, rfl, ⟨L, HLL.out, ?_⟩, ?_⟩
  · exact ((OW3.out.far3 (q1 := w.heap.size + 1 + 1) (q2 := w.heap.size + 1) (by omega) (by omega) _ _ _ _).mono (by omega)).wide (by simp [World.setCell])
  · exact (((HB3.out.setCell (p := ⟨w.heap.size + 1 + 1, 2, none⟩) (by simp; try omega) _).setCell (p := ⟨w.heap.size + 1, 0, none⟩) (by simp) _).setCell (p := ⟨w.heap.size + 1, 1, none⟩) (by simp) _).setCell (p := ⟨w.heap.size + 1, 2, none⟩) (by simp) _
end Go.Proofs.Ytejajlloipkkhaa
