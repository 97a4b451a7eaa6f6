/- The program's ideal peers. -/
import Derived.Test.YtgmdbihdnacpjaaX0
import Derived.Test.YtgmdbihdnacpjaaQ1
namespace Go.Proofs.Ytgmdbihdnacpjaa
open Go.RowKit
set_option linter.unusedVariables false
theorem bckL_get {zs : List Int} {p : Int} {n k : Nat} (hk : k < n) : (bckL zs p n).getD k 0 = prvI zs (prvN zs p k) := by
  simp [bckL, List.getD_eq_getElem?_getD, hk, prvN]
set_option maxHeartbeats 1600000 in
theorem backsOf_any (a : Option Addr) (cap : Nat) (zs : List Int) (p : Int) (n : Nat) (w : World) (l1 : 1 ≤ zs.length) (l2 : zs.length ≤ 16) (hn : n ≤ 3) (hr : RowAt w a zs) :
    Calls Try.prog 81 #[.slice a zs.length cap, .int .i64 p, .int .i64 (n : Int)] w fun e w' => e = .returned (.slice (some ⟨w.heap.size, 0, none⟩) n n) ∧ OwnZ w w' w.heap.size (bckL zs p n) := by
  have hmk := make_ints n (by omega)
  have hbl := bckL_len zs p n
  have HR : Hid (RowAt w a zs) := hr
  clear hr
  go_enter Try.func81, Try.ntmps81
  go_wp2_with fail
  clear hmk
  have st0 : OwnZ w (w.alloc (.cells (zv (List.replicate n 0)) 3)) w.heap.size (cop (bckL zs p n) 0) :=
    ⟨(Below.refl _ _).alloc (Nat.le_refl _) _, Nat.le_refl _, by rw [cop_none, hbl]; exact heap_alloc_new _ _⟩
  go_loopw [1, 13] (fun v1 vi wr => ∃ k : Nat, k ≤ n ∧ vi = .int .i64 k ∧ v1 = .int .i64 (prvN zs p k) ∧ OwnZ w wr w.heap.size (cop (bckL zs p n) k)) (fun _ vi _ => n - (intOf vi).toNat)
  case atStart => exact ⟨0, Nat.zero_le _, rfl, rfl, st0⟩
  case round =>
    obtain ⟨k, hk, rfl, rfl, st⟩ := hrel
    clear st0
    by_cases hlt : k < n
    · have C := prevIn_any a cap zs (prvN zs p k) wr l1 l2 (HR.out.keep st.bel)
      have HPS : Hid (prvI zs (prvN zs p k) = prvN zs p (k + 1)) := rfl
      obtain ⟨r0, r1⟩ := st.at k (by rw [cop_len (by omega)]; omega)
      have st2 := st.put k ((bckL zs p n).getD k 0)
      rw [cop_set (by omega), bckL_get hlt] at st2
      clear st
      generalize (cop (bckL zs p n) k).getD k 0 = y at r0
      generalize prvI zs (prvN zs p k) = pv at *
      go_wp2_with fail
      refine C.mono ?_
      rintro e w1 ⟨rfl, he1⟩
      subst he1
      go_wp2
      go_roundw
      case rel => exact ⟨k + 1, by omega, by go_num, by rw [HPS.out], st2⟩
      case measure => simp [intOf]; omega
    · have hkl : k = (bckL zs p n).length := by omega
      rw [hkl, cop_all] at st
      go_wp2
      go_ret
      exact ⟨rfl, st⟩

/-- the argument's box, the answer's box, the box of peers at X, their list at G -/
structure IPS (w wr : World) (b d : Int) (X G n : Nat) (L : List (Pr × Value)) : Prop where
  rb : RB w wr #[.int .i64 b, .int .i64 d] 25
  lo : w.heap.size + 2 ≤ X
  p : wr.heap[X]? = some (.cells #[.int .i64 b, .int .i64 d, .slice (some ⟨G, 0, none⟩) n n] 28 (0, 0))
  ow : OwnP (w.heap.size + 2) wr.heap.size wr G L
theorem IPS.hi {w wr : World} {b d : Int} {X G n : Nat} {L : List (Pr × Value)} (h : IPS w wr b d X G n L) : X < wr.heap.size := (Array.getElem?_eq_some_iff.1 h.p).1
theorem IPS.ne {w wr : World} {b d : Int} {X G n : Nat} {L : List (Pr × Value)} (h : IPS w wr b d X G n L) : ¬ X = G := fun he => by
  obtain ⟨cur, hc⟩ := h.ow.blk
  have hp := h.p
  rw [he, hc] at hp
  simp at hp
theorem IPS.keep {w wr w1 : World} {b d : Int} {X G n : Nat} {L : List (Pr × Value)} (h : IPS w wr b d X G n L) (hb : Below wr.heap.size wr w1) : IPS w w1 b d X G n L :=
  ⟨h.rb.keep hb, h.lo, (hb.block X h.hi).trans h.p, (h.ow.keep hb).wide hb.size⟩
theorem IPS.put {w wr : World} {b d : Int} {X G n : Nat} {L L' : List (Pr × Value)} {j : Nat} {v : Value} (h : IPS w wr b d X G n L) (ho : OwnP (w.heap.size + 2) wr.heap.size (wr.setCell ⟨G, j, none⟩ v) G L') : IPS w (wr.setCell ⟨G, j, none⟩ v) b d X G n L' := by
  have hlo := h.ow.lo
  refine ⟨h.rb.blocks (h.rb.bel.setCell (p := ⟨G, j, none⟩) (by simp; omega) _) (by simp [World.setCell]) (fun k hk => heap_setCell_other _ _ _ _ (by simp; omega)), h.lo, (heap_setCell_other _ _ _ _ (by simpa using h.ne)).trans h.p, ?_⟩
  have e : (wr.setCell ⟨G, j, none⟩ v).heap.size = wr.heap.size := by simp [World.setCell]
  rw [e]
  exact ho
theorem IPS.num {w wr : World} {b d : Int} {X G n : Nat} {L : List (Pr × Value)} (h : IPS w wr b d X G n L) {i : Nat} (hi : i < L.length) (f : Nat) (hf : f < 3) (z : Int) :
    IPS w (wr.setCell ⟨G, i * 4 + f, none⟩ (.int .i64 z)) b d X G n (L.set i (setF f (L.getD i d0).1 z, (L.getD i d0).2)) := h.put (h.ow.num hi f hf z)
theorem IPS.backs {w wr w1 : World} {b d : Int} {X G n : Nat} {L : List (Pr × Value)} (h : IPS w wr b d X G n L) (hb : Below wr.heap.size wr w1) {i : Nat} (hi : i < L.length) {bs : List Int} {gb cb : Nat} (hm : bs.length ≤ 1048576) (hcb : bs.length ≤ cb) (os : OwnS wr.heap.size w1 gb bs) :
    IPS w (w1.setCell ⟨G, i * 4 + 3, none⟩ (.slice (some ⟨gb, 0, none⟩) bs.length cb)) b d X G n (L.set i (⟨(L.getD i d0).1.id, (L.getD i d0).1.succ, (L.getD i d0).1.point, bs⟩, .slice (some ⟨gb, 0, none⟩) bs.length cb)) :=
  (h.keep hb).put (h.ow.backs rfl hb hi hm hcb os)
theorem IPS.cell {w wr : World} {b d : Int} {X G n : Nat} {L : List (Pr × Value)} (h : IPS w wr b d X G n L) : wr.cell? ⟨X, 0, none⟩ = some (.int .i64 b) ∧ wr.cell? ⟨X, 1, none⟩ = some (.int .i64 d) ∧ wr.cell? ⟨X, 2, none⟩ = some (.slice (some ⟨G, 0, none⟩) n n) :=
  ⟨(cell_of_row wr _ _ _ _ _ h.p).trans rfl, (cell_of_row wr _ _ _ _ _ h.p).trans rfl, (cell_of_row wr _ _ _ _ _ h.p).trans rfl⟩
theorem IPS.at {w wr : World} {b d : Int} {X G n : Nat} {L : List (Pr × Value)} (h : IPS w wr b d X G n L) (j : Nat) : wr.frozen? ⟨G, j, none⟩ = false := by
  obtain ⟨cur, hc⟩ := h.ow.blk
  exact frozen_of_row wr _ _ _ _ hc
theorem ips1 (w wa : World) (b d : Int) (n : Nat) (h : RB w wa #[.int .i64 b, .int .i64 d] 25) :
    IPS w ((wa.alloc (.cells (madeCells #[.int .i64 0, .int .i64 0, .int .i64 0, .slice none 0 0] (n * 4)) 37)).alloc (.cells #[.int .i64 b, .int .i64 d, .slice (some ⟨wa.heap.size, 0, none⟩) n n] 28)) b d (wa.heap.size + 1) wa.heap.size n (List.replicate n d0) := by
  have hlt := h.lt
  have hb1 := belA wa (.cells (madeCells #[.int .i64 0, .int .i64 0, .int .i64 0, .slice none 0 0] (n * 4)) 37)
  have hb2 := belA (wa.alloc (.cells (madeCells #[.int .i64 0, .int .i64 0, .int .i64 0, .slice none 0 0] (n * 4)) 37)) (.cells #[.int .i64 b, .int .i64 d, .slice (some ⟨wa.heap.size, 0, none⟩) n n] 28)
  refine ⟨(h.keep hb1).keep hb2, by omega, ?_, ?_⟩
  · have := heap_alloc_new (wa.alloc (.cells (madeCells #[.int .i64 0, .int .i64 0, .int .i64 0, .slice none 0 0] (n * 4)) 37)) (.cells #[.int .i64 b, .int .i64 d, .slice (some ⟨wa.heap.size, 0, none⟩) n n] 28)
    simpa using this
  · have := ((made_peers wa n).keep hb2).wide (T' := ((wa.alloc (.cells (madeCells #[.int .i64 0, .int .i64 0, .int .i64 0, .slice none 0 0] (n * 4)) 37)).alloc (.cells #[.int .i64 b, .int .i64 d, .slice (some ⟨wa.heap.size, 0, none⟩) n n] 28)).heap.size) (by simp)
    exact this.mono (by omega)
end Go.Proofs.Ytgmdbihdnacpjaa
