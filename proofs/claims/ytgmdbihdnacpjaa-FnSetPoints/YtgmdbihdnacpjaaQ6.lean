/- MembersOf, on both sides; what the laws over peers keep when peers are marked. -/
import Derived.Test.YtgmdbihdnacpjaaQ5
import Derived.Test.YtgmdbihdnacpjaaW7
namespace Go.Proofs.Ytgmdbihdnacpjaa
open Go.RowKit
set_option linter.unusedVariables false

set_option maxHeartbeats 1600000 in
theorem MembersOf_any (b d : Int) (a : Option Addr) (cap : Nat) (ps : List Pr) (w : World) (hm : ps.length ≤ 1048576) (hr : PeersAt w a ps) :
    Calls Try.prog 38 #[.agg #[.int .i64 b, .int .i64 d, .slice a ps.length cap]] w fun e w' => ∃ v, e = .returned v ∧ Below w.heap.size w w' ∧
      ((goodP b d ps = false ∧ v = .tuple #[.slice none 0 0, .bool false]) ∨ (goodP b d ps = true ∧ ∃ g, v = .tuple #[.slice (some ⟨g, 0, none⟩) ps.length ps.length, .bool true] ∧ OwnS w.heap.size w' g (idsP ps))) := by
  have hr1 := hr.alloc (.cells #[.int .i64 b, .int .i64 d, .slice a ps.length cap] 28)
  have HR : Hid (PeersAt w a ps) := hr
  clear hr
  have C := GoodPeers_any b d a cap ps _ hm hr1
  cases hg : goodP b d ps
  · rw [hg] at C
    go_enter Try.func38, Try.ntmps38
    go_wp2_with fail
    refine C.mono ?_
    rintro e w1 ⟨rfl, hw1⟩
    go_wp2
    go_ret2
    exact ⟨_, rfl, bel1 hw1 (by simp), .inl ⟨trivial, rfl⟩⟩
  · rw [hg] at C
    go_enter Try.func38, Try.ntmps38
    go_wp2_with fail
    refine C.mono ?_
    rintro e w1 ⟨rfl, hw1⟩
    have BX : Hid (BxP w w1 b d (.slice a ps.length cap)) := bxP1 hw1 (by simp)
    go_wp2_with fail
    refine (idsOf_any w.heap.size a cap ps w1 hm BX.out.lt BX.out.c2 (HR.out.keep BX.out.bel)).mono ?_
    rintro e w2 ⟨rfl, ow2⟩
    go_wp2
    go_ret2
    exact ⟨_, rfl, belt BX.out.bel ow2.bel, .inr ⟨trivial, _, rfl, ow2.owns.mono BX.out.bel.size⟩⟩

set_option maxHeartbeats 1600000 in
theorem lMembersOf_any (b d : Int) (a : Option Addr) (cap : Nat) (ps : List Pr) (w : World) (hm : ps.length ≤ 1048576) (hr : PeersAt w a ps) :
    Calls Try.prog 37 #[.agg #[.int .i64 b, .int .i64 d, .slice a ps.length cap]] w fun e w' => ∃ v, e = .returned v ∧ Below w.heap.size w w' ∧
      ((goodP b d ps = false ∧ v = .tuple #[.slice none 0 0, .bool false]) ∨ (goodP b d ps = true ∧ ∃ a0 cp, v = .tuple #[.slice a0 ps.length cp, .bool true] ∧ RowAt w' a0 (idsP ps))) := by
  have hil := idsP_len ps
  have hr1 := hr.alloc (.cells #[.int .i64 b, .int .i64 d, .slice a ps.length cap] 28)
  have HR : Hid (PeersAt w a ps) := hr
  clear hr
  have C := lgood_any b d a cap ps _ hm hr1
  cases hg : goodP b d ps
  · rw [hg] at C
    go_enter Try.func37, Try.ntmps37
    go_wp2_with fail
    refine C.mono ?_
    rintro e w1 ⟨rfl, hw1⟩
    go_wp2
    go_ret2
    exact ⟨_, rfl, bel1 hw1 (by simp), .inl ⟨trivial, rfl⟩⟩
  · rw [hg] at C
    go_enter Try.func37, Try.ntmps37
    go_wp2_with fail
    refine C.mono ?_
    rintro e w1 ⟨rfl, hw1⟩
    have BX : Hid (BxP w w1 b d (.slice a ps.length cap)) := bxP1 hw1 (by simp)
    obtain ⟨_, _, q0, q1, q2⟩ := BX.out
    go_wp2_with fail
    refine (lmembers_any b d a cap ps w1 hm (HR.out.keep BX.out.bel)).mono ?_
    rintro e w2 ⟨v, rfl, hown, hw2⟩
    obtain ⟨a1, cap1, rfl, hc1, hrow1⟩ := own_rowAt hown
    rw [hil]
    go_wp2
    go_ret2
    exact ⟨_, rfl, belt BX.out.bel hw2, .inr ⟨trivial, _, _, rfl, hrow1⟩⟩

/-- the box of peers that came in, where blocks beyond it turn -/
theorem BxP.away {w wr w1 : World} {b d : Int} {v : Value} (h : BxP w wr b d v) (hb : Below w.heap.size w w1) (hs : wr.heap.size ≤ w1.heap.size) (hk : w1.heap[w.heap.size]? = wr.heap[w.heap.size]?) : BxP w w1 b d v :=
  ⟨hb, Nat.lt_of_lt_of_le h.lt hs, (World.cell?_of_block (a := ⟨w.heap.size, 0, none⟩) hk).trans h.c0, (World.cell?_of_block (a := ⟨w.heap.size, 1, none⟩) hk).trans h.c1, (World.cell?_of_block (a := ⟨w.heap.size, 2, none⟩) hk).trans h.c2⟩
theorem BxP.only {w wr w1 : World} {b d : Int} {v : Value} {g : Nat} (h : BxP w wr b d v) (ho : Only g wr w1) (hg : w.heap.size < g) : BxP w w1 b d v :=
  h.away (ho.below h.bel (by omega)) (by rw [ho.size]; exact Nat.le_refl _) (ho.block _ (by omega))
theorem map_len {L : List (Pr × Value)} {ps : List Pr} (h : L.map (·.1) = ps) : L.length = ps.length := by rw [← h, List.length_map]
end Go.Proofs.Ytgmdbihdnacpjaa
