/- MsgBytes: the program answers as the specification. -/
import Derived.Test.YtabbicfakkehpaaBy2
import Derived.Test.YtabbicfakkehpaaF9
namespace Go.Proofs.Ytabbicfakkehpaa
open Go.RowKit Go.Deep
set_option linter.unusedVariables false
set_option linter.unusedSimpArgs false
def mbS (b d x0 x1 x2 x3 x4 x5 x6 x7 : Int) (l : List Int) : ByteArray := if gmB b d x0 x1 x2 x3 x4 x5 x6 x7 l = true then strOfNums (wire x0 x1 x2 x3 x4 x5 x6 x7 l) else ⟨#[]⟩
theorem mbS_no {b d x0 x1 x2 x3 x4 x5 x6 x7 : Int} {l : List Int} (h : gmB b d x0 x1 x2 x3 x4 x5 x6 x7 l = false) : mbS b d x0 x1 x2 x3 x4 x5 x6 x7 l = ⟨#[]⟩ := by unfold mbS; rw [h]; rfl
theorem mbS_yes {b d x0 x1 x2 x3 x4 x5 x6 x7 : Int} {l : List Int} (h : gmB b d x0 x1 x2 x3 x4 x5 x6 x7 l = true) : mbS b d x0 x1 x2 x3 x4 x5 x6 x7 l = strOfNums (wire x0 x1 x2 x3 x4 x5 x6 x7 l) := by unfold mbS; rw [h]; rfl
theorem ret_sb {s s' : ByteArray} {b b' : Bool} (h : s = s') (k : b = b') : Ending.returned (.tuple #[.string s, .bool b]) = .returned (.tuple #[.string s', .bool b']) := by rw [h, k]
theorem OwB.lit3 (w : World) (x y z : Int) : OwB w.heap.size (w.alloc (.cells #[.int .u8 x, .int .u8 y, .int .u8 z] 5)) (.slice (some ⟨w.heap.size, 0, none⟩) 3 3) [x, y, z] :=
  World.ownsRow_lit w #[.int .u8 x, .int .u8 y, .int .u8 z] 3 (Nat.le_refl _) (by simp [maxLen]) rfl
theorem vf_bd {x0 x1 x2 x3 x4 x5 x6 x7 : Int} {l : List Int} (h : MBd x0 x1 x2 x3 x4 x5 x6 x7 l) (f : Int) : 0 ≤ vf x4 x5 x6 x7 f ∧ vf x4 x5 x6 x7 f ≤ 65535 := by
  unfold vf
  split
  · exact h.b4
  split
  · exact h.b5
  split
  · exact h.b6
  · exact h.b7
theorem OwB.row {B : Nat} {w : World} {g n cap : Nat} {L : List Int} (h : OwB B w (.slice (some ⟨g, 0, none⟩) n cap) L) : B ≤ g ∧ L.length = n ∧ n ≤ cap ∧ cap ≤ maxLen ∧ ∃ cur, w.heap[g]? = some (.cells cur 5 (0, 0)) ∧ cur.size = cap ∧ cur.toList.take n = L.map (Value.int .u8) := by
  rcases h.2 with ⟨h1, _⟩ | ⟨g', cap', cur, h1, hg, hr, h2, h3, h4, h5⟩
  · cases h1
  · simp at h1
    obtain ⟨rfl, h6, rfl⟩ := h1
    subst h6
    exact ⟨hg, rfl, h2, h3, cur, hr, by simpa using h4, by simpa using h5⟩
theorem OwB.put {B : Nat} {w : World} {g n cap : Nat} {L : List Int} (h : OwB B w (.slice (some ⟨g, 0, none⟩) n cap) L) (i : Nat) (x : Int) (hi : i < L.length) : OwB B (w.setCell ⟨g, i, none⟩ (.int .u8 x)) (.slice (some ⟨g, 0, none⟩) n cap) (L.set i x) := by
  obtain ⟨h1, h2, h3, h4, cur, h5, h6, h7⟩ := h.row
  subst h2
  refine ⟨by simp, .inr ⟨g, cap, _, by simp, h1, heap_setCell_same _ _ _ _ _ _ h5, by simpa using h3, h4, by simpa using h6, ?_⟩⟩
  rw [Array.toList_setIfInBounds, List.length_set, Nat.mul_one, List.take_set, h7, List.map_set]
theorem OwB.at0 {B : Nat} {w : World} {g n cap : Nat} {x : Int} {L : List Int} (h : OwB B w (.slice (some ⟨g, 0, none⟩) n cap) (x :: L)) : w.cell? ⟨g, 0, none⟩ = some (.int .u8 x) ∧ w.frozen? ⟨g, 0, none⟩ = false := by
  obtain ⟨h1, h2, h3, h4, cur, h5, h6, h7⟩ := h.row
  refine ⟨?_, frozen_of_row w _ _ _ _ h5⟩
  rw [cell_of_row w _ _ _ _ _ h5]
  have h8 := congrArg (·[0]?) h7
  have hn : 0 < n := by rw [← h2]; simp
  simp only [List.getElem?_take_of_lt hn] at h8
  rw [Array.getElem?_toList] at h8
  rw [h8]
  rfl
set_option maxRecDepth 100000 in
set_option maxHeartbeats 6400000 in
theorem lMsgBytes_any (b d : Int) (x0 x1 x2 x3 x4 x5 x6 x7 : Int) (a : Option Addr) (cap n : Nat) (l : List Int) (w : World) (hn : l.length = n) (hm : n ≤ 1048576) (hr : RowAt w a l) :
    Calls Try.prog 22 #[.agg #[.int .i64 b, .int .i64 d], .agg #[.int .i64 x0, .int .i64 x1, .int .i64 x2, .int .i64 x3, .int .i64 x4, .int .i64 x5, .int .i64 x6, .int .i64 x7, .slice a n cap]] w fun e w' => e = .returned (.tuple #[.string (mbS b d x0 x1 x2 x3 x4 x5 x6 x7 l), .bool (gmB b d x0 x1 x2 x3 x4 x5 x6 x7 l)]) ∧ Below w.heap.size w w' := by
  subst hn
  have HR : Hid (RowAt w a l) := hr
  clear hr
  have hm : l.length ≤ maxLen := by unfold maxLen; omega
  cases hg0 : gmB b d x0 x1 x2 x3 x4 x5 x6 x7 l
  · have hg : Hid (gmB b d x0 x1 x2 x3 x4 x5 x6 x7 l = false) := hg0
    have hv : Hid (mbS b d x0 x1 x2 x3 x4 x5 x6 x7 l = ⟨#[]⟩) := mbS_no hg0
    clear hg0
    go_enter Try.func22, Try.ntmps22
    go_wp2_with fail
    refine (lGoodMsg_any b d x0 x1 x2 x3 x4 x5 x6 x7 a cap _ l _ rfl hm (HR.out.keep (((Below.refl _ _).alloc (Nat.le_refl _) _).alloc (by simp) _))).mono ?_
    rintro e w1 ⟨rfl, HW⟩
    rw [hg.out]
    obtain ⟨KA, KB, HB⟩ := bkAB HW
    have S_1 : Hid (Bk w1 w.heap.size #[.int .i64 b, .int .i64 d] 30) := KA
    have M_1 : Hid (Bk w1 (w.heap.size + 1) #[.int .i64 x0, .int .i64 x1, .int .i64 x2, .int .i64 x3, .int .i64 x4, .int .i64 x5, .int .i64 x6, .int .i64 x7, .slice a l.length cap] 33) := KB
    have BEL_1 : Hid (Below w.heap.size w w1) := HB
    clear HW KA KB HB
    obtain ⟨qS0, qS1⟩ := Bk.c2 S_1.out
    have lS := Bk.lt S_1.out
    obtain ⟨qM0, qM1, qM2, qM3, qM4, qM5, qM6, qM7, qM8⟩ := Bk.c9 M_1.out
    have lM := Bk.lt M_1.out
    go_wp2
    go_ret2
    exact ⟨ret_sb hv.out.symm rfl, BEL_1.out⟩
  have hg : Hid (gmB b d x0 x1 x2 x3 x4 x5 x6 x7 l = true) := hg0
  have hv : Hid (mbS b d x0 x1 x2 x3 x4 x5 x6 x7 l = strOfNums (wire x0 x1 x2 x3 x4 x5 x6 x7 l)) := mbS_yes hg0
  have HBD : Hid (MBd x0 x1 x2 x3 x4 x5 x6 x7 l) := gm_bd hg0
  clear hg0
  go_enter Try.func22, Try.ntmps22
  go_wp2_with fail
  refine (lGoodMsg_any b d x0 x1 x2 x3 x4 x5 x6 x7 a cap _ l _ rfl hm (HR.out.keep (((Below.refl _ _).alloc (Nat.le_refl _) _).alloc (by simp) _))).mono ?_
  rintro e w1 ⟨rfl, HW⟩
  rw [hg.out]
  obtain ⟨KA, KB, HB⟩ := bkAB HW
  have S_1 : Hid (Bk w1 w.heap.size #[.int .i64 b, .int .i64 d] 30) := KA
  have M_1 : Hid (Bk w1 (w.heap.size + 1) #[.int .i64 x0, .int .i64 x1, .int .i64 x2, .int .i64 x3, .int .i64 x4, .int .i64 x5, .int .i64 x6, .int .i64 x7, .slice a l.length cap] 33) := KB
  have BEL_1 : Hid (Below w.heap.size w w1) := HB
  clear HW KA KB HB
  obtain ⟨qS0, qS1⟩ := Bk.c2 S_1.out
  have lS := Bk.lt S_1.out
  obtain ⟨qM0, qM1, qM2, qM3, qM4, qM5, qM6, qM7, qM8⟩ := Bk.c9 M_1.out
  have lM := Bk.lt M_1.out
  go_wp2_with fail
  refine (lBytes_any x0 x1 x2 x3 x4 x5 x6 x7 a cap _ l _ rfl HBD.out (HR.out.keep BEL_1.out)).mono ?_
  rintro e w2 ⟨rfl, HW⟩
  clear qS0 qS1 lS qM0 qM1 qM2 qM3 qM4 qM5 qM6 qM7 qM8 lM
  have S_2 : Hid (Bk w2 w.heap.size #[.int .i64 b, .int .i64 d] 30) := S_1.out.keep (HW)
  have M_2 : Hid (Bk w2 (w.heap.size + 1) #[.int .i64 x0, .int .i64 x1, .int .i64 x2, .int .i64 x3, .int .i64 x4, .int .i64 x5, .int .i64 x6, .int .i64 x7, .slice a l.length cap] 33) := M_1.out.keep (HW)
  have BEL_2 : Hid (Below w.heap.size w w2) := belt BEL_1.out (HW)
  clear S_1 M_1 BEL_1
  clear HW
  go_wp2
  go_ret2
  exact ⟨ret_sb hv.out.symm rfl, BEL_2.out⟩
set_option maxRecDepth 100000 in
set_option maxHeartbeats 6400000 in
theorem MsgBytes_any (b d : Int) (x0 x1 x2 x3 x4 x5 x6 x7 : Int) (a : Option Addr) (cap n : Nat) (l : List Int) (w : World) (hn : l.length = n) (hm : n ≤ 1048576) (hr : RowAt w a l) :
    Calls Try.prog 15 #[.agg #[.int .i64 b, .int .i64 d], .agg #[.int .i64 x0, .int .i64 x1, .int .i64 x2, .int .i64 x3, .int .i64 x4, .int .i64 x5, .int .i64 x6, .int .i64 x7, .slice a n cap]] w fun e w' => e = .returned (.tuple #[.string (mbS b d x0 x1 x2 x3 x4 x5 x6 x7 l), .bool (gmB b d x0 x1 x2 x3 x4 x5 x6 x7 l)]) ∧ Below w.heap.size w w' := by
  subst hn
  have HR : Hid (RowAt w a l) := hr
  clear hr
  have hm : l.length ≤ maxLen := by unfold maxLen; omega
  cases hg0 : gmB b d x0 x1 x2 x3 x4 x5 x6 x7 l
  · have hg : Hid (gmB b d x0 x1 x2 x3 x4 x5 x6 x7 l = false) := hg0
    have hv : Hid (mbS b d x0 x1 x2 x3 x4 x5 x6 x7 l = ⟨#[]⟩) := mbS_no hg0
    clear hg0
    go_enter Try.func15, Try.ntmps15
    go_wp2_with fail
    refine (GoodMsg_any b d x0 x1 x2 x3 x4 x5 x6 x7 a cap _ l _ rfl hm (HR.out.keep (((Below.refl _ _).alloc (Nat.le_refl _) _).alloc (by simp) _))).mono ?_
    rintro e w1 ⟨rfl, HW⟩
    rw [hg.out]
    obtain ⟨KA, KB, HB⟩ := bkAB HW
    have S_1 : Hid (Bk w1 w.heap.size #[.int .i64 b, .int .i64 d] 30) := KA
    have M_1 : Hid (Bk w1 (w.heap.size + 1) #[.int .i64 x0, .int .i64 x1, .int .i64 x2, .int .i64 x3, .int .i64 x4, .int .i64 x5, .int .i64 x6, .int .i64 x7, .slice a l.length cap] 33) := KB
    have BEL_1 : Hid (Below w.heap.size w w1) := HB
    clear HW KA KB HB
    obtain ⟨qS0, qS1⟩ := Bk.c2 S_1.out
    have lS := Bk.lt S_1.out
    obtain ⟨qM0, qM1, qM2, qM3, qM4, qM5, qM6, qM7, qM8⟩ := Bk.c9 M_1.out
    have lM := Bk.lt M_1.out
    go_wp2
    go_ret2
    exact ⟨ret_sb hv.out.symm rfl, BEL_1.out⟩
  have hg : Hid (gmB b d x0 x1 x2 x3 x4 x5 x6 x7 l = true) := hg0
  have hv : Hid (mbS b d x0 x1 x2 x3 x4 x5 x6 x7 l = strOfNums (wire x0 x1 x2 x3 x4 x5 x6 x7 l)) := mbS_yes hg0
  have HBD : Hid (MBd x0 x1 x2 x3 x4 x5 x6 x7 l) := gm_bd hg0
  clear hg0
  obtain ⟨⟨p0, p0'⟩, ⟨p1, p1'⟩, ⟨p2, p2'⟩, ⟨p3, p3'⟩, ⟨p4, p4'⟩, ⟨p5, p5'⟩, ⟨p6, p6'⟩, ⟨p7, p7'⟩, hl4, _⟩ := HBD.out
  obtain ⟨i0, hi, hieq⟩ := Option.map_eq_some_iff.1 info_byte
  obtain ⟨hz0, hz1, hz2⟩ : i0.zero = some (.int .u8 0) ∧ i0.size = 1 ∧ i0.bytes = 1 := by simpa using hieq
  clear hieq
  go_enter Try.func15, Try.ntmps15
  go_wp2_with fail
  refine (GoodMsg_any b d x0 x1 x2 x3 x4 x5 x6 x7 a cap _ l _ rfl hm (HR.out.keep (((Below.refl _ _).alloc (Nat.le_refl _) _).alloc (by simp) _))).mono ?_
  rintro e w1 ⟨rfl, HW⟩
  rw [hg.out]
  obtain ⟨KA, KB, HB⟩ := bkAB HW
  have S_1 : Hid (Bk w1 w.heap.size #[.int .i64 b, .int .i64 d] 30) := KA
  have M_1 : Hid (Bk w1 (w.heap.size + 1) #[.int .i64 x0, .int .i64 x1, .int .i64 x2, .int .i64 x3, .int .i64 x4, .int .i64 x5, .int .i64 x6, .int .i64 x7, .slice a l.length cap] 33) := KB
  have BEL_1 : Hid (Below w.heap.size w w1) := HB
  clear HW KA KB HB
  obtain ⟨qS0, qS1⟩ := Bk.c2 S_1.out
  have lS := Bk.lt S_1.out
  obtain ⟨qM0, qM1, qM2, qM3, qM4, qM5, qM6, qM7, qM8⟩ := Bk.c9 M_1.out
  have lM := Bk.lt M_1.out
  go_wp2_with fail
  clear qS0 qS1 lS qM0 qM1 qM2 qM3 qM4 qM5 qM6 qM7 qM8 lM
  have O2 : Hid (OwB w1.heap.size ((w1.alloc (.cells #[.int .u8 0, .int .u8 x0, .int .u8 x1] 5)).alloc (.cells #[.int .i64 x2, .int .i64 x3] 3)) (.slice (some ⟨w1.heap.size, 0, none⟩) 3 3) [0, x0, x1]) := (OwB.lit3 w1 0 x0 x1).alloc _
  have R2 : Hid (RowAt ((w1.alloc (.cells #[.int .u8 0, .int .u8 x0, .int .u8 x1] 5)).alloc (.cells #[.int .i64 x2, .int .i64 x3] 3)) (some ⟨w1.heap.size + 1, 0, none⟩) [x2, x3]) := by
    have h := rowAt_new2 (w1.alloc (.cells #[.int .u8 0, .int .u8 x0, .int .u8 x1] 5)) x2 x3
    simp only [World.size_alloc] at h
    exact h
  have B2 : Hid (Below w1.heap.size w1 ((w1.alloc (.cells #[.int .u8 0, .int .u8 x0, .int .u8 x1] 5)).alloc (.cells #[.int .i64 x2, .int .i64 x3] 3))) := ((Below.refl _ _).alloc (Nat.le_refl _) _).alloc (by simp) _
  have hs2 : w1.heap.size ≤ ((w1.alloc (.cells #[.int .u8 0, .int .u8 x0, .int .u8 x1] 5)).alloc (.cells #[.int .i64 x2, .int .i64 x3] 3)).heap.size := B2.out.size
  generalize ((w1.alloc (.cells #[.int .u8 0, .int .u8 x0, .int .u8 x1] 5)).alloc (.cells #[.int .i64 x2, .int .i64 x3] 3)) = w2 at *
  refine (add_any w1.heap.size _ [0, x0, x1] _ 2 _ [x2, x3] w2 hs2 O2.out (by simp) rfl (by simp) R2.out (fun i hi => by match i, hi with | 0, _ => exact ⟨p2, p2'⟩ | 1, _ => exact ⟨p3, p3'⟩) (fun _ b off hb => by simp at hb; simp [Value.ownBlock]; omega)).mono ?_
  rintro e w3 ⟨v3, rfl, O3', G3⟩
  have O3 : Hid (OwB w1.heap.size w3 v3 ([0, x0, x1] ++ [x2, x3].flatMap tw)) := O3'
  have B3 : Hid (Below w1.heap.size w1 w3) := B2.out.trans (G3.below hs2 (fun k hk => (O2.out.lo k hk).1))
  clear O2 R2 B2 O3' G3 hs2
  obtain ⟨q0, q1, q2, q3, q4, q5, q6, q7, q8⟩ := Bk.c9 (M_1.out.keep B3.out)
  go_wp2_with fail
  refine (fieldsOf_any x0 _).mono ?_
  rintro e w4 ⟨aF, nF, cF, rfl, hnF, hcF, oF, hw⟩
  have O4 : Hid (OwB w1.heap.size w4 v3 ([0, x0, x1] ++ [x2, x3].flatMap tw)) := O3.out.keep hw
  have B4 : Hid (Below w1.heap.size w1 w4) := B3.out.trans (hw.mono (by have := B3.out.size; omega))
  have F4 : Hid (RowAt w4 aF (fld x0)) := oF.rowAt
  have HN : Hid (0 < nF → ∀ g off, aF = some ⟨g, off, none⟩ → v3.ownBlock ≠ some g) := fun h0 => fld_apart O3.out oF (by omega)
  have hs4 : w1.heap.size ≤ w4.heap.size := B4.out.size
  have hF4 := fld_big x0
  clear hw oF O3 B3 q0 q1 q2 q3 q4 q5 q6 q7 q8
  go_wp2_with fail
  go_loopw [6, 30] (fun vb vi wr => ∃ (vv : Value) (j : Nat), vb = vv ∧ j ≤ nF ∧ vi = .int .i64 j ∧ Hid (OwB w1.heap.size wr vv ([0, x0, x1] ++ [x2, x3].flatMap tw ++ ((fld x0).take j).flatMap (fB x4 x5 x6 x7 l))) ∧ Hid (Below w1.heap.size w1 wr) ∧ Hid (Gw w4 wr v3 vv)) (fun _ vi _ => nF - (intOf vi).toNat)
  case atStart => exact ⟨v3, 0, rfl, Nat.zero_le _, rfl, by simpa [Hid] using O4.out, B4, Gw.refl _ _⟩
  case round =>
    obtain ⟨vv, j, rfl, hj, rfl, ob, bb, gw⟩ := hrel
    have hsr : w1.heap.size ≤ wr.heap.size := bb.out.size
    obtain ⟨q0, q1, q2, q3, q4, q5, q6, q7, q8⟩ := Bk.c9 (M_1.out.keep bb.out)
    by_cases hlt : j < nF
    · have hmem := fld_mem x0 j (by omega)
      have hrow := F4.out.gw gw.out (HN.out (by omega))
      obtain ⟨bk, off, hform⟩ := rowAt_form hrow (by omega)
      subst hform
      have hc1 := (rowAt_cell hrow (by omega)).2 j (by omega)
      clear hrow
      have HT : Hid (((fld x0).take (j + 1)).flatMap (fB x4 x5 x6 x7 l) = ((fld x0).take j).flatMap (fB x4 x5 x6 x7 l) ++ fB x4 x5 x6 x7 l ((fld x0).getD j 0)) := fB_take (by omega)
      have hLn : ([0, x0, x1] ++ [x2, x3].flatMap tw ++ ((fld x0).take j).flatMap (fB x4 x5 x6 x7 l)).length ≤ 100 := by
        have h9 := fB_flat x4 x5 x6 x7 l hl4 ((fld x0).take j)
        rw [List.length_take] at h9
        have h8 : ([0, x0, x1] ++ [x2, x3].flatMap tw : List Int).length = 7 := rfl
        rw [List.length_append, h8]
        omega
      generalize ((fld x0).take j).flatMap (fB x4 x5 x6 x7 l) = M at *
      by_cases h5 : (fld x0).getD j 0 = 5
      · have e1 : fB x4 x5 x6 x7 l ((fld x0).getD j 0) = (l.length : Int) :: l.flatMap tw := by rw [h5]; rfl
        rw [e1] at HT
        have hf : (((fld x0).getD j 0) == 5) = true := by rw [h5]; rfl
        clear h5 e1
        generalize (fld x0).getD j 0 = f at hc1 hf hmem
        go_wp2_with (at_builtin; refine wpList_append_gw _ rfl _ _ 22 rfl w1.heap.size 5 i0 (.int .u8 0) 1 1 Try.underlying22 hi hz0 hz1 hz2 rfl (by decide) _ _ _ rfl (OwB.alloc ob.out _) ⟨_, 0, none⟩ 1 1 [.int .u8 (l.length : Int)] rfl rfl (cells_new1 _ _) (by simp [Value.oneCell']) (by unfold maxLen; omega) (by omega) (by have := bb.out.size; simp; omega) ?_; intro v5 w5 hown hgrow; have B5 : Hid (Below w1.heap.size w1 w5) := app_bel bb.out (by have := bb.out.size; omega) ob.out hgrow; have O5 : Hid (OwB w1.heap.size w5 v5 (([0, x0, x1] ++ [x2, x3].flatMap tw ++ M) ++ [(l.length : Int)])) := OwB.snoc (k := [(l.length : Int)]) rfl hown; have G5 : Hid (Gw w4 w5 v3 v5) := Gw.trans gw.out (Gw.trans ((Gw.refl _ _).alloc _) hgrow); clear hown hgrow; obtain ⟨r0, r1, r2, r3, r4, r5, r6, r7, r8⟩ := Bk.c9 (M_1.out.keep B5.out))
        refine (add_any w1.heap.size _ ([0, x0, x1] ++ [x2, x3].flatMap tw ++ M ++ [(l.length : Int)]) _ _ _ l _ (by have := B5.out.size; omega) O5.out (by rw [List.length_append]; simp only [List.length_cons, List.length_nil]; omega) rfl (by omega) (HR.out.keep (BEL_1.out.trans (B5.out.mono BEL_1.out.size))) HBD.out.row (fun h0 b off hb hk => ?apart)).mono ?_
        case apart =>
          have h1 := (O5.out.lo b hk).1
          have hr0 := HR.out
          rw [hb] at hr0
          have h2 := (rowAt_cell hr0 h0).1
          have := BEL_1.out.size
          omega
        rintro e w6 ⟨v6, rfl, O6', G6'⟩
        have O6 : Hid (OwB w1.heap.size w6 v6 ([0, x0, x1] ++ [x2, x3].flatMap tw ++ ((fld x0).take (j + 1)).flatMap (fB x4 x5 x6 x7 l))) := by
          unfold Hid
          rw [HT.out]
          simpa only [List.append_assoc, List.cons_append, List.nil_append] using O6'
        have B6 : Hid (Below w1.heap.size w1 w6) := B5.out.trans (G6'.below (by have := B5.out.size; omega) (fun k hk => (O5.out.lo k hk).1))
        have G6 : Hid (Gw w4 w6 v3 v6) := G5.out.trans G6'
        clear O6' G6' ob bb gw HT O5 B5 G5 q0 q1 q2 q3 q4 q5 q6 q7 q8 r0 r1 r2 r3 r4 r5 r6 r7 r8
        go_wp2
        go_roundw
        case rel => exact ⟨v6, j + 1, rfl, by omega, by go_num, O6, B6, G6⟩
        case measure => simp [intOf]; omega
      · have e1 : fB x4 x5 x6 x7 l ((fld x0).getD j 0) = tw (vf x4 x5 x6 x7 ((fld x0).getD j 0)) := by unfold fB; rw [if_neg h5]
        rw [e1] at HT
        have hf : (((fld x0).getD j 0) == 5) = false := beq_eq_false_iff_ne.2 h5
        have hs8 : wr.cell? ⟨w.heap.size + 1, fo ((fld x0).getD j 0), none⟩ = some (.int .i64 (vf x4 x5 x6 x7 ((fld x0).getD j 0))) := ((M_1.out.keep bb.out).cell _).trans (vf_cell _ _ _ _ _ _ _ _ _ _)
        have hvb := vf_bd HBD.out ((fld x0).getD j 0)
        clear h5 e1
        generalize vf x4 x5 x6 x7 ((fld x0).getD j 0) = y at *
        generalize (fld x0).getD j 0 = f at *
        go_wp2_with fail
        refine (numberAt_any _ _ _).mono ?_
        rintro e vx ⟨rfl, hx⟩
        have hx' := hx.symm
        clear hx
        subst hx'
        go_wp2_with fail
        refine (add_any w1.heap.size _ ([0, x0, x1] ++ [x2, x3].flatMap tw ++ M) _ 1 _ [y] _ (by simp; omega) (ob.out.alloc _) (by omega) rfl (by simp) (rowAt_new1 _ _) (fun i hi => by match i, hi with | 0, _ => exact hvb) (fun h0 b off hb hk => ?apart)).mono ?_
        case apart =>
          simp at hb
          have h1 := (ob.out.lo b hk).2
          omega
        rintro e w6 ⟨v6, rfl, O6', G6'⟩
        have O6 : Hid (OwB w1.heap.size w6 v6 ([0, x0, x1] ++ [x2, x3].flatMap tw ++ ((fld x0).take (j + 1)).flatMap (fB x4 x5 x6 x7 l))) := by
          unfold Hid
          rw [HT.out, ← List.append_assoc]
          simpa only [List.flatMap_cons, List.flatMap_nil, List.append_nil] using O6'
        have B6 : Hid (Below w1.heap.size w1 w6) := (bb.out.alloc hsr _).trans (G6'.below (by simp; omega) (fun k hk => (ob.out.lo k hk).1))
        have G6 : Hid (Gw w4 w6 v3 v6) := gw.out.trans (((Gw.refl _ _).alloc _).trans G6')
        clear O6' G6' ob bb gw HT q0 q1 q2 q3 q4 q5 q6 q7 q8
        go_wp2
        go_roundw
        case rel => exact ⟨v6, j + 1, rfl, by omega, by go_num, O6, B6, G6⟩
        case measure => simp [intOf]; omega
    · have hjn : (fld x0).length ≤ j := by omega
      have OE : Hid (OwB w1.heap.size wr u6 (0 :: body x0 x1 x2 x3 x4 x5 x6 x7 l)) := by
        have h := ob.out
        rw [List.take_of_length_le hjn] at h
        unfold Hid
        simpa only [body, List.flatMap_cons, List.flatMap_nil, List.append_nil, List.append_assoc, List.cons_append, List.nil_append] using h
      clear ob
      have hbl : (body x0 x1 x2 x3 x4 x5 x6 x7 l).length ≤ 60 := body_len x0 x1 x2 x3 x4 x5 x6 x7 l hl4
      have HBB : Hid (Below w.heap.size w wr) := BEL_1.out.trans (bb.out.mono BEL_1.out.size)
      have HWI : Hid (wire x0 x1 x2 x3 x4 x5 x6 x7 l = ((body x0 x1 x2 x3 x4 x5 x6 x7 l).length : Int) :: body x0 x1 x2 x3 x4 x5 x6 x7 l) := rfl
      generalize body x0 x1 x2 x3 x4 x5 x6 x7 l = L at *
      obtain ⟨g, cp, hv6⟩ := Joins.ownsRow_form OE.out (by simp)
      rw [show (0 :: L).length = L.length + 1 from rfl] at hv6
      subst hv6
      obtain ⟨c0, f0⟩ := OE.out.at0
      have OP := OE.out.put 0 (L.length : Int) (by simp)
      have hcv := conv_owb OP
      have hgl := (OE.out.lo g rfl).1
      clear q0 q1 q2 q3 q4 q5 q6 q7 q8
      go_wp2
      go_ret2
      exact ⟨ret_sb (by rw [hv.out, HWI.out]) rfl, HBB.out.setCell (p := ⟨g, 0, none⟩) (Nat.le_trans BEL_1.out.size hgl) _⟩
end Go.Proofs.Ytabbicfakkehpaa
