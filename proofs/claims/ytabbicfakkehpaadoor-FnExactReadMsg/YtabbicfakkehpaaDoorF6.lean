/- GoodMsg of the specification. -/
import Derived.Test.YtabbicfakkehpaaDoorF5
import Derived.Test.YtabbicfakkehpaaDoorF1
namespace Go.Proofs.YtabbicfakkehpaaDoor
open Go.RowKit
set_option linter.unusedVariables false

def fldB (b d x0 x4 x5 x6 x7 : Int) (l : List Int) (f : Int) : Bool := if hasB (fld x0) f = true then okF b d x4 x5 x6 x7 l f else noF x4 x5 x6 x7 l f
def gmB (b d x0 x1 x2 x3 x4 x5 x6 x7 : Int) (l : List Int) : Bool := numsB b d [x2, x3] && inB x0 1 8 && inB x1 0 255 && (fldB b d x0 x4 x5 x6 x7 l 1 && fldB b d x0 x4 x5 x6 x7 l 2 && fldB b d x0 x4 x5 x6 x7 l 3 && fldB b d x0 x4 x5 x6 x7 l 4 && fldB b d x0 x4 x5 x6 x7 l 5)
theorem gmB_n1 {b d x0 x1 x2 x3 x4 x5 x6 x7 : Int} {l : List Int} (h : numsB b d [x2, x3] = false) : gmB b d x0 x1 x2 x3 x4 x5 x6 x7 l = false := by unfold gmB; rw [h]; rfl
theorem gmB_n2 {b d x0 x1 x2 x3 x4 x5 x6 x7 : Int} {l : List Int} (h : inB x0 1 8 = false) : gmB b d x0 x1 x2 x3 x4 x5 x6 x7 l = false := by unfold gmB; rw [h]; simp
theorem gmB_n3 {b d x0 x1 x2 x3 x4 x5 x6 x7 : Int} {l : List Int} (h : inB x1 0 255 = false) : gmB b d x0 x1 x2 x3 x4 x5 x6 x7 l = false := by unfold gmB; rw [h]; simp
theorem gmB_n4 {b d x0 x1 x2 x3 x4 x5 x6 x7 : Int} {l : List Int} {f : Int} (h1 : 1 ≤ f) (h2 : f ≤ 5) (h : fldB b d x0 x4 x5 x6 x7 l f = false) : gmB b d x0 x1 x2 x3 x4 x5 x6 x7 l = false := by
  have : f = 1 ∨ f = 2 ∨ f = 3 ∨ f = 4 ∨ f = 5 := by omega
  unfold gmB
  rcases this with rfl | rfl | rfl | rfl | rfl <;> rw [h] <;> simp
theorem gmB_yes {b d x0 x1 x2 x3 x4 x5 x6 x7 : Int} {l : List Int} (h1 : numsB b d [x2, x3] = true) (h2 : inB x0 1 8 = true) (h3 : inB x1 0 255 = true) (h : ∀ f : Int, 1 ≤ f → f ≤ 5 → fldB b d x0 x4 x5 x6 x7 l f = true) : gmB b d x0 x1 x2 x3 x4 x5 x6 x7 l = true := by
  unfold gmB
  rw [h1, h2, h3, h 1 (by omega) (by omega), h 2 (by omega) (by omega), h 3 (by omega) (by omega), h 4 (by omega) (by omega), h 5 (by omega) (by omega)]
  rfl
theorem rowAt_new4 (w : World) (o q : Obj) (x y : Int) : RowAt (((w.alloc o).alloc q).alloc (.cells #[.int .i64 x, .int .i64 y] 3)) (some ⟨w.heap.size + 1 + 1, 0, none⟩) [x, y] := by
  have h := rowAt_new2 ((w.alloc o).alloc q) x y
  simp only [World.size_alloc] at h
  exact h
theorem numsB_gs {b d : Int} {l : List Int} (h : numsB b d l = true) : gsB b d = true := by unfold numsB at h; simp at h; exact h.1
theorem bk2n {w w1 : World} {A B : Array Value} {S T : TypeId} {o : Obj} {n : Nat} (hb : Below n (((w.alloc (.cells A S)).alloc (.cells B T)).alloc o) w1) (hn : w.heap.size + 1 < n) :
    Bk w1 w.heap.size A S ∧ Bk w1 (w.heap.size + 1) B T ∧ Below w.heap.size w w1 := by
  have h1 := (((Bk.new w A S).alloc (.cells B T)).alloc o).keepN hb (by omega)
  have h2 := ((Bk.new (w.alloc (.cells A S)) B T).alloc o).keepN hb (by simp; omega)
  simp only [World.size_alloc] at h2
  exact ⟨h1, h2, bel3 hb (by omega)⟩
set_option maxRecDepth 100000 in
set_option maxHeartbeats 3200000 in
theorem lGoodMsg_any (b d : Int) (x0 x1 x2 x3 x4 x5 x6 x7 : Int) (a : Option Addr) (cap n : Nat) (l : List Int) (w : World) (hn : l.length = n) (hm : n ≤ maxLen) (hr : RowAt w a l) :
    Calls Tryd.prog 14 #[.agg #[.int .i64 b, .int .i64 d], .agg #[.int .i64 x0, .int .i64 x1, .int .i64 x2, .int .i64 x3, .int .i64 x4, .int .i64 x5, .int .i64 x6, .int .i64 x7, .slice a n cap]] w fun e w' => e = .returned (.bool (gmB b d x0 x1 x2 x3 x4 x5 x6 x7 l)) ∧ Below w.heap.size w w' := by
  have HR : Hid (RowAt w a l) := hr
  clear hr
  have CN : ∀ w0, Calls Tryd.prog 23 #[.agg #[.int .i64 b, .int .i64 d], .slice (some ⟨w.heap.size + 1 + 1, 0, none⟩) 2 2] (((w.alloc (.cells #[.int .i64 b, .int .i64 d] 29)).alloc w0).alloc (.cells #[.int .i64 x2, .int .i64 x3] 3)) fun e w' => e = .returned (.bool (numsB b d [x2, x3])) ∧ Below (w.heap.size + 1 + 1 + 1) (((w.alloc (.cells #[.int .i64 b, .int .i64 d] 29)).alloc w0).alloc (.cells #[.int .i64 x2, .int .i64 x3] 3)) w' := by
    intro w0
    refine (lnums_row b d _ _ _ [x2, x3] _ rfl (by simp [maxLen]) (rowAt_new4 w _ _ _ _)).mono ?_
    rintro e w1 ⟨rfl, hw⟩
    exact ⟨rfl, hw.mono (by simp)⟩
  cases hn1 : numsB b d [x2, x3]
  · have hv : Hid (gmB b d x0 x1 x2 x3 x4 x5 x6 x7 l = false) := gmB_n1 hn1
    rw [hn1] at CN
    go_enter Tryd.func14, Tryd.ntmps14
    go_wp2_with (go_at_call 23; refine (CN _).mono ?_; rintro e w1 ⟨rfl, hw⟩)
    go_ret
    exact ⟨ret_bool hv.out.symm, bel3 hw (by omega)⟩
  have hg : Hid (gsB b d = true) := numsB_gs hn1
  rw [hn1] at CN
  cases hn2 : inB x0 1 8
  · have hv : Hid (gmB b d x0 x1 x2 x3 x4 x5 x6 x7 l = false) := gmB_n2 hn2
    go_enter Tryd.func14, Tryd.ntmps14
    go_wp2_with fail
    refine (CN _).mono ?_
    rintro e w1 ⟨rfl, hw⟩
    obtain ⟨K1, K2, HB⟩ := bk2n hw (by omega)
    obtain ⟨q0, q1, q2, q3, q4, q5, q6, q7, q8⟩ := K2.c9
    clear CN
    go_wp2_with (go_at_call 11; refine (lin_any _ _ _ _).mono ?_; rintro e w2 ⟨rfl, rfl⟩)
    go_ret
    exact ⟨ret_bool hv.out.symm, HB⟩
  cases hn3 : inB x1 0 255
  · have hv : Hid (gmB b d x0 x1 x2 x3 x4 x5 x6 x7 l = false) := gmB_n3 hn3
    go_enter Tryd.func14, Tryd.ntmps14
    go_wp2_with fail
    refine (CN _).mono ?_
    rintro e w1 ⟨rfl, hw⟩
    obtain ⟨K1, K2, HB⟩ := bk2n hw (by omega)
    obtain ⟨q0, q1, q2, q3, q4, q5, q6, q7, q8⟩ := K2.c9
    clear CN
    go_wp2_with (first | (go_at_call 11; refine (lin_any _ _ _ _).mono ?_; rintro e w2 ⟨rfl, rfl⟩))
    go_ret
    exact ⟨ret_bool hv.out.symm, HB⟩
  have HV : Hid ((∀ f : Int, 1 ≤ f → f ≤ 5 → fldB b d x0 x4 x5 x6 x7 l f = true) → gmB b d x0 x1 x2 x3 x4 x5 x6 x7 l = true) := fun h => gmB_yes hn1 hn2 hn3 h
  go_enter Tryd.func14, Tryd.ntmps14
  go_wp2_with fail
  refine (CN _).mono ?_
  rintro e w1 ⟨rfl, hw⟩
  obtain ⟨K1, K2, HB⟩ := bk2n hw (by omega)
  have HK1 : Hid (Bk w1 w.heap.size _ _) := K1
  have HK2 : Hid (Bk w1 (w.heap.size + 1) _ _) := K2
  have HBB : Hid (Below w.heap.size w w1) := HB
  clear CN hw K1 HB
  obtain ⟨q0, q1, q2, q3, q4, q5, q6, q7, q8⟩ := K2.c9
  clear K2
  go_wp2_with (first | (go_at_call 11; refine (lin_any _ _ _ _).mono ?_; rintro e w2 ⟨rfl, hw2⟩; have hw2' := hw2.symm; clear hw2; subst hw2'))
  clear q0 q1 q2 q3 q4 q5 q6 q7 q8
  go_loopw [5] (fun vf wr => ∃ i : Nat, i ≤ 5 ∧ vf = .int .i64 ((i : Int) + 1) ∧ Hid (∀ f : Int, 1 ≤ f → f ≤ i → fldB b d x0 x4 x5 x6 x7 l f = true) ∧ Hid (Below w1.heap.size w1 wr)) (fun vf _ => 6 - (intOf vf).toNat)
  case atStart => exact ⟨0, by omega, rfl, fun f h1 h2 => by omega, Below.refl _ _⟩
  case round =>
    obtain ⟨i, hi, rfl, hs, hb⟩ := hrel
    have K1 := HK1.out.keep hb.out
    have K2 := HK2.out.keep hb.out
    obtain ⟨s0, s1⟩ := K1.c2
    obtain ⟨q0, q1, q2, q3, q4, q5, q6, q7, q8⟩ := K2.c9
    by_cases hlt : i < 5
    · have hb0 := hb
      cases hh : hasB (fld x0) ((i : Int) + 1)
      · have HF : Hid (fldB b d x0 x4 x5 x6 x7 l ((i : Int) + 1) = noF x4 x5 x6 x7 l ((i : Int) + 1)) := by unfold Hid fldB; rw [hh]; rfl
        cases hv : noF x4 x5 x6 x7 l ((i : Int) + 1)
        · skip
          go_wp2_with fail
          refine (lfieldsOf_any x0 _).mono ?_
          rintro e v1 ⟨aF0, nF0, cF0, rfl, hnF0, hcF0, oF0, hw0⟩
          have hb1 : Hid (Below w1.heap.size w1 v1) := belt hb0.out hw0
          have F0 : Hid (RowAt v1 aF0 (fld x0)) := oF0.rowAt
          clear q0 q1 q2 q3 q4 q5 q6 q7 q8 s0 s1 hw0 oF0
          obtain ⟨s0, s1⟩ := Bk.c2 (HK1.out.keep hb1.out)
          obtain ⟨q0, q1, q2, q3, q4, q5, q6, q7, q8⟩ := Bk.c9 (HK2.out.keep hb1.out)
          go_wp2_with fail
          refine (lhas_own aF0 cF0 nF0 (fld x0) _ _ hnF0 (by have := fld_big x0; unfold maxLen; omega) F0.out).mono ?_
          rintro e vx ⟨rfl, hx⟩
          rw [hh]
          have hx' := hx.symm
          clear hx
          subst hx'
          go_wp2_with fail
          refine (lfieldsOf_any x0 _).mono ?_
          rintro e v2 ⟨aF1, nF1, cF1, rfl, hnF1, hcF1, oF1, hw1⟩
          have hb2 : Hid (Below w1.heap.size w1 v2) := belt hb1.out hw1
          have F1 : Hid (RowAt v2 aF1 (fld x0)) := oF1.rowAt
          clear q0 q1 q2 q3 q4 q5 q6 q7 q8 s0 s1 hw1 oF1
          obtain ⟨s0, s1⟩ := Bk.c2 (HK1.out.keep hb2.out)
          obtain ⟨q0, q1, q2, q3, q4, q5, q6, q7, q8⟩ := Bk.c9 (HK2.out.keep hb2.out)
          go_wp2_with fail
          refine (lhas_own aF1 cF1 nF1 (fld x0) _ _ hnF1 (by have := fld_big x0; unfold maxLen; omega) F1.out).mono ?_
          rintro e vx ⟨rfl, hx⟩
          rw [hh]
          have hx' := hx.symm
          clear hx
          subst hx'
          go_wp2_with fail
          refine (lNone_any x0 x1 x2 x3 x4 x5 x6 x7 a cap n l ((i : Int) + 1) _ hn hm).mono ?_
          rintro e v3 ⟨rfl, hw2⟩
          rw [hv]
          have hb3 : Hid (Below w1.heap.size w1 v3) := belt hb2.out hw2
          clear q0 q1 q2 q3 q4 q5 q6 q7 q8 s0 s1 hw2
          obtain ⟨s0, s1⟩ := Bk.c2 (HK1.out.keep hb3.out)
          obtain ⟨q0, q1, q2, q3, q4, q5, q6, q7, q8⟩ := Bk.c9 (HK2.out.keep hb3.out)
          have hz : Hid (gmB b d x0 x1 x2 x3 x4 x5 x6 x7 l = false) := gmB_n4 (f := (i : Int) + 1) (by omega) (by omega) (by rw [HF.out, hv])
          go_wp2
          go_ret
          exact ⟨ret_bool hz.out.symm, belt HBB.out hb3.out⟩
        · skip
          go_wp2_with fail
          refine (lfieldsOf_any x0 _).mono ?_
          rintro e v1 ⟨aF0, nF0, cF0, rfl, hnF0, hcF0, oF0, hw0⟩
          have hb1 : Hid (Below w1.heap.size w1 v1) := belt hb0.out hw0
          have F0 : Hid (RowAt v1 aF0 (fld x0)) := oF0.rowAt
          clear q0 q1 q2 q3 q4 q5 q6 q7 q8 s0 s1 hw0 oF0
          obtain ⟨s0, s1⟩ := Bk.c2 (HK1.out.keep hb1.out)
          obtain ⟨q0, q1, q2, q3, q4, q5, q6, q7, q8⟩ := Bk.c9 (HK2.out.keep hb1.out)
          go_wp2_with fail
          refine (lhas_own aF0 cF0 nF0 (fld x0) _ _ hnF0 (by have := fld_big x0; unfold maxLen; omega) F0.out).mono ?_
          rintro e vx ⟨rfl, hx⟩
          rw [hh]
          have hx' := hx.symm
          clear hx
          subst hx'
          go_wp2_with fail
          refine (lfieldsOf_any x0 _).mono ?_
          rintro e v2 ⟨aF1, nF1, cF1, rfl, hnF1, hcF1, oF1, hw1⟩
          have hb2 : Hid (Below w1.heap.size w1 v2) := belt hb1.out hw1
          have F1 : Hid (RowAt v2 aF1 (fld x0)) := oF1.rowAt
          clear q0 q1 q2 q3 q4 q5 q6 q7 q8 s0 s1 hw1 oF1
          obtain ⟨s0, s1⟩ := Bk.c2 (HK1.out.keep hb2.out)
          obtain ⟨q0, q1, q2, q3, q4, q5, q6, q7, q8⟩ := Bk.c9 (HK2.out.keep hb2.out)
          go_wp2_with fail
          refine (lhas_own aF1 cF1 nF1 (fld x0) _ _ hnF1 (by have := fld_big x0; unfold maxLen; omega) F1.out).mono ?_
          rintro e vx ⟨rfl, hx⟩
          rw [hh]
          have hx' := hx.symm
          clear hx
          subst hx'
          go_wp2_with fail
          refine (lNone_any x0 x1 x2 x3 x4 x5 x6 x7 a cap n l ((i : Int) + 1) _ hn hm).mono ?_
          rintro e v3 ⟨rfl, hw2⟩
          rw [hv]
          have hb3 : Hid (Below w1.heap.size w1 v3) := belt hb2.out hw2
          clear q0 q1 q2 q3 q4 q5 q6 q7 q8 s0 s1 hw2
          obtain ⟨s0, s1⟩ := Bk.c2 (HK1.out.keep hb3.out)
          obtain ⟨q0, q1, q2, q3, q4, q5, q6, q7, q8⟩ := Bk.c9 (HK2.out.keep hb3.out)
          have hz : Hid (∀ f : Int, 1 ≤ f → f ≤ ((i + 1 : Nat) : Int) → fldB b d x0 x4 x5 x6 x7 l f = true) := fun f h1 h2 => by
            by_cases he : f = (i : Int) + 1
            · rw [he, HF.out, hv]
            · exact hs.out f h1 (by omega)
          go_wp2
          go_roundw
          case rel => exact ⟨i + 1, by omega, by go_num, hz, hb3⟩
          case measure => simp [intOf]; omega
      · have HF : Hid (fldB b d x0 x4 x5 x6 x7 l ((i : Int) + 1) = okF b d x4 x5 x6 x7 l ((i : Int) + 1)) := by unfold Hid fldB; rw [hh]; rfl
        cases hv : okF b d x4 x5 x6 x7 l ((i : Int) + 1)
        · skip
          go_wp2_with fail
          refine (lfieldsOf_any x0 _).mono ?_
          rintro e v1 ⟨aF0, nF0, cF0, rfl, hnF0, hcF0, oF0, hw0⟩
          have hb1 : Hid (Below w1.heap.size w1 v1) := belt hb0.out hw0
          have F0 : Hid (RowAt v1 aF0 (fld x0)) := oF0.rowAt
          clear q0 q1 q2 q3 q4 q5 q6 q7 q8 s0 s1 hw0 oF0
          obtain ⟨s0, s1⟩ := Bk.c2 (HK1.out.keep hb1.out)
          obtain ⟨q0, q1, q2, q3, q4, q5, q6, q7, q8⟩ := Bk.c9 (HK2.out.keep hb1.out)
          go_wp2_with fail
          refine (lhas_own aF0 cF0 nF0 (fld x0) _ _ hnF0 (by have := fld_big x0; unfold maxLen; omega) F0.out).mono ?_
          rintro e vx ⟨rfl, hx⟩
          rw [hh]
          have hx' := hx.symm
          clear hx
          subst hx'
          go_wp2_with fail
          refine (lIs_any b d x0 x1 x2 x3 x4 x5 x6 x7 a cap n l ((i : Int) + 1) _ hg.out hn hm (HR.out.keep (belt HBB.out hb1.out))).mono ?_
          rintro e v2 ⟨rfl, hw1⟩
          rw [hv]
          have hb2 : Hid (Below w1.heap.size w1 v2) := belt hb1.out hw1
          clear q0 q1 q2 q3 q4 q5 q6 q7 q8 s0 s1 hw1
          obtain ⟨s0, s1⟩ := Bk.c2 (HK1.out.keep hb2.out)
          obtain ⟨q0, q1, q2, q3, q4, q5, q6, q7, q8⟩ := Bk.c9 (HK2.out.keep hb2.out)
          have hz : Hid (gmB b d x0 x1 x2 x3 x4 x5 x6 x7 l = false) := gmB_n4 (f := (i : Int) + 1) (by omega) (by omega) (by rw [HF.out, hv])
          go_wp2
          go_ret
          exact ⟨ret_bool hz.out.symm, belt HBB.out hb2.out⟩
        · skip
          go_wp2_with fail
          refine (lfieldsOf_any x0 _).mono ?_
          rintro e v1 ⟨aF0, nF0, cF0, rfl, hnF0, hcF0, oF0, hw0⟩
          have hb1 : Hid (Below w1.heap.size w1 v1) := belt hb0.out hw0
          have F0 : Hid (RowAt v1 aF0 (fld x0)) := oF0.rowAt
          clear q0 q1 q2 q3 q4 q5 q6 q7 q8 s0 s1 hw0 oF0
          obtain ⟨s0, s1⟩ := Bk.c2 (HK1.out.keep hb1.out)
          obtain ⟨q0, q1, q2, q3, q4, q5, q6, q7, q8⟩ := Bk.c9 (HK2.out.keep hb1.out)
          go_wp2_with fail
          refine (lhas_own aF0 cF0 nF0 (fld x0) _ _ hnF0 (by have := fld_big x0; unfold maxLen; omega) F0.out).mono ?_
          rintro e vx ⟨rfl, hx⟩
          rw [hh]
          have hx' := hx.symm
          clear hx
          subst hx'
          go_wp2_with fail
          refine (lIs_any b d x0 x1 x2 x3 x4 x5 x6 x7 a cap n l ((i : Int) + 1) _ hg.out hn hm (HR.out.keep (belt HBB.out hb1.out))).mono ?_
          rintro e v2 ⟨rfl, hw1⟩
          rw [hv]
          have hb2 : Hid (Below w1.heap.size w1 v2) := belt hb1.out hw1
          clear q0 q1 q2 q3 q4 q5 q6 q7 q8 s0 s1 hw1
          obtain ⟨s0, s1⟩ := Bk.c2 (HK1.out.keep hb2.out)
          obtain ⟨q0, q1, q2, q3, q4, q5, q6, q7, q8⟩ := Bk.c9 (HK2.out.keep hb2.out)
          go_wp2_with fail
          refine (lfieldsOf_any x0 _).mono ?_
          rintro e v3 ⟨aF2, nF2, cF2, rfl, hnF2, hcF2, oF2, hw2⟩
          have hb3 : Hid (Below w1.heap.size w1 v3) := belt hb2.out hw2
          have F2 : Hid (RowAt v3 aF2 (fld x0)) := oF2.rowAt
          clear q0 q1 q2 q3 q4 q5 q6 q7 q8 s0 s1 hw2 oF2
          obtain ⟨s0, s1⟩ := Bk.c2 (HK1.out.keep hb3.out)
          obtain ⟨q0, q1, q2, q3, q4, q5, q6, q7, q8⟩ := Bk.c9 (HK2.out.keep hb3.out)
          go_wp2_with fail
          refine (lhas_own aF2 cF2 nF2 (fld x0) _ _ hnF2 (by have := fld_big x0; unfold maxLen; omega) F2.out).mono ?_
          rintro e vx ⟨rfl, hx⟩
          rw [hh]
          have hx' := hx.symm
          clear hx
          subst hx'
          have hz : Hid (∀ f : Int, 1 ≤ f → f ≤ ((i + 1 : Nat) : Int) → fldB b d x0 x4 x5 x6 x7 l f = true) := fun f h1 h2 => by
            by_cases he : f = (i : Int) + 1
            · rw [he, HF.out, hv]
            · exact hs.out f h1 (by omega)
          go_wp2
          go_roundw
          case rel => exact ⟨i + 1, by omega, by go_num, hz, hb3⟩
          case measure => simp [intOf]; omega
    · have hv : Hid (gmB b d x0 x1 x2 x3 x4 x5 x6 x7 l = true) := HV.out (fun f h1 h2 => hs.out f h1 (by omega))
      go_wp2
      go_ret
      exact ⟨ret_bool hv.out.symm, belt HBB.out hb.out⟩
end Go.Proofs.YtabbicfakkehpaaDoor
