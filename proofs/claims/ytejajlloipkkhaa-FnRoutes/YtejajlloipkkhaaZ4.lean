/- BoundOf and StartAt on both sides. MembersOf, on both sides; what the laws over peers keep when peers are marked. What the laws over lists share: the box of the space, and what has been kept since. What the walks of exact laws share: boxes, marks, lists and peers of one's own that may be empty. Walks in the laws: opened, copied, compared. The program's pointers by digits. The program's ideal peers. The program's IdealPeers. Answers of chapter 3 in one form: a list or peers, and whether it was asked well. The cursor that draws from bytes: each number that is drawn lies in its bounds, and nothing but the cursor turns. What the cursor draws: a space, and a number of it, mostly. The space that is drawn. What is drawn for DistOf and InArc: some space and some numbers. A number put to its place in a list that the call owns, also in none. The ring that is drawn: some space and some list. A ring and a number that are drawn. What the law on owners draws, looks up and adds up. -/
import Derived.Laws.Rows
import Derived.Laws.Tables
import Derived.OpenShut
import Derived.WalkSmall
import Derived.Laws.Bits64b
import Derived.Deep.RegionHeld
import Derived.Test.YtejajlloipkkhaaZ0
import Derived.Test.YtejajlloipkkhaaZ1
import Derived.Test.YtejajlloipkkhaaZ2
import Derived.Test.YtejajlloipkkhaaZ3
namespace Go.Proofs.Ytejajlloipkkhaa
open Go.RowKit Go.Deep
set_option linter.unusedVariables false
def bndV (b d : Int) (ps : List Pr) : Int := if goodP b d ps = true then bndI b d ps.length else 0
theorem bnd_mul {c n : Nat} (c2 : c ≤ 12) (n1 : 1 ≤ n) (n2 : n ≤ 16) : 0 ≤ ((c : Int) + 1) * ((n : Int) - 1) ∧ ((c : Int) + 1) * ((n : Int) - 1) ≤ 195 := by
  refine ⟨Int.mul_nonneg (by omega) (by omega), ?_⟩
  exact Int.le_trans (Int.mul_le_mul (show (c : Int) + 1 ≤ 13 by omega) (show (n : Int) - 1 ≤ 15 by omega) (by omega) (by omega)) (by omega)
set_option maxHeartbeats 800000 in
theorem BoundOf_any (b d : Int) (a : Option Addr) (cap : Nat) (ps : List Pr) (w : World) (hm : ps.length ≤ 1048576) (hr : PeersAt w a ps) :
    Calls Try.prog 19 #[.agg #[.int .i64 b, .int .i64 d, .slice a ps.length cap]] w fun e w' => e = .returned (.tuple #[.int .i64 (bndV b d ps), .bool (goodP b d ps)]) ∧ Below w.heap.size w w' := by
  have CG := GoodPeers_any b d a cap ps (w.alloc (.cells #[.int .i64 b, .int .i64 d, .slice a ps.length cap] 28)) hm (hr.alloc _)
  unfold bndV
  cases hg : goodP b d ps
  · rw [hg] at CG
    simp only [Bool.false_eq_true, if_false]
    go_enter Try.func19, Try.ntmps19
    go_wp2_with fail
    refine CG.mono ?_
    rintro e w1 ⟨rfl, hw1⟩
    go_wp2
    go_ret2
    exact ⟨rfl, bel1 hw1 (by simp)⟩
  · have R := (goodP_true hg).1
    obtain ⟨hb1, hb2, hd1, hd2, _⟩ := gsB_true R.gs
    obtain ⟨hq0, q1, q2⟩ := cnt_bd hb1 hb2 hd1 hd2
    have l1 := R.l1
    have l2 := R.l2
    rw [idsP_len] at l1 l2
    obtain ⟨m1, m2⟩ := bnd_mul q2 l1 l2
    rw [hg] at CG
    simp only [if_true]
    have HV : Hid (bndI b d ps.length = (cnt b d : Int) + ((cnt b d : Int) + 1) * ((ps.length : Int) - 1)) := by unfold Hid bndI; rw [hq0]
    generalize bndI b d ps.length = V at *
    obtain ⟨M, hM⟩ : ∃ M, M = ((cnt b d : Int) + 1) * ((ps.length : Int) - 1) := ⟨_, rfl⟩
    rw [← hM] at m1 m2 HV
    have hmw : wrap64 (((cnt b d : Int) + 1) * ((ps.length : Int) - 1)) = M := by rw [← hM]; exact IntWalk.wrap64_in _ (by omega)
    clear hM
    clear hg R
    go_enter Try.func19, Try.ntmps19
    go_wp2_with fail
    refine CG.mono ?_
    rintro e w1 ⟨rfl, hw1⟩
    have BX1 : Hid (BxP w w1 b d (.slice a ps.length cap)) := bxP1 hw1 (by simp)
    clear CG hw1
    obtain ⟨_, _, c0, c1, c2⟩ := BX1.out
    go_wp2_with fail
    refine (count_any _ _ _ hb1 hb2 hd1 hd2).mono ?_
    rintro e w2 ⟨rfl, hw2⟩
    have BX2 : Hid (BxP w w2 b d (.slice a ps.length cap)) := BX1.out.keep hw2
    clear c0 c1 c2 BX1 hw2
    obtain ⟨_, _, c0, c1, c2⟩ := BX2.out
    go_wp2_with fail
    go_ret2
    exact ⟨ret_2 (congrArg (Value.int .i64) HV.out.symm) rfl, BX2.out.bel⟩
set_option maxHeartbeats 800000 in
theorem lbound_any (b d : Int) (a : Option Addr) (cap : Nat) (ps : List Pr) (w : World) (hg : goodP b d ps = true) :
    Calls Try.prog 64 #[.agg #[.int .i64 b, .int .i64 d, .slice a ps.length cap]] w fun e w' => e = .returned (.int .i64 (bndI b d ps.length)) ∧ Below w.heap.size w w' := by
  have R := (goodP_true hg).1
  obtain ⟨hb1, hb2, hd1, hd2, _⟩ := gsB_true R.gs
  obtain ⟨hq0, q1, q2⟩ := cnt_bd hb1 hb2 hd1 hd2
  have l1 := R.l1
  have l2 := R.l2
  rw [idsP_len] at l1 l2
  obtain ⟨m1, m2⟩ := bnd_mul q2 l1 l2
  have HV : Hid (bndI b d ps.length = (cnt b d : Int) + ((cnt b d : Int) + 1) * ((ps.length : Int) - 1)) := by unfold Hid bndI; rw [hq0]
  generalize bndI b d ps.length = V at *
  obtain ⟨M, hM⟩ : ∃ M, M = ((cnt b d : Int) + 1) * ((ps.length : Int) - 1) := ⟨_, rfl⟩
  rw [← hM] at m1 m2 HV
  have hmw : wrap64 (((cnt b d : Int) + 1) * ((ps.length : Int) - 1)) = M := by rw [← hM]; exact IntWalk.wrap64_in _ (by omega)
  clear hM
  clear hg R
  go_enter Try.func64, Try.ntmps64
  go_wp2
  go_ret
  exact ⟨ret_int HV.out.symm, belA _ _⟩
set_option maxHeartbeats 800000 in
theorem lBoundOf_any (b d : Int) (a : Option Addr) (cap : Nat) (ps : List Pr) (w : World) (hm : ps.length ≤ 1048576) (hr : PeersAt w a ps) :
    Calls Try.prog 22 #[.agg #[.int .i64 b, .int .i64 d, .slice a ps.length cap]] w fun e w' => e = .returned (.tuple #[.int .i64 (bndV b d ps), .bool (goodP b d ps)]) ∧ Below w.heap.size w w' := by
  have CG := lgood_any b d a cap ps (w.alloc (.cells #[.int .i64 b, .int .i64 d, .slice a ps.length cap] 28)) hm (hr.alloc _)
  unfold bndV
  cases hg : goodP b d ps
  · rw [hg] at CG
    simp only [Bool.false_eq_true, if_false]
    go_enter Try.func22, Try.ntmps22
    go_wp2_with fail
    refine CG.mono ?_
    rintro e w1 ⟨rfl, hw1⟩
    go_wp2
    go_ret2
    exact ⟨rfl, bel1 hw1 (by simp)⟩
  · rw [hg] at CG
    simp only [if_true]
    have CB := fun w1 => lbound_any b d a cap ps w1 hg
    clear hg
    go_enter Try.func22, Try.ntmps22
    go_wp2_with fail
    refine CG.mono ?_
    rintro e w1 ⟨rfl, hw1⟩
    have BX1 : Hid (BxP w w1 b d (.slice a ps.length cap)) := bxP1 hw1 (by simp)
    clear CG hw1
    obtain ⟨_, _, c0, c1, c2⟩ := BX1.out
    go_wp2_with fail
    refine (CB _).mono ?_
    rintro e w2 ⟨rfl, hw2⟩
    go_wp2_with fail
    go_ret2
    exact ⟨rfl, belt BX1.out.bel hw2⟩
/-- the peers' box and the answer's -/
structure ST (w wr : World) (P : Array Value) : Prop where
  bel : Below w.heap.size w wr
  kb : Bk wr w.heap.size P 28
  ka : Bk wr (w.heap.size + 1) #[.int .i64 0, .int .i64 0, .int .i64 0, .int .i64 0, .int .i64 0, .int .i64 0, .int .i64 0] 32
theorem ST.keep {w wr w1 : World} {P : Array Value} (h : ST w wr P) (hb : Below wr.heap.size wr w1) : ST w w1 P := ⟨belt h.bel hb, h.kb.keep hb, h.ka.keep hb⟩
theorem st0 (w : World) (P : Array Value) : ST w ((w.alloc (.cells P 28)).alloc (.cells #[.int .i64 0, .int .i64 0, .int .i64 0, .int .i64 0, .int .i64 0, .int .i64 0, .int .i64 0] 32)) P := by
  refine ⟨((Below.refl _ _).alloc (Nat.le_refl _) _).alloc (by simp) _, (Bk.new w P 28).alloc _, ?_⟩
  have := Bk.new (w.alloc (.cells P 28)) #[.int .i64 0, .int .i64 0, .int .i64 0, .int .i64 0, .int .i64 0, .int .i64 0, .int .i64 0] 32
  simpa using this
theorem ST.ends {w wr : World} {P : Array Value} {vs : List Value} (h : ST w wr P) : Bk (setL wr (w.heap.size + 1) 0 vs) (w.heap.size + 1) (ovr #[.int .i64 0, .int .i64 0, .int .i64 0, .int .i64 0, .int .i64 0, .int .i64 0, .int .i64 0] 0 vs) 32 ∧ Below w.heap.size w (setL wr (w.heap.size + 1) 0 vs) := ⟨h.ka.setL vs 0, setL_below (by omega) vs 0 h.bel⟩
theorem ST.pq {w wr : World} {b d : Int} {bk off n cap : Nat} {ps : List Pr} (h : ST w wr #[.int .i64 b, .int .i64 d, .slice (some ⟨bk, off, none⟩) n cap]) (hr : PeersAt w (some ⟨bk, off, none⟩) ps) (hn : ps.length = n) : PQ wr w.heap.size b d bk off n cap ps :=
  ⟨h.kb.lt, h.kb.cell 0, h.kb.cell 1, h.kb.cell 2, hr.keep h.bel, hn⟩
def stV (b d : Int) (ps : List Pr) (x k : Int) : Wk := if askP b d ps x k = true then stt b d ps x k else wk0
theorem wk0_cells : wk0.cells = #[.int .i64 0, .int .i64 0, .int .i64 0, .int .i64 0, .int .i64 0, .int .i64 0, .int .i64 0] := rfl
set_option maxRecDepth 100000 in
set_option maxHeartbeats 1600000 in
theorem StartAt_any (b d : Int) (a : Option Addr) (cap : Nat) (ps : List Pr) (x k : Int) (w : World) (hm : ps.length ≤ 1048576) (hr : PeersAt w a ps) :
    Calls Try.prog 31 #[.agg #[.int .i64 b, .int .i64 d, .slice a ps.length cap], .int .i64 x, .int .i64 k] w fun e w' => e = .returned (.tuple #[.agg (stV b d ps x k).cells, .bool (askP b d ps x k)]) ∧ Below w.heap.size w w' := by
  have ST0 : Hid (ST w ((w.alloc (.cells #[.int .i64 b, .int .i64 d, .slice a ps.length cap] 28)).alloc (.cells #[.int .i64 0, .int .i64 0, .int .i64 0, .int .i64 0, .int .i64 0, .int .i64 0, .int .i64 0] 32)) #[.int .i64 b, .int .i64 d, .slice a ps.length cap]) := st0 w _
  have CG := GoodPeers_any b d a cap ps _ hm (hr.keep ST0.out.bel)
  have HR : Hid (PeersAt w a ps) := hr
  clear hr
  unfold stV
  cases hg : goodP b d ps
  · rw [hg] at CG
    rw [asked_no (.inl hg)]
    simp only [Bool.false_eq_true, if_false, wk0_cells]
    clear hg
    go_enter Try.func31, Try.ntmps31
    go_wp2_with fail
    refine CG.mono ?_
    rintro e w1 ⟨rfl, hw1⟩
    have ST1 : Hid (ST w w1 #[.int .i64 b, .int .i64 d, .slice a ps.length cap]) := ST0.out.keep hw1
    clear hw1 ST0 CG
    obtain ⟨c0, c1, c2⟩ := Bk.c3 ST1.out.kb
    obtain ⟨r0, r1, r2, r3, r4, r5, r6⟩ := Bk.c7 ST1.out.ka
    obtain ⟨f0, f1, f2, f3, f4, f5, f6⟩ := ST1.out.ka.f7
    go_wp2_with fail
    obtain ⟨KA, KB⟩ := ST.ends (vs := [.int .i64 0, .int .i64 0, .int .i64 0, .int .i64 0, .int .i64 0, .int .i64 0, .int .i64 0]) ST1.out
    refine bodyPost_ret (results_cell_tmp Try.results31 _ _ (w.heap.size + 1) _ _ _ _ _ rfl rfl KA Try.underlying32 rfl (by kernel_rfl)) rfl ⟨rfl, KB⟩
  · rw [hg] at CG
    have R := (goodP_true hg).1
    have l1 := R.l1
    rw [idsP_len] at l1
    obtain ⟨bk, off, rfl⟩ := peersAt_form HR.out (by omega)
    cases hk : numB b d k
    · rw [asked_no (.inr (.inr hk))]
      simp only [Bool.false_eq_true, if_false, wk0_cells]
      clear hg
      go_enter Try.func31, Try.ntmps31
      go_wp2_with fail
      refine CG.mono ?_
      rintro e w1 ⟨rfl, hw1⟩
      have ST1 : Hid (ST w w1 #[.int .i64 b, .int .i64 d, .slice (some ⟨bk, off, none⟩) ps.length cap]) := ST0.out.keep hw1
      clear hw1 ST0 CG
      obtain ⟨c0, c1, c2⟩ := Bk.c3 ST1.out.kb
      obtain ⟨r0, r1, r2, r3, r4, r5, r6⟩ := Bk.c7 ST1.out.ka
      obtain ⟨f0, f1, f2, f3, f4, f5, f6⟩ := ST1.out.ka.f7
      go_wp2_with fail
      refine (isNumber_any _ _ _ _).mono ?_
      rintro e w2 ⟨rfl, hw2⟩
      have ST2 : Hid (ST w w2 #[.int .i64 b, .int .i64 d, .slice (some ⟨bk, off, none⟩) ps.length cap]) := ST1.out.keep hw2
      clear c0 c1 c2 r0 r1 r2 r3 r4 r5 r6 f0 f1 f2 f3 f4 f5 f6
      clear hw2 ST1
      obtain ⟨c0, c1, c2⟩ := Bk.c3 ST2.out.kb
      obtain ⟨r0, r1, r2, r3, r4, r5, r6⟩ := Bk.c7 ST2.out.ka
      obtain ⟨f0, f1, f2, f3, f4, f5, f6⟩ := ST2.out.ka.f7
      go_wp2_with fail
      obtain ⟨KA, KB⟩ := ST.ends (vs := [.int .i64 0, .int .i64 0, .int .i64 0, .int .i64 0, .int .i64 0, .int .i64 0, .int .i64 0]) ST2.out
      refine bodyPost_ret (results_cell_tmp Try.results31 _ _ (w.heap.size + 1) _ _ _ _ _ rfl rfl KA Try.underlying32 rfl (by kernel_rfl)) rfl ⟨rfl, KB⟩
    · have CI : ∀ w1, ST w w1 #[.int .i64 b, .int .i64 d, .slice (some ⟨bk, off, none⟩) ps.length cap] → Calls Try.prog 68 #[.pointer (some ⟨w.heap.size, 0, none⟩), .int .i64 x] w1 fun e w' => e = .returned (.bool (hasB (idsP ps) x)) ∧ Below w1.heap.size w1 w' := fun w1 h =>
        isId_any b d w.heap.size _ cap ps x w1 R h.kb.lt (h.kb.cell 2) (HR.out.keep h.bel)
      cases hh : hasB (idsP ps) x
      · rw [hh] at CI
        rw [asked_no (.inr (.inl hh))]
        simp only [Bool.false_eq_true, if_false, wk0_cells]
        clear hg
        go_enter Try.func31, Try.ntmps31
        go_wp2_with fail
        refine CG.mono ?_
        rintro e w1 ⟨rfl, hw1⟩
        have ST1 : Hid (ST w w1 #[.int .i64 b, .int .i64 d, .slice (some ⟨bk, off, none⟩) ps.length cap]) := ST0.out.keep hw1
        clear hw1 ST0 CG
        obtain ⟨c0, c1, c2⟩ := Bk.c3 ST1.out.kb
        obtain ⟨r0, r1, r2, r3, r4, r5, r6⟩ := Bk.c7 ST1.out.ka
        obtain ⟨f0, f1, f2, f3, f4, f5, f6⟩ := ST1.out.ka.f7
        go_wp2_with fail
        refine (isNumber_any _ _ _ _).mono ?_
        rintro e w2 ⟨rfl, hw2⟩
        have ST2 : Hid (ST w w2 #[.int .i64 b, .int .i64 d, .slice (some ⟨bk, off, none⟩) ps.length cap]) := ST1.out.keep hw2
        clear c0 c1 c2 r0 r1 r2 r3 r4 r5 r6 f0 f1 f2 f3 f4 f5 f6
        clear hw2 ST1
        obtain ⟨c0, c1, c2⟩ := Bk.c3 ST2.out.kb
        obtain ⟨r0, r1, r2, r3, r4, r5, r6⟩ := Bk.c7 ST2.out.ka
        obtain ⟨f0, f1, f2, f3, f4, f5, f6⟩ := ST2.out.ka.f7
        go_wp2_with fail
        refine (CI _ ST2.out).mono ?_
        rintro e w3 ⟨rfl, hw3⟩
        have ST3 : Hid (ST w w3 #[.int .i64 b, .int .i64 d, .slice (some ⟨bk, off, none⟩) ps.length cap]) := ST2.out.keep hw3
        clear c0 c1 c2 r0 r1 r2 r3 r4 r5 r6 f0 f1 f2 f3 f4 f5 f6
        clear hw3 ST2
        obtain ⟨c0, c1, c2⟩ := Bk.c3 ST3.out.kb
        obtain ⟨r0, r1, r2, r3, r4, r5, r6⟩ := Bk.c7 ST3.out.ka
        obtain ⟨f0, f1, f2, f3, f4, f5, f6⟩ := ST3.out.ka.f7
        go_wp2_with fail
        obtain ⟨KA, KB⟩ := ST.ends (vs := [.int .i64 0, .int .i64 0, .int .i64 0, .int .i64 0, .int .i64 0, .int .i64 0, .int .i64 0]) ST3.out
        refine bodyPost_ret (results_cell_tmp Try.results31 _ _ (w.heap.size + 1) _ _ _ _ _ rfl rfl KA Try.underlying32 rfl (by kernel_rfl)) rfl ⟨rfl, KB⟩
      · rw [hh] at CI
        have hask : askP b d ps x k = true := by unfold askP; rw [hg, hh, hk]; rfl
        rw [hask]
        simp only [if_true]
        obtain ⟨_, k1, k2⟩ := numB_true hk
        have CS : ∀ w1, ST w w1 #[.int .i64 b, .int .i64 d, .slice (some ⟨bk, off, none⟩) ps.length cap] → Calls Try.prog 70 #[.pointer (some ⟨w.heap.size, 0, none⟩), .int .i64 x, .int .i64 k] w1 fun e w' => e = .returned (.agg (stt b d ps x k).cells) ∧ Below w1.heap.size w1 w' := fun w1 h =>
          startFrom_any b d w.heap.size bk off ps.length cap ps x k w1 hg hh k1 k2 (h.pq HR.out rfl)
        have HV : Hid ((stt b d ps x k).cells = #[.int .i64 x, .int .i64 (stt b d ps x k).imag, .int .i64 (stt b d ps x k).left, .int .i64 0, .int .i64 0, .int .i64 0, .int .i64 0]) := rfl
        unfold Hid at HV
        rw [HV] at CS ⊢
        clear HV hg hask
        generalize (stt b d ps x k).imag = vi at *
        generalize (stt b d ps x k).left = vl at *
        go_enter Try.func31, Try.ntmps31
        go_wp2_with fail
        refine CG.mono ?_
        rintro e w1 ⟨rfl, hw1⟩
        have ST1 : Hid (ST w w1 #[.int .i64 b, .int .i64 d, .slice (some ⟨bk, off, none⟩) ps.length cap]) := ST0.out.keep hw1
        clear hw1 ST0 CG
        obtain ⟨c0, c1, c2⟩ := Bk.c3 ST1.out.kb
        obtain ⟨r0, r1, r2, r3, r4, r5, r6⟩ := Bk.c7 ST1.out.ka
        obtain ⟨f0, f1, f2, f3, f4, f5, f6⟩ := ST1.out.ka.f7
        go_wp2_with fail
        refine (isNumber_any _ _ _ _).mono ?_
        rintro e w2 ⟨rfl, hw2⟩
        have ST2 : Hid (ST w w2 #[.int .i64 b, .int .i64 d, .slice (some ⟨bk, off, none⟩) ps.length cap]) := ST1.out.keep hw2
        clear c0 c1 c2 r0 r1 r2 r3 r4 r5 r6 f0 f1 f2 f3 f4 f5 f6
        clear hw2 ST1
        obtain ⟨c0, c1, c2⟩ := Bk.c3 ST2.out.kb
        obtain ⟨r0, r1, r2, r3, r4, r5, r6⟩ := Bk.c7 ST2.out.ka
        obtain ⟨f0, f1, f2, f3, f4, f5, f6⟩ := ST2.out.ka.f7
        go_wp2_with fail
        refine (CI _ ST2.out).mono ?_
        rintro e w3 ⟨rfl, hw3⟩
        have ST3 : Hid (ST w w3 #[.int .i64 b, .int .i64 d, .slice (some ⟨bk, off, none⟩) ps.length cap]) := ST2.out.keep hw3
        clear c0 c1 c2 r0 r1 r2 r3 r4 r5 r6 f0 f1 f2 f3 f4 f5 f6
        clear hw3 ST2
        obtain ⟨c0, c1, c2⟩ := Bk.c3 ST3.out.kb
        obtain ⟨r0, r1, r2, r3, r4, r5, r6⟩ := Bk.c7 ST3.out.ka
        obtain ⟨f0, f1, f2, f3, f4, f5, f6⟩ := ST3.out.ka.f7
        go_wp2_with fail
        refine (CS _ ST3.out).mono ?_
        rintro e w4 ⟨rfl, hw4⟩
        have ST4 : Hid (ST w w4 #[.int .i64 b, .int .i64 d, .slice (some ⟨bk, off, none⟩) ps.length cap]) := ST3.out.keep hw4
        clear c0 c1 c2 r0 r1 r2 r3 r4 r5 r6 f0 f1 f2 f3 f4 f5 f6
        clear hw4 ST3
        obtain ⟨c0, c1, c2⟩ := Bk.c3 ST4.out.kb
        obtain ⟨r0, r1, r2, r3, r4, r5, r6⟩ := Bk.c7 ST4.out.ka
        obtain ⟨f0, f1, f2, f3, f4, f5, f6⟩ := ST4.out.ka.f7
        go_wp2_with fail
        obtain ⟨KA, KB⟩ := ST.ends (vs := [.int .i64 x, .int .i64 vi, .int .i64 vl, .int .i64 0, .int .i64 0, .int .i64 0, .int .i64 0]) ST4.out
        refine bodyPost_ret (results_cell_tmp Try.results31 _ _ (w.heap.size + 1) _ _ _ _ _ rfl rfl KA Try.underlying32 rfl (by kernel_rfl)) rfl ⟨rfl, KB⟩
set_option maxRecDepth 100000 in
set_option maxHeartbeats 1600000 in
theorem lStartAt_any (b d : Int) (a : Option Addr) (cap : Nat) (ps : List Pr) (x k : Int) (w : World) (hm : ps.length ≤ 1048576) (hr : PeersAt w a ps) :
    Calls Try.prog 32 #[.agg #[.int .i64 b, .int .i64 d, .slice a ps.length cap], .int .i64 x, .int .i64 k] w fun e w' => e = .returned (.tuple #[.agg (stV b d ps x k).cells, .bool (askP b d ps x k)]) ∧ Below w.heap.size w w' := by
  have ST0 : Hid (ST w ((w.alloc (.cells #[.int .i64 b, .int .i64 d, .slice a ps.length cap] 28)).alloc (.cells #[.int .i64 0, .int .i64 0, .int .i64 0, .int .i64 0, .int .i64 0, .int .i64 0, .int .i64 0] 32)) #[.int .i64 b, .int .i64 d, .slice a ps.length cap]) := st0 w _
  have CG := lasked4_any b d a cap ps x k _ hm (hr.keep ST0.out.bel)
  have HR : Hid (PeersAt w a ps) := hr
  clear hr
  unfold stV
  cases hg : askP b d ps x k
  · rw [hg] at CG
    simp only [Bool.false_eq_true, if_false, wk0_cells]
    go_enter Try.func32, Try.ntmps32
    go_wp2_with fail
    refine CG.mono ?_
    rintro e w1 ⟨rfl, hw1⟩
    have ST1 : Hid (ST w w1 #[.int .i64 b, .int .i64 d, .slice a ps.length cap]) := ST0.out.keep hw1
    clear hw1 ST0 CG
    obtain ⟨c0, c1, c2⟩ := Bk.c3 ST1.out.kb
    obtain ⟨r0, r1, r2, r3, r4, r5, r6⟩ := Bk.c7 ST1.out.ka
    obtain ⟨f0, f1, f2, f3, f4, f5, f6⟩ := ST1.out.ka.f7
    go_wp2_with fail
    obtain ⟨KA, KB⟩ := ST.ends (vs := [.int .i64 0, .int .i64 0, .int .i64 0, .int .i64 0, .int .i64 0, .int .i64 0, .int .i64 0]) ST1.out
    refine bodyPost_ret (results_cell_tmp Try.results32 _ _ (w.heap.size + 1) _ _ _ _ _ rfl rfl KA Try.underlying32 rfl (by kernel_rfl)) rfl ⟨rfl, KB⟩
  · rw [hg] at CG
    simp only [if_true]
    obtain ⟨hgp, hh, k1, k2⟩ := askP_parts hg
    have CS : ∀ w1, ST w w1 #[.int .i64 b, .int .i64 d, .slice a ps.length cap] → Calls Try.prog 71 #[.agg #[.int .i64 b, .int .i64 d, .slice a ps.length cap], .int .i64 x, .int .i64 k] w1 fun e w' => e = .returned (.agg (stt b d ps x k).cells) ∧ Below w1.heap.size w1 w' := fun w1 h =>
      lstart_any b d a cap ps x k w1 hgp hh k1 k2 (HR.out.keep h.bel)
    have HV : Hid ((stt b d ps x k).cells = #[.int .i64 x, .int .i64 (stt b d ps x k).imag, .int .i64 (stt b d ps x k).left, .int .i64 0, .int .i64 0, .int .i64 0, .int .i64 0]) := rfl
    unfold Hid at HV
    rw [HV] at CS ⊢
    clear HV hg
    generalize (stt b d ps x k).imag = vi at *
    generalize (stt b d ps x k).left = vl at *
    go_enter Try.func32, Try.ntmps32
    go_wp2_with fail
    refine CG.mono ?_
    rintro e w1 ⟨rfl, hw1⟩
    have ST1 : Hid (ST w w1 #[.int .i64 b, .int .i64 d, .slice a ps.length cap]) := ST0.out.keep hw1
    clear hw1 ST0 CG
    obtain ⟨c0, c1, c2⟩ := Bk.c3 ST1.out.kb
    obtain ⟨r0, r1, r2, r3, r4, r5, r6⟩ := Bk.c7 ST1.out.ka
    obtain ⟨f0, f1, f2, f3, f4, f5, f6⟩ := ST1.out.ka.f7
    go_wp2_with fail
    refine (CS _ ST1.out).mono ?_
    rintro e w2 ⟨rfl, hw2⟩
    have ST2 : Hid (ST w w2 #[.int .i64 b, .int .i64 d, .slice a ps.length cap]) := ST1.out.keep hw2
    clear c0 c1 c2 r0 r1 r2 r3 r4 r5 r6 f0 f1 f2 f3 f4 f5 f6
    clear hw2 ST1
    obtain ⟨c0, c1, c2⟩ := Bk.c3 ST2.out.kb
    obtain ⟨r0, r1, r2, r3, r4, r5, r6⟩ := Bk.c7 ST2.out.ka
    obtain ⟨f0, f1, f2, f3, f4, f5, f6⟩ := ST2.out.ka.f7
    go_wp2_with fail
    obtain ⟨KA, KB⟩ := ST.ends (vs := [.int .i64 x, .int .i64 vi, .int .i64 vl, .int .i64 0, .int .i64 0, .int .i64 0, .int .i64 0]) ST2.out
    refine bodyPost_ret (results_cell_tmp Try.results32 _ _ (w.heap.size + 1) _ _ _ _ _ rfl rfl KA Try.underlying32 rfl (by kernel_rfl)) rfl ⟨rfl, KB⟩
end Go.Proofs.Ytejajlloipkkhaa
namespace Go.Proofs.Ytejajlloipkkhaa
open Go.RowKit
set_option linter.unusedVariables false

set_option maxHeartbeats 1600000 in
theorem MembersOf_any (b d : Int) (a : Option Addr) (cap : Nat) (ps : List Pr) (w : World) (hm : ps.length ≤ 1048576) (hr : PeersAt w a ps) :
    Calls Try.prog 17 #[.agg #[.int .i64 b, .int .i64 d, .slice a ps.length cap]] w fun e w' => ∃ v, e = .returned v ∧ Below w.heap.size w w' ∧
      ((goodP b d ps = false ∧ v = .tuple #[.slice none 0 0, .bool false]) ∨ (goodP b d ps = true ∧ ∃ g, v = .tuple #[.slice (some ⟨g, 0, none⟩) ps.length ps.length, .bool true] ∧ OwnS w.heap.size w' g (idsP ps))) := by
  have hr1 := hr.alloc (.cells #[.int .i64 b, .int .i64 d, .slice a ps.length cap] 28)
  have HR : Hid (PeersAt w a ps) := hr
  clear hr
  have C := GoodPeers_any b d a cap ps _ hm hr1
  cases hg : goodP b d ps
  · rw [hg] at C
    go_enter Try.func17, Try.ntmps17
    go_wp2_with fail
    refine C.mono ?_
    rintro e w1 ⟨rfl, hw1⟩
    go_wp2
    go_ret2
    exact ⟨_, rfl, bel1 hw1 (by simp), .inl ⟨trivial, rfl⟩⟩
  · rw [hg] at C
    go_enter Try.func17, Try.ntmps17
    go_wp2_with fail
    refine C.mono ?_
    rintro e w1 ⟨rfl, hw1⟩
    have BX : Hid (BxP w w1 b d (.slice a ps.length cap)) := bxP1 hw1 (by simp)
    go_wp2_with fail
    refine (idsOf_any w.heap.size a cap ps w1 hm BX.out.lt BX.out.c2 (HR.out.keep BX.out.bel)).mono ?_
    rintro e w2 ⟨rfl, ow2⟩
    go_wp2
    go_ret2
    exact ⟨_, rfl, belt BX.out.bel ow2.bel, .inr ⟨trivial, _, rfl, ow2.owns.mono BX.out.bel.size⟩⟩

/-- the box of peers that came in, where blocks beyond it turn -/
theorem BxP.away {w wr w1 : World} {b d : Int} {v : Value} (h : BxP w wr b d v) (hb : Below w.heap.size w w1) (hs : wr.heap.size ≤ w1.heap.size) (hk : w1.heap[w.heap.size]? = wr.heap[w.heap.size]?) : BxP w w1 b d v :=
  ⟨hb, Nat.lt_of_lt_of_le h.lt hs, (World.cell?_of_block (a := ⟨w.heap.size, 0, none⟩) hk).trans h.c0, (World.cell?_of_block (a := ⟨w.heap.size, 1, none⟩) hk).trans h.c1, (World.cell?_of_block (a := ⟨w.heap.size, 2, none⟩) hk).trans h.c2⟩
theorem BxP.only {w wr w1 : World} {b d : Int} {v : Value} {g : Nat} (h : BxP w wr b d v) (ho : Only g wr w1) (hg : w.heap.size < g) : BxP w w1 b d v :=
  h.away (ho.below h.bel (by omega)) (by rw [ho.size]; exact Nat.le_refl _) (ho.block _ (by omega))
theorem map_len {L : List (Pr × Value)} {ps : List Pr} (h : L.map (·.1) = ps) : L.length = ps.length := by rw [← h, List.length_map]
end Go.Proofs.Ytejajlloipkkhaa
namespace Go.Proofs.Ytejajlloipkkhaa
open Go.RowKit
set_option linter.unusedVariables false

/-- the boxed space, and all that lay below it, are as they were -/
structure Bx (w : World) (b d : Int) (wk : World) : Prop where
  bel : Below (w.heap.size + 1) (w.alloc (.cells #[.int .i64 b, .int .i64 d] 62)) wk
theorem Bx.at {w wk : World} {b d : Int} (h : Bx w b d wk) : wk.cell? ⟨w.heap.size, 0, none⟩ = some (.int .i64 b) ∧ wk.cell? ⟨w.heap.size, 1, none⟩ = some (.int .i64 d) ∧ w.heap.size < wk.heap.size :=
  ⟨(h.bel.cell (p := ⟨w.heap.size, 0, none⟩) (by simp)).trans (by simp), (h.bel.cell (p := ⟨w.heap.size, 1, none⟩) (by simp)).trans (by simp), by have := h.bel.size; simp at this; omega⟩
theorem Bx.old {w wk : World} {b d : Int} (h : Bx w b d wk) : Below w.heap.size w wk := bel1 h.bel (by omega)
theorem Bx.step {w wk w' : World} {b d : Int} (h : Bx w b d wk) (hw : Below wk.heap.size wk w') : Bx w b d w' :=
  ⟨h.bel.trans (hw.mono (by have := h.at.2.2; omega))⟩
theorem Bx.first {w w1 : World} {b d : Int} (h : Below (w.alloc (.cells #[.int .i64 b, .int .i64 d] 62)).heap.size (w.alloc (.cells #[.int .i64 b, .int .i64 d] 62)) w1) : Bx w b d w1 := ⟨h.mono (by simp)⟩
theorem Bx.only {w wk w' : World} {b d : Int} {g : Nat} (h : Bx w b d wk) (ho : Only g wk w') (hg : w.heap.size < g) : Bx w b d w' :=
  ⟨h.bel.trans ⟨ho.os, ho.tape, ho.output, by rw [ho.size]; exact Nat.le_refl _, fun k hk => ho.block k (by omega)⟩⟩
theorem mrk_at' {k0 : Int} {zs : List Int} {n : Nat} (h : zs.length = n) : (mrk k0 zs n).length = n ∧ ∀ i, i < (mrk k0 zs n).length → (mrk k0 zs n).getD i 0 = k0 + (i : Int) := by
  subst h
  exact ⟨mrk_len (Nat.le_refl _), fun i hi => mrk_get (by rwa [mrk_len (Nat.le_refl _)] at hi)⟩
end Go.Proofs.Ytejajlloipkkhaa
namespace Go.Proofs.Ytejajlloipkkhaa
open Go.RowKit
set_option linter.unusedVariables false
/-- a box that was laid in the world w is as it was -/
structure BxV (w wr : World) (cs : Array Value) (T : TypeId) : Prop where
  row : wr.heap[w.heap.size]? = some (.cells cs T (0, 0))
theorem BxV.lt {w wr : World} {cs : Array Value} {T : TypeId} (h : BxV w wr cs T) : w.heap.size < wr.heap.size := (Array.getElem?_eq_some_iff.1 h.row).1
theorem BxV.keep {w wr w1 : World} {cs : Array Value} {T : TypeId} (h : BxV w wr cs T) (hb : Below wr.heap.size wr w1) : BxV w w1 cs T :=
  ⟨(hb.block _ h.lt).trans h.row⟩
theorem bxV1 {w w1 : World} {cs : Array Value} {T : TypeId} (hb : Below (w.alloc (.cells cs T)).heap.size (w.alloc (.cells cs T)) w1) : BxV w w1 cs T := by
  have h0 : BxV w (w.alloc (.cells cs T)) cs T := ⟨heap_alloc_new _ _⟩
  exact h0.keep hb
theorem BxV.c2 {w wr : World} {x y : Value} {T : TypeId} (h : BxV w wr #[x, y] T) : wr.cell? ⟨w.heap.size, 0, none⟩ = some x ∧ wr.cell? ⟨w.heap.size, 1, none⟩ = some y :=
  ⟨(cell_of_row wr _ _ _ _ _ h.row).trans rfl, (cell_of_row wr _ _ _ _ _ h.row).trans rfl⟩
theorem BxV.c3 {w wr : World} {x y z : Value} {T : TypeId} (h : BxV w wr #[x, y, z] T) : wr.cell? ⟨w.heap.size, 0, none⟩ = some x ∧ wr.cell? ⟨w.heap.size, 1, none⟩ = some y ∧ wr.cell? ⟨w.heap.size, 2, none⟩ = some z :=
  ⟨(cell_of_row wr _ _ _ _ _ h.row).trans rfl, (cell_of_row wr _ _ _ _ _ h.row).trans rfl, (cell_of_row wr _ _ _ _ _ h.row).trans rfl⟩
theorem bxv6 {w w4 wr : World} {x y z x' y' z' : Value} {T T' : TypeId} (h : BxV w wr #[x, y, z] T) (k : BxV w4 wr #[x', y', z'] T') : wr.cell? ⟨w.heap.size, 0, none⟩ = some x ∧ wr.cell? ⟨w.heap.size, 1, none⟩ = some y ∧ wr.cell? ⟨w.heap.size, 2, none⟩ = some z ∧ wr.cell? ⟨w4.heap.size, 0, none⟩ = some x' ∧ wr.cell? ⟨w4.heap.size, 1, none⟩ = some y' ∧ wr.cell? ⟨w4.heap.size, 2, none⟩ = some z' :=
  ⟨h.c3.1, h.c3.2.1, h.c3.2.2, k.c3.1, k.c3.2.1, k.c3.2.2⟩
/-- nothing was changed but blocks from B to T; new ones may have come -/
structure Mk (B T : Nat) (w w' : World) : Prop where
  below : ∀ n w0, n ≤ B → Below n w0 w → Below n w0 w'
  block : ∀ k, k < w.heap.size → ¬ (B ≤ k ∧ k < T) → w'.heap[k]? = w.heap[k]?
  size : w.heap.size ≤ w'.heap.size
theorem Mk.refl (B T : Nat) (w : World) : Mk B T w w := ⟨fun _ _ _ h => h, fun _ _ _ => rfl, Nat.le_refl _⟩
theorem Mk.wide {B T B' T' : Nat} {w w' : World} (h : Mk B T w w') (hB : B' ≤ B) (hT : T ≤ T') : Mk B' T' w w' :=
  ⟨fun n w0 hn hb => h.below n w0 (by omega) hb, fun k hk hn => h.block k hk (by omega), h.size⟩
theorem mk_only {g : Nat} {w w' : World} (h : Only g w w') : Mk g (g + 1) w w' :=
  ⟨fun n w0 hn hb => hb.trans ⟨h.os, h.tape, h.output, by rw [h.size]; exact Nat.le_refl _, fun k hk => h.block k (by omega)⟩, fun k _ hk => h.block k (by omega), by rw [h.size]; exact Nat.le_refl _⟩
theorem BxV.mkd {w wr w1 : World} {cs : Array Value} {T0 : TypeId} {B T : Nat} (h : BxV w wr cs T0) (m : Mk B T wr w1) (hB : w.heap.size < B ∨ T ≤ w.heap.size) : BxV w w1 cs T0 :=
  ⟨(m.block _ h.lt (by omega)).trans h.row⟩
/-- a list of one's own among the blocks from B to T, or an empty one -/
def OwnLs (B T : Nat) (w : World) (a : Option Addr) (n : Nat) (l : List Int) : Prop := l.length = n ∧ (l = [] ∨ ∃ g, a = some ⟨g, 0, none⟩ ∧ g < T ∧ OwnS B w g l)
theorem OwnLs.rowAt {B T : Nat} {w : World} {a : Option Addr} {n : Nat} {l : List Int} (h : OwnLs B T w a n l) : RowAt w a l := by
  rcases h.2 with h | ⟨g, ha, _, os⟩
  · exact .inl h
  · rw [ha]; exact os.rowAt
theorem OwnLs.blocks {B T : Nat} {w w1 : World} {a : Option Addr} {n : Nat} {l : List Int} (h : OwnLs B T w a n l) (hb : ∀ k, B ≤ k → k < T → k < w.heap.size → w1.heap[k]? = w.heap[k]?) : OwnLs B T w1 a n l := by
  refine ⟨h.1, ?_⟩
  rcases h.2 with h | ⟨g, ha, ht, os⟩
  · exact .inl h
  · exact .inr ⟨g, ha, ht, os.of_block (hb g os.lo ht os.lt)⟩
theorem OwnLs.keep {B T : Nat} {w w1 : World} {a : Option Addr} {n : Nat} {l : List Int} (h : OwnLs B T w a n l) (hb : Below w.heap.size w w1) : OwnLs B T w1 a n l := h.blocks (fun k _ _ hk => hb.block k hk)
theorem OwnLs.mkd {B T B' T' : Nat} {w w1 : World} {a : Option Addr} {n : Nat} {l : List Int} (h : OwnLs B T w a n l) (m : Mk B' T' w w1) (hd : T ≤ B' ∨ T' ≤ B) : OwnLs B T w1 a n l := h.blocks (fun k h1 h2 hk => m.block k hk (by omega))
theorem toIntS_own (a : Option Addr) (cap : Nat) (zs : List Int) (w : World) (hm : zs.length ≤ 1048576) (hr : RowAt w a zs) :
    Calls Try.prog 126 #[.slice a zs.length cap] w fun e w' => ∃ a', e = .returned (.slice a' zs.length zs.length) ∧ OwnLs w.heap.size w'.heap.size w' a' zs.length zs ∧ Below w.heap.size w w' := by
  refine (toIntS_any a cap zs w hm hr).mono ?_
  rintro e w1 ⟨rfl, ow⟩
  exact ⟨_, rfl, ⟨rfl, .inr ⟨_, rfl, ow.lt, ow.owns⟩⟩, ow.bel⟩
theorem markIntS_own (B T cap : Nat) (a : Option Addr) (n : Nat) (zs : List Int) (k0 : Int) (w : World) (hm : n ≤ 1048576) (k1 : 0 ≤ k0) (k2 : k0 ≤ 1099511627776) (ho : OwnLs B T w a n zs) :
    Calls Try.prog 46 #[.slice a n cap, .int .i64 k0] w fun e w' => e = .returned (.int .i64 (k0 + (n : Int))) ∧ Mk B T w w' ∧ OwnLs B T w' a n (mrk k0 zs n) := by
  obtain ⟨rfl, ho⟩ := ho
  rcases ho with rfl | ⟨g, rfl, ht, os⟩
  · refine (markIntS_empty a cap k0 w).mono ?_
    rintro e w1 ⟨rfl, rfl⟩
    exact ⟨by simp, Mk.refl _ _ _, rfl, .inl rfl⟩
  · refine (markOwn_any B g cap zs k0 w hm k1 k2 os).mono ?_
    rintro e w1 ⟨rfl, os1, on⟩
    exact ⟨rfl, (mk_only on).wide os.lo (by omega), mrk_len (Nat.le_refl _), .inr ⟨g, rfl, ht, os1⟩⟩
theorem heldIntS_own (B T cap : Nat) (a : Option Addr) (n : Nat) (zs : List Int) (k0 : Int) (w : World) (hm : n ≤ 1048576) (hz : zs.length = n) (k1 : 0 ≤ k0) (k2 : k0 ≤ 1099511627776) (ho : OwnLs B T w a n (mrk k0 zs n)) :
    Calls Try.prog 47 #[.slice a n cap, .int .i64 k0] w fun e w' => e = .returned (.int .i64 (k0 + (n : Int))) ∧ Below w.heap.size w w' := by
  obtain ⟨h1, h2⟩ := mrk_at' (k0 := k0) hz
  have := heldIntS_any a cap (mrk k0 zs n) k0 w (by rw [h1]; exact hm) k1 k2 ho.rowAt h2
  rw [h1] at this
  refine this.mono ?_
  rintro e w1 ⟨rfl, rfl⟩
  exact ⟨rfl, Below.refl _ _⟩
theorem eqIntS_own (a a' : Option Addr) (cap cap' n : Nat) (l : List Int) (w : World) (hn : l.length = n) (hm : n ≤ 1048576) (hx : RowAt w a l) (hy : RowAt w a' l) :
    Calls Try.prog 44 #[.slice a n cap, .slice a' n cap'] w fun e w' => e = .returned (.bool true) ∧ Below w.heap.size w w' := by
  subst hn
  have := eqIntS_any a a' cap cap' l l w (by unfold maxLen; omega) hx hy
  have hs : sameB l l = true := decide_eq_true rfl
  rwa [hs] at this
/-- peers of one's own among the blocks from B to T, or none -/
def OwnPs (B T : Nat) (w : World) (a : Option Addr) (n : Nat) (ps : List Pr) : Prop := ps.length = n ∧ (ps = [] ∨ ∃ g L, a = some ⟨g, 0, none⟩ ∧ L.map (·.1) = ps ∧ OwnP B T w g L)
theorem OwnPs.peersAt {B T : Nat} {w : World} {a : Option Addr} {n : Nat} {ps : List Pr} (h : OwnPs B T w a n ps) : PeersAt w a ps := by
  rcases h.2 with h | ⟨g, L, ha, hL, os⟩
  · exact .inl h
  · rw [ha, ← hL]; exact os.peersAt
theorem OwnPs.blocks {B T : Nat} {w w1 : World} {a : Option Addr} {n : Nat} {ps : List Pr} (h : OwnPs B T w a n ps) (hb : ∀ k, B ≤ k → k < T → k < w.heap.size → w1.heap[k]? = w.heap[k]?) : OwnPs B T w1 a n ps := by
  refine ⟨h.1, ?_⟩
  rcases h.2 with h | ⟨g, L, ha, hL, os⟩
  · exact .inl h
  · exact .inr ⟨g, L, ha, hL, os.blocks hb⟩
theorem OwnPs.keep {B T : Nat} {w w1 : World} {a : Option Addr} {n : Nat} {ps : List Pr} (h : OwnPs B T w a n ps) (hb : Below w.heap.size w w1) : OwnPs B T w1 a n ps := h.blocks (fun k _ _ hk => hb.block k hk)
theorem OwnPs.mkd {B T B' T' : Nat} {w w1 : World} {a : Option Addr} {n : Nat} {ps : List Pr} (h : OwnPs B T w a n ps) (m : Mk B' T' w w1) (hd : T ≤ B' ∨ T' ≤ B) : OwnPs B T w1 a n ps := h.blocks (fun k h1 h2 hk => m.block k hk (by omega))
theorem toPeers_own (b d : Int) (a : Option Addr) (cap : Nat) (ps : List Pr) (w : World) (hb : ps.length + bsum ps ≤ 1048576) (hr : PeersAt w a ps) :
    Calls Try.prog 40 #[.agg #[.int .i64 b, .int .i64 d, .slice a ps.length cap]] w fun e w' => ∃ a', e = .returned (.agg #[.int .i64 b, .int .i64 d, .slice a' ps.length ps.length]) ∧ OwnPs w.heap.size w'.heap.size w' a' ps.length ps ∧ Below w.heap.size w w' := by
  refine (toPeers_any b d a cap ps w hb hr).mono ?_
  rintro e w1 ⟨g, rfl, ⟨L, hL, ow⟩, hw⟩
  exact ⟨_, rfl, ⟨rfl, .inr ⟨g, L, rfl, hL, ow⟩⟩, hw⟩
theorem markPeerS_empty (a : Option Addr) (cap : Nat) (k0 : Int) (w : World) :
    Calls Try.prog 88 #[.slice a 0 cap, .int .i64 k0] w fun e w' => e = .returned (.int .i64 k0) ∧ w' = w := by
  go_enter Try.func88, Try.ntmps88
  go_wp2
  go_loop [1, 5] (fun k i => i = .int .i64 0 ∧ k = .int .i64 k0) (fun _ i => 0)
  case atStart => exact ⟨rfl, rfl⟩
  case round =>
    obtain ⟨rfl, rfl⟩ := hrel
    go_wp2
    go_ret
    exact ⟨rfl, rfl⟩
theorem markPeers_empty (b d : Int) (a : Option Addr) (cap : Nat) (k0 : Int) (w : World) :
    Calls Try.prog 45 #[.agg #[.int .i64 b, .int .i64 d, .slice a 0 cap], .int .i64 k0] w fun e w' => e = .returned (.int .i64 k0) ∧ Below w.heap.size w w' := by
  go_enter Try.func45, Try.ntmps45
  go_wp2_with fail
  refine (markPeerS_empty a cap k0 _).mono ?_
  rintro e w1 ⟨rfl, rfl⟩
  go_wp2
  go_ret
  exact ⟨rfl, belA _ _⟩
theorem mk_below {B T : Nat} {w w' : World} (h : Below w.heap.size w w') (hB : B ≤ w.heap.size) : Mk B T w w' :=
  ⟨fun n w0 hn hb => hb.trans (h.mono (by omega)), fun k hk _ => h.block k hk, h.size⟩
theorem markPeers_own (b d : Int) (B T cap : Nat) (a : Option Addr) (n : Nat) (ps : List Pr) (k0 : Int) (w : World) (hb : ps.length + bsum ps ≤ 1048576) (k1 : 0 ≤ k0) (k2 : k0 ≤ 1000000000000) (hB : B ≤ w.heap.size) (hT : T ≤ w.heap.size) (h : OwnPs B T w a n ps) :
    Calls Try.prog 45 #[.agg #[.int .i64 b, .int .i64 d, .slice a n cap], .int .i64 k0] w fun e w' => e = .returned (.int .i64 (kAt k0 ps n)) ∧ Mk B T w w' ∧ OwnPs B T w' a n (mrkP k0 ps) := by
  obtain ⟨rfl, ho⟩ := h
  rcases ho with rfl | ⟨g, L, rfl, hL, os⟩
  · refine (markPeers_empty b d a cap k0 w).mono ?_
    rintro e w1 ⟨rfl, hw⟩
    exact ⟨by simp [kAt, bsum], mk_below hw hB, rfl, .inl rfl⟩
  · have hl : L.length = ps.length := map_len hL
    have C := markPeers_any b d B T g cap L k0 w (by rw [hL, hl]; exact hb) k1 k2 hT os
    rw [hL, hl] at C
    refine C.mono ?_
    rintro e w1 ⟨rfl, h1, h2, h3, L', hL', os'⟩
    exact ⟨rfl, ⟨h1, h2, h3⟩, mrkP_len _ _, .inr ⟨g, L', rfl, hL', os'⟩⟩
theorem eqPeers_own (b d : Int) (a a' : Option Addr) (cap cap' n : Nat) (ps : List Pr) (w : World) (hn : ps.length = n) (hm : n ≤ 1048576) (hx : PeersAt w a ps) (hy : PeersAt w a' ps) :
    Calls Try.prog 42 #[.agg #[.int .i64 b, .int .i64 d, .slice a n cap], .agg #[.int .i64 b, .int .i64 d, .slice a' n cap']] w fun e w' => e = .returned (.bool true) ∧ Below w.heap.size w w' := by
  subst hn
  exact eqPeers_same b d a a' cap cap' ps w hm hx hy
theorem bne_self_bool (b : Bool) : (b != b) = false := by cases b <;> rfl
/-- a list that a call has answered in memory of its own -/
theorem ownLs_of {B T : Nat} {w : World} {g n : Nat} {l : List Int} (h : OwnS B w g l) (ht : w.heap.size ≤ T) (hn : l.length = n) : OwnLs B T w (some ⟨g, 0, none⟩) n l := ⟨hn, .inr ⟨g, rfl, Nat.lt_of_lt_of_le h.lt ht, h⟩⟩
theorem ownLs_nil (B T : Nat) (w : World) (a : Option Addr) : OwnLs B T w a 0 [] := ⟨rfl, .inl rfl⟩
theorem ownPs_nil (B T : Nat) (w : World) (a : Option Addr) : OwnPs B T w a 0 [] := ⟨rfl, .inl rfl⟩
end Go.Proofs.Ytejajlloipkkhaa
namespace Go.Proofs.Ytejajlloipkkhaa
open Go.RowKit Go.ChangeShapes Go.WideShapes Go.Deep
set_option linter.unusedVariables false
theorem array7 {α : Type} {cs : Array α} (h : cs.size = 7) : ∃ c0 c1 c2 c3 c4 c5 c6, cs = #[c0, c1, c2, c3, c4, c5, c6] := by
  obtain ⟨l⟩ := cs
  match l, h with
  | [c0, c1, c2, c3, c4, c5, c6], _ => exact ⟨c0, c1, c2, c3, c4, c5, c6, rfl⟩
theorem list7 {α : Type} {l : List α} (h : l.length = 7) : ∃ c0 c1 c2 c3 c4 c5 c6, l = [c0, c1, c2, c3, c4, c5, c6] := by
  match l, h with
  | [c0, c1, c2, c3, c4, c5, c6], _ => exact ⟨c0, c1, c2, c3, c4, c5, c6, rfl⟩
theorem cellsW : Try.prog.cellsOf 71 = 7 := by kernel_rfl
section
variable {H : Type} {enc : TypeId × Value → H} {W : World} {base : Nat} {held : Bool}
set_option maxRecDepth 100000 in
theorem open_walk {r : Reach} {b0 : Nat} {v : Value} {d : DataW H} {p : List MemPlace} (hv : Value.okWide Try.prog W r b0 71 v) (h : DataW.Trod enc Try.prog W base (fun _ => true) held 71 v d p) :
    ∃ y0 y1 y2 y3 y4 y5 y6 : Int, v = .agg #[.int .i64 y0, .int .i64 y1, .int .i64 y2, .int .i64 y3, .int .i64 y4, .int .i64 y5, .int .i64 y6] := by
  obtain ⟨cs, rfl, hsz⟩ := okWide_struct Try.underlying71 hv
  obtain ⟨c0, c1, c2, c3, c4, c5, c6, rfl⟩ := array7 (hsz.trans cellsW)
  obtain ⟨fuel, hf⟩ := h
  obtain ⟨xs, n, _, _, hl, hlen, hf⟩ := DataW.trod_struct Try.underlying71 hf
  obtain ⟨x0, x1, x2, x3, x4, x5, x6, rfl⟩ := list7 (l := xs) hlen
  have g0 := hf 0 _ rfl
  have g1 := hf 1 _ rfl
  have g2 := hf 2 _ rfl
  have g3 := hf 3 _ rfl
  have g4 := hf 4 _ rfl
  have g5 := hf 5 _ rfl
  have g6 := hf 6 _ rfl
  simp [Value.cells, cellsI] at g0 g1 g2 g3 g4 g5 g6
  obtain ⟨a0, e0, _, _⟩ := DataW.trod_int Try.underlying3 g0
  obtain ⟨a1, e1, _, _⟩ := DataW.trod_int Try.underlying3 g1
  obtain ⟨a2, e2, _, _⟩ := DataW.trod_int Try.underlying3 g2
  obtain ⟨a3, e3, _, _⟩ := DataW.trod_int Try.underlying3 g3
  obtain ⟨a4, e4, _, _⟩ := DataW.trod_int Try.underlying3 g4
  obtain ⟨a5, e5, _, _⟩ := DataW.trod_int Try.underlying3 g5
  obtain ⟨a6, e6, _, _⟩ := DataW.trod_int Try.underlying3 g6
  simp at e0 e1 e2 e3 e4 e5 e6
  subst e0 e1 e2 e3 e4 e5 e6
  exact ⟨a0, a1, a2, a3, a4, a5, a6, rfl⟩
end
set_option maxHeartbeats 800000 in
theorem eqWalk_same (y0 y1 y2 y3 y4 y5 y6 : Int) (w : World) :
    Calls Try.prog 41 #[.agg #[.int .i64 y0, .int .i64 y1, .int .i64 y2, .int .i64 y3, .int .i64 y4, .int .i64 y5, .int .i64 y6], .agg #[.int .i64 y0, .int .i64 y1, .int .i64 y2, .int .i64 y3, .int .i64 y4, .int .i64 y5, .int .i64 y6]] w fun e w' => e = .returned (.bool true) ∧ Below w.heap.size w w' := by
  go_enter Try.func41, Try.ntmps41
  go_wp2
  go_ret
  exact ⟨rfl, ((Below.refl _ _).alloc (Nat.le_refl _) _).alloc (by simp) _⟩
set_option maxRecDepth 100000 in
set_option maxHeartbeats 1600000 in
theorem toWalk_any (y0 y1 y2 y3 y4 y5 y6 : Int) (w : World) :
    Calls Try.prog 43 #[.agg #[.int .i64 y0, .int .i64 y1, .int .i64 y2, .int .i64 y3, .int .i64 y4, .int .i64 y5, .int .i64 y6]] w fun e w' => e = .returned (.agg #[.int .i64 y0, .int .i64 y1, .int .i64 y2, .int .i64 y3, .int .i64 y4, .int .i64 y5, .int .i64 y6]) ∧ Below w.heap.size w w' := by
  go_enter Try.func43, Try.ntmps43
  go_wp2
  have K : Bk (((w.alloc (.cells #[.int .i64 y0, .int .i64 y1, .int .i64 y2, .int .i64 y3, .int .i64 y4, .int .i64 y5, .int .i64 y6] 71)).alloc (.cells #[.int .i64 y0, .int .i64 y1, .int .i64 y2, .int .i64 y3, .int .i64 y4, .int .i64 y5, .int .i64 y6] 32)).alloc (.cells #[.int .i64 y0, .int .i64 y1, .int .i64 y2, .int .i64 y3, .int .i64 y4, .int .i64 y5, .int .i64 y6] 32)) (w.heap.size + 1) #[.int .i64 y0, .int .i64 y1, .int .i64 y2, .int .i64 y3, .int .i64 y4, .int .i64 y5, .int .i64 y6] 32 := by
    have h := (Bk.new (w.alloc (.cells #[.int .i64 y0, .int .i64 y1, .int .i64 y2, .int .i64 y3, .int .i64 y4, .int .i64 y5, .int .i64 y6] 71)) #[.int .i64 y0, .int .i64 y1, .int .i64 y2, .int .i64 y3, .int .i64 y4, .int .i64 y5, .int .i64 y6] 32).alloc (.cells #[.int .i64 y0, .int .i64 y1, .int .i64 y2, .int .i64 y3, .int .i64 y4, .int .i64 y5, .int .i64 y6] 32)
    simp only [World.size_alloc] at h
    exact h
  refine bodyPost_ret (results_cell_row Try.results43 _ _ (w.heap.size + 1) _ _ _ _ rfl K Try.underlying32 rfl (by kernel_rfl)) rfl ⟨rfl, (((Below.refl _ _).alloc (Nat.le_refl _) _).alloc (by simp) _).alloc (by simp; omega) _⟩
theorem BxV.c7 {w wr : World} {x0 x1 x2 x3 x4 x5 x6 : Value} {T : TypeId} (h : BxV w wr #[x0, x1, x2, x3, x4, x5, x6] T) : wr.cell? ⟨w.heap.size, 0, none⟩ = some x0 ∧ wr.cell? ⟨w.heap.size, 1, none⟩ = some x1 ∧ wr.cell? ⟨w.heap.size, 2, none⟩ = some x2 ∧ wr.cell? ⟨w.heap.size, 3, none⟩ = some x3 ∧ wr.cell? ⟨w.heap.size, 4, none⟩ = some x4 ∧ wr.cell? ⟨w.heap.size, 5, none⟩ = some x5 ∧ wr.cell? ⟨w.heap.size, 6, none⟩ = some x6 :=
  Bk.c7 h.row
theorem bk2 {w w1 : World} {o : Obj} {C : Array Value} {T : TypeId} (hb : Below ((w.alloc o).alloc (.cells C T)).heap.size ((w.alloc o).alloc (.cells C T)) w1) : Bk w1 (w.heap.size + 1) C T := by
  have h := (Bk.new (w.alloc o) C T).keep hb
  simpa using h
/-- a walk, its numbers written out -/
theorem Wk.out (v : Wk) : v.cells = #[.int .i64 v.at_, .int .i64 v.imag, .int .i64 v.left, .int .i64 v.points, .int .i64 v.succs, .int .i64 v.state, .int .i64 v.owner] := rfl
theorem StartAt_own (b d : Int) (a : Option Addr) (cap : Nat) (ps : List Pr) (x k : Int) (w : World) (hm : ps.length ≤ 1048576) (hr : PeersAt w a ps) :
    Calls Try.prog 31 #[.agg #[.int .i64 b, .int .i64 d, .slice a ps.length cap], .int .i64 x, .int .i64 k] w fun e w' => e = .returned (.tuple #[.agg #[.int .i64 (stV b d ps x k).at_, .int .i64 (stV b d ps x k).imag, .int .i64 (stV b d ps x k).left, .int .i64 (stV b d ps x k).points, .int .i64 (stV b d ps x k).succs, .int .i64 (stV b d ps x k).state, .int .i64 (stV b d ps x k).owner], .bool (askP b d ps x k)]) ∧ Below w.heap.size w w' := StartAt_any b d a cap ps x k w hm hr
theorem lStartAt_own (b d : Int) (a : Option Addr) (cap : Nat) (ps : List Pr) (x k : Int) (w : World) (hm : ps.length ≤ 1048576) (hr : PeersAt w a ps) :
    Calls Try.prog 32 #[.agg #[.int .i64 b, .int .i64 d, .slice a ps.length cap], .int .i64 x, .int .i64 k] w fun e w' => e = .returned (.tuple #[.agg #[.int .i64 (stV b d ps x k).at_, .int .i64 (stV b d ps x k).imag, .int .i64 (stV b d ps x k).left, .int .i64 (stV b d ps x k).points, .int .i64 (stV b d ps x k).succs, .int .i64 (stV b d ps x k).state, .int .i64 (stV b d ps x k).owner], .bool (askP b d ps x k)]) ∧ Below w.heap.size w w' := lStartAt_any b d a cap ps x k w hm hr
theorem bne_self_int (b : Int) : (b != b) = false := by simp
end Go.Proofs.Ytejajlloipkkhaa
namespace Go.Proofs.Ytejajlloipkkhaa
open Go.RowKit
set_option linter.unusedVariables false

theorem upt_back {b d : Int} {zs : List Int} (R : Ring b d zs) (x : Int) : zs.getD ((uptI zs x + zs.length - 1) % zs.length) 0 = dwnI zs x := by
  unfold dwnI uptI
  rw [← mem_has R]
  cases hm : memI zs x
  · rw [if_neg (by simp)]; rfl
  · rw [if_pos rfl]
    have h := of_decide_eq_true hm
    have e : blw zs x + Bool.toNat true + zs.length - 1 = blw zs x + zs.length := by simp
    rw [e, Nat.add_mod_right, Nat.mod_eq_of_lt h.1]
    exact h.2

end Go.Proofs.Ytejajlloipkkhaa
namespace Go.Proofs.Ytejajlloipkkhaa
open Go.RowKit
set_option linter.unusedVariables false
theorem bckL_get {zs : List Int} {p : Int} {n k : Nat} (hk : k < n) : (bckL zs p n).getD k 0 = prvI zs (prvN zs p k) := by
  simp [bckL, List.getD_eq_getElem?_getD, hk, prvN]
/-- the argument's box, the answer's box, the box of peers at X, their list at G -/
structure IPS (w wr : World) (b d : Int) (X G n : Nat) (L : List (Pr × Value)) : Prop where
  rb : RB w wr #[.int .i64 b, .int .i64 d] 25
  lo : w.heap.size + 2 ≤ X
  p : wr.heap[X]? = some (.cells #[.int .i64 b, .int .i64 d, .slice (some ⟨G, 0, none⟩) n n] 28 (0, 0))
  ow : OwnP (w.heap.size + 2) wr.heap.size wr G L
theorem IPS.hi {w wr : World} {b d : Int} {X G n : Nat} {L : List (Pr × Value)} (h : IPS w wr b d X G n L) : X < wr.heap.size := (Array.getElem?_eq_some_iff.1 h.p).1
theorem IPS.ne {w wr : World} {b d : Int} {X G n : Nat} {L : List (Pr × Value)} (h : IPS w wr b d X G n L) : ¬ X = G := fun he => by
  obtain ⟨cur, hc⟩ := h.ow.blk
  have hp := h.p
  rw [he, hc] at hp
  simp at hp
theorem IPS.keep {w wr w1 : World} {b d : Int} {X G n : Nat} {L : List (Pr × Value)} (h : IPS w wr b d X G n L) (hb : Below wr.heap.size wr w1) : IPS w w1 b d X G n L :=
  ⟨h.rb.keep hb, h.lo, (hb.block X h.hi).trans h.p, (h.ow.keep hb).wide hb.size⟩
theorem IPS.put {w wr : World} {b d : Int} {X G n : Nat} {L L' : List (Pr × Value)} {j : Nat} {v : Value} (h : IPS w wr b d X G n L) (ho : OwnP (w.heap.size + 2) wr.heap.size (wr.setCell ⟨G, j, none⟩ v) G L') : IPS w (wr.setCell ⟨G, j, none⟩ v) b d X G n L' := by
  have hlo := h.ow.lo
  refine ⟨h.rb.blocks (h.rb.bel.setCell (p := ⟨G, j, none⟩) (by simp; omega) _) (by simp [World.setCell]) (fun k hk => heap_setCell_other _ _ _ _ (by simp; omega)), h.lo, (heap_setCell_other _ _ _ _ (by simpa using h.ne)).trans h.p, ?_⟩
  have e : (wr.setCell ⟨G, j, none⟩ v).heap.size = wr.heap.size := by simp [World.setCell]
  rw [e]
  exact ho
theorem IPS.num {w wr : World} {b d : Int} {X G n : Nat} {L : List (Pr × Value)} (h : IPS w wr b d X G n L) {i : Nat} (hi : i < L.length) (f : Nat) (hf : f < 3) (z : Int) :
    IPS w (wr.setCell ⟨G, i * 4 + f, none⟩ (.int .i64 z)) b d X G n (L.set i (setF f (L.getD i d0).1 z, (L.getD i d0).2)) := h.put (h.ow.num hi f hf z)
theorem IPS.backs {w wr w1 : World} {b d : Int} {X G n : Nat} {L : List (Pr × Value)} (h : IPS w wr b d X G n L) (hb : Below wr.heap.size wr w1) {i : Nat} (hi : i < L.length) {bs : List Int} {gb cb : Nat} (hm : bs.length ≤ 1048576) (hcb : bs.length ≤ cb) (os : OwnS wr.heap.size w1 gb bs) :
    IPS w (w1.setCell ⟨G, i * 4 + 3, none⟩ (.slice (some ⟨gb, 0, none⟩) bs.length cb)) b d X G n (L.set i (⟨(L.getD i d0).1.id, (L.getD i d0).1.succ, (L.getD i d0).1.point, bs⟩, .slice (some ⟨gb, 0, none⟩) bs.length cb)) :=
  (h.keep hb).put (h.ow.backs rfl hb hi hm hcb os)
theorem IPS.cell {w wr : World} {b d : Int} {X G n : Nat} {L : List (Pr × Value)} (h : IPS w wr b d X G n L) : wr.cell? ⟨X, 0, none⟩ = some (.int .i64 b) ∧ wr.cell? ⟨X, 1, none⟩ = some (.int .i64 d) ∧ wr.cell? ⟨X, 2, none⟩ = some (.slice (some ⟨G, 0, none⟩) n n) :=
  ⟨(cell_of_row wr _ _ _ _ _ h.p).trans rfl, (cell_of_row wr _ _ _ _ _ h.p).trans rfl, (cell_of_row wr _ _ _ _ _ h.p).trans rfl⟩
theorem IPS.at {w wr : World} {b d : Int} {X G n : Nat} {L : List (Pr × Value)} (h : IPS w wr b d X G n L) (j : Nat) : wr.frozen? ⟨G, j, none⟩ = false := by
  obtain ⟨cur, hc⟩ := h.ow.blk
  exact frozen_of_row wr _ _ _ _ hc
theorem ips1 (w wa : World) (b d : Int) (n : Nat) (h : RB w wa #[.int .i64 b, .int .i64 d] 25) :
    IPS w ((wa.alloc (.cells (madeCells #[.int .i64 0, .int .i64 0, .int .i64 0, .slice none 0 0] (n * 4)) 101)).alloc (.cells #[.int .i64 b, .int .i64 d, .slice (some ⟨wa.heap.size, 0, none⟩) n n] 28)) b d (wa.heap.size + 1) wa.heap.size n (List.replicate n d0) := by
  have hlt := h.lt
  have hb1 := belA wa (.cells (madeCells #[.int .i64 0, .int .i64 0, .int .i64 0, .slice none 0 0] (n * 4)) 101)
  have hb2 := belA (wa.alloc (.cells (madeCells #[.int .i64 0, .int .i64 0, .int .i64 0, .slice none 0 0] (n * 4)) 101)) (.cells #[.int .i64 b, .int .i64 d, .slice (some ⟨wa.heap.size, 0, none⟩) n n] 28)
  refine ⟨(h.keep hb1).keep hb2, by omega, ?_, ?_⟩
  · have := heap_alloc_new (wa.alloc (.cells (madeCells #[.int .i64 0, .int .i64 0, .int .i64 0, .slice none 0 0] (n * 4)) 101)) (.cells #[.int .i64 b, .int .i64 d, .slice (some ⟨wa.heap.size, 0, none⟩) n n] 28)
    simpa using this
  · have := ((made_peers wa n).keep hb2).wide (T' := ((wa.alloc (.cells (madeCells #[.int .i64 0, .int .i64 0, .int .i64 0, .slice none 0 0] (n * 4)) 101)).alloc (.cells #[.int .i64 b, .int .i64 d, .slice (some ⟨wa.heap.size, 0, none⟩) n n] 28)).heap.size) (by simp)
    exact this.mono (by omega)
end Go.Proofs.Ytejajlloipkkhaa
namespace Go.Proofs.Ytejajlloipkkhaa
open Go.RowKit
set_option linter.unusedVariables false
theorem ips2 (w wa : World) (b d : Int) (n : Nat) (h : RB w wa #[.int .i64 b, .int .i64 d] 25) :
    IPS w ((wa.alloc (.cells #[.int .i64 b, .int .i64 d, .slice (some ⟨wa.heap.size + 1, 0, none⟩) n n] 28)).alloc (.cells (madeCells #[.int .i64 0, .int .i64 0, .int .i64 0, .slice none 0 0] (n * 4)) 101)) b d wa.heap.size (wa.heap.size + 1) n (List.replicate n d0) := by
  have hlt := h.lt
  have hb1 := belA wa (.cells #[.int .i64 b, .int .i64 d, .slice (some ⟨wa.heap.size + 1, 0, none⟩) n n] 28)
  have hb2 := belA (wa.alloc (.cells #[.int .i64 b, .int .i64 d, .slice (some ⟨wa.heap.size + 1, 0, none⟩) n n] 28)) (.cells (madeCells #[.int .i64 0, .int .i64 0, .int .i64 0, .slice none 0 0] (n * 4)) 101)
  have hm := made_peers (wa.alloc (.cells #[.int .i64 b, .int .i64 d, .slice (some ⟨wa.heap.size + 1, 0, none⟩) n n] 28)) n
  simp only [World.size_alloc] at hm
  refine ⟨(h.keep hb1).keep hb2, by omega, ?_, ?_⟩
  · rw [heap_alloc_old _ _ (by simp)]
    exact heap_alloc_new _ _
  · simp only [World.size_alloc]
    exact hm.mono (by omega)
theorem heap_size_setCell (w : World) (a : Addr) (v : Value) : (w.setCell a v).heap.size = w.heap.size := by simp [World.setCell]
theorem map_getD {L : List (Pr × Value)} {ps : List Pr} (hl : L.length = ps.length) (h : ∀ j, j < ps.length → (L.getD j d0).1 = ps.getD j pr0) : L.map (·.1) = ps := map_fst hl h
end Go.Proofs.Ytejajlloipkkhaa
namespace Go.Proofs.Ytejajlloipkkhaa
open Go.RowKit
set_option linter.unusedVariables false
def memL (b d : Int) (ps : List Pr) : List Int := if goodP b d ps = true then idsP ps else []
theorem memL_big (b d : Int) (ps : List Pr) : (memL b d ps).length ≤ 1048576 := by
  unfold memL
  split
  · rename_i h
    have := (goodP_true h).1.l2
    omega
  · simp
theorem MembersOf_own (b d : Int) (a : Option Addr) (cap : Nat) (ps : List Pr) (w : World) (hm : ps.length ≤ 1048576) (hr : PeersAt w a ps) :
    Calls Try.prog 17 #[.agg #[.int .i64 b, .int .i64 d, .slice a ps.length cap]] w fun e w' => ∃ a' n c, e = .returned (.tuple #[.slice a' n c, .bool (goodP b d ps)]) ∧ (memL b d ps).length = n ∧ OwnLs w.heap.size w'.heap.size w' a' n (memL b d ps) ∧ Below w.heap.size w w' := by
  refine (MembersOf_any b d a cap ps w hm hr).mono ?_
  rintro e w1 ⟨v, rfl, hw, ⟨hg, rfl⟩ | ⟨hg, g, rfl, os⟩⟩
  · rw [hg]
    have e0 : memL b d ps = [] := by unfold memL; rw [hg]; rfl
    rw [e0]
    exact ⟨_, _, _, rfl, rfl, ownLs_nil _ _ _ _, hw⟩
  · rw [hg]
    have e0 : memL b d ps = idsP ps := by unfold memL; rw [hg]; rfl
    rw [e0]
    exact ⟨_, _, _, rfl, idsP_len ps, ownLs_of os (Nat.le_refl _) (idsP_len ps), hw⟩
theorem OwnLs.lower {B B' T : Nat} {w : World} {a : Option Addr} {n : Nat} {l : List Int} (h : OwnLs B T w a n l) (hb : B' ≤ B) : OwnLs B' T w a n l := by
  refine ⟨h.1, ?_⟩
  rcases h.2 with h | ⟨g, ha, ht, os⟩
  · exact .inl h
  · exact .inr ⟨g, ha, ht, os.mono hb⟩
theorem OwnPs.lower {B B' T : Nat} {w : World} {a : Option Addr} {n : Nat} {ps : List Pr} (h : OwnPs B T w a n ps) (hb : B' ≤ B) : OwnPs B' T w a n ps := by
  refine ⟨h.1, ?_⟩
  rcases h.2 with h | ⟨g, L, ha, hL, os⟩
  · exact .inl h
  · exact .inr ⟨g, L, ha, hL, os.mono hb⟩
def spcOf (ok : Bool) (b d : Int) : Int × Int := if ok = true then (b, d) else (0, 0)
def idlL (b d : Int) (zs : List Int) (n : Int) : List Pr := if idlOk b d zs n = true then idealL b d zs n.toNat else []
theorem bsum_le {c : Nat} : ∀ {ps : List Pr}, (∀ p ∈ ps, p.backs.length ≤ c) → bsum ps ≤ ps.length * c
  | [], _ => by simp [bsum]
  | p :: ps, h => by
    have h1 := h p (by simp)
    have h2 := bsum_le (ps := ps) (fun q hq => h q (by simp [hq]))
    simp only [bsum, List.length_cons, Nat.succ_mul]
    omega
theorem idlL_big (b d : Int) (zs : List Int) (n : Int) : (idlL b d zs n).length + bsum (idlL b d zs n) ≤ 1048576 := by
  unfold idlL
  split
  · rename_i h
    unfold idlOk at h
    rw [Bool.and_eq_true] at h
    have l2 := (ringB_true h.1).l2
    obtain ⟨n1, n2⟩ := inB_true h.2
    have hb := bsum_le (c := 3) (ps := idealL b d zs n.toNat) (fun p hp => by
      unfold idealL at hp
      simp only [List.mem_map] at hp
      obtain ⟨x, _, rfl⟩ := hp
      show (bckL zs (pntI b d zs x) n.toNat).length ≤ 3
      rw [bckL_len]
      omega)
    rw [idealL_len] at hb ⊢
    omega
  · simp [bsum]
theorem lIdealPeers_own (b d : Int) (a : Option Addr) (cap : Nat) (zs : List Int) (n : Int) (w : World) (hm : zs.length ≤ 1048576) (hr : RowAt w a zs) :
    Calls Try.prog 118 #[.agg #[.int .i64 b, .int .i64 d], .slice a zs.length cap, .int .i64 n] w fun e w' => ∃ b' d' a' n' c, e = .returned (.tuple #[.agg #[.int .i64 b', .int .i64 d', .slice a' n' c], .bool (idlOk b d zs n)]) ∧ (idlL b d zs n).length = n' ∧ (b', d') = spcOf (idlOk b d zs n) b d ∧ PeersAt w' a' (idlL b d zs n) ∧ Below w.heap.size w w' := by
  refine (lIdealPeers_any b d n a cap zs w (by unfold maxLen; omega) hr).mono ?_
  rintro e w1 ⟨v, rfl, hw, ⟨hg, rfl⟩ | ⟨hg, a0, cp, rfl, os⟩⟩
  · rw [hg]
    have e0 : idlL b d zs n = [] := by unfold idlL; rw [hg]; rfl
    rw [e0]
    exact ⟨_, _, _, _, _, rfl, rfl, rfl, .inl rfl, hw⟩
  · rw [hg]
    have e0 : idlL b d zs n = idealL b d zs n.toNat := by unfold idlL; rw [hg]; rfl
    rw [e0]
    exact ⟨_, _, _, _, _, rfl, idealL_len _ _ _ _, rfl, os, hw⟩
end Go.Proofs.Ytejajlloipkkhaa
namespace Go.Proofs.Ytejajlloipkkhaa
open Go.RowKit
set_option linter.unusedVariables false

/-- nothing that was there has turned but block g -/
structure Mv (g : Nat) (w w' : World) : Prop where
  os : w'.os = w.os
  tape : w'.tape = w.tape
  output : w'.output = w.output
  size : w.heap.size ≤ w'.heap.size
  block : ∀ k, k < w.heap.size → ¬ k = g → w'.heap[k]? = w.heap[k]?
theorem Mv.refl (g : Nat) (w : World) : Mv g w w := ⟨rfl, rfl, rfl, Nat.le_refl _, fun _ _ _ => rfl⟩
theorem Mv.of_below {g : Nat} {w w' : World} (h : Below w.heap.size w w') : Mv g w w' := ⟨h.os, h.tape, h.output, h.size, fun k hk _ => h.block k hk⟩
theorem Mv.trans {g : Nat} {a b c : World} (h : Mv g a b) (k : Mv g b c) : Mv g a c :=
  ⟨k.os.trans h.os, k.tape.trans h.tape, k.output.trans h.output, Nat.le_trans h.size k.size, fun i hi hg => (k.block i (Nat.lt_of_lt_of_le hi h.size) hg).trans (h.block i hi hg)⟩
theorem Mv.below {g : Nat} {w0 w w' : World} (h : Mv g w w') (hb : Below w0.heap.size w0 w) (hg : w0.heap.size ≤ g) : Below w0.heap.size w0 w' :=
  hb.trans ⟨h.os, h.tape, h.output, h.size, fun k hk => h.block k (Nat.lt_of_lt_of_le hk hb.size) (by omega)⟩
theorem Mv.drewN {g : Nat} {w w' : World} (h : Mv g w w') (n : Nat) : Mv g w (w'.drewN n) := ⟨h.os, h.tape, h.output, h.size, h.block⟩
theorem Mv.setCell {g : Nat} {w w' : World} (h : Mv g w w') (i : Nat) (v : Value) : Mv g w (w'.setCell ⟨g, i, none⟩ v) :=
  ⟨h.os, h.tape, h.output, by simpa [World.setCell] using h.size, fun k hk hg => (heap_setCell_other _ _ _ _ hg).trans (h.block k hk hg)⟩
theorem Mv.cell {g : Nat} {w w' : World} (h : Mv g w w') {b o : Nat} (hb : b < w.heap.size) (hg : ¬ b = g) : w'.cell? ⟨b, o, none⟩ = w.cell? ⟨b, o, none⟩ := World.cell?_of_block (w := w) (h.block b hb hg)

/-- a row of bytes that is read -/
def RowU (w : World) (g : Nat) (a : Option Addr) (zs : List Int) : Prop :=
  zs = [] ∨ ∃ b off, a = some ⟨b, off, none⟩ ∧ b < w.heap.size ∧ ¬ b = g ∧ ∀ i, i < zs.length → w.cell? ⟨b, off + i, none⟩ = some (.int .u8 (zs.getD i 0)) ∧ 0 ≤ zs.getD i 0 ∧ zs.getD i 0 ≤ 255
theorem RowU.keep {w w1 : World} {g : Nat} {a : Option Addr} {zs : List Int} (h : RowU w g a zs) (hm : Mv g w w1) : RowU w1 g a zs := by
  rcases h with h | ⟨b, off, ha, hl, hg, hc⟩
  · exact .inl h
  · exact .inr ⟨b, off, ha, Nat.lt_of_lt_of_le hl hm.size, hg, fun i hi => ⟨(hm.cell hl hg).trans (hc i hi).1, (hc i hi).2⟩⟩

structure CurAt (w : World) (g n : Nat) (a : Option Addr) (cap : Nat) (zs : List Int) : Prop where
  st : ∃ (k : Nat) (sd : Int), w.heap[g]? = some (.cells #[.slice a zs.length cap, .int .i64 k, .int .u64 sd] 85 (0, 0)) ∧ k ≤ n ∧ (Lit.int .u64 sd).wf = true
  row : RowU w g a zs
  len : zs.length ≤ 1048576

theorem and255 {x : Int} (h : (Lit.int .u64 x).wf = true) : 0 ≤ bits .and .u64 x 255 ∧ bits .and .u64 x 255 ≤ 255 := by
  obtain ⟨h1, h2⟩ := bounds_u64 h
  obtain ⟨n, rfl⟩ := Int.eq_ofNat_of_zero_le h1
  have e := bits_and_u64_nat n 255 (by omega) (by omega)
  rw [show ((255 : Nat) : Int) = 255 from rfl] at e
  rw [e]
  have := @Nat.and_le_right n 255
  omega

theorem next_end {w : World} {g n : Nat} {a : Option Addr} {cap : Nat} {zs : List Int} {k : Nat} {sd : Int} (hB : w.heap[g]? = some (.cells #[.slice a zs.length cap, .int .i64 k, .int .u64 sd] 85 (0, 0))) (hk : k ≤ n) (hR : RowU w g a zs) (hl : zs.length ≤ 1048576) (m1 m2 : Nat) (e : Int) :
    Mv g w ((((w.drewN m1).setCell ⟨g, 1, none⟩ (.int .i64 ((k : Int) + 1))).setCell ⟨g, 2, none⟩ (.int .u64 (IntKind.u64.wrap e))).drewN m2) ∧
    CurAt ((((w.drewN m1).setCell ⟨g, 1, none⟩ (.int .i64 ((k : Int) + 1))).setCell ⟨g, 2, none⟩ (.int .u64 (IntKind.u64.wrap e))).drewN m2) g (n + 1) a cap zs := by
  have hm : Mv g w ((((w.drewN m1).setCell ⟨g, 1, none⟩ (.int .i64 ((k : Int) + 1))).setCell ⟨g, 2, none⟩ (.int .u64 (IntKind.u64.wrap e))).drewN m2) := ((((Mv.refl g w).drewN m1).setCell _ _).setCell _ _).drewN m2
  refine ⟨hm, ⟨k + 1, IntKind.u64.wrap e, ?_, by omega, wf_wrap _ _⟩, hR.keep hm, hl⟩
  have h0 : (w.drewN m1).heap[g]? = some (.cells #[.slice a zs.length cap, .int .i64 k, .int .u64 sd] 85 (0, 0)) := hB
  have h1 := heap_setCell_same _ _ 1 _ _ (.int .i64 ((k : Int) + 1)) h0
  have h2 := heap_setCell_same _ _ 2 _ _ (.int .u64 (IntKind.u64.wrap e)) h1
  exact h2
theorem next_bits {y : Int} (x : Int) (hy : y = IntKind.u64.wrap x / 1099511627776) : 0 ≤ wrap64 (bits .and .u64 y 255) ∧ wrap64 (bits .and .u64 y 255) ≤ 255 := by
  have hw := bounds_u64 (wf_wrap .u64 x)
  have h1 : (Lit.int .u64 y).wf = true := by
    subst hy
    simp [Lit.wf, IntKind.min, IntKind.max, IntKind.signed, IntKind.bits]
    omega
  have h2 := and255 h1
  rw [IntWalk.wrap64_in _ (by omega)]
  exact h2

set_option maxHeartbeats 1600000 in
theorem next_any (w : World) (g n : Nat) (a : Option Addr) (cap : Nat) (zs : List Int) (hc : CurAt w g n a cap zs) (hn : n ≤ 1099511627776) :
    Calls Try.prog 110 #[.pointer (some ⟨g, 0, none⟩)] w fun e w' => ∃ v : Int, e = .returned (.int .i64 v) ∧ 0 ≤ v ∧ v ≤ 255 ∧ Mv g w w' ∧ CurAt w' g (n + 1) a cap zs := by
  obtain ⟨⟨k, sd, hblk, hk, hsd⟩, hrow, hlen⟩ := hc
  have c0 : w.cell? ⟨g, 0, none⟩ = some (.slice a zs.length cap) := (cell_of_row w _ _ _ _ _ hblk).trans rfl
  have c1 : w.cell? ⟨g, 1, none⟩ = some (.int .i64 k) := (cell_of_row w _ _ _ _ _ hblk).trans rfl
  have c2 : w.cell? ⟨g, 2, none⟩ = some (.int .u64 sd) := (cell_of_row w _ _ _ _ _ hblk).trans rfl
  have f1 : w.frozen? ⟨g, 1, none⟩ = false := frozen_of_row w _ _ _ _ hblk
  have f2 : w.frozen? ⟨g, 2, none⟩ = false := frozen_of_row w _ _ _ _ hblk
  have HB : Hid _ := hblk
  have HR : Hid _ := hrow
  have HS : Hid _ := hsd
  clear hblk hrow hsd
  by_cases hlt : k < zs.length
  · obtain ⟨bk, off, rfl⟩ : ∃ bk off, a = some ⟨bk, off, none⟩ := by
      rcases HR.out with h | ⟨b, o, h, _⟩
      · rw [h] at hlt; simp at hlt
      · exact ⟨b, o, h⟩
    have hby : w.cell? ⟨bk, off + k, none⟩ = some (.int .u8 (zs.getD k 0)) ∧ 0 ≤ zs.getD k 0 ∧ zs.getD k 0 ≤ 255 := by
      rcases HR.out with h | ⟨b, o, h, _, _, hc⟩
      · rw [h] at hlt; simp at hlt
      · simp at h; obtain ⟨rfl, rfl⟩ := h; exact hc k hlt
    obtain ⟨hby, z1, z2⟩ := hby
    generalize zs.getD k 0 = z at hby z1 z2
    go_enter Try.func110, Try.ntmps110
    go_wp2_with fail
    go_quiet (fail)
    go_wp2_with fail
    go_quiet (fail)
    go_wp2_with fail
    go_quiet (fail)
    go_wp2
    go_ret
    exact ⟨z, rfl, z1, z2, next_end HB.out hk HR.out hlen _ _ _⟩
  · go_enter Try.func110, Try.ntmps110
    go_wp2_with fail
    go_quiet (fail)
    go_wp2_with fail
    go_quiet (fail)
    go_wp2
    go_ret
    exact ⟨_, rfl, (next_bits _ rfl).1, (next_bits _ rfl).2, next_end HB.out hk HR.out hlen _ _ _⟩

theorem keepM {g : Nat} {W w1 : World} {bk o : Nat} {u : Value} (hm : Mv g W w1) (hl : bk < W.heap.size) (hg : ¬ bk = g) (h : W.cell? ⟨bk, o, none⟩ = some u) : w1.cell? ⟨bk, o, none⟩ = some u := (hm.cell hl hg).trans h
theorem CurAt.lt {w : World} {g n : Nat} {a : Option Addr} {cap : Nat} {zs : List Int} (h : CurAt w g n a cap zs) : g < w.heap.size := by
  obtain ⟨k, sd, hb, _⟩ := h.st
  exact (Array.getElem?_eq_some_iff.1 hb).1
theorem CurAt.keep {w w1 : World} {g n : Nat} {a : Option Addr} {cap : Nat} {zs : List Int} (h : CurAt w g n a cap zs) (hb : Below w.heap.size w w1) : CurAt w1 g n a cap zs := by
  have hlt := h.lt
  obtain ⟨⟨k, sd, hbk, h2⟩, hr, hl⟩ := h
  exact ⟨⟨k, sd, (hb.block g hlt).trans hbk, h2⟩, hr.keep (Mv.of_below hb), hl⟩
theorem CurAt.more {w : World} {g n m : Nat} {a : Option Addr} {cap : Nat} {zs : List Int} (h : CurAt w g n a cap zs) (hm : n ≤ m) : CurAt w g m a cap zs := by
  obtain ⟨⟨k, sd, hbk, h2, h3⟩, hr, hl⟩ := h
  exact ⟨⟨k, sd, hbk, by omega, h3⟩, hr, hl⟩

set_option maxHeartbeats 800000 in
theorem pick_any (m : Int) (w : World) (g n : Nat) (a : Option Addr) (cap : Nat) (zs : List Int) (hc : CurAt w g n a cap zs) (hn : n ≤ 1000000000) (h1 : 1 ≤ m) (h2 : m ≤ 65536) :
    Calls Try.prog 75 #[.pointer (some ⟨g, 0, none⟩), .int .i64 m] w fun e w' => ∃ v : Int, e = .returned (.int .i64 v) ∧ 0 ≤ v ∧ v < m ∧ Mv g w w' ∧ CurAt w' g (n + 2) a cap zs := by
  by_cases hm : m ≤ 1
  · go_enter Try.func75, Try.ntmps75
    go_wp2
    go_ret
    exact ⟨0, rfl, by omega, by omega, Mv.refl _ _, hc.more (by omega)⟩
  · by_cases hb : 200 < m
    · go_enter Try.func75, Try.ntmps75
      go_wp2_with fail
      refine (next_any _ _ _ _ _ _ hc (by omega)).mono ?_
      rintro e w1 ⟨v1, rfl, p1, p2, mv1, hc1⟩
      go_wp2_with fail
      refine (next_any _ _ _ _ _ _ hc1 (by omega)).mono ?_
      rintro e w2 ⟨v2, rfl, p3, p4, mv2, hc2⟩
      go_wp2
      go_ret
      exact ⟨_, rfl, Int.emod_nonneg _ (by omega), Int.emod_lt_of_pos _ (by omega), mv1.trans mv2, hc2⟩
    · go_enter Try.func75, Try.ntmps75
      go_wp2_with fail
      refine (next_any _ _ _ _ _ _ hc (by omega)).mono ?_
      rintro e w1 ⟨v1, rfl, p1, p2, mv1, hc1⟩
      go_wp2
      go_ret
      exact ⟨_, rfl, Int.emod_nonneg _ (by omega), Int.emod_lt_of_pos _ (by omega), mv1, hc1.more (by omega)⟩

theorem one_any (m : Int) (w : World) (g n : Nat) (a : Option Addr) (cap : Nat) (zs : List Int) (hc : CurAt w g n a cap zs) (hn : n ≤ 1000000000) (h1 : 1 ≤ m) (h2 : m ≤ 65536) :
    Calls Try.prog 74 #[.pointer (some ⟨g, 0, none⟩), .int .i64 m] w fun e w' => ∃ v : Bool, e = .returned (.bool v) ∧ Mv g w w' ∧ CurAt w' g (n + 2) a cap zs := by
  go_enter Try.func74, Try.ntmps74
  go_wp2_with fail
  refine (pick_any _ _ _ _ _ _ _ hc hn h1 h2).mono ?_
  rintro e w1 ⟨v1, rfl, p1, p2, mv1, hc1⟩
  go_wp2
  go_ret
  exact ⟨_, rfl, mv1, hc1⟩

/-- one of some numbers that lie in a block of their own -/
theorem among_any (ys : List Int) (q cp : Nat) (w : World) (g n : Nat) (a : Option Addr) (cap : Nat) (zs : List Int) (hc : CurAt w g n a cap zs) (hn : n ≤ 1000000000) (h1 : 1 ≤ ys.length) (h2 : ys.length ≤ 65536)
    (hq : q < w.heap.size) (hg : ¬ q = g) (hy : ∀ i, i < ys.length → w.cell? ⟨q, 0 + i, none⟩ = some (.int .i64 (ys.getD i 0))) :
    Calls Try.prog 50 #[.pointer (some ⟨g, 0, none⟩), .slice (some ⟨q, 0, none⟩) ys.length cp] w fun e w' => ∃ v : Int, e = .returned (.int .i64 v) ∧ v ∈ ys ∧ Mv g w w' ∧ CurAt w' g (n + 2) a cap zs := by
  have HY : Hid _ := hy
  clear hy
  go_enter Try.func50, Try.ntmps50
  go_wp2_with fail
  refine (pick_any _ _ _ _ _ _ _ hc hn (by omega) (by omega)).mono ?_
  rintro e w1 ⟨v1, rfl, p1, p2, mv1, hc1⟩
  obtain ⟨i, rfl⟩ := Int.eq_ofNat_of_zero_le p1
  have hi : i < ys.length := by omega
  have hcell : w1.cell? ⟨q, 0 + i, none⟩ = some (.int .i64 (ys.getD i 0)) := keepM mv1 hq hg (HY.out i hi)
  rw [Nat.zero_add] at hcell
  have hmem : Hid (ys.getD i 0 ∈ ys) := by
    show ys.getD i 0 ∈ ys
    rw [List.getD_eq_getElem?_getD, List.getElem?_eq_getElem hi]
    exact List.getElem_mem hi
  generalize ys.getD i 0 = y at hcell hmem
  go_wp2
  go_ret
  exact ⟨y, rfl, hmem.out, mv1, hc1⟩
end Go.Proofs.Ytejajlloipkkhaa
namespace Go.Proofs.Ytejajlloipkkhaa
open Go.RowKit
set_option linter.unusedVariables false

theorem least_any (x y : Int) (w : World) :
    Calls Try.prog 108 #[.int .i64 x, .int .i64 y] w fun e w' => e = .returned (.int .i64 (min x y)) ∧ w' = w := by
  by_cases h : x < y
  · rw [show min x y = x from by omega]
    go_enter Try.func108, Try.ntmps108
    go_wp2
    go_ret
    exact ⟨rfl, rfl⟩
  · rw [show min x y = y from by omega]
    go_enter Try.func108, Try.ntmps108
    go_wp2
    go_ret
    exact ⟨rfl, rfl⟩
theorem most_any (x y : Int) (w : World) :
    Calls Try.prog 109 #[.int .i64 x, .int .i64 y] w fun e w' => e = .returned (.int .i64 (max x y)) ∧ w' = w := by
  by_cases h : y < x
  · rw [show max x y = x from by omega]
    go_enter Try.func109, Try.ntmps109
    go_wp2
    go_ret
    exact ⟨rfl, rfl⟩
  · rw [show max x y = y from by omega]
    go_enter Try.func109, Try.ntmps109
    go_wp2
    go_ret
    exact ⟨rfl, rfl⟩
theorem sz_bd0 {b : Int} (h1 : 0 ≤ b) (h2 : b ≤ 12) : 1 ≤ sz b ∧ sz b ≤ 4096 := by
  by_cases h : b = 0
  · subst h; decide +kernel
  · have := sz_bd (by omega : 1 ≤ b) h2; omega
theorem wrap_sz0 {b : Int} (h1 : 0 ≤ b) (h2 : b ≤ 12) : wrap64 (2 ^ b.toNat) = sz b := by
  have h := sz_bd0 h1 h2
  exact IntWalk.wrap64_in (sz b) (by omega)

set_option maxHeartbeats 1600000 in
theorem num_any (b d : Int) (w : World) (g n : Nat) (a : Option Addr) (cap : Nat) (zs : List Int) (hc : CurAt w g n a cap zs) (hn : n ≤ 100000000) :
    Calls Try.prog 73 #[.pointer (some ⟨g, 0, none⟩), .agg #[.int .i64 b, .int .i64 d]] w fun e w' => ∃ v : Int, e = .returned (.int .i64 v) ∧ -1 ≤ v ∧ v ≤ 4096 ∧ Mv g w w' ∧ CurAt w' g (n + 4) a cap zs := by
  have hlt := hc.lt
  go_enter Try.func73, Try.ntmps73
  go_wp2_with fail
  refine (most_any _ _ _).mono ?_
  rintro e w0 ⟨rfl, rfl⟩
  go_wp2_with fail
  refine (least_any _ _ _).mono ?_
  rintro e w0 ⟨rfl, rfl⟩
  have hl1 : 0 ≤ min (max b 0) 12 := by omega
  have hl2 : min (max b 0) 12 ≤ 12 := by omega
  obtain ⟨s1, s2⟩ := sz_bd0 hl1 hl2
  have hw := wrap_sz0 hl1 hl2
  generalize min (max b 0) 12 = lm at hl1 hl2 s1 s2 hw
  go_wp2_with fail
  have mv0 : Mv g w (w.alloc (.cells #[.int .i64 b, .int .i64 d] 25)) := Mv.of_below ((Below.refl _ _).alloc (Nat.le_refl _) _)
  have hc0 := hc.keep ((Below.refl _ _).alloc (Nat.le_refl _) (.cells #[.int .i64 b, .int .i64 d] 25))
  rw [hw]
  clear hw
  generalize sz lm = m at s1 s2
  refine (one_any _ _ _ _ _ _ _ hc0 (by omega) (by omega) (by omega)).mono ?_
  rintro e w1 ⟨v1, rfl, mv1, hc1⟩
  cases v1
  · go_wp2_with fail
    refine (next_any _ _ _ _ _ _ hc1 (by omega)).mono ?_
    rintro e w2 ⟨v2, rfl, p1, p2, mv2, hc2⟩
    go_wp2_with fail
    refine (next_any _ _ _ _ _ _ hc2 (by omega)).mono ?_
    rintro e w3 ⟨v3, rfl, p3, p4, mv3, hc3⟩
    go_wp2
    go_ret
    have q1 : 0 ≤ (v2 * 256 + v3) % m := Int.emod_nonneg _ (by omega)
    have q2 : (v2 * 256 + v3) % m < m := Int.emod_lt_of_pos _ (by omega)
    exact ⟨_, rfl, by omega, by omega, ((mv0.trans mv1).trans mv2).trans mv3, hc3⟩
  · go_wp2_with fail
    have hs1 := mv1.size
    refine (among_any [-1, m] w1.heap.size 2 _ _ _ _ _ _ (hc1.keep ((Below.refl _ _).alloc (Nat.le_refl _) _)) (by omega) (by simp) (by simp) (by simp) (by have := hc1.lt; omega) ?hy).mono ?_
    case hy =>
      intro i hi
      match i, hi with
      | 0, _ => simp
      | 1, _ => simp
    rintro e w2 ⟨v2, rfl, hmem, mv2, hc2⟩
    simp at hmem
    go_wp2
    go_ret
    exact ⟨v2, rfl, by omega, by omega, ((mv0.trans mv1).trans (Mv.of_below ((Below.refl _ _).alloc (Nat.le_refl _) _))).trans mv2, hc2⟩
end Go.Proofs.Ytejajlloipkkhaa
namespace Go.Proofs.Ytejajlloipkkhaa
open Go.RowKit
set_option linter.unusedVariables false

theorem Mv.put {g : Nat} {w w' : World} (h : Mv g w w') {q : Nat} (hq : w.heap.size ≤ q) (i : Nat) (v : Value) : Mv g w (w'.setCell ⟨q, i, none⟩ v) :=
  ⟨h.os, h.tape, h.output, by simpa [World.setCell] using h.size, fun k hk hg => (heap_setCell_other _ _ _ _ (by simp; omega)).trans (h.block k hk hg)⟩
theorem Mv.alloc {g : Nat} {w w' : World} (h : Mv g w w') (o : Obj) : Mv g w (w'.alloc o) := h.trans (Mv.of_below ((Below.refl _ _).alloc (Nat.le_refl _) _))
theorem CurAt.put {w w' : World} {g n : Nat} {a : Option Addr} {cap : Nat} {zs : List Int} (h : CurAt w' g n a cap zs) (h0 : RowU w g a zs) (mv : Mv g w w') {q : Nat} (hq : w.heap.size ≤ q) (hg : ¬ g = q) (i : Nat) (v : Value) : CurAt (w'.setCell ⟨q, i, none⟩ v) g n a cap zs := by
  obtain ⟨⟨k, sd, hb, h2⟩, hr, hl⟩ := h
  exact ⟨⟨k, sd, (heap_setCell_other _ _ _ _ hg).trans hb, h2⟩, h0.keep (mv.put hq i v), hl⟩
theorem CurAt.new {w : World} {g n : Nat} {a : Option Addr} {cap : Nat} {zs : List Int} (h : CurAt w g n a cap zs) (o : Obj) : CurAt (w.alloc o) g n a cap zs := h.keep ((Below.refl _ _).alloc (Nat.le_refl _) _)

/-- what the drawing of a space keeps: its result's block, the variable's, the cursor -/
structure SpSt (w wr : World) (g n q : Nat) (a : Option Addr) (cap : Nat) (zs : List Int) (b d : Int) : Prop where
  mv : Mv g w wr
  cur : CurAt wr g n a cap zs
  q0 : wr.cell? ⟨q, 0, none⟩ = some (.int .i64 b)
  q1 : wr.cell? ⟨q, 1, none⟩ = some (.int .i64 d)
  f0 : wr.frozen? ⟨q, 0, none⟩ = false
  f1 : wr.frozen? ⟨q, 1, none⟩ = false
  r : wr.heap[w.heap.size]? = some (.cells #[.int .i64 0, .int .i64 0] 25 (0, 0))
  lo : w.heap.size < q
  hi : q < wr.heap.size
  row : RowU w g a zs
  gl : g < w.heap.size
theorem SpSt.res {w wr : World} {g n q : Nat} {a : Option Addr} {cap : Nat} {zs : List Int} {b d : Int} (h : SpSt w wr g n q a cap zs b d) :
    wr.cell? ⟨w.heap.size, 0, none⟩ = some (.int .i64 0) ∧ wr.cell? ⟨w.heap.size, 1, none⟩ = some (.int .i64 0) ∧ wr.frozen? ⟨w.heap.size, 0, none⟩ = false ∧ wr.frozen? ⟨w.heap.size, 1, none⟩ = false :=
  ⟨(cell_of_row wr _ _ _ _ _ h.r).trans rfl, (cell_of_row wr _ _ _ _ _ h.r).trans rfl, frozen_of_row wr _ _ _ _ h.r, frozen_of_row wr _ _ _ _ h.r⟩
theorem SpSt.new {w wr : World} {g n q : Nat} {a : Option Addr} {cap : Nat} {zs : List Int} {b d : Int} (h : SpSt w wr g n q a cap zs b d) (o : Obj) : SpSt w (wr.alloc o) g n q a cap zs b d := by
  have hb : Below wr.heap.size wr (wr.alloc o) := (Below.refl _ _).alloc (Nat.le_refl _) _
  exact ⟨h.mv.alloc o, h.cur.new o, (hb.cell (p := ⟨q, 0, none⟩) h.hi).trans h.q0, (hb.cell (p := ⟨q, 1, none⟩) h.hi).trans h.q1, (hb.frozen (p := ⟨q, 0, none⟩) h.hi).trans h.f0, (hb.frozen (p := ⟨q, 1, none⟩) h.hi).trans h.f1, (hb.block _ (by have := h.lo; have := h.hi; omega)).trans h.r, h.lo, Nat.lt_of_lt_of_le h.hi hb.size, h.row, h.gl⟩
theorem Mv.frozen {g : Nat} {w w' : World} (h : Mv g w w') {b o : Nat} (hb : b < w.heap.size) (hg : ¬ b = g) : w'.frozen? ⟨b, o, none⟩ = w.frozen? ⟨b, o, none⟩ := World.frozen?_of_block (w := w) (h.block b hb hg)
theorem SpSt.step {w wr w1 : World} {g n m q : Nat} {a : Option Addr} {cap : Nat} {zs : List Int} {b d : Int} (h : SpSt w wr g n q a cap zs b d) (mv : Mv g wr w1) (hc : CurAt w1 g m a cap zs) : SpSt w w1 g m q a cap zs b d := by
  have hq : ¬ q = g := by have := h.gl; have := h.lo; omega
  have hw : ¬ w.heap.size = g := by have := h.gl; omega
  exact ⟨h.mv.trans mv, hc, keepM mv h.hi hq h.q0, keepM mv h.hi hq h.q1, (mv.frozen h.hi hq).trans h.f0, (mv.frozen h.hi hq).trans h.f1, (mv.block _ (by have := h.lo; have := h.hi; omega) hw).trans h.r, h.lo, Nat.lt_of_lt_of_le h.hi mv.size, h.row, h.gl⟩
theorem cell_put {w : World} {q i j : Nat} {u v : Value} (h : w.cell? ⟨q, i, none⟩ = some u) : (w.setCell ⟨q, j, none⟩ v).cell? ⟨q, i, none⟩ = some (if i = j then v else u) := by
  by_cases e : i = j
  · subst e; rw [if_pos rfl]; exact World.cell?_setCell_same _ _ _ h
  · rw [if_neg e]
    rw [World.cell?_setCell_other]; exact h
    simp; try exact e
theorem SpSt.put {w wr : World} {g n q : Nat} {a : Option Addr} {cap : Nat} {zs : List Int} {b d : Int} (h : SpSt w wr g n q a cap zs b d) (b' d' : Int) : SpSt w ((wr.setCell ⟨q, 0, none⟩ (.int .i64 b')).setCell ⟨q, 1, none⟩ (.int .i64 d')) g n q a cap zs b' d' := by
  have hq : w.heap.size ≤ q := by have := h.lo; omega
  have hgq : ¬ g = q := by have := h.gl; omega
  have mv1 := h.mv.put hq 0 (.int .i64 b')
  refine ⟨mv1.put hq 1 _, (h.cur.put h.row h.mv hq hgq 0 _).put h.row mv1 hq hgq 1 _, ?_, ?_, ?_, ?_, ?_, h.lo, by simpa [World.setCell] using h.hi, h.row, h.gl⟩
  · have := cell_put (j := 1) (v := .int .i64 d') (cell_put (j := 0) (v := .int .i64 b') h.q0); simpa using this
  · have := cell_put (j := 1) (v := .int .i64 d') (cell_put (j := 0) (v := .int .i64 b') h.q1); simpa using this
  · rw [World.frozen?_setCell, World.frozen?_setCell]; exact h.f0
  · rw [World.frozen?_setCell, World.frozen?_setCell]; exact h.f1
  · rw [heap_setCell_other _ _ _ _ (by have := h.lo; simp; omega), heap_setCell_other _ _ _ _ (by have := h.lo; simp; omega)]; exact h.r
theorem spSt_init {w w1 : World} {g n : Nat} {a : Option Addr} {cap : Nat} {zs : List Int} {d1 : Int} {o : Obj} (mv1 : Mv g ((w.alloc (.cells #[.int .i64 0, .int .i64 0] 25)).alloc o) w1) (hc1 : CurAt w1 g n a cap zs) (hlt : g < w.heap.size) (hr : RowU w g a zs) :
    SpSt w (w1.alloc (.cells #[.int .i64 6, .int .i64 d1] 25)) g n w1.heap.size a cap zs 6 d1 := by
  have hs := mv1.size
  simp at hs
  refine ⟨(((Mv.refl g w).alloc _).alloc _ |>.trans mv1).alloc _, hc1.new _, by simp, by simp, frozen_of_row _ _ _ _ _ (heap_alloc_new _ _), frozen_of_row _ _ _ _ _ (heap_alloc_new _ _), ?_, by omega, by simp, hr, hlt⟩
  rw [heap_alloc_old _ _ (by omega), mv1.block _ (by simp; omega) (by omega)]
  exact heap_alloc2_old _ _ _
theorem SpSt.res_end {w wr : World} {g n q : Nat} {a : Option Addr} {cap : Nat} {zs : List Int} {b d : Int} (h : SpSt w wr g n q a cap zs b d) (u v : Value) : ((wr.setCell ⟨w.heap.size, 0, none⟩ u).setCell ⟨w.heap.size, 1, none⟩ v).heap[w.heap.size]? = some (.cells #[u, v] 25 (0, 0)) :=
  heap_setCell_same _ _ 1 _ _ v (heap_setCell_same _ _ 0 _ _ u h.r)
theorem SpSt.mv_end {w wr : World} {g n q : Nat} {a : Option Addr} {cap : Nat} {zs : List Int} {b d : Int} (h : SpSt w wr g n q a cap zs b d) (u v : Value) : Mv g w ((wr.setCell ⟨w.heap.size, 0, none⟩ u).setCell ⟨w.heap.size, 1, none⟩ v) :=
  (h.mv.put (Nat.le_refl _) 0 u).put (Nat.le_refl _) 1 v
theorem SpSt.cur_end {w wr : World} {g n q : Nat} {a : Option Addr} {cap : Nat} {zs : List Int} {b d : Int} (h : SpSt w wr g n q a cap zs b d) (u v : Value) : CurAt ((wr.setCell ⟨w.heap.size, 0, none⟩ u).setCell ⟨w.heap.size, 1, none⟩ v) g n a cap zs := by
  have hg : ¬ g = w.heap.size := by have := h.gl; omega
  exact (h.cur.put h.row h.mv (Nat.le_refl _) hg 0 u).put h.row (h.mv.put (Nat.le_refl _) 0 u) (Nat.le_refl _) hg 1 v

set_option maxHeartbeats 1600000 in
theorem space_any (w : World) (g n : Nat) (a : Option Addr) (cap : Nat) (zs : List Int) (hc : CurAt w g n a cap zs) (hn : n ≤ 100000000) :
    Calls Try.prog 72 #[.pointer (some ⟨g, 0, none⟩)] w fun e w' => ∃ b d : Int, e = .returned (.agg #[.int .i64 b, .int .i64 d]) ∧ 0 ≤ b ∧ b ≤ 13 ∧ 0 ≤ d ∧ d ≤ 12 ∧ Mv g w w' ∧ CurAt w' g (n + 12) a cap zs := by
  have hlt := hc.lt
  have HR0 : Hid _ := hc.row
  go_enter Try.func72, Try.ntmps72
  go_wp2_with fail
  refine (among_any [1, 2, 3] (w.heap.size + 1) 3 _ _ _ _ _ _ ((hc.new _).new _) (by omega) (by simp) (by simp) (by simp) (by omega) ?hy).mono ?_
  case hy =>
    intro i hi
    match i, hi with
    | 0, _ => simp
    | 1, _ => simp
    | 2, _ => simp
  rintro e w1 ⟨d1, rfl, hmem, mv1, hc1⟩
  simp at hmem
  have hd1 : 0 ≤ d1 ∧ d1 ≤ 12 := by omega
  clear hmem
  go_wp2_with fail
  have st1 : SpSt w (w1.alloc (.cells #[.int .i64 6, .int .i64 d1] 25)) g (n + 2) w1.heap.size a cap zs 6 d1 := spSt_init mv1 hc1 hlt HR0.out
  have hlo := st1.lo
  have k0 := st1.q0
  have k1 := st1.q1
  have k2 := st1.f0
  have k3 := st1.f1
  obtain ⟨r0, r1, r2, r3⟩ := st1.res
  refine (pick_any _ _ _ _ _ _ _ st1.cur (by omega) (by omega) (by omega)).mono ?_
  rintro e w2 ⟨v2, rfl, p1, p2, mv2, hc2⟩
  have st2 := st1.step mv2 hc2
  clear k0 k1 k2 k3 r0 r1 r2 r3
  have k0 := st2.q0
  have k1 := st2.q1
  have k2 := st2.f0
  have k3 := st2.f1
  obtain ⟨r0, r1, r2, r3⟩ := st2.res
  by_cases e0 : v2 = 0
  · subst e0
    go_wp2_with fail
    refine (among_any [1, 2, 4] _ 3 _ _ _ _ _ _ (st2.new _).cur (by omega) (by simp) (by simp) (by simp) (by have := st2.gl; have := st2.lo; have := st2.hi; omega) ?hy3).mono ?_
    case hy3 =>
      intro i hi
      match i, hi with
      | 0, _ => simp
      | 1, _ => simp
      | 2, _ => simp
    rintro e w3 ⟨d3, rfl, hmem3, mv3, hc3⟩
    simp at hmem3
    have st3 := (st2.new _).step mv3 hc3
    clear k0 k1 k2 k3 r0 r1 r2 r3
    have k0 := st3.q0
    have k1 := st3.q1
    have k2 := st3.f0
    have k3 := st3.f1
    obtain ⟨r0, r1, r2, r3⟩ := st3.res
    have hb3 : 0 ≤ d3 ∧ d3 ≤ 12 := by omega
    have st4 := st3.put 4 d3
    go_wp2_with fail
    refine (one_any _ _ _ _ _ _ _ st4.cur (by omega) (by omega) (by omega)).mono ?_
    rintro e w5 ⟨v5, rfl, mv5, hc5⟩
    have st5 := st4.step mv5 hc5
    clear k0 k1 k2 k3 r0 r1 r2 r3
    have k0 := st5.q0
    have k1 := st5.q1
    have k2 := st5.f0
    have k3 := st5.f1
    obtain ⟨r0, r1, r2, r3⟩ := st5.res
    cases v5
    ·
      go_wp2
      refine bodyPost_ret (v := .agg #[.int .i64 4, .int .i64 d3]) (results_cell_row Try.results72 _ _ w.heap.size _ _ _ _ rfl (st5.res_end _ _) Try.underlying25 rfl (by kernel_rfl)) rfl ⟨_, _, rfl, by omega, by omega, by omega, by omega, ?_, ?_⟩
      · exact st5.mv_end _ _
      · exact (st5.cur_end _ _).more (by omega)
    ·
      go_wp2_with fail
      refine (among_any [0, 5, 12, 13] _ 4 _ _ _ _ _ _ (st5.new _).cur (by omega) (by simp) (by simp) (by simp) (by have := st5.gl; have := st5.lo; have := st5.hi; omega) ?hy6).mono ?_
      case hy6 =>
        intro i hi
        match i, hi with
        | 0, _ => simp
        | 1, _ => simp
        | 2, _ => simp
        | 3, _ => simp
      rintro e w6 ⟨d6, rfl, hmem6, mv6, hc6⟩
      simp at hmem6
      have st6 := (st5.new _).step mv6 hc6
      clear k0 k1 k2 k3 r0 r1 r2 r3
      have k0 := st6.q0
      have k1 := st6.q1
      have k2 := st6.f0
      have k3 := st6.f1
      obtain ⟨r0, r1, r2, r3⟩ := st6.res
      go_wp2_with fail
      refine (among_any [0, 2, 3, 12] _ 4 _ _ _ _ _ _ (st6.new _).cur (by omega) (by simp) (by simp) (by simp) (by have := st6.gl; have := st6.lo; have := st6.hi; omega) ?hy7).mono ?_
      case hy7 =>
        intro i hi
        match i, hi with
        | 0, _ => simp
        | 1, _ => simp
        | 2, _ => simp
        | 3, _ => simp
      rintro e w7 ⟨d7, rfl, hmem7, mv7, hc7⟩
      simp at hmem7
      have st7 := (st6.new _).step mv7 hc7
      clear k0 k1 k2 k3 r0 r1 r2 r3
      have k0 := st7.q0
      have k1 := st7.q1
      have k2 := st7.f0
      have k3 := st7.f1
      obtain ⟨r0, r1, r2, r3⟩ := st7.res
      go_wp2
      refine bodyPost_ret (v := .agg #[.int .i64 d6, .int .i64 d7]) (results_cell_row Try.results72 _ _ w.heap.size _ _ _ _ rfl ((st7.put d6 d7).res_end _ _) Try.underlying25 rfl (by kernel_rfl)) rfl ⟨_, _, rfl, by omega, by omega, by omega, by omega, ?_, ?_⟩
      · exact (st7.put d6 d7).mv_end _ _
      · exact ((st7.put d6 d7).cur_end _ _).more (by omega)
  · have e0' : (v2 == 0) = false := by simpa using e0
    by_cases e1 : v2 = 1
    · subst e1
      clear e0 e0'
      go_wp2_with fail
      refine (pick_any _ _ _ _ _ _ _ st2.cur (by omega) (by omega) (by omega)).mono ?_
      rintro e w3 ⟨d3, rfl, y1, y2, mv3, hc3⟩
      have st3 := st2.step mv3 hc3
      clear k0 k1 k2 k3 r0 r1 r2 r3
      have k0 := st3.q0
      have k1 := st3.q1
      have k2 := st3.f0
      have k3 := st3.f1
      obtain ⟨r0, r1, r2, r3⟩ := st3.res
      have st4 := st3.put (1 + d3) 1
      go_wp2_with fail
      refine (one_any _ _ _ _ _ _ _ st4.cur (by omega) (by omega) (by omega)).mono ?_
      rintro e w5 ⟨v5, rfl, mv5, hc5⟩
      have st5 := st4.step mv5 hc5
      clear k0 k1 k2 k3 r0 r1 r2 r3
      have k0 := st5.q0
      have k1 := st5.q1
      have k2 := st5.f0
      have k3 := st5.f1
      obtain ⟨r0, r1, r2, r3⟩ := st5.res
      cases v5
      ·
        go_wp2
        refine bodyPost_ret (v := .agg #[.int .i64 (1 + d3), .int .i64 1]) (results_cell_row Try.results72 _ _ w.heap.size _ _ _ _ rfl (st5.res_end _ _) Try.underlying25 rfl (by kernel_rfl)) rfl ⟨_, _, rfl, by omega, by omega, by omega, by omega, ?_, ?_⟩
        · exact st5.mv_end _ _
        · exact (st5.cur_end _ _).more (by omega)
      ·
        go_wp2_with fail
        refine (among_any [0, 5, 12, 13] _ 4 _ _ _ _ _ _ (st5.new _).cur (by omega) (by simp) (by simp) (by simp) (by have := st5.gl; have := st5.lo; have := st5.hi; omega) ?hy6).mono ?_
        case hy6 =>
          intro i hi
          match i, hi with
          | 0, _ => simp
          | 1, _ => simp
          | 2, _ => simp
          | 3, _ => simp
        rintro e w6 ⟨d6, rfl, hmem6, mv6, hc6⟩
        simp at hmem6
        have st6 := (st5.new _).step mv6 hc6
        clear k0 k1 k2 k3 r0 r1 r2 r3
        have k0 := st6.q0
        have k1 := st6.q1
        have k2 := st6.f0
        have k3 := st6.f1
        obtain ⟨r0, r1, r2, r3⟩ := st6.res
        go_wp2_with fail
        refine (among_any [0, 2, 3, 12] _ 4 _ _ _ _ _ _ (st6.new _).cur (by omega) (by simp) (by simp) (by simp) (by have := st6.gl; have := st6.lo; have := st6.hi; omega) ?hy7).mono ?_
        case hy7 =>
          intro i hi
          match i, hi with
          | 0, _ => simp
          | 1, _ => simp
          | 2, _ => simp
          | 3, _ => simp
        rintro e w7 ⟨d7, rfl, hmem7, mv7, hc7⟩
        simp at hmem7
        have st7 := (st6.new _).step mv7 hc7
        clear k0 k1 k2 k3 r0 r1 r2 r3
        have k0 := st7.q0
        have k1 := st7.q1
        have k2 := st7.f0
        have k3 := st7.f1
        obtain ⟨r0, r1, r2, r3⟩ := st7.res
        go_wp2
        refine bodyPost_ret (v := .agg #[.int .i64 d6, .int .i64 d7]) (results_cell_row Try.results72 _ _ w.heap.size _ _ _ _ rfl ((st7.put d6 d7).res_end _ _) Try.underlying25 rfl (by kernel_rfl)) rfl ⟨_, _, rfl, by omega, by omega, by omega, by omega, ?_, ?_⟩
        · exact (st7.put d6 d7).mv_end _ _
        · exact ((st7.put d6 d7).cur_end _ _).more (by omega)
    · have e1' : (v2 == 1) = false := by simpa using e1
      clear e0 e1
      go_wp2_with fail
      refine (one_any _ _ _ _ _ _ _ st2.cur (by omega) (by omega) (by omega)).mono ?_
      rintro e w5 ⟨v5, rfl, mv5, hc5⟩
      have st5 := st2.step mv5 hc5
      clear k0 k1 k2 k3 r0 r1 r2 r3
      have k0 := st5.q0
      have k1 := st5.q1
      have k2 := st5.f0
      have k3 := st5.f1
      obtain ⟨r0, r1, r2, r3⟩ := st5.res
      cases v5
      ·
        go_wp2
        refine bodyPost_ret (v := .agg #[.int .i64 6, .int .i64 d1]) (results_cell_row Try.results72 _ _ w.heap.size _ _ _ _ rfl (st5.res_end _ _) Try.underlying25 rfl (by kernel_rfl)) rfl ⟨_, _, rfl, by omega, by omega, by omega, by omega, ?_, ?_⟩
        · exact st5.mv_end _ _
        · exact (st5.cur_end _ _).more (by omega)
      ·
        go_wp2_with fail
        refine (among_any [0, 5, 12, 13] _ 4 _ _ _ _ _ _ (st5.new _).cur (by omega) (by simp) (by simp) (by simp) (by have := st5.gl; have := st5.lo; have := st5.hi; omega) ?hy6).mono ?_
        case hy6 =>
          intro i hi
          match i, hi with
          | 0, _ => simp
          | 1, _ => simp
          | 2, _ => simp
          | 3, _ => simp
        rintro e w6 ⟨d6, rfl, hmem6, mv6, hc6⟩
        simp at hmem6
        have st6 := (st5.new _).step mv6 hc6
        clear k0 k1 k2 k3 r0 r1 r2 r3
        have k0 := st6.q0
        have k1 := st6.q1
        have k2 := st6.f0
        have k3 := st6.f1
        obtain ⟨r0, r1, r2, r3⟩ := st6.res
        go_wp2_with fail
        refine (among_any [0, 2, 3, 12] _ 4 _ _ _ _ _ _ (st6.new _).cur (by omega) (by simp) (by simp) (by simp) (by have := st6.gl; have := st6.lo; have := st6.hi; omega) ?hy7).mono ?_
        case hy7 =>
          intro i hi
          match i, hi with
          | 0, _ => simp
          | 1, _ => simp
          | 2, _ => simp
          | 3, _ => simp
        rintro e w7 ⟨d7, rfl, hmem7, mv7, hc7⟩
        simp at hmem7
        have st7 := (st6.new _).step mv7 hc7
        clear k0 k1 k2 k3 r0 r1 r2 r3
        have k0 := st7.q0
        have k1 := st7.q1
        have k2 := st7.f0
        have k3 := st7.f1
        obtain ⟨r0, r1, r2, r3⟩ := st7.res
        go_wp2
        refine bodyPost_ret (v := .agg #[.int .i64 d6, .int .i64 d7]) (results_cell_row Try.results72 _ _ w.heap.size _ _ _ _ rfl ((st7.put d6 d7).res_end _ _) Try.underlying25 rfl (by kernel_rfl)) rfl ⟨_, _, rfl, by omega, by omega, by omega, by omega, ?_, ?_⟩
        · exact (st7.put d6 d7).mv_end _ _
        · exact ((st7.put d6 d7).cur_end _ _).more (by omega)
end Go.Proofs.Ytejajlloipkkhaa
namespace Go.Proofs.Ytejajlloipkkhaa
open Go.RowKit
set_option linter.unusedVariables false

/-- a slice of bytes that came in -/
def RowB (w : World) (a : Option Addr) (zs : List Int) : Prop :=
  zs = [] ∨ ∃ b off, a = some ⟨b, off, none⟩ ∧ b < w.heap.size ∧ ∀ i, i < zs.length → w.cell? ⟨b, off + i, none⟩ = some (.int .u8 (zs.getD i 0)) ∧ 0 ≤ zs.getD i 0 ∧ zs.getD i 0 ≤ 255
theorem RowB.keep {w w1 : World} {a : Option Addr} {zs : List Int} (h : RowB w a zs) (hb : Below w.heap.size w w1) : RowB w1 a zs := by
  rcases h with h | ⟨b, off, ha, hl, hc⟩
  · exact .inl h
  · exact .inr ⟨b, off, ha, Nat.lt_of_lt_of_le hl hb.size, fun i hi => ⟨(hb.cell (p := ⟨b, off + i, none⟩) hl).trans (hc i hi).1, (hc i hi).2⟩⟩
/-- a new cursor over these bytes, in the block that was made last -/
theorem cur_new {w w1 : World} {a : Option Addr} {cap : Nat} {zs : List Int} (hr : RowB w a zs) (hl : zs.length ≤ 1048576) (hb : Below w.heap.size w w1) :
    CurAt (w1.alloc (.cells #[.slice a zs.length cap, .int .i64 0, .int .u64 0] 85)) w1.heap.size 0 a cap zs := by
  have hs := hb.size
  refine ⟨⟨0, 0, heap_alloc_new _ _, Nat.le_refl _, by decide⟩, ?_, hl⟩
  rcases hr with h | ⟨b, off, ha, hlt, hc⟩
  · exact .inl h
  · have hb2 : Below w.heap.size w (w1.alloc (.cells #[.slice a zs.length cap, .int .i64 0, .int .u64 0] 85)) := hb.alloc hs _
    exact .inr ⟨b, off, ha, Nat.lt_of_lt_of_le hlt hb2.size, by omega, fun i hi => ⟨(hb2.cell (p := ⟨b, off + i, none⟩) hlt).trans (hc i hi).1, (hc i hi).2⟩⟩
theorem CurAt.drew {w : World} {g n : Nat} {a : Option Addr} {cap : Nat} {zs : List Int} (h : CurAt w g n a cap zs) : CurAt w.drew g n a cap zs := h.keep ((Below.refl _ _).drew)

/-- what a drawing keeps: the result's block, the cursor's behind it, the space's variable -/
structure DrSt (w wr : World) (n q : Nat) (a : Option Addr) (cap : Nat) (zs : List Int) (b d : Int) : Prop where
  bel : Below w.heap.size w wr
  cur : CurAt wr (w.heap.size + 1) n a cap zs
  q0 : wr.cell? ⟨q, 0, none⟩ = some (.int .i64 b)
  q1 : wr.cell? ⟨q, 1, none⟩ = some (.int .i64 d)
  r : wr.heap[w.heap.size]? = some (.cells #[.int .i64 0, .int .i64 0] 25 (0, 0))
  lo : w.heap.size + 1 < q
  hi : q < wr.heap.size
theorem DrSt.step {w wr w1 : World} {n m q : Nat} {a : Option Addr} {cap : Nat} {zs : List Int} {b d : Int} (h : DrSt w wr n q a cap zs b d) (mv : Mv (w.heap.size + 1) wr w1) (hc : CurAt w1 (w.heap.size + 1) m a cap zs) : DrSt w w1 m q a cap zs b d := by
  have hq : ¬ q = w.heap.size + 1 := by have := h.lo; omega
  exact ⟨mv.below h.bel (by omega), hc, keepM mv h.hi hq h.q0, keepM mv h.hi hq h.q1, (mv.block _ (by have := h.lo; have := h.hi; omega) (by omega)).trans h.r, h.lo, Nat.lt_of_lt_of_le h.hi mv.size⟩
theorem DrSt.keep {w wr w1 : World} {n q : Nat} {a : Option Addr} {cap : Nat} {zs : List Int} {b d : Int} (h : DrSt w wr n q a cap zs b d) (hb : Below wr.heap.size wr w1) : DrSt w w1 n q a cap zs b d := h.step (Mv.of_below hb) (h.cur.keep hb)
theorem DrSt.res {w wr : World} {n q : Nat} {a : Option Addr} {cap : Nat} {zs : List Int} {b d : Int} (h : DrSt w wr n q a cap zs b d) :
    wr.cell? ⟨w.heap.size, 0, none⟩ = some (.int .i64 0) ∧ wr.cell? ⟨w.heap.size, 1, none⟩ = some (.int .i64 0) ∧ wr.frozen? ⟨w.heap.size, 0, none⟩ = false ∧ wr.frozen? ⟨w.heap.size, 1, none⟩ = false :=
  ⟨(cell_of_row wr _ _ _ _ _ h.r).trans rfl, (cell_of_row wr _ _ _ _ _ h.r).trans rfl, frozen_of_row wr _ _ _ _ h.r, frozen_of_row wr _ _ _ _ h.r⟩
theorem DrSt.res_end {w wr : World} {n q : Nat} {a : Option Addr} {cap : Nat} {zs : List Int} {b d : Int} (h : DrSt w wr n q a cap zs b d) (u v : Value) : ((wr.setCell ⟨w.heap.size, 0, none⟩ u).setCell ⟨w.heap.size, 1, none⟩ v).heap[w.heap.size]? = some (.cells #[u, v] 25 (0, 0)) :=
  heap_setCell_same _ _ 1 _ _ v (heap_setCell_same _ _ 0 _ _ u h.r)
theorem DrSt.bel_end {w wr : World} {n q : Nat} {a : Option Addr} {cap : Nat} {zs : List Int} {b d : Int} (h : DrSt w wr n q a cap zs b d) (u v : Value) : Below w.heap.size w ((wr.setCell ⟨w.heap.size, 0, none⟩ u).setCell ⟨w.heap.size, 1, none⟩ v) :=
  (h.bel.setCell (Nat.le_refl _) u).setCell (Nat.le_refl _) v
theorem DrSt.cells_end {w wr : World} {n q : Nat} {a : Option Addr} {cap : Nat} {zs : List Int} {b d : Int} (h : DrSt w wr n q a cap zs b d) (u v : Value) : ((wr.setCell ⟨w.heap.size, 0, none⟩ u).setCell ⟨w.heap.size, 1, none⟩ v).cell? ⟨q, 0, none⟩ = some (.int .i64 b) ∧ ((wr.setCell ⟨w.heap.size, 0, none⟩ u).setCell ⟨w.heap.size, 1, none⟩ v).cell? ⟨q, 1, none⟩ = some (.int .i64 d) := by
  have e : ((wr.setCell ⟨w.heap.size, 0, none⟩ u).setCell ⟨w.heap.size, 1, none⟩ v).heap[q]? = wr.heap[q]? := by
    rw [heap_setCell_other _ _ _ _ (by have := h.lo; simp; omega), heap_setCell_other _ _ _ _ (by have := h.lo; simp; omega)]
  exact ⟨(World.cell?_of_block (w := wr) e).trans h.q0, (World.cell?_of_block (w := wr) e).trans h.q1⟩
theorem drSt_init {w w1 : World} {n : Nat} {a : Option Addr} {cap : Nat} {zs : List Int} {b d : Int} (mv1 : Mv (w.heap.size + 1) ((w.alloc (.cells #[.int .i64 0, .int .i64 0] 25)).alloc (.cells #[.slice a zs.length cap, .int .i64 0, .int .u64 0] 85)) w1) (hc1 : CurAt w1 (w.heap.size + 1) n a cap zs) :
    DrSt w (w1.alloc (.cells #[.int .i64 b, .int .i64 d] 25)) n w1.heap.size a cap zs b d := by
  have hs := mv1.size
  simp at hs
  have hb1 : Below w.heap.size w w1 := mv1.below (((Below.refl _ _).alloc (Nat.le_refl _) _).alloc (by simp) _) (by omega)
  refine ⟨hb1.alloc hb1.size _, hc1.new _, by simp, by simp, ?_, by omega, by simp⟩
  rw [heap_alloc_old _ _ (by omega), mv1.block _ (by simp; omega) (by omega)]
  exact heap_alloc2_old _ _ _
end Go.Proofs.Ytejajlloipkkhaa
namespace Go.Proofs.Ytejajlloipkkhaa
open Go.RowKit
set_option linter.unusedVariables false

set_option maxHeartbeats 3200000 in
theorem lputO_any (bk off cap : Nat) (zs : List Int) (x : Int) (w : World) (h1 : 1 ≤ zs.length) (h2 : zs.length ≤ 16) (hcap : zs.length ≤ cap) (hr : RowAt w (some ⟨bk, off, none⟩) zs) :
    Calls Try.prog 127 #[.slice (some ⟨bk, off, none⟩) zs.length cap, .int .i64 x] w fun e w' => (memI zs x = true ∧ e = .returned (.slice (some ⟨bk, off, none⟩) zs.length cap) ∧ w' = w) ∨
      (memI zs x = false ∧ ∃ g cp, e = .returned (.slice (some ⟨g, 0, none⟩) (zs.length + 1) cp) ∧ w'.ownsRow w.heap.size 3 1 (.slice (some ⟨g, 0, none⟩) (zs.length + 1) cp) (zs.length + 1) ((joinL zs x).map (Value.int .i64)) ∧ Below w.heap.size w w') := by
  obtain ⟨i0, hi, hz0, hz1, hz2⟩ := info_parts'
  have own0 : Hid ((w.alloc (.cells #[] 3)).ownsRow w.heap.size 3 1 (.slice (some ⟨w.heap.size, 0, none⟩) 0 0) 0 []) := own_lit0 w
  have HR : Hid (RowAt w (some ⟨bk, off, none⟩) zs) := hr
  clear hr
  go_enter Try.func127, Try.ntmps127
  go_wp2_with fail
  go_loop [5] (fun v => ∃ k : Nat, k ≤ zs.length ∧ v = .int .i64 k ∧ Hid (∀ i, i < k → zs.getD i 0 < x)) (fun v => zs.length - (intOf v).toNat)
  case atStart => exact ⟨0, Nat.zero_le _, rfl, fun i hi => by omega⟩
  case round =>
    obtain ⟨k, hk, rfl, hs⟩ := hrel
    by_cases hlt : k < zs.length
    · have hc1 := (rowAt_cell HR.out (by omega)).2 k hlt
      by_cases hx : zs.getD k 0 < x
      · have hn : Hid (∀ i, i < k + 1 → zs.getD i 0 < x) := fun i hi => by
          by_cases he : i = k
          · subst he; exact hx
          · exact hs.out i (by omega)
        generalize zs.getD k 0 = z at hc1 hx
        go_wp2_with fail
        go_round
        case rel => exact ⟨k + 1, by omega, by go_num, hn⟩
        case measure => simp [intOf]; omega
      · have hv : Hid (k = blw zs x) := (blw_eq (by omega) hs.out (fun _ => hx)).symm
        by_cases he : zs.getD k 0 = x
        · have HM : Hid (memI zs x = true) := decide_eq_true (by rw [← hv.out]; exact ⟨hlt, he⟩)
          have he' : (zs.getD k 0 == x) = true := beq_iff_eq.2 he
          clear he
          generalize zs.getD k 0 = z at hc1 hx he'
          go_wp2
          go_ret
          exact .inl ⟨HM.out, rfl, rfl⟩
        · have HM : Hid (memI zs x = false) := decide_eq_false (fun g => he (by rw [← hv.out] at g; exact g.2))
          have he' : (zs.getD k 0 == x) = false := by simp only [beq_eq_false_iff_ne, ne_eq]; exact he
          clear he
          generalize zs.getD k 0 = z at hc1 hx he'
          have s1 : Hid (((zs.take k).map (Value.int .i64)).length = k * 1) := by simp [Hid]; omega
          have s2 : Hid (((zs.drop k).map (Value.int .i64)).length = (zs.length - k) * 1) := by simp [Hid]
          have s3 : Hid ((zs.take k).map (Value.int .i64) ++ [Value.int .i64 x] ++ (zs.drop k).map (Value.int .i64) = (joinL zs x).map (Value.int .i64)) := by unfold joinL; rw [← hv.out]; simp [Hid]
          have hN : k + 1 + (zs.length - k) = zs.length + 1 := by omega
          have hkc : k ≤ cap := by omega
          have c1 : Hid (∀ (j : Nat) (u : Value), ((zs.take k).map (Value.int .i64))[j]? = some u → (w.alloc (.cells #[] 3)).cell? ((⟨bk, off, none⟩ : Addr).add j) = some u) := olds_cells (HR.out.alloc _) k _ rfl
          go_wp2_with (first | (at_builtin; refine wpList_append_own _ rfl (.tmp 34) (.tmp 37) 33 rfl w.heap.size 3 i0 (.int .i64 0) 1 8 Try.underlying33 hi hz0 hz1 hz2 rfl (by decide) _ _ _ rfl own0.out ⟨bk, off, none⟩ _ _ ((zs.take k).map (Value.int .i64)) rfl s1.out c1.out (ints_oneCell _ _) (by unfold maxLen; omega) (by omega) (by simp) ?_; intro v4 w4 hown4 hgrow4 hnil4; rw [Nat.zero_add, List.nil_append] at hown4; obtain ⟨g4, cp4, rfl⟩ := own_form hown4 (fun h => by have := (hnil4.1 h).1; cases this); have HB4 : Hid (Below w.heap.size w w4) := grown_bel ((Below.refl _ _).alloc (Nat.le_refl _) _) hgrow4 (by simp) (fun k hk => (own0.out.lt k hk).1); have own4 : Hid (w4.ownsRow w.heap.size 3 1 (.slice (some ⟨g4, 0, none⟩) k cp4) k ((zs.take k).map (Value.int .i64))) := hown4; clear hown4 hgrow4 hnil4 c1) | (at_builtin; refine wpList_append_own _ rfl (.tmp 39) (.tmp 41) 33 rfl w.heap.size 3 i0 (.int .i64 0) 1 8 Try.underlying33 hi hz0 hz1 hz2 rfl (by decide) _ _ _ rfl (own4.out.alloc _) ⟨w4.heap.size, 0, none⟩ 1 1 [.int .i64 x] rfl rfl (cell_one_new _ _ _) (by simp [Value.oneCell']) (by unfold maxLen; omega) (by omega) (alloc_size HB4.out) ?_; intro v5 w5 hown5 hgrow5 _; obtain ⟨g5, cp5, rfl⟩ := Joins.ownsRow_form hown5 (Nat.succ_pos _); have HB5 : Hid (Below w.heap.size w w5) := grown_bel (HB4.out.alloc HB4.out.size _) hgrow5 (alloc_size HB4.out) (fun k hk => (own4.out.lt k hk).1); have own5 : Hid (w5.ownsRow w.heap.size 3 1 (.slice (some ⟨g5, 0, none⟩) (k + 1) cp5) (k + 1) ((zs.take k).map (Value.int .i64) ++ [Value.int .i64 x])) := hown5; have c2 : Hid (∀ (j : Nat) (u : Value), ((zs.drop k).map (Value.int .i64))[j]? = some u → w5.cell? ((⟨bk, off + k, none⟩ : Addr).add j) = some u) := tail_cells (HR.out.keep HB5.out) k; clear hown5 hgrow5) | (at_builtin; refine wpList_append_own _ rfl (.tmp 43) (.tmp 46) 33 rfl w.heap.size 3 i0 (.int .i64 0) 1 8 Try.underlying33 hi hz0 hz1 hz2 rfl (by decide) _ _ _ rfl own5.out _ _ _ ((zs.drop k).map (Value.int .i64)) rfl s2.out c2.out (ints_oneCell _ _) (by unfold maxLen; omega) (by omega) HB5.out.size ?_; intro v6 w6 hown6 hgrow6 _; rw [hN, s3.out] at hown6; obtain ⟨g6, cp6, rfl⟩ := Joins.ownsRow_form hown6 (Nat.succ_pos _); have own6 : Hid (w6.ownsRow w.heap.size 3 1 (.slice (some ⟨g6, 0, none⟩) (zs.length + 1) cp6) (zs.length + 1) ((joinL zs x).map (Value.int .i64))) := hown6; have HB6 : Hid (Below w.heap.size w w6) := grown_bel HB5.out hgrow6 HB5.out.size (fun k hk => (own5.out.lt k hk).1); clear hown6 hgrow6))
          go_ret
          exact .inr ⟨HM.out, g6, cp6, rfl, own6.out, HB6.out⟩
    · have hv : Hid (k = blw zs x) := (blw_eq hk hs.out (fun h => absurd h hlt)).symm
      have HM : Hid (memI zs x = false) := decide_eq_false (fun g => by rw [← hv.out] at g; exact hlt g.1)
      have s1 : Hid (((zs.take k).map (Value.int .i64)).length = k * 1) := by simp [Hid]; omega
      have s2 : Hid (((zs.drop k).map (Value.int .i64)).length = (zs.length - k) * 1) := by simp [Hid]
      have s3 : Hid ((zs.take k).map (Value.int .i64) ++ [Value.int .i64 x] ++ (zs.drop k).map (Value.int .i64) = (joinL zs x).map (Value.int .i64)) := by unfold joinL; rw [← hv.out]; simp [Hid]
      have hN : k + 1 + (zs.length - k) = zs.length + 1 := by omega
      have hkc : k ≤ cap := by omega
      obtain ⟨A, hA, hAc⟩ : ∃ A : Addr, (if cap = k then some (⟨bk, off, none⟩ : Addr) else some ⟨bk, off + k, none⟩) = some A ∧ (¬ cap = k → A = ⟨bk, off + k, none⟩) := by
        by_cases hpc : cap = k
        · exact ⟨_, if_pos hpc, fun h => absurd hpc h⟩
        · exact ⟨_, if_neg hpc, fun _ => rfl⟩
      clear hAc
      have HA : Hid ((if cap = k then some (⟨bk, off, none⟩ : Addr) else some ⟨bk, off + k, none⟩) = some A) := hA
      have c1 : Hid (∀ (j : Nat) (u : Value), ((zs.take k).map (Value.int .i64))[j]? = some u → (w.alloc (.cells #[] 3)).cell? ((⟨bk, off, none⟩ : Addr).add j) = some u) := olds_cells (HR.out.alloc _) k _ rfl
      go_wp2_with (first | (at_builtin; refine wpList_append_own _ rfl (.tmp 34) (.tmp 37) 33 rfl w.heap.size 3 i0 (.int .i64 0) 1 8 Try.underlying33 hi hz0 hz1 hz2 rfl (by decide) _ _ _ rfl own0.out ⟨bk, off, none⟩ _ _ ((zs.take k).map (Value.int .i64)) rfl s1.out c1.out (ints_oneCell _ _) (by unfold maxLen; omega) (by omega) (by simp) ?_; intro v4 w4 hown4 hgrow4 hnil4; rw [Nat.zero_add, List.nil_append] at hown4; obtain ⟨g4, cp4, rfl⟩ := own_form hown4 (fun h => by have := (hnil4.1 h).1; cases this); have HB4 : Hid (Below w.heap.size w w4) := grown_bel ((Below.refl _ _).alloc (Nat.le_refl _) _) hgrow4 (by simp) (fun k hk => (own0.out.lt k hk).1); have own4 : Hid (w4.ownsRow w.heap.size 3 1 (.slice (some ⟨g4, 0, none⟩) k cp4) k ((zs.take k).map (Value.int .i64))) := hown4; clear hown4 hgrow4 hnil4 c1) | (at_builtin; refine wpList_append_own _ rfl (.tmp 39) (.tmp 41) 33 rfl w.heap.size 3 i0 (.int .i64 0) 1 8 Try.underlying33 hi hz0 hz1 hz2 rfl (by decide) _ _ _ rfl (own4.out.alloc _) ⟨w4.heap.size, 0, none⟩ 1 1 [.int .i64 x] rfl rfl (cell_one_new _ _ _) (by simp [Value.oneCell']) (by unfold maxLen; omega) (by omega) (alloc_size HB4.out) ?_; intro v5 w5 hown5 hgrow5 _; obtain ⟨g5, cp5, rfl⟩ := Joins.ownsRow_form hown5 (Nat.succ_pos _); have HB5 : Hid (Below w.heap.size w w5) := grown_bel (HB4.out.alloc HB4.out.size _) hgrow5 (alloc_size HB4.out) (fun k hk => (own4.out.lt k hk).1); have own5 : Hid (w5.ownsRow w.heap.size 3 1 (.slice (some ⟨g5, 0, none⟩) (k + 1) cp5) (k + 1) ((zs.take k).map (Value.int .i64) ++ [Value.int .i64 x])) := hown5; have c2 : Hid (∀ (j : Nat) (u : Value), ((zs.drop k).map (Value.int .i64))[j]? = some u → w5.cell? (A.add j) = some u) := tail_if HA.out (HR.out.keep HB5.out) hcap hk; clear hown5 hgrow5) | (at_builtin; refine wpList_append_own _ rfl (.tmp 43) (.tmp 46) 33 rfl w.heap.size 3 i0 (.int .i64 0) 1 8 Try.underlying33 hi hz0 hz1 hz2 rfl (by decide) _ _ _ rfl own5.out _ _ _ ((zs.drop k).map (Value.int .i64)) rfl s2.out c2.out (ints_oneCell _ _) (by unfold maxLen; omega) (by omega) HB5.out.size ?_; intro v6 w6 hown6 hgrow6 _; rw [hN, s3.out] at hown6; obtain ⟨g6, cp6, rfl⟩ := Joins.ownsRow_form hown6 (Nat.succ_pos _); have own6 : Hid (w6.ownsRow w.heap.size 3 1 (.slice (some ⟨g6, 0, none⟩) (zs.length + 1) cp6) (zs.length + 1) ((joinL zs x).map (Value.int .i64))) := hown6; have HB6 : Hid (Below w.heap.size w w6) := grown_bel HB5.out hgrow6 HB5.out.size (fun k hk => (own5.out.lt k hk).1); clear hown6 hgrow6))
      go_ret
      exact .inr ⟨HM.out, g6, cp6, rfl, own6.out, HB6.out⟩


/-- a list of ints that is owned from block B on, or nil -/
def OwnM (B : Nat) (w : World) (v : Value) (l : List Int) : Prop := w.ownsRow B 3 1 v l.length (l.map (Value.int .i64))
theorem OwnM.keep {B : Nat} {w w1 : World} {v : Value} {l : List Int} (h : OwnM B w v l) (hb : Below w.heap.size w w1) : OwnM B w1 v l := by
  obtain ⟨hl, h2⟩ := h
  refine ⟨hl, ?_⟩
  rcases h2 with h2 | ⟨g, cap, cur, hv, hg, hc, rest⟩
  · exact .inl h2
  · exact .inr ⟨g, cap, cur, hv, hg, (hb.block _ (Array.getElem?_eq_some_iff.1 hc).1).trans hc, rest⟩
theorem OwnM.block {B : Nat} {w w1 : World} {v : Value} {l : List Int} (h : OwnM B w v l) (hb : ∀ k, k < w.heap.size → B ≤ k → w1.heap[k]? = w.heap[k]?) : OwnM B w1 v l := by
  obtain ⟨hl, h2⟩ := h
  refine ⟨hl, ?_⟩
  rcases h2 with h2 | ⟨g, cap, cur, hv, hg, hc, rest⟩
  · exact .inl h2
  · exact .inr ⟨g, cap, cur, hv, hg, (hb _ (Array.getElem?_eq_some_iff.1 hc).1 hg).trans hc, rest⟩
theorem OwnM.form {B : Nat} {w : World} {v : Value} {l : List Int} (h : OwnM B w v l) : (v = .slice none 0 0 ∧ l = []) ∨ ∃ g cap, v = .slice (some ⟨g, 0, none⟩) l.length cap ∧ l.length ≤ cap ∧ OwnS B w g l := by
  rcases Joins.ownsRow_forms h with ⟨h1, h2⟩ | ⟨g, cap, rfl⟩
  · exact .inl ⟨h1, List.length_eq_zero_iff.1 h2⟩
  · obtain ⟨os, hl, hc⟩ := OwnS.of_owns h
    exact .inr ⟨g, cap, rfl, hc, os⟩
theorem OwnM.mono {B B' : Nat} {w : World} {v : Value} {l : List Int} (h : OwnM B w v l) (hb : B' ≤ B) : OwnM B' w v l := Joins.ownsRow_le h hb

set_option maxHeartbeats 1600000 in
theorem lput_nil (x : Int) (w : World) :
    Calls Try.prog 127 #[.slice none 0 0, .int .i64 x] w fun e w' => ∃ v, e = .returned v ∧ OwnM w.heap.size w' v [x] ∧ Below w.heap.size w w' := by
  obtain ⟨i0, hi, hz0, hz1, hz2⟩ := info_parts'
  have own0 : Hid ((w.alloc (.cells #[] 3)).ownsRow w.heap.size 3 1 (.slice (some ⟨w.heap.size, 0, none⟩) 0 0) 0 []) := own_lit0 w
  have HB0 : Hid (Below w.heap.size w (w.alloc (.cells #[] 3))) := (Below.refl _ _).alloc (Nat.le_refl _) _
  go_enter Try.func127, Try.ntmps127
  go_wp2_with fail
  go_loop [5] (fun v => v = .int .i64 0) (fun v => 0)
  case atStart => rfl
  case round =>
    subst hrel
    go_wp2_with (first | (at_builtin; refine wpList_append_own_none rfl (.tmp 34) (.tmp 37) 33 rfl w.heap.size 3 i0 1 Try.underlying33 hi _ _ _ rfl own0.out rfl ?_) | (at_builtin; refine wpList_append_own _ rfl (.tmp 39) (.tmp 41) 33 rfl w.heap.size 3 i0 (.int .i64 0) 1 8 Try.underlying33 hi hz0 hz1 hz2 rfl (by decide) _ _ _ rfl (own0.out.alloc _) ⟨w.heap.size + 1, 0, none⟩ 1 1 [.int .i64 x] rfl rfl (by have := cell_one_new (w.alloc (.cells #[] 3)) (.int .i64 x) 3; simpa using this) (by simp [Value.oneCell']) (by unfold maxLen; omega) (by omega) (alloc_size HB0.out) ?_; intro v5 w5 hown5 hgrow5 _; rw [Nat.zero_add, List.nil_append] at hown5; obtain ⟨g5, cp5, rfl⟩ := Joins.ownsRow_form hown5 (Nat.succ_pos _); have HB5 : Hid (Below w.heap.size w w5) := grown_bel (HB0.out.alloc HB0.out.size _) hgrow5 (alloc_size HB0.out) (fun k hk => (own0.out.lt k hk).1); have own5 : Hid (w5.ownsRow w.heap.size 3 1 (.slice (some ⟨g5, 0, none⟩) 1 cp5) 1 [Value.int .i64 x]) := hown5; clear hown5 hgrow5) | (at_builtin; refine wpList_append_own_none rfl (.tmp 43) (.tmp 46) 33 rfl w.heap.size 3 i0 1 Try.underlying33 hi _ _ _ rfl own5.out rfl ?_))
    go_ret
    exact ⟨_, rfl, own5.out, HB5.out⟩

theorem lputM_any (B : Nat) (v : Value) (ms : List Int) (x : Int) (w : World) (hS : OwnM B w v ms) (hN : ms = [] → v = .slice none 0 0) (hl : ms.length ≤ 16) (hB : B ≤ w.heap.size) :
    Calls Try.prog 127 #[v, .int .i64 x] w fun e w' => ∃ (v' : Value) (ms' : List Int), e = .returned v' ∧ OwnM B w' v' ms' ∧ 1 ≤ ms'.length ∧ ms'.length ≤ ms.length + 1 ∧ Below w.heap.size w w' := by
  rcases hS.form with ⟨rfl, rfl⟩ | ⟨g, cap, rfl, hc, os⟩
  · refine (lput_nil x w).mono ?_
    rintro e w1 ⟨v', he, ho, hb⟩
    exact ⟨v', [x], he, ho.mono hB, Nat.le_refl _, Nat.le_refl _, hb⟩
  · by_cases h0 : ms.length = 0
    · have : ms = [] := List.length_eq_zero_iff.1 h0
      exact absurd (hN this) (by simp)
    · refine (lputO_any g 0 cap ms x w (by omega) hl hc os.rowAt).mono ?_
      rintro e w1 (⟨hm, he, hw⟩ | ⟨hm, g2, cp2, he, ho, hb⟩)
      · subst hw
        exact ⟨_, ms, he, hS, by omega, by omega, Below.refl _ _⟩
      · refine ⟨_, joinL ms x, he, ?_, by rw [joinL_len]; omega, by rw [joinL_len]; exact Nat.le_refl _, hb⟩
        unfold OwnM
        rw [joinL_len]
        exact Joins.ownsRow_le ho hB
end Go.Proofs.Ytejajlloipkkhaa
namespace Go.Proofs.Ytejajlloipkkhaa
open Go.RowKit
set_option linter.unusedVariables false

theorem SpSt.keepB {w wr w1 : World} {g n q : Nat} {a : Option Addr} {cap : Nat} {zs : List Int} {b d : Int} (h : SpSt w wr g n q a cap zs b d) (hb : Below wr.heap.size wr w1) : SpSt w w1 g n q a cap zs b d := h.step (Mv.of_below hb) (h.cur.keep hb)
theorem SpSt.more {w wr : World} {g n m q : Nat} {a : Option Addr} {cap : Nat} {zs : List Int} {b d : Int} (h : SpSt w wr g n q a cap zs b d) (hm : n ≤ m) : SpSt w wr g m q a cap zs b d :=
  ⟨h.mv, h.cur.more hm, h.q0, h.q1, h.f0, h.f1, h.r, h.lo, h.hi, h.row, h.gl⟩
theorem spSt_ring {w w1 : World} {g n : Nat} {a : Option Addr} {cap : Nat} {zs : List Int} {b d : Int} (mv1 : Mv g (w.alloc (.cells #[.int .i64 0, .int .i64 0] 25)) w1) (hc1 : CurAt w1 g n a cap zs) (hlt : g < w.heap.size) (hr : RowU w g a zs) :
    SpSt w (w1.alloc (.cells #[.int .i64 b, .int .i64 d] 25)) g n w1.heap.size a cap zs b d := by
  have hs := mv1.size
  simp at hs
  refine ⟨(((Mv.refl g w).alloc _).trans mv1).alloc _, hc1.new _, by simp, by simp, frozen_of_row _ _ _ _ _ (heap_alloc_new _ _), frozen_of_row _ _ _ _ _ (heap_alloc_new _ _), ?_, by omega, by simp, hr, hlt⟩
  rw [heap_alloc_old _ _ (by omega), mv1.block _ (by simp) (by omega)]
  exact heap_alloc_new _ _
/-- the world behind the result's store -/
theorem SpSt.fin {w wr : World} {g n q : Nat} {a : Option Addr} {cap : Nat} {zs : List Int} {b d : Int} (h : SpSt w wr g n q a cap zs b d) (u v : Value) :
    ((wr.setCell ⟨w.heap.size, 0, none⟩ u).setCell ⟨w.heap.size, 1, none⟩ v).heap[w.heap.size]? = some (.cells #[u, v] 25 (0, 0)) ∧ Mv g w ((wr.setCell ⟨w.heap.size, 0, none⟩ u).setCell ⟨w.heap.size, 1, none⟩ v) ∧ CurAt ((wr.setCell ⟨w.heap.size, 0, none⟩ u).setCell ⟨w.heap.size, 1, none⟩ v) g n a cap zs ∧
      ∀ k, k < wr.heap.size → w.heap.size + 1 ≤ k → ((wr.setCell ⟨w.heap.size, 0, none⟩ u).setCell ⟨w.heap.size, 1, none⟩ v).heap[k]? = wr.heap[k]? := by
  have hgq : ¬ g = w.heap.size := by have := h.gl; omega
  have mv1 := h.mv.put (Nat.le_refl _) 0 u
  refine ⟨heap_setCell_same _ _ 1 _ _ v (heap_setCell_same _ _ 0 _ _ u h.r), mv1.put (Nat.le_refl _) 1 v, (h.cur.put h.row h.mv (Nat.le_refl _) hgq 0 u).put h.row mv1 (Nat.le_refl _) hgq 1 v, fun k hk hb => ?_⟩
  rw [heap_setCell_other _ _ _ _ (by simp; omega), heap_setCell_other _ _ _ _ (by simp; omega)]
theorem OwnM.mv {B g : Nat} {w w1 : World} {v : Value} {l : List Int} (h : OwnM B w v l) (hm : Mv g w w1) (hg : g < B) : OwnM B w1 v l := h.block (fun k hk hb => hm.block k hk (by omega))
/-- some list that is read in this world -/
def SomeR (B : Nat) (w : World) (v : Value) : Prop := ∃ (a0 : Option Addr) (cp : Nat) (ms : List Int), v = .slice a0 ms.length cp ∧ ms.length ≤ cp ∧ ms.length ≤ 9 ∧ RowAt w a0 ms ∧ (ms = [] ∨ ∃ bk off, a0 = some ⟨bk, off, none⟩ ∧ B ≤ bk)
theorem OwnM.someR {B : Nat} {w : World} {v : Value} {l : List Int} (h : OwnM B w v l) (hl : l.length ≤ 9) {B' : Nat} (hB : B' ≤ B) : SomeR B' w v := by
  rcases h.form with ⟨rfl, rfl⟩ | ⟨g, cap, rfl, hc, os⟩
  · exact ⟨none, 0, [], rfl, Nat.le_refl _, by simp, .inl rfl, .inl rfl⟩
  · exact ⟨_, cap, l, rfl, hc, hl, os.rowAt, .inr ⟨g, 0, rfl, Nat.le_trans hB os.lo⟩⟩
theorem SomeR.block {B : Nat} {w w1 : World} {v : Value} (h : SomeR B w v) (hb : ∀ k, k < w.heap.size → B ≤ k → w1.heap[k]? = w.heap[k]?) (hs : w.heap.size ≤ w1.heap.size) : SomeR B w1 v := by
  obtain ⟨a0, cp, ms, hv, hc, hl, hr, hB⟩ := h
  refine ⟨a0, cp, ms, hv, hc, hl, ?_, hB⟩
  rcases hr with rfl | ⟨bk, off, ha, hlt, hcell⟩
  · exact .inl rfl
  · rcases hB with rfl | ⟨bk2, off2, ha2, hB⟩
    · exact .inl rfl
    · rw [ha] at ha2
      simp at ha2
      obtain ⟨rfl, rfl⟩ := ha2
      exact .inr ⟨bk, off, ha, Nat.lt_of_lt_of_le hlt hs, fun i hi => (World.cell?_of_block (w := w) (a := ⟨bk, off + i, none⟩) (hb bk hlt hB)).trans (hcell i hi)⟩
theorem SomeR.keep {B : Nat} {w w1 : World} {v : Value} (h : SomeR B w v) (hb : Below w.heap.size w w1) : SomeR B w1 v := h.block (fun k hk _ => hb.block k hk) hb.size
theorem SomeR.mv {B g : Nat} {w w1 : World} {v : Value} (h : SomeR B w v) (hm : Mv g w w1) (hg : g < B) : SomeR B w1 v := h.block (fun k hk hb => hm.block k hk (by omega)) hm.size
theorem SomeR.mono {B B' : Nat} {w : World} {v : Value} (h : SomeR B w v) (hb : B' ≤ B) : SomeR B' w v := by
  obtain ⟨a0, cp, ms, hv, hc, hl, hr, hB⟩ := h
  refine ⟨a0, cp, ms, hv, hc, hl, hr, ?_⟩
  rcases hB with h | ⟨bk, off, ha, h⟩
  · exact .inl h
  · exact .inr ⟨bk, off, ha, Nat.le_trans hb h⟩
theorem OwnM.snoc {B : Nat} {w : World} {v : Value} {l : List Int} {z : Int} (h : w.ownsRow B 3 1 v (l.length + 1) (l.map (Value.int .i64) ++ [Value.int .i64 z])) : OwnM B w v (l ++ [z]) := own_snoc rfl h
theorem OwnM.stored {B : Nat} {w : World} {g cap : Nat} {l : List Int} (h : OwnM B w (.slice (some ⟨g, 0, none⟩) l.length cap) l) (j : Nat) (z : Int) : OwnM B (w.setCell ⟨g, j, none⟩ (.int .i64 z)) (.slice (some ⟨g, 0, none⟩) l.length cap) (l.set j z) := by
  have := (World.ownsRow.stored h j (.int .i64 z)).1
  unfold OwnM
  rw [List.length_set, List.map_set]
  exact this

theorem SpSt.grown {w wr w1 : World} {g n q : Nat} {a : Option Addr} {cap : Nat} {zs : List Int} {b d : Int} {r : Option Nat} (h : SpSt w wr g n q a cap zs b d) (hg : wr.grownBy w1 r) (hr : ∀ k, r = some k → q + 1 ≤ k) : SpSt w w1 g n q a cap zs b d := by
  have e : ∀ k, k < wr.heap.size → k ≤ q → w1.heap[k]? = wr.heap[k]? := fun k hk hq => hg.block k hk (fun he => by have := hr k he.symm; omega)
  have hlo := h.lo
  have hhi := h.hi
  have hgl := h.gl
  have hsz := h.mv.size
  have mv : Mv g w w1 := ⟨hg.os.trans h.mv.os, hg.tape.trans h.mv.tape, hg.output.trans h.mv.output, Nat.le_trans h.mv.size hg.size, fun k hk hk2 => (e k (by omega) (by omega)).trans (h.mv.block k hk hk2)⟩
  have eq := e q hhi (Nat.le_refl _)
  obtain ⟨⟨k, sd, hbk, h2⟩, hrow, hl⟩ := h.cur
  exact ⟨mv, ⟨⟨k, sd, (e g (by omega) (by omega)).trans hbk, h2⟩, h.row.keep mv, hl⟩, (World.cell?_of_block (w := wr) (a := ⟨q, 0, none⟩) eq).trans h.q0, (World.cell?_of_block (w := wr) (a := ⟨q, 1, none⟩) eq).trans h.q1, (World.frozen?_of_block (w := wr) (a := ⟨q, 0, none⟩) eq).trans h.f0, (World.frozen?_of_block (w := wr) (a := ⟨q, 1, none⟩) eq).trans h.f1, (e _ (by omega) (by omega)).trans h.r, hlo, Nat.lt_of_lt_of_le hhi hg.size, h.row, hgl⟩

set_option maxRecDepth 100000 in
set_option maxHeartbeats 6400000 in
theorem ring_any (w : World) (g n : Nat) (a : Option Addr) (cap : Nat) (zs : List Int) (hc : CurAt w g n a cap zs) (hn : n ≤ 1000) :
    Calls Try.prog 117 #[.pointer (some ⟨g, 0, none⟩)] w fun e w' => ∃ (b d : Int) (v : Value), e = .returned (.tuple #[.agg #[.int .i64 b, .int .i64 d], v]) ∧ SomeR w.heap.size w' v ∧ Mv g w w' ∧ CurAt w' g (n + 60) a cap zs := by
  have hlt := hc.lt
  have HR0 : Hid (RowU w g a zs) := hc.row
  obtain ⟨i0, hi, hz0, hz1, hz2⟩ := info_parts'
  go_enter Try.func117, Try.ntmps117
  go_wp2_with fail
  refine (space_any _ _ _ _ _ _ (hc.new _) (by omega)).mono ?_
  rintro e w1 ⟨b, d, rfl, b1, b2, d1, d2, mv1, hc1⟩
  have st1 : SpSt w (w1.alloc (.cells #[.int .i64 b, .int .i64 d] 25)) g (n + 12) w1.heap.size a cap zs b d := spSt_ring mv1 hc1 hlt HR0.out
  have k0 := st1.q0
  have k1 := st1.q1
  go_wp2_with fail
  refine (lspace_any _ _ _).mono ?_
  rintro e w2 ⟨rfl, hw2⟩
  have st2 := st1.keepB hw2
  have hlo := st2.lo
  have hhi := st2.hi
  clear k0 k1 st1
  cases hg : gsB b d
  · have st3 := st2.new (.cells #[.int .i64 0] 3)
    have k0 := st2.q0
    have k1 := st2.q1
    obtain ⟨r0, r1, r2, r3⟩ := st3.res
    go_wp2
    obtain ⟨f1, f2, f3, f4⟩ := st3.fin (.int .i64 b) (.int .i64 d)
    have e0 := (cell_of_row _ _ 0 _ _ _ f1).trans rfl
    have e1 := (cell_of_row _ _ 1 _ _ _ f1).trans rfl
    refine bodyPost_ret (by simp [results, Try.results117, go_sem, e0, e1] <;> rfl) rfl ⟨b, d, _, rfl, ?_, f2, f3.more (by omega)⟩
    refine ⟨some ⟨w2.heap.size, 0, none⟩, 1, [0], rfl, Nat.le_refl _, by simp, .inr ⟨w2.heap.size, 0, rfl, by simp [World.setCell], fun i hi => ?_⟩, .inr ⟨w2.heap.size, 0, rfl, by omega⟩⟩
    have hi0 : i = 0 := by simp at hi; omega
    subst hi0
    have := f4 w2.heap.size (by simp) (by omega)
    exact (World.cell?_of_block (a := ⟨w2.heap.size, 0 + 0, none⟩) this).trans (by simp)
  · obtain ⟨hb1, hb2, _, _, _⟩ := gsB_true hg
    obtain ⟨hs1, hs2⟩ := sz_bd hb1 hb2
    go_wp2_with fail
    refine (pick_any _ _ _ _ _ _ _ st2.cur (by omega) (by omega) (by omega)).mono ?_
    rintro e w3 ⟨v3, rfl, p1, p2, mv3, hc3⟩
    have st3 := st2.step mv3 hc3
    have hs3 := mv3.size
    obtain ⟨t3, rfl⟩ := Int.eq_ofNat_of_zero_le p1
    generalize w1.heap.size = q at *
    go_wp2_with fail
    go_loopw [5, 6] (fun vm vn wr => ∃ (v0 : Value) (ms : List Int) (j : Nat), vm = v0 ∧ vn = .int .i64 (j : Int) ∧ j ≤ t3 + 1 ∧ ms.length + j ≤ t3 + 1 ∧ Hid (ms = [] → v0 = .slice none 0 0 ∧ j = t3 + 1) ∧ OwnM (q + 1) wr v0 ms ∧ SpSt w wr g (n + 16 + 2 * (t3 + 1 - j)) q a cap zs b d) (fun _ vn _ => (intOf vn).toNat)
    case atStart => exact ⟨_, [], t3 + 1, rfl, by go_num, Nat.le_refl _, by simp, fun _ => ⟨rfl, rfl⟩, World.ownsRow_nil _ _ _ _, st3.more (by omega)⟩
    case round =>
      obtain ⟨v0, ms, j, hv0, rfl, hj, hms, hnil, hown, st⟩ := hrel
      have hv0 := hv0.symm
      subst hv0
      have HO : Hid (OwnM (q + 1) wr v0 ms) := hown
      have HST : Hid (SpSt w wr g (n + 16 + 2 * (t3 + 1 - j)) q a cap zs b d) := st
      clear hown st st3 st2 hc3 mv3
      by_cases hlt : 0 < j
      · have sta := HST.out.keepB ((Below.refl _ _).drew)
        have oma := HO.out.keep ((Below.refl _ _).drew)
        have hszw := HST.out.mv.size
        have hj8 : t3 + 1 - j ≤ 8 := by omega
        go_wp2_with fail
        go_region_held (fun w' => w'.cell? ⟨q, 0, none⟩ = some (.int .i64 b) ∧ w'.cell? ⟨q, 1, none⟩ = some (.int .i64 d)) (first | exact ⟨sta.q0, sta.q1⟩ | exact ⟨stb.q0, stb.q1⟩ | exact ⟨stc.q0, stc.q1⟩ | exact ⟨std.q0, std.q1⟩ | exact ⟨ste.q0, ste.q1⟩) (first | (go_at_call 110; refine (next_any _ _ _ _ _ _ sta.cur (by omega)).mono ?_; rintro e wb ⟨xb, rfl, xb1, xb2, mvb, hcb⟩; have stb := sta.step mvb hcb; have omb := oma.mv mvb (by omega)) | (go_at_call 110; refine (next_any _ _ _ _ _ _ stb.cur (by omega)).mono ?_; rintro e wc ⟨xc, rfl, xc1, xc2, mvc, hcc⟩; have stc := stb.step mvc hcc; have omc := omb.mv mvc (by omega)) | (go_at_call 76; refine (lsize_any _ _ _ hb1 hb2).mono ?_; rintro e wd ⟨rfl, hwd⟩; have std := stc.keepB hwd; have omd := omc.keep hwd) | (go_at_call 127; refine (lputM_any (q + 1) v0 ms _ wd omd (fun h => (hnil.out h).1) (by omega) (by have := std.hi; omega)).mono ?_; rintro e we ⟨ve, me, rfl, ome, me1, me2, hwe⟩; have ste := std.keepB hwe))
        have HOE : Hid (OwnM (q + 1) we ve me) := ome
        have HSE : Hid (SpSt w we g (n + 16 + 2 * (t3 + 1 - j) + 1 + 1) q a cap zs b d) := ste
        clear sta stb stc std ste oma omb omc omd ome mvb mvc hcb hcc hwd hwe
        go_wp2_with fail
        go_roundw
        case rel => exact ⟨ve, me, j - 1, rfl, by go_num, by omega, by omega, fun h => by rw [h] at me1; simp at me1, HOE.out, HSE.out.more (by omega)⟩
        case measure => simp [intOf]; omega
      · have hj0 : j = 0 := by omega
        subst hj0
        have hne : 1 ≤ ms.length := by
          by_cases h : ms.length = 0
          · have := (hnil.out (List.length_eq_zero_iff.1 h)).2; omega
          · omega
        have hm8 : ms.length ≤ 8 := by omega
        go_wp2_with fail
        refine (pick_any _ _ _ _ _ _ _ HST.out.cur (by omega) (by omega) (by omega)).mono ?_
        rintro e w4 ⟨v4, rfl, u1, u2, mv4, hc4⟩
        have st4 : SpSt w w4 g (n + 40) q a cap zs b d := (HST.out.step mv4 hc4).more (by omega)
        have om4 := HO.out.mv mv4 (by have := HST.out.gl; omega)
        clear HST HO mv4 hc4
        by_cases e4 : v4 = 0
        · subst e4
          rcases om4.form with ⟨_, hnl⟩ | ⟨g5, cp5, rfl, hcp5, os5⟩
          · rw [hnl] at hne; simp at hne
          have hcell := (os5.at 0 (by omega)).1
          have HO4 : Hid (OwnM (q + 1) w4 (.slice (some ⟨g5, 0, none⟩) ms.length cp5) ms) := om4
          have HS4 : Hid (SpSt w w4 g (n + 40) q a cap zs b d) := st4
          clear om4 st4 os5
          generalize ms.getD 0 0 = z at hcell
          go_wp2_with (at_builtin; refine wpList_append_own _ rfl (.tmp 36) (.tmp 40) 33 rfl (q + 1) 3 i0 (.int .i64 0) 1 8 Try.underlying33 hi hz0 hz1 hz2 rfl (by decide) _ _ _ rfl (HO4.out.alloc _) ⟨w4.heap.size, 0, none⟩ 1 1 [.int .i64 z] rfl rfl (cell_one_new _ _ _) (by simp [Value.oneCell']) (by unfold maxLen; omega) (by omega) (by have := HS4.out.hi; simp; omega) ?_; intro v5 w5 hown5 hgrow5 _; have OM : Hid (OwnM (q + 1) w5 v5 (ms ++ [z])) := OwnM.snoc hown5; have ST : Hid (SpSt w w5 g (n + 40) q a cap zs b d) := (HS4.out.new _).grown hgrow5 (fun k hk => (HO4.out.lt k hk).1); clear hown5 hgrow5; have k0 := ST.out.q0; have k1 := ST.out.q1; obtain ⟨r0, r1, r2, r3⟩ := ST.out.res)
          obtain ⟨f1, f2, f3, f4⟩ := ST.out.fin (.int .i64 b) (.int .i64 d)
          have e0 := (cell_of_row _ _ 0 _ _ _ f1).trans rfl
          have e1 := (cell_of_row _ _ 1 _ _ _ f1).trans rfl
          exact bodyPost_ret (by simp [results, Try.results117, go_sem, e0, e1] <;> rfl) rfl ⟨b, d, _, rfl, (OM.out.block (fun k hk hb => f4 k hk (by omega))).someR (by simp; omega) (by omega), f2, f3.more (by omega)⟩
        · have n0 : (v4 == 0) = false := by simpa using e4
          clear e4
          by_cases e4 : v4 = 1
          · subst e4
            have OM : Hid (OwnM (q + 1) w4 (.slice none 0 0) []) := World.ownsRow_nil _ _ _ _
            have ST : Hid (SpSt w w4 g (n + 40) q a cap zs b d) := st4
            clear om4 st4
            have k0 := ST.out.q0
            have k1 := ST.out.q1
            obtain ⟨r0, r1, r2, r3⟩ := ST.out.res
            go_wp2
            obtain ⟨f1, f2, f3, f4⟩ := ST.out.fin (.int .i64 b) (.int .i64 d)
            have e0 := (cell_of_row _ _ 0 _ _ _ f1).trans rfl
            have e1 := (cell_of_row _ _ 1 _ _ _ f1).trans rfl
            exact bodyPost_ret (by simp [results, Try.results117, go_sem, e0, e1] <;> rfl) rfl ⟨b, d, _, rfl, (OM.out.block (fun k hk hb => f4 k hk (by omega))).someR (by simp) (by omega), f2, f3.more (by omega)⟩
          · have n1 : (v4 == 1) = false := by simpa using e4
            clear e4
            by_cases e4 : v4 = 2
            · subst e4
              rcases om4.form with ⟨_, hnl⟩ | ⟨g5, cp5, rfl, hcp5, os5⟩
              · rw [hnl] at hne; simp at hne
              have HO4 : Hid (OwnM (q + 1) w4 (.slice (some ⟨g5, 0, none⟩) ms.length cp5) ms) := om4
              have HS4 : Hid (SpSt w w4 g (n + 40) q a cap zs b d) := st4
              clear om4 st4 os5
              have k0 := HS4.out.q0
              have k1 := HS4.out.q1
              go_wp2_with fail
              refine (lsize_any _ _ _ hb1 hb2).mono ?_
              rintro e w5 ⟨rfl, hw5⟩
              have HO5 : Hid (OwnM (q + 1) w5 (.slice (some ⟨g5, 0, none⟩) ms.length cp5) ms) := HO4.out.keep hw5
              have HS5 : Hid (SpSt w w5 g (n + 40) q a cap zs b d) := HS4.out.keepB hw5
              clear k0 k1
              obtain ⟨os6, _, _⟩ := OwnS.of_owns HO5.out
              obtain ⟨y0, y1⟩ := os6.at (ms.length - 1) (by omega)
              generalize ms.getD (ms.length - 1) 0 = z at y0
              clear os6
              have OM : Hid (OwnM (q + 1) (w5.setCell ⟨g5, ms.length - 1, none⟩ (.int .i64 (sz b))) (.slice (some ⟨g5, 0, none⟩) ms.length cp5) (ms.set (ms.length - 1) (sz b))) := HO5.out.stored _ _
              have ST : Hid (SpSt w (w5.setCell ⟨g5, ms.length - 1, none⟩ (.int .i64 (sz b))) g (n + 40) q a cap zs b d) := HS5.out.grown (World.ownsRow.stored HO5.out _ _).2 (fun k hk => (HO5.out.lt k hk).1)
              have k0 := ST.out.q0
              have k1 := ST.out.q1
              obtain ⟨r0, r1, r2, r3⟩ := ST.out.res
              go_wp2
              obtain ⟨f1, f2, f3, f4⟩ := ST.out.fin (.int .i64 b) (.int .i64 d)
              have e0 := (cell_of_row _ _ 0 _ _ _ f1).trans rfl
              have e1 := (cell_of_row _ _ 1 _ _ _ f1).trans rfl
              exact bodyPost_ret (by simp [results, Try.results117, go_sem, e0, e1] <;> rfl) rfl ⟨b, d, _, rfl, (OM.out.block (fun k hk hb => f4 k hk (by omega))).someR (by simp; omega) (by omega), f2, f3.more (by omega)⟩
            · have n2 : (v4 == 2) = false := by simpa using e4
              clear e4
              have OM : Hid (OwnM (q + 1) w4 v0 ms) := om4
              have ST : Hid (SpSt w w4 g (n + 40) q a cap zs b d) := st4
              clear om4 st4
              have k0 := ST.out.q0
              have k1 := ST.out.q1
              obtain ⟨r0, r1, r2, r3⟩ := ST.out.res
              go_wp2
              obtain ⟨f1, f2, f3, f4⟩ := ST.out.fin (.int .i64 b) (.int .i64 d)
              have e0 := (cell_of_row _ _ 0 _ _ _ f1).trans rfl
              have e1 := (cell_of_row _ _ 1 _ _ _ f1).trans rfl
              exact bodyPost_ret (by simp [results, Try.results117, go_sem, e0, e1] <;> rfl) rfl ⟨b, d, _, rfl, (OM.out.block (fun k hk hb => f4 k hk (by omega))).someR (by omega) (by omega), f2, f3.more (by omega)⟩
end Go.Proofs.Ytejajlloipkkhaa
namespace Go.Proofs.Ytejajlloipkkhaa
open Go.RowKit
set_option linter.unusedVariables false

theorem SpSt.cells_end {w wr : World} {g n q : Nat} {a : Option Addr} {cap : Nat} {zs : List Int} {b d : Int} (h : SpSt w wr g n q a cap zs b d) (u v : Value) : ((wr.setCell ⟨w.heap.size, 0, none⟩ u).setCell ⟨w.heap.size, 1, none⟩ v).cell? ⟨q, 0, none⟩ = some (.int .i64 b) ∧ ((wr.setCell ⟨w.heap.size, 0, none⟩ u).setCell ⟨w.heap.size, 1, none⟩ v).cell? ⟨q, 1, none⟩ = some (.int .i64 d) := by
  have e := (h.fin u v).2.2.2 q h.hi (by have := h.lo; omega)
  exact ⟨(World.cell?_of_block (w := wr) (a := ⟨q, 0, none⟩) e).trans h.q0, (World.cell?_of_block (w := wr) (a := ⟨q, 1, none⟩) e).trans h.q1⟩

theorem row_mv {g bk off : Nat} {ms : List Int} {w w1 : World} (h : ∀ i, i < ms.length → w.cell? ⟨bk, off + i, none⟩ = some (.int .i64 (ms.getD i 0))) (hm : Mv g w w1) (hl : bk < w.heap.size) (hg : ¬ bk = g) : ∀ i, i < ms.length → w1.cell? ⟨bk, off + i, none⟩ = some (.int .i64 (ms.getD i 0)) :=
  fun i hi => keepM hm hl hg (h i hi)
theorem row_end {r bk off : Nat} {ms : List Int} {w : World} (h : ∀ i, i < ms.length → w.cell? ⟨bk, off + i, none⟩ = some (.int .i64 (ms.getD i 0))) (hg : ¬ bk = r) (u v : Value) : ∀ i, i < ms.length → ((w.setCell ⟨r, 0, none⟩ u).setCell ⟨r, 1, none⟩ v).cell? ⟨bk, off + i, none⟩ = some (.int .i64 (ms.getD i 0)) := by
  intro i hi
  have e : ((w.setCell ⟨r, 0, none⟩ u).setCell ⟨r, 1, none⟩ v).heap[bk]? = w.heap[bk]? := by
    rw [heap_setCell_other _ _ _ _ (by simpa using hg), heap_setCell_other _ _ _ _ (by simpa using hg)]
  exact (World.cell?_of_block (w := w) (a := ⟨bk, off + i, none⟩) e).trans (h i hi)

end Go.Proofs.Ytejajlloipkkhaa
namespace Go.Proofs.Ytejajlloipkkhaa
open Go.RowKit
set_option linter.unusedVariables false

def IsRowU (w : World) (a : Option Addr) (len cap : Nat) (zs : List Int) : Prop :=
  (a = none ∧ len = 0 ∧ cap = 0 ∧ zs = []) ∨
  ∃ x, a = some x ∧ len ≤ cap ∧ cap ≤ maxLen ∧ zs.length = cap ∧ (∀ i, i < zs.length → w.cell? (x.add i) = some (.int .u8 (zs.getD i 0))) ∧ ∀ n ∈ zs, (Lit.int .u8 n).wf = true
theorem isRowU_rowB {w : World} {a : Option Addr} {len cap : Nat} {zs : List Int} (h : IsRowU w a len cap zs) : ∃ ys : List Int, ys.length = len ∧ len ≤ maxLen ∧ RowB w a ys := by
  rcases h with ⟨rfl, rfl, rfl, rfl⟩ | ⟨⟨b, off, spot⟩, rfl, hl, hm, hz, hc, hw⟩
  · exact ⟨[], rfl, Nat.zero_le _, .inl rfl⟩
  · by_cases h0 : len = 0
    · subst h0; exact ⟨[], rfl, Nat.zero_le _, .inl rfl⟩
    · have ad : ∀ j, (⟨b, off, none⟩ : Addr).add j = ⟨b, off + j, none⟩ := by intro j; unfold Addr.add; split <;> simp_all
      have hc0 := hc 0 (by omega)
      have hs : spot = none := by simpa [Addr.add] using World.cell?_spot hc0
      subst hs
      refine ⟨zs.take len, by simp; omega, by omega, .inr ⟨b, off, rfl, by simpa [ad] using block_lt_of_cell hc0, fun i hi => ?_⟩⟩
      have hi' : i < len := by simp at hi; omega
      have hci := hc i (by omega)
      rw [ad] at hci
      have e : (zs.take len).getD i 0 = zs.getD i 0 := by simp [List.getD_eq_getElem?_getD, hi']
      have hb := bounds_u8 (hw (zs.getD i 0) (by rw [List.getD_eq_getElem?_getD, List.getElem?_eq_getElem (by omega)]; exact List.getElem_mem _))
      rw [e]
      exact ⟨hci, hb⟩

def bigB (n m : Nat) : Bool := decide (1048576 < n ∨ (1048576 : Int) - n < m)
theorem big_any (a a' : Option Addr) (n m cap cap' : Nat) (w : World) (hn : n ≤ maxLen) (hm : m ≤ maxLen) :
    Calls Try.prog 12 #[.slice a n cap, .slice a' m cap'] w fun e w' => e = .returned (.bool (bigB n m)) ∧ w' = w := by
  unfold maxLen at hn hm
  unfold bigB
  by_cases h1 : 1048576 < n
  · rw [decide_eq_true (Or.inl h1)]
    go_enter Try.func12, Try.ntmps12
    go_wp2
    go_ret
    exact ⟨rfl, rfl⟩
  · by_cases h2 : (1048576 : Int) - n < m
    · rw [decide_eq_true (Or.inr h2)]
      go_enter Try.func12, Try.ntmps12
      go_wp2
      go_ret
      exact ⟨rfl, rfl⟩
    · rw [decide_eq_false (by omega)]
      go_enter Try.func12, Try.ntmps12
      go_wp2
      go_ret
      exact ⟨ret_bool (decide_eq_false (by omega)), rfl⟩

/-- the boxed space, of whatever type, and all that lay below it, are as they were -/
structure Bt (w : World) (b d : Int) (wk : World) : Prop where
  bel : Below (w.heap.size + 1) (w.alloc (.cells #[.int .i64 b, .int .i64 d] 25)) wk
theorem Bt.at {w wk : World} {b d : Int} (h : Bt w b d wk) : wk.cell? ⟨w.heap.size, 0, none⟩ = some (.int .i64 b) ∧ wk.cell? ⟨w.heap.size, 1, none⟩ = some (.int .i64 d) ∧ w.heap.size < wk.heap.size :=
  ⟨(h.bel.cell (p := ⟨w.heap.size, 0, none⟩) (by simp)).trans (by simp), (h.bel.cell (p := ⟨w.heap.size, 1, none⟩) (by simp)).trans (by simp), by have := h.bel.size; simp at this; omega⟩
theorem Bt.old {w wk : World} {b d : Int} (h : Bt w b d wk) : Below w.heap.size w wk := bel1 h.bel (by omega)
theorem Bt.step {w wk w' : World} {b d : Int} (h : Bt w b d wk) (hw : Below wk.heap.size wk w') : Bt w b d w' :=
  ⟨h.bel.trans (hw.mono (by have := h.at.2.2; omega))⟩
theorem Bt.first {w w1 : World} {b d : Int} (h : Below (w.alloc (.cells #[.int .i64 b, .int .i64 d] 25)).heap.size (w.alloc (.cells #[.int .i64 b, .int .i64 d] 25)) w1) : Bt w b d w1 := ⟨h.mono (by simp)⟩

theorem has_at {zs : List Int} {t : Nat} (ht : t < zs.length) {y : Int} (e : y = zs.getD t 0) : hasB zs y = true := decide_eq_true ⟨t, ht, e.symm⟩
theorem own_arc {b d : Int} {zs : List Int} (R : Ring b d zs) {x : Int} (x1 : 0 ≤ x) (x2 : x < sz b) : arcB b (prvI zs x) x (ownI zs x) = true := by
  obtain ⟨t, ht, ep, hp⟩ := prv_place R x
  obtain ⟨u, hu, eo, ho⟩ := own_place R x
  have rt := R.rng t ht
  have ru := R.rng u hu
  have l1 := R.l1
  rw [ep, eo]
  unfold arcB
  refine decide_eq_true ?_
  rw [dist_eq rt.1 rt.2 x1 x2, dist_eq rt.1 rt.2 ru.1 ru.2]
  rcases hp with ⟨hb, rfl⟩ | ⟨hb, rfl⟩
  · rcases ho with ⟨h1, rfl⟩ | ⟨h1, rfl⟩
    · have ha := R.above x (blw zs x) (Nat.le_refl _) h1
      rw [hb] at ha ru ⊢
      by_cases hn : zs.length = 1
      · left; rw [hn]
      · right
        have := R.ris 0 (zs.length - 1) (by omega) (by omega)
        refine ⟨by omega, ?_⟩
        split <;> split <;> omega
    · omega
  · have hlo := blw_lt (x := x) (zs := zs) (blw zs x - 1) (by omega)
    rcases ho with ⟨h1, rfl⟩ | ⟨h1, rfl⟩
    · have ha := R.above x (blw zs x) (Nat.le_refl _) h1
      right
      refine ⟨by omega, ?_⟩
      split <;> split <;> omega
    · rw [h1] at hlo rt ⊢
      by_cases hn : zs.length = 1
      · left; rw [hn]
      · right
        have := R.ris 0 (zs.length - 1) (by omega) (by omega)
        refine ⟨by omega, ?_⟩
        split <;> split <;> omega
theorem own_has {b d : Int} {zs : List Int} (R : Ring b d zs) (x : Int) : hasB zs x = (ownI zs x == x) := by
  obtain ⟨u, hu, eo, ho⟩ := own_place R x
  by_cases h : ownI zs x = x
  · rw [beq_iff_eq.2 h]; exact has_at hu (by rw [← eo, h])
  · have : (ownI zs x == x) = false := by simp only [beq_eq_false_iff_ne, ne_eq]; exact h
    rw [this, ← mem_has R]
    refine decide_eq_false (fun g => h ?_)
    rcases ho with ⟨h1, rfl⟩ | ⟨h1, rfl⟩
    · rw [eo]; exact g.2
    · omega
theorem own_nxt {b d : Int} {zs : List Int} (R : Ring b d zs) {x : Int} (h : hasB zs x = false) : nxtI zs x = ownI zs x := by
  rw [← mem_has R] at h
  unfold nxtI ownI uptI
  rw [h]; rfl
def kSum (b : Int) (zs : List Int) (j : Nat) : Int := if j = 0 then 0 else zs.getD (j - 1) 0 - zs.getD (zs.length - 1) 0 + sz b
def gSum (b : Int) (zs : List Int) (j : Nat) : Int := if j < zs.length then zs.getD j 0 - zs.getD 0 0 else sz b
theorem rnd_up {b x y : Int} (x1 : 0 ≤ x) (x2 : x < sz b) (y1 : 0 ≤ y) (y2 : y < sz b) (h : x < y) : rnd b x y = y - x := by
  unfold rnd
  rw [if_neg (by omega), dist_eq x1 x2 y1 y2, if_pos (by omega)]
theorem rnd_round {b x y : Int} (x1 : 0 ≤ x) (x2 : x < sz b) (y1 : 0 ≤ y) (y2 : y < sz b) (h : y ≤ x) : rnd b x y = y - x + sz b := by
  unfold rnd
  by_cases e : x = y
  · rw [if_pos e]; omega
  · rw [if_neg e, dist_eq x1 x2 y1 y2, if_neg (by omega)]
theorem top_le {b d : Int} {zs : List Int} (R : Ring b d zs) {j : Nat} (hj : j < zs.length) : zs.getD j 0 ≤ zs.getD (zs.length - 1) 0 ∧ zs.getD 0 0 ≤ zs.getD j 0 := by
  constructor
  · by_cases h : j = zs.length - 1
    · rw [h]; exact Int.le_refl _
    · have := R.ris j (zs.length - 1) (by omega) (by omega); omega
  · by_cases h : j = 0
    · rw [h]; exact Int.le_refl _
    · have := R.ris 0 j (by omega) hj; omega
theorem kSum_succ {b d : Int} {zs : List Int} (R : Ring b d zs) {j : Nat} (hj : j < zs.length) : kSum b zs (j + 1) = kSum b zs j + rnd b (prvI zs (zs.getD j 0)) (zs.getD j 0) := by
  have l1 := R.l1
  have rj := R.rng j hj
  have rl := R.rng (zs.length - 1) (by omega)
  have tp := (top_le R hj).1
  unfold kSum
  rw [if_neg (by omega), Nat.add_sub_cancel, prv_at R hj]
  rcases mod_back l1 (show j ≤ zs.length by omega) with ⟨h, e⟩ | ⟨h, e⟩
  · rw [if_pos h, e, rnd_round rl.1 rl.2 rj.1 rj.2 tp]; omega
  · have rp := R.rng (j - 1) (by omega)
    rw [if_neg (by omega), e, rnd_up rp.1 rp.2 rj.1 rj.2 (R.ris (j - 1) j (by omega) hj)]; omega
theorem gSum_succ {b d : Int} {zs : List Int} (R : Ring b d zs) {j : Nat} (hj : j < zs.length) : gSum b zs (j + 1) = gSum b zs j + rnd b (zs.getD j 0) (nxtI zs (zs.getD j 0)) := by
  have l1 := R.l1
  have rj := R.rng j hj
  have r0 := R.rng 0 (by omega)
  have tp := (top_le R hj).2
  unfold gSum
  rw [if_pos hj, nxt_at R hj]
  rcases mod_wrap l1 (show j + 1 ≤ zs.length by omega) with ⟨h, e⟩ | ⟨h, e⟩
  · have rp := R.rng (j + 1) h
    rw [if_pos h, e, rnd_up rj.1 rj.2 rp.1 rp.2 (R.ris j (j + 1) (by omega) h)]; omega
  · rw [if_neg (by omega), e, rnd_round rj.1 rj.2 r0.1 r0.2 tp]; omega
theorem kSum_end {b d : Int} {zs : List Int} (R : Ring b d zs) : kSum b zs zs.length = sz b ∧ gSum b zs zs.length = sz b := by
  have l1 := R.l1
  unfold kSum gSum
  rw [if_neg (by omega), if_neg (by omega)]
  exact ⟨by omega, rfl⟩
theorem kSum_bd {b d : Int} {zs : List Int} (R : Ring b d zs) {j : Nat} (hj : j ≤ zs.length) : (0 ≤ kSum b zs j ∧ kSum b zs j ≤ sz b) ∧ 0 ≤ gSum b zs j ∧ gSum b zs j ≤ sz b := by
  have l1 := R.l1
  have r0 := R.rng 0 (by omega)
  have rl := R.rng (zs.length - 1) (by omega)
  unfold kSum gSum
  refine ⟨?_, ?_⟩
  · split
    · omega
    · have rp := R.rng (j - 1) (by omega)
      have tp := top_le R (show j - 1 < zs.length by omega)
      omega
  · split
    · rename_i h
      have rp := R.rng j h
      have tp := top_le R h
      omega
    · omega
end Go.Proofs.Ytejajlloipkkhaa
