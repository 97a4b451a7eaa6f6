/- The program's SetPoint. -/
import Derived.Test.YtgmdbihdnacpjaaX6
namespace Go.Proofs.Ytgmdbihdnacpjaa
open Go.RowKit Go.Deep
set_option linter.unusedVariables false
/-- the argument's box, the answer's box, the box of peers at X, their list at G -/
structure SPS (w wr : World) (S0 : Array Value) (T0 : TypeId) (b d : Int) (X G n c : Nat) (L : List (Pr × Value)) : Prop where
  rb : RB w wr S0 T0
  lo : w.heap.size + 2 ≤ X
  p : wr.heap[X]? = some (.cells #[.int .i64 b, .int .i64 d, .slice (some ⟨G, 0, none⟩) n c] 28 (0, 0))
  ow : OwnP (w.heap.size + 2) wr.heap.size wr G L
theorem SPS.hi {w wr : World} {S0 : Array Value} {T0 : TypeId} {b d : Int} {X G n c : Nat} {L : List (Pr × Value)} (h : SPS w wr S0 T0 b d X G n c L) : X < wr.heap.size := (Array.getElem?_eq_some_iff.1 h.p).1
theorem SPS.ne {w wr : World} {S0 : Array Value} {T0 : TypeId} {b d : Int} {X G n c : Nat} {L : List (Pr × Value)} (h : SPS w wr S0 T0 b d X G n c L) : ¬ X = G := fun he => by
  obtain ⟨cur, hc⟩ := h.ow.blk
  have hp := h.p
  rw [he, hc] at hp
  simp at hp
theorem SPS.keep {w wr w1 : World} {S0 : Array Value} {T0 : TypeId} {b d : Int} {X G n c : Nat} {L : List (Pr × Value)} (h : SPS w wr S0 T0 b d X G n c L) (hb : Below wr.heap.size wr w1) : SPS w w1 S0 T0 b d X G n c L :=
  ⟨h.rb.keep hb, h.lo, (hb.block X h.hi).trans h.p, (h.ow.keep hb).wide hb.size⟩
theorem SPS.put {w wr : World} {S0 : Array Value} {T0 : TypeId} {b d : Int} {X G n c : Nat} {L L' : List (Pr × Value)} {j : Nat} {v : Value} (h : SPS w wr S0 T0 b d X G n c L) (ho : OwnP (w.heap.size + 2) wr.heap.size (wr.setCell ⟨G, j, none⟩ v) G L') : SPS w (wr.setCell ⟨G, j, none⟩ v) S0 T0 b d X G n c L' := by
  have hlo := h.ow.lo
  refine ⟨h.rb.blocks (h.rb.bel.setCell (p := ⟨G, j, none⟩) (by simp; omega) _) (by simp [World.setCell]) (fun k hk => heap_setCell_other _ _ _ _ (by simp; omega)), h.lo, (heap_setCell_other _ _ _ _ (by simpa using h.ne)).trans h.p, ?_⟩
  rw [heap_size_setCell]
  exact ho
theorem SPS.num {w wr : World} {S0 : Array Value} {T0 : TypeId} {b d : Int} {X G n c : Nat} {L : List (Pr × Value)} (h : SPS w wr S0 T0 b d X G n c L) {i : Nat} (hi : i < L.length) (f : Nat) (hf : f < 3) (z : Int) :
    SPS w (wr.setCell ⟨G, i * 4 + f, none⟩ (.int .i64 z)) S0 T0 b d X G n c (L.set i (setF f (L.getD i d0).1 z, (L.getD i d0).2)) := h.put (h.ow.num hi f hf z)
theorem SPS.backs {w wr w1 : World} {S0 : Array Value} {T0 : TypeId} {b d : Int} {X G n c : Nat} {L : List (Pr × Value)} (h : SPS w wr S0 T0 b d X G n c L) (hb : Below wr.heap.size wr w1) {i : Nat} (hi : i < L.length) {bs : List Int} {gb cb : Nat} (hm : bs.length ≤ 1048576) (hcb : bs.length ≤ cb) (os : OwnS wr.heap.size w1 gb bs) :
    SPS w (w1.setCell ⟨G, i * 4 + 3, none⟩ (.slice (some ⟨gb, 0, none⟩) bs.length cb)) S0 T0 b d X G n c (L.set i (⟨(L.getD i d0).1.id, (L.getD i d0).1.succ, (L.getD i d0).1.point, bs⟩, .slice (some ⟨gb, 0, none⟩) bs.length cb)) :=
  (h.keep hb).put (h.ow.backs rfl hb hi hm hcb os)
theorem SPS.cell {w wr : World} {S0 : Array Value} {T0 : TypeId} {b d : Int} {X G n c : Nat} {L : List (Pr × Value)} (h : SPS w wr S0 T0 b d X G n c L) : wr.cell? ⟨X, 0, none⟩ = some (.int .i64 b) ∧ wr.cell? ⟨X, 1, none⟩ = some (.int .i64 d) ∧ wr.cell? ⟨X, 2, none⟩ = some (.slice (some ⟨G, 0, none⟩) n c) :=
  ⟨(cell_of_row wr _ _ _ _ _ h.p).trans rfl, (cell_of_row wr _ _ _ _ _ h.p).trans rfl, (cell_of_row wr _ _ _ _ _ h.p).trans rfl⟩
theorem SPS.at {w wr : World} {S0 : Array Value} {T0 : TypeId} {b d : Int} {X G n c : Nat} {L : List (Pr × Value)} (h : SPS w wr S0 T0 b d X G n c L) (j : Nat) : wr.frozen? ⟨G, j, none⟩ = false := by
  obtain ⟨cur, hc⟩ := h.ow.blk
  exact frozen_of_row wr _ _ _ _ hc
theorem sps0 {w wa : World} {S0 : Array Value} {T0 : TypeId} {B : Nat} {b d : Int} {G n c : Nat} {L : List (Pr × Value)} (h : RB w wa S0 T0) (ow : OwnP B wa.heap.size wa G L) (hB : w.heap.size + 2 ≤ B) :
    SPS w (wa.alloc (.cells #[.int .i64 b, .int .i64 d, .slice (some ⟨G, 0, none⟩) n c] 28)) S0 T0 b d wa.heap.size G n c L := by
  refine ⟨h.keep (belA _ _), h.lt, heap_alloc_new _ _, ?_⟩
  exact ((ow.keep (belA _ _)).wide (by simp)).mono hB
theorem sp_map {b d : Int} {ps : List Pr} {L : List (Pr × Value)} {x pt : Int} {bs : List Int} {v : Value} {q : Pr} (R : Ring b d (idsP ps)) (hx : memI (idsP ps) x = true) (hL : L.map (·.1) = ps)
    (hq : q = ⟨(L.getD (blw (idsP ps) x) d0).1.id, (L.getD (blw (idsP ps) x) d0).1.succ, pt, bs⟩) : (L.set (blw (idsP ps) x) (q, v)).map (·.1) = spL ps x pt bs := by
  have hl : L.length = ps.length := by rw [← hL, List.length_map]
  have hlg : ∀ i, i < ps.length → (L.getD i d0).1 = ps.getD i pr0 := fun i hi => by
    rw [← hL]
    simp [List.getD_eq_getElem?_getD, List.getElem?_eq_getElem (show i < L.length by omega)]
  refine map_getD (by rw [List.length_set, spL_len, hl]) (fun j hj => ?_)
  rw [spL_len] at hj
  have hj' : j < (idsP ps).length := by rw [idsP_len]; exact hj
  have h1 := blw_one R hx hj'
  rw [idsP_get] at h1
  rw [getD_set (by omega), spL_get hj]
  by_cases he : blw (idsP ps) x = j
  · rw [if_pos he, if_pos (h1.2 he.symm), hq, he, hlg j hj]
  · rw [if_neg he, if_neg (fun h => he (h1.1 h).symm), hlg j hj]
theorem spOk_false {b d : Int} {ps : List Pr} {x pt : Int} {bs : List Int} (h : goodP b d ps = false ∨ memI (idsP ps) x = false ∨ memI (idsP ps) pt = false ∨ bokB (idsP ps) bs = false) : spOk b d ps x pt bs = false := by
  unfold spOk
  rcases h with h | h | h | h <;> rw [h] <;> simp

set_option maxRecDepth 100000 in
set_option maxHeartbeats 6400000 in
theorem SetPoint_any (b d : Int) (a : Option Addr) (cap : Nat) (ps : List Pr) (x pt : Int) (ab : Option Addr) (cb : Nat) (bs : List Int) (w : World) (hm : ps.length ≤ 1048576) (hr : PeersAt w a ps) (hmb : bs.length ≤ 1048576) (hrb : RowAt w ab bs) :
    Calls Try.prog 13 #[.agg #[.int .i64 b, .int .i64 d, .slice a ps.length cap], .int .i64 x, .int .i64 pt, .slice ab bs.length cb] w fun e w' => ∃ v, e = .returned v ∧ Below w.heap.size w w' ∧
      ((spOk b d ps x pt bs = false ∧ v = .tuple #[.agg #[.int .i64 0, .int .i64 0, .slice none 0 0], .bool false]) ∨ (spOk b d ps x pt bs = true ∧ ∃ g L, v = .tuple #[.agg #[.int .i64 b, .int .i64 d, .slice (some ⟨g, 0, none⟩) ps.length ps.length], .bool true] ∧ L.map (·.1) = spL ps x pt bs ∧ OwnP w.heap.size w'.heap.size w' g L)) := by
  have rb := rb0 w #[.int .i64 b, .int .i64 d, .slice a ps.length cap] 28
  have CG := GoodPeers_any b d a cap ps _ hm (hr.keep rb.bel)
  have HR : Hid (PeersAt w a ps) := hr
  have HRB : Hid (RowAt w ab bs) := hrb
  have RB0 : Hid (RB w _ #[.int .i64 b, .int .i64 d, .slice a ps.length cap] 28) := rb
  have hil := idsP_len ps
  clear hr rb hrb
  cases hg : goodP b d ps
  · have hv : Hid (spOk b d ps x pt bs = false) := spOk_false (.inl hg)
    rw [hg] at CG
    go_enter Try.func13, Try.ntmps13
    go_wp2_with fail
    refine CG.mono ?_
    rintro e w1 ⟨rfl, hw1⟩
    have RB1 : Hid (RB w w1 #[.int .i64 b, .int .i64 d, .slice a ps.length cap] 28) := RB0.out.keep hw1
    clear CG hw1
    obtain ⟨r0, r1, r2, q0, q1, q2⟩ := RB1.out.cells
    go_wp2
    refine bodyPost_ret (results_cell_tmp Try.results13 _ _ (w.heap.size + 1) _ _ _ _ _ rfl rfl (set3_row RB1.out.r) Try.underlying28 rfl (by kernel_rfl)) rfl ⟨_, rfl, set3_below RB1.out.bel (by omega), .inl ⟨hv.out, rfl⟩⟩
  · rw [hg] at CG
    obtain ⟨R, hp⟩ := goodP_true hg
    have l1 : 1 ≤ ps.length := by have := R.l1; rwa [idsP_len] at this
    have l2 : ps.length ≤ 16 := by have := R.l2; rwa [idsP_len] at this
    have RR : Hid (Ring b d (idsP ps)) := R
    have HB3 : Hid (∀ i, i < ps.length → (ps.getD i pr0).backs.length ≤ 3) := fun i hi => (prB_parts.1 (hp i hi)).2.2.1
    clear R hp
    cases hx : memI (idsP ps) x
    ·
      have hv : Hid (spOk b d ps x pt bs = false) := spOk_false (.inr (.inl hx))
      have CMx : ∀ g w1, RowAt w1 (some ⟨g, 0, none⟩) (idsP ps) → Calls Try.prog 45 #[.slice (some ⟨g, 0, none⟩) ps.length ps.length, .int .i64 x] w1 fun e w' => e = .returned (.bool false) ∧ w' = w1 := fun g w1 h => by
        have := isMember_any (some ⟨g, 0, none⟩) ps.length (idsP ps) x w1 (by rw [hil]; unfold maxLen; omega) h
        rwa [hil, hx] at this
      go_enter Try.func13, Try.ntmps13
      go_wp2_with fail
      refine CG.mono ?_
      rintro e w1 ⟨rfl, hw1⟩
      have RB1 : Hid (RB w w1 #[.int .i64 b, .int .i64 d, .slice a ps.length cap] 28) := RB0.out.keep hw1
      clear CG hw1
      obtain ⟨s0, s1, s2⟩ := RB1.out.arg3
      have hlt1 := RB1.out.lt
      go_wp2_with fail
      refine (idsOf_any w.heap.size a cap ps w1 hm (by omega) s2 (HR.out.keep RB1.out.bel)).mono ?_
      rintro e w2 ⟨rfl, ow2⟩
      have RB2 : Hid (RB w w2 #[.int .i64 b, .int .i64 d, .slice a ps.length cap] 28) := RB1.out.keep ow2.bel
      have ROW : Hid (RowAt w2 (some ⟨w1.heap.size, 0, none⟩) (idsP ps)) := rowAt_of_row ow2.row
      have HZ2 : Hid (w1.heap.size < w2.heap.size) := ow2.lt
      clear s0 s1 s2 ow2
      have Cx := CMx _ w2 ROW.out
      go_wp2_with fail
      refine Cx.mono ?_
      rintro e wz0 ⟨rfl, he0⟩
      have he0 := he0.symm
      subst he0
      obtain ⟨r0, r1, r2, q0, q1, q2⟩ := RB2.out.cells
      go_wp2
      refine bodyPost_ret (results_cell_tmp Try.results13 _ _ (w.heap.size + 1) _ _ _ _ _ rfl rfl (set3_row RB2.out.r) Try.underlying28 rfl (by kernel_rfl)) rfl ⟨_, rfl, set3_below RB2.out.bel (by omega), .inl ⟨hv.out, rfl⟩⟩
    ·
      cases hpt : memI (idsP ps) pt
      ·
        have hv : Hid (spOk b d ps x pt bs = false) := spOk_false (.inr (.inr (.inl hpt)))
        have CMx : ∀ g w1, RowAt w1 (some ⟨g, 0, none⟩) (idsP ps) → Calls Try.prog 45 #[.slice (some ⟨g, 0, none⟩) ps.length ps.length, .int .i64 x] w1 fun e w' => e = .returned (.bool true) ∧ w' = w1 := fun g w1 h => by
          have := isMember_any (some ⟨g, 0, none⟩) ps.length (idsP ps) x w1 (by rw [hil]; unfold maxLen; omega) h
          rwa [hil, hx] at this
        have CMp : ∀ g w1, RowAt w1 (some ⟨g, 0, none⟩) (idsP ps) → Calls Try.prog 45 #[.slice (some ⟨g, 0, none⟩) ps.length ps.length, .int .i64 pt] w1 fun e w' => e = .returned (.bool false) ∧ w' = w1 := fun g w1 h => by
          have := isMember_any (some ⟨g, 0, none⟩) ps.length (idsP ps) pt w1 (by rw [hil]; unfold maxLen; omega) h
          rwa [hil, hpt] at this
        go_enter Try.func13, Try.ntmps13
        go_wp2_with fail
        refine CG.mono ?_
        rintro e w1 ⟨rfl, hw1⟩
        have RB1 : Hid (RB w w1 #[.int .i64 b, .int .i64 d, .slice a ps.length cap] 28) := RB0.out.keep hw1
        clear CG hw1
        obtain ⟨s0, s1, s2⟩ := RB1.out.arg3
        have hlt1 := RB1.out.lt
        go_wp2_with fail
        refine (idsOf_any w.heap.size a cap ps w1 hm (by omega) s2 (HR.out.keep RB1.out.bel)).mono ?_
        rintro e w2 ⟨rfl, ow2⟩
        have RB2 : Hid (RB w w2 #[.int .i64 b, .int .i64 d, .slice a ps.length cap] 28) := RB1.out.keep ow2.bel
        have ROW : Hid (RowAt w2 (some ⟨w1.heap.size, 0, none⟩) (idsP ps)) := rowAt_of_row ow2.row
        have HZ2 : Hid (w1.heap.size < w2.heap.size) := ow2.lt
        clear s0 s1 s2 ow2
        have Cx := CMx _ w2 ROW.out
        go_wp2_with fail
        refine Cx.mono ?_
        rintro e wz0 ⟨rfl, he0⟩
        have he0 := he0.symm
        subst he0
        have Cp := CMp _ w2 ROW.out
        go_wp2_with fail
        refine Cp.mono ?_
        rintro e wz1 ⟨rfl, he1⟩
        have he1 := he1.symm
        subst he1
        obtain ⟨r0, r1, r2, q0, q1, q2⟩ := RB2.out.cells
        go_wp2
        refine bodyPost_ret (results_cell_tmp Try.results13 _ _ (w.heap.size + 1) _ _ _ _ _ rfl rfl (set3_row RB2.out.r) Try.underlying28 rfl (by kernel_rfl)) rfl ⟨_, rfl, set3_below RB2.out.bel (by omega), .inl ⟨hv.out, rfl⟩⟩
      ·
        cases hbk : bokB (idsP ps) bs
        ·
          have hv : Hid (spOk b d ps x pt bs = false) := spOk_false (.inr (.inr (.inr hbk)))
          have CMx : ∀ g w1, RowAt w1 (some ⟨g, 0, none⟩) (idsP ps) → Calls Try.prog 45 #[.slice (some ⟨g, 0, none⟩) ps.length ps.length, .int .i64 x] w1 fun e w' => e = .returned (.bool true) ∧ w' = w1 := fun g w1 h => by
            have := isMember_any (some ⟨g, 0, none⟩) ps.length (idsP ps) x w1 (by rw [hil]; unfold maxLen; omega) h
            rwa [hil, hx] at this
          have CMp : ∀ g w1, RowAt w1 (some ⟨g, 0, none⟩) (idsP ps) → Calls Try.prog 45 #[.slice (some ⟨g, 0, none⟩) ps.length ps.length, .int .i64 pt] w1 fun e w' => e = .returned (.bool true) ∧ w' = w1 := fun g w1 h => by
            have := isMember_any (some ⟨g, 0, none⟩) ps.length (idsP ps) pt w1 (by rw [hil]; unfold maxLen; omega) h
            rwa [hil, hpt] at this
          have CMb : ∀ g w1, RowAt w1 (some ⟨g, 0, none⟩) (idsP ps) → RowAt w1 ab bs → Calls Try.prog 46 #[.slice (some ⟨g, 0, none⟩) ps.length ps.length, .slice ab bs.length cb] w1 fun e w' => e = .returned (.bool false) ∧ w' = w1 := fun g w1 h h' => by
            have := areBacks_any (some ⟨g, 0, none⟩) ab ps.length cb (idsP ps) bs w1 (by rw [hil]; unfold maxLen; omega) (by unfold maxLen; omega) h h'
            rwa [hil, hbk] at this
          go_enter Try.func13, Try.ntmps13
          go_wp2_with fail
          refine CG.mono ?_
          rintro e w1 ⟨rfl, hw1⟩
          have RB1 : Hid (RB w w1 #[.int .i64 b, .int .i64 d, .slice a ps.length cap] 28) := RB0.out.keep hw1
          clear CG hw1
          obtain ⟨s0, s1, s2⟩ := RB1.out.arg3
          have hlt1 := RB1.out.lt
          go_wp2_with fail
          refine (idsOf_any w.heap.size a cap ps w1 hm (by omega) s2 (HR.out.keep RB1.out.bel)).mono ?_
          rintro e w2 ⟨rfl, ow2⟩
          have RB2 : Hid (RB w w2 #[.int .i64 b, .int .i64 d, .slice a ps.length cap] 28) := RB1.out.keep ow2.bel
          have ROW : Hid (RowAt w2 (some ⟨w1.heap.size, 0, none⟩) (idsP ps)) := rowAt_of_row ow2.row
          have HZ2 : Hid (w1.heap.size < w2.heap.size) := ow2.lt
          clear s0 s1 s2 ow2
          have Cx := CMx _ w2 ROW.out
          go_wp2_with fail
          refine Cx.mono ?_
          rintro e wz0 ⟨rfl, he0⟩
          have he0 := he0.symm
          subst he0
          have Cp := CMp _ w2 ROW.out
          go_wp2_with fail
          refine Cp.mono ?_
          rintro e wz1 ⟨rfl, he1⟩
          have he1 := he1.symm
          subst he1
          have Cb := CMb _ w2 ROW.out (HRB.out.keep RB2.out.bel)
          go_wp2_with fail
          refine Cb.mono ?_
          rintro e wz2 ⟨rfl, he2⟩
          have he2 := he2.symm
          subst he2
          obtain ⟨r0, r1, r2, q0, q1, q2⟩ := RB2.out.cells
          go_wp2
          refine bodyPost_ret (results_cell_tmp Try.results13 _ _ (w.heap.size + 1) _ _ _ _ _ rfl rfl (set3_row RB2.out.r) Try.underlying28 rfl (by kernel_rfl)) rfl ⟨_, rfl, set3_below RB2.out.bel (by omega), .inl ⟨hv.out, rfl⟩⟩
        ·
          have hv : Hid (spOk b d ps x pt bs = true) := by unfold Hid spOk; rw [hg, hx, hpt, hbk]; rfl
          have CMx : ∀ g w1, RowAt w1 (some ⟨g, 0, none⟩) (idsP ps) → Calls Try.prog 45 #[.slice (some ⟨g, 0, none⟩) ps.length ps.length, .int .i64 x] w1 fun e w' => e = .returned (.bool true) ∧ w' = w1 := fun g w1 h => by
            have := isMember_any (some ⟨g, 0, none⟩) ps.length (idsP ps) x w1 (by rw [hil]; unfold maxLen; omega) h
            rwa [hil, hx] at this
          have CMp : ∀ g w1, RowAt w1 (some ⟨g, 0, none⟩) (idsP ps) → Calls Try.prog 45 #[.slice (some ⟨g, 0, none⟩) ps.length ps.length, .int .i64 pt] w1 fun e w' => e = .returned (.bool true) ∧ w' = w1 := fun g w1 h => by
            have := isMember_any (some ⟨g, 0, none⟩) ps.length (idsP ps) pt w1 (by rw [hil]; unfold maxLen; omega) h
            rwa [hil, hpt] at this
          have CMb : ∀ g w1, RowAt w1 (some ⟨g, 0, none⟩) (idsP ps) → RowAt w1 ab bs → Calls Try.prog 46 #[.slice (some ⟨g, 0, none⟩) ps.length ps.length, .slice ab bs.length cb] w1 fun e w' => e = .returned (.bool true) ∧ w' = w1 := fun g w1 h h' => by
            have := areBacks_any (some ⟨g, 0, none⟩) ab ps.length cb (idsP ps) bs w1 (by rw [hil]; unfold maxLen; omega) (by unfold maxLen; omega) h h'
            rwa [hil, hbk] at this
          go_enter Try.func13, Try.ntmps13
          go_wp2_with fail
          refine CG.mono ?_
          rintro e w1 ⟨rfl, hw1⟩
          have RB1 : Hid (RB w w1 #[.int .i64 b, .int .i64 d, .slice a ps.length cap] 28) := RB0.out.keep hw1
          clear CG hw1
          obtain ⟨s0, s1, s2⟩ := RB1.out.arg3
          have hlt1 := RB1.out.lt
          go_wp2_with fail
          refine (idsOf_any w.heap.size a cap ps w1 hm (by omega) s2 (HR.out.keep RB1.out.bel)).mono ?_
          rintro e w2 ⟨rfl, ow2⟩
          have RB2 : Hid (RB w w2 #[.int .i64 b, .int .i64 d, .slice a ps.length cap] 28) := RB1.out.keep ow2.bel
          have ROW : Hid (RowAt w2 (some ⟨w1.heap.size, 0, none⟩) (idsP ps)) := rowAt_of_row ow2.row
          have HZ2 : Hid (w1.heap.size < w2.heap.size) := ow2.lt
          clear s0 s1 s2 ow2
          have Cx := CMx _ w2 ROW.out
          go_wp2_with fail
          refine Cx.mono ?_
          rintro e wz0 ⟨rfl, he0⟩
          have he0 := he0.symm
          subst he0
          have Cp := CMp _ w2 ROW.out
          go_wp2_with fail
          refine Cp.mono ?_
          rintro e wz1 ⟨rfl, he1⟩
          have he1 := he1.symm
          subst he1
          have Cb := CMb _ w2 ROW.out (HRB.out.keep RB2.out.bel)
          go_wp2_with fail
          refine Cb.mono ?_
          rintro e wz2 ⟨rfl, he2⟩
          have he2 := he2.symm
          subst he2
          clear CMx CMp CMb Cx Cp Cb
          obtain ⟨s0, s1, s2⟩ := RB2.out.arg3
          have hlt2 := RB2.out.lt
          have CC := copyPeers_any w.heap.size b d a cap ps w2 (by omega) l2 HB3.out (by omega) s0 s1 s2 (HR.out.keep RB2.out.bel)
          clear s0 s1 s2
          go_wp2_with fail
          refine CC.mono ?_
          rintro e w3 ⟨G, L, rfl, hL, ow3, hw3⟩
          have RB3 : Hid (RB w w3 #[.int .i64 b, .int .i64 d, .slice a ps.length cap] 28) := RB2.out.keep hw3
          have S3 := sps0 (b := b) (d := d) (n := ps.length) (c := ps.length) RB3.out ow3 (by omega)
          have S4 : Hid _ := S3
          have ROW4 : Hid (RowAt (w3.alloc (.cells #[.int .i64 b, .int .i64 d, .slice (some ⟨G, 0, none⟩) ps.length ps.length] 28)) (some ⟨w1.heap.size, 0, none⟩) (idsP ps)) := (ROW.out.keep hw3).alloc _
          have HL : Hid (L.map (·.1) = ps) := hL
          have hLl : L.length = ps.length := by rw [← hL, List.length_map]
          have HLL : Hid (L.length = ps.length) := hLl
          clear CC S3 hL hLl ow3 hw3 ROW RB3 HZ2 RB1
          have hlt3 := S4.out.rb.lt
          obtain ⟨x0, x1, x2⟩ := S4.out.cell
          have hX4 := S4.out.hi
          go_wp2_with fail
          obtain ⟨w4, hw4⟩ : ∃ w4, w4 = w3.alloc (.cells #[.int .i64 b, .int .i64 d, .slice (some ⟨G, 0, none⟩) ps.length ps.length] 28) := ⟨_, rfl⟩
          obtain ⟨X, hX⟩ : ∃ X, X = w3.heap.size := ⟨_, rfl⟩
          rw [← hw4, ← hX] at S4 x2 hX4
          rw [← hw4] at ROW4 hlt3
          rw [← hw4, ← hX]
          clear hw4 hX x0 x1
          have z2 : ∀ k : Kin w4.heap.size w4, k.v.cell? ⟨X, 2, none⟩ = some (.slice (some ⟨G, 0, none⟩) ps.length ps.length) := kin_cell hX4 x2
          have CK : ∀ w5, Below w4.heap.size w4 w5 → Calls Try.prog 48 #[.slice (some ⟨w1.heap.size, 0, none⟩) ps.length ps.length, .int .i64 x] w5 fun e w' => e = .returned (.int .i64 (blw (idsP ps) x)) ∧ w' = w5 := fun w5 h => by
            have := below_any (some ⟨w1.heap.size, 0, none⟩) ps.length (idsP ps) x w5 (by rw [hil]; unfold maxLen; omega) (ROW4.out.keep h)
            rwa [hil] at this
          have hkb : blw (idsP ps) x < ps.length := by have := (of_decide_eq_true hx).1; rwa [hil] at this
          have HXM : Hid (memI (idsP ps) x = true) := hx
          clear hx x2
          obtain ⟨k, hkk⟩ : ∃ k, k = blw (idsP ps) x := ⟨_, rfl⟩
          rw [← hkk] at CK hkb
          have HK : Hid (k = blw (idsP ps) x) := hkk
          clear hkk
          refine region_kin w4.heap.size (by kernel_rfl) (by kernel_rfl) (fun hne => ?_)
          repeat (go_big_quiet_step ((go_at_call 48; exact kin_same (CK _ (Kin.bel _)))))
          refine wpQuiet_nil ?_
          intro w5 hw'
          obtain ⟨⟨w6, hw5⟩, hw''⟩ := hw'
          obtain rfl : w5 = w6 := hw''
          have S5 : Hid (SPS w w5 #[.int .i64 b, .int .i64 d, .slice a ps.length cap] 28 b d X G ps.length ps.length L) := S4.out.keep hw5
          clear z2 hne S4 CK hw5 ROW4 hX4 hlt3
          have hkL : k < L.length := by rw [HLL.out]; exact hkb
          obtain ⟨_, _, c2, _⟩ := S5.out.ow.cel k hkL
          have f2 := S5.out.at (k * 4 + 2)
          have S6 : Hid _ := S5.out.num hkL 2 (by omega) pt
          have RB5 := S6.out.rb.bel
          generalize (L.getD k d0).1.point = o2 at c2
          go_wp2_with fail
          refine (copyList_any ab cb bs _ hmb (HRB.out.keep RB5)).mono ?_
          rintro e w7 ⟨rfl, ow7⟩
          have hk6 : k < (L.set k (setF 2 (L.getD k d0).1 pt, (L.getD k d0).2)).length := by rw [List.length_set]; exact hkL
          have S70 := S6.out.keep ow7.bel
          have S71 := S6.out.backs ow7.bel hk6 hmb (Nat.le_refl _) ow7.owns
          rw [getD_same hkL, List.set_set] at S71
          have S7 : Hid _ := S71
          obtain ⟨_, _, _, c3⟩ := S70.ow.cel k hk6
          have f3 := S70.at (k * 4 + 3)
          simp only [heap_size_setCell] at S7 c3 f3
          generalize ((L.set k (setF 2 (L.getD k d0).1 pt, (L.getD k d0).2)).getD k d0).2 = o3 at c3
          have HMAP : Hid (List.map (·.1) (L.set k (⟨(setF 2 (L.getD k d0).1 pt).id, (setF 2 (L.getD k d0).1 pt).succ, (setF 2 (L.getD k d0).1 pt).point, bs⟩, .slice (some ⟨w5.heap.size, 0, none⟩) bs.length bs.length)) = spL ps x pt bs) := by
            unfold Hid
            rw [HK.out]
            exact sp_map RR.out HXM.out HL.out rfl
          generalize L.set k (⟨(setF 2 (L.getD k d0).1 pt).id, (setF 2 (L.getD k d0).1 pt).succ, (setF 2 (L.getD k d0).1 pt).point, bs⟩, .slice (some ⟨w5.heap.size, 0, none⟩) bs.length bs.length) = L2 at S7 HMAP
          obtain ⟨x0, x1, x2⟩ := S7.out.cell
          obtain ⟨r0, r1, r2, q0, q1, q2⟩ := S7.out.rb.cells
          obtain ⟨y0, y1, y2⟩ := S70.cell
          obtain ⟨t0, t1, t2, p0, p1, p2⟩ := S70.rb.cells
          have hlo := S7.out.lo
          have hG := S7.out.ow.lo
          have hne := S7.out.ne
          clear S70 S71 S6 S5 ow7 RB5
          have OW : Hid (OwnP w.heap.size (set3 (w7.setCell ⟨G, k * 4 + 3, none⟩ (.slice (some ⟨w5.heap.size, 0, none⟩) bs.length bs.length)) (w.heap.size + 1) (.int .i64 b) (.int .i64 d) (.slice (some ⟨G, 0, none⟩) ps.length ps.length)).heap.size (set3 (w7.setCell ⟨G, k * 4 + 3, none⟩ (.slice (some ⟨w5.heap.size, 0, none⟩) bs.length bs.length)) (w.heap.size + 1) (.int .i64 b) (.int .i64 d) (.slice (some ⟨G, 0, none⟩) ps.length ps.length)) G L2) := by
            unfold Hid
            rw [set3_size]
            exact (S7.out.ow.blocks (fun k hk _ _ => set3_block (by omega))).mono (by omega)
          go_wp2
          refine bodyPost_ret (results_cell_tmp Try.results13 _ _ (w.heap.size + 1) _ _ _ _ _ rfl rfl (set3_row S7.out.rb.r) Try.underlying28 rfl (by kernel_rfl)) rfl ⟨_, rfl, set3_below S7.out.rb.bel (by omega), .inr ⟨hv.out, G, L2, rfl, HMAP.out, OW.out⟩⟩
end Go.Proofs.Ytgmdbihdnacpjaa
