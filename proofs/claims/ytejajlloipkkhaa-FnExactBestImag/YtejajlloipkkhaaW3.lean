/- The specification's ideal peers. -/
import Derived.Test.YtejajlloipkkhaaW2
namespace Go.Proofs.Ytejajlloipkkhaa
open Go.RowKit
set_option linter.unusedVariables false
theorem ListP.lower {B B' : Nat} {w : World} {vl : Value} {L : List (Pr × Value)} (h : ListP B w vl L) (hb : B' ≤ B) : ListP B' w vl L :=
  ⟨Joins.ownsRow_le h.own hb, fun i hi => by
    obtain ⟨ab, cb, hv, hc, hm, ho⟩ := h.val i hi
    refine ⟨ab, cb, hv, hc, hm, ?_⟩
    rcases ho with ho | ⟨gb, ha, hl, os⟩
    · exact .inl ho
    · exact .inr ⟨gb, ha, hl, os.mono hb⟩, h.sep⟩
set_option maxHeartbeats 12800000 in
theorem lideal_any (b d : Int) (n : Nat) (a : Option Addr) (cap : Nat) (zs : List Int) (w : World) (R : Ring b d zs) (hr : RowAt w a zs) (hn : n ≤ 3) :
    Calls Try.prog 128 #[.agg #[.int .i64 b, .int .i64 d], .slice a zs.length cap, .int .i64 (n : Int)] w fun e w' => ∃ vl L, e = .returned (.agg #[.int .i64 b, .int .i64 d, vl]) ∧ L.map (·.1) = idealL b d zs n ∧ ListP w.heap.size w' vl L ∧ Below w.heap.size w w' := by
  obtain ⟨i0, hi, hz0, hz1, hz2⟩ := info_parts'
  obtain ⟨i1, hi1, hy0, hy1, hy2⟩ := info_peer'
  obtain ⟨hb1, hb2, hd1, hd2, _⟩ := gsB_true R.gs
  have l2 := R.l2
  have RR : Hid (Ring b d zs) := R
  have HR : Hid (RowAt w a zs) := hr
  clear R hr
  go_enter Try.func128, Try.ntmps128
  go_wp2_with fail
  go_loopw [17] (fun vi wr => ∃ (k : Nat) (vl : Value) (L : List (Pr × Value)), k ≤ zs.length ∧ vi = .int .i64 k ∧ Hid (IdSt w wr #[.int .i64 b, .int .i64 d] 25 b d vl L) ∧ Hid (L.map (·.1) = (zs.take k).map (idlP b d zs n))) (fun vi _ => zs.length - (intOf vi).toNat)
  case atStart => exact ⟨0, _, [], Nat.zero_le _, rfl, idSt0 w _ _ b d, by simp [Hid]⟩
  case round =>
    obtain ⟨k, vl, L, hk, rfl, ST, HL⟩ := hrel
    by_cases hlt : k < zs.length
    · obtain ⟨bk, off, rfl⟩ := rowAt_form HR.out (by omega)
      have hc1 := (rowAt_cell (HR.out.keep ST.out.bel) (by omega)).2 k hlt
      obtain ⟨x1, x2⟩ := RR.out.rng k hlt
      have HT : Hid ((zs.take (k + 1)).map (idlP b d zs n) = (zs.take k).map (idlP b d zs n) ++ [idlP b d zs n (zs.getD k 0)]) := by
        unfold Hid
        rw [List.take_succ_eq_append_getElem hlt, List.map_append]
        simp [List.getD_eq_getElem?_getD, hlt]
      generalize zs.getD k 0 = x at hc1 x1 x2 HT
      have HP : Hid (0 ≤ pntI b d zs x ∧ pntI b d zs x < sz b) := dwn_rng RR.out (shf_bd d x 0 hb1 hb2).1 (shf_bd d x 0 hb1 hb2).2
      go_upto_region 5 with (fail)
      go_cut [10] (fun v10 wc => ∃ X, v10 = .pointer (some ⟨X, 0, none⟩) ∧ Hid (XSt w wc #[.int .i64 b, .int .i64 d] 25 b d vl L X x (nxtI zs x) (pntI b d zs x)))
      case first =>
        have sta := ST.out.keep ((Below.refl _ _).drew)
        have xsa := (xSt_new (x := 0) (y := 0) (z := 0) ST.out).keep ((Below.refl _ _).drew)
        have staA := xsa.st
        have hsl := sta.lt
        go_region_held (fun w' => w'.cell? ⟨w.heap.size, 0, none⟩ = some (.int .i64 b) ∧ w'.cell? ⟨w.heap.size, 1, none⟩ = some (.int .i64 d)) (with_reducible (first | exact sta.qq | exact staA.qq | exact stb.qq | exact stb.qqA _ | exact stc.qq | exact stc.qqA _ | exact stc.qq4 (by omega) _ _ _ _)) (first
          | (go_at_call 99; refine (lnext_any b d _ cap zs x _ RR.out (HR.out.keep sta.bel) x1 x2).mono ?_; rintro e wa ⟨rfl, hwa⟩; have stb := sta.keep hwa; have hsb := stb.lt)
          | (go_at_call 99; refine (lnext_any b d _ cap zs x _ RR.out (HR.out.keep staA.bel) x1 x2).mono ?_; rintro e wa ⟨rfl, hwa⟩; have xsb := xsa.keep hwa; have stb := xsb.st; have hsb := stb.lt)
          | (go_at_call 130; have xsb' := xsb; refine (lpoint_any b d _ cap zs x _ RR.out (HR.out.keep stb.bel) x1 x2).mono ?_; rintro e wb ⟨rfl, hwb⟩; have xsc := xsb.keep hwb; have stc := xsc.st; obtain ⟨y0, y1, y2, y3, g0, g1, g2, g3⟩ := xsc.cells; have hlo := xsc.lo)
          | (go_at_call 130; refine (lpoint_any b d _ cap zs x _ RR.out (HR.out.keep stb.bel) x1 x2).mono ?_; rintro e wb ⟨rfl, hwb⟩; have stc := stb.keep hwb)
          | (go_at_call 130; refine (lpoint_any b d _ cap zs x _ RR.out (HR.out.keep (stb.keep (belA _ _)).bel) x1 x2).mono ?_; rintro e wb ⟨rfl, hwb⟩; have xsc := (xSt_new (x := 0) (y := 0) (z := 0) stb).keep hwb; have stc := xsc.st; obtain ⟨y0, y1, y2, y3, g0, g1, g2, g3⟩ := xsc.cells; have hlo := xsc.lo))
        all_goals (go_wp2_with fail; go_meet; first | exact ⟨_, rfl, xSt_new stc⟩ | exact ⟨_, rfl, xsc.put _ _ _⟩)
      case rest =>
        obtain ⟨X, rfl, XS⟩ := hcut
        obtain ⟨al, cl, rfl, hcl⟩ := XS.out.st.l.form
        obtain ⟨y0, y1, y2, y3, g0, g1, g2, g3⟩ := XS.out.cells
        have hX1 := XS.out.lo
        have hX2 := XS.out.hi
        have hLk : L.length = k := by have := congrArg List.length HL.out; simp at this; omega
        have HLK : Hid (L.length = k) := hLk
        clear ST hc1 hLk hcl
        go_wp2_with fail
        go_loopw [11, 12] (fun v11 v12 wi => ∃ (j : Nat) (ab : Option Addr) (cb : Nat), j ≤ n ∧ v12 = .int .i64 j ∧ v11 = .int .i64 (prvN zs (pntI b d zs x) j) ∧ Hid (Away X wc wi) ∧ Hid (wi.heap[X]? = some (.cells #[.int .i64 x, .int .i64 (nxtI zs x), .int .i64 (pntI b d zs x), .slice ab j cb] 101 (0, 0))) ∧ Hid (wi.ownsRow wc.heap.size 3 1 (.slice ab j cb) j ((bckL zs (pntI b d zs x) j).map (Value.int .i64)))) (fun _ v12 _ => n - (intOf v12).toNat)
        case atStart => exact ⟨0, none, 0, Nat.zero_le _, rfl, rfl, Away.refl _ _, XS.out.blk, World.ownsRow_nil _ _ _ _⟩
        case round =>
          obtain ⟨j, ab, cb, hj, rfl, rfl, HA, HX, HO⟩ := hrel
          clear y0 y1 y2 y3 g0 g1 g2 g3
          have HI : Hid (IdSt w wr #[.int .i64 b, .int .i64 d] 25 b d (.slice al L.length cl) L) := XS.out.st.away HA.out hX1 ⟨_, XS.out.blk⟩ XS.out.ne
          have hsz : wc.heap.size ≤ wr.heap.size := HA.out.size
          by_cases hjn : j < n
          · obtain ⟨q0, q1⟩ := HI.out.qq
            obtain ⟨p1, p2⟩ := prvN_rng RR.out HP.out.1 HP.out.2 j
            have HBS : Hid (bckL zs (pntI b d zs x) (j + 1) = bckL zs (pntI b d zs x) j ++ [prvI zs (prvN zs (pntI b d zs x) j)]) := bckL_succ _ _ _
            have HPS : Hid (prvI zs (prvN zs (pntI b d zs x) j) = prvN zs (pntI b d zs x) (j + 1)) := rfl
            have CP := lprev_any b d (some ⟨bk, off, none⟩) cap zs (prvN zs (pntI b d zs x) j) wr RR.out (HR.out.keep HI.out.bel) p1 p2
            go_wp2_with fail
            refine CP.mono ?_
            rintro e w2 ⟨rfl, hw2⟩
            have HA2 : Hid (Away X wc w2) := HA.out.keep hw2
            have HX2 : Hid (w2.heap[X]? = some (.cells #[.int .i64 x, .int .i64 (nxtI zs x), .int .i64 (pntI b d zs x), .slice ab j cb] 101 (0, 0))) := (hw2.block X (by omega)).trans HX.out
            have HO2 : Hid (w2.ownsRow wc.heap.size 3 1 (.slice ab j cb) j ((bckL zs (pntI b d zs x) j).map (Value.int .i64))) := own_blocks HO.out (fun k hk => hw2.block k (HO.out.lt k hk).2)
            have hs2 : wc.heap.size ≤ w2.heap.size := HA2.out.size
            have x3 : w2.cell? ⟨X, 3, none⟩ = some (.slice ab j cb) := (cell_of_row w2 _ _ _ _ _ HX2.out).trans rfl
            clear CP q0 q1 hw2 HI HA HX HO
            generalize prvI zs (prvN zs (pntI b d zs x) j) = pv at HBS HPS
            go_wp2_with (at_builtin; refine wpList_append_own _ rfl (.tmp 43) (.tmp 45) 33 rfl wc.heap.size 3 i0 (.int .i64 0) 1 8 Try.underlying33 hi hz0 hz1 hz2 rfl (by decide) _ _ _ rfl (HO2.out.alloc _) ⟨w2.heap.size, 0, none⟩ 1 1 [.int .i64 pv] rfl rfl (cell_one_new _ _ _) (by simp [Value.oneCell']) (by unfold maxLen; omega) (by omega) (by simp; omega) ?_; intro v5 w5 hown5 hgrow5 _; obtain ⟨g5, cp5, rfl⟩ := Joins.ownsRow_form hown5 (by omega); have HA5 : Hid (Away X wc w5) := (HA2.out.keep (belA _ _)).grown hgrow5 (fun k hk => (HO2.out.lt k hk).1); have HX5 : Hid (w5.heap[X]? = some (.cells #[.int .i64 x, .int .i64 (nxtI zs x), .int .i64 (pntI b d zs x), .slice ab j cb] 101 (0, 0))) := (hgrow5.block X (by simp; omega) (fun he => by have := (HO2.out.lt X he.symm).1; omega)).trans ((heap_alloc_old _ _ (by omega)).trans HX2.out); have x35 : w5.cell? ⟨X, 3, none⟩ = some (.slice ab j cb) := (cell_of_row w5 _ _ _ _ _ HX5.out).trans rfl; have f35 : w5.frozen? ⟨X, 3, none⟩ = false := frozen_of_row w5 _ _ _ _ HX5.out; have HO5 : Hid (w5.ownsRow wc.heap.size 3 1 (.slice (some ⟨g5, 0, none⟩) (j + 1) cp5) (j + 1) ((bckL zs (pntI b d zs x) (j + 1)).map (Value.int .i64))) := (by rw [HBS.out, List.map_append]; exact hown5); clear hown5 hgrow5)
            go_roundw
            case rel => exact ⟨j + 1, _, _, by omega, by go_num, by rw [HPS.out], HA5.out.set 3 _, heap_setCell_same _ _ 3 _ _ _ HX5.out, own_blocks HO5.out (fun k hk => heap_setCell_other _ _ _ _ (by have := (HO5.out.lt k hk).1; simp; omega))⟩
            case measure => simp [intOf]; omega
          · obtain rfl : j = n := by omega
            have x0 : wr.cell? ⟨X, 0, none⟩ = some (.int .i64 x) := (cell_of_row wr _ _ _ _ _ HX.out).trans rfl
            have x1' : wr.cell? ⟨X, 1, none⟩ = some (.int .i64 (nxtI zs x)) := (cell_of_row wr _ _ _ _ _ HX.out).trans rfl
            have x2' : wr.cell? ⟨X, 2, none⟩ = some (.int .i64 (pntI b d zs x)) := (cell_of_row wr _ _ _ _ _ HX.out).trans rfl
            have x3 : wr.cell? ⟨X, 3, none⟩ = some (.slice ab j cb) := (cell_of_row wr _ _ _ _ _ HX.out).trans rfl
            have p2 : wr.cell? ⟨w.heap.size + 1 + 1, 2, none⟩ = some (.slice al L.length cl) := (cell_of_row wr _ _ _ _ _ HI.out.p).trans rfl
            have hsw : w.heap.size + 3 ≤ wr.heap.size := HI.out.lt
            have hLl : L.length ≤ 16 := by have := HLK.out; omega
            have HV : Hid (ValOk wc.heap.size (wr.heap.size + 1) (wr.alloc (.cells #[.int .i64 x, .int .i64 (nxtI zs x), .int .i64 (pntI b d zs x), .slice ab j cb] 101)) (idlP b d zs j x, .slice ab j cb)) := by
              have hl := bckL_len zs (pntI b d zs x) j
              by_cases hj0 : j = 0
              · refine ⟨ab, cb, by show _ = Value.slice ab (bckL zs (pntI b d zs x) j).length cb; rw [hl], ⟨?_, ?_⟩, by show (bckL zs (pntI b d zs x) j).length ≤ _; omega, .inl (List.eq_nil_of_length_eq_zero (by show (bckL zs (pntI b d zs x) j).length = 0; omega))⟩
                · show (bckL zs (pntI b d zs x) j).length ≤ cb
                  omega
                · intro h
                  subst h
                  rcases Joins.ownsRow_forms HO.out with ⟨h1, _⟩ | ⟨g, c, h1⟩
                  · simp at h1; exact h1.2
                  · simp at h1
              · obtain ⟨gb, cb', hvv⟩ := Joins.ownsRow_form HO.out (by omega)
                simp at hvv
                obtain ⟨rfl, rfl⟩ := hvv
                obtain ⟨os, _, hcb⟩ := OwnS.of_owns HO.out
                refine ⟨_, cb, by show _ = Value.slice _ (bckL zs (pntI b d zs x) j).length cb; rw [hl], ⟨by show (bckL zs (pntI b d zs x) j).length ≤ cb; omega, fun h => by cases h⟩, by show (bckL zs (pntI b d zs x) j).length ≤ _; omega, .inr ⟨gb, rfl, by have := os.lt; omega, os.keep (belA _ _)⟩⟩
            have HOW : Hid ((wr.alloc (.cells #[.int .i64 x, .int .i64 (nxtI zs x), .int .i64 (pntI b d zs x), .slice ab j cb] 101)).ownsRow (w.heap.size + 3) 101 4 (.slice al L.length cl) L.length (flatP L)) := HI.out.l.own.alloc _
            go_wp2_with (at_builtin; refine wpList_append_own _ rfl (.tmp 49) (.tmp 51) 26 rfl (w.heap.size + 3) 101 i1 _ 4 48 Try.underlying26 hi1 hy0 hy1 hy2 rfl (by decide) _ _ _ rfl HOW.out ⟨wr.heap.size, 0, none⟩ 1 1 [.int .i64 x, .int .i64 (nxtI zs x), .int .i64 (pntI b d zs x), .slice ab j cb] rfl rfl (cell_four_new _ _ _ _ _ _) (by simp [Value.oneCell']) (by unfold maxLen; omega) (by omega) (by simp; omega) ?_; intro v6 w6 hown6 hgrow6 _; obtain ⟨g6, cp6, rfl⟩ := Joins.ownsRow_form hown6 (by omega); have ST6 : Hid (IdSt w (w6.setCell ⟨w.heap.size + 1 + 1, 2, none⟩ (.slice (some ⟨g6, 0, none⟩) (L.length + 1) cp6)) #[.int .i64 b, .int .i64 d] 25 b d (.slice (some ⟨g6, 0, none⟩) (L.length + 1) cp6) (L ++ [(idlP b d zs j x, .slice ab j cb)])) := IdSt.grow2 (e := (idlP b d zs j x, .slice ab j cb)) XS.out.st (HI.out.keep (belA _ _)) hgrow6 hown6 (HV.out.wide (by simp)); have HP6 : Hid (w6.heap[w.heap.size + 1 + 1]? = some (.cells #[.int .i64 b, .int .i64 d, .slice al L.length cl] 28 (0, 0))) := (hgrow6.block _ (by simp; omega) (fun he => by have := (HOW.out.lt _ he.symm).1; omega)).trans ((heap_alloc_old _ _ (by omega)).trans HI.out.p); have p26 : w6.cell? ⟨w.heap.size + 1 + 1, 2, none⟩ = some (.slice al L.length cl) := (cell_of_row w6 _ _ _ _ _ HP6.out).trans rfl; have f26 : w6.frozen? ⟨w.heap.size + 1 + 1, 2, none⟩ = false := frozen_of_row w6 _ _ _ _ HP6.out; clear hown6 hgrow6)
            go_roundw
            case rel => exact ⟨k + 1, _, _, by omega, by go_num, ST6, by unfold Hid; rw [List.map_append, HL.out, HT.out]; rfl⟩
            case measure => simp [intOf]; omega
    · obtain ⟨al, cl, rfl, _⟩ := ST.out.l.form
      have p0 : wr.cell? ⟨w.heap.size + 1 + 1, 0, none⟩ = some (.int .i64 b) := (cell_of_row wr _ _ _ _ _ ST.out.p).trans rfl
      have p1 : wr.cell? ⟨w.heap.size + 1 + 1, 1, none⟩ = some (.int .i64 d) := (cell_of_row wr _ _ _ _ _ ST.out.p).trans rfl
      have p2 : wr.cell? ⟨w.heap.size + 1 + 1, 2, none⟩ = some (.slice al L.length cl) := (cell_of_row wr _ _ _ _ _ ST.out.p).trans rfl
      have r0 : wr.cell? ⟨w.heap.size + 1, 0, none⟩ = some (.int .i64 0) := (cell_of_row wr _ _ _ _ _ ST.out.r).trans rfl
      have r1 : wr.cell? ⟨w.heap.size + 1, 1, none⟩ = some (.int .i64 0) := (cell_of_row wr _ _ _ _ _ ST.out.r).trans rfl
      have r2 : wr.cell? ⟨w.heap.size + 1, 2, none⟩ = some (.slice none 0 0) := (cell_of_row wr _ _ _ _ _ ST.out.r).trans rfl
      have q0 : wr.frozen? ⟨w.heap.size + 1, 0, none⟩ = false := frozen_of_row wr _ _ _ _ ST.out.r
      have q1 : wr.frozen? ⟨w.heap.size + 1, 1, none⟩ = false := frozen_of_row wr _ _ _ _ ST.out.r
      have q2 : wr.frozen? ⟨w.heap.size + 1, 2, none⟩ = false := frozen_of_row wr _ _ _ _ ST.out.r
      go_wp2
      have HE : ∀ v : Value, Hid ((((wr.setCell ⟨w.heap.size + 1, 0, none⟩ (.int .i64 b)).setCell ⟨w.heap.size + 1, 1, none⟩ (.int .i64 d)).setCell ⟨w.heap.size + 1, 2, none⟩ v).heap[w.heap.size + 1]? = some (.cells #[.int .i64 b, .int .i64 d, v] 28 (0, 0))) := fun v =>
        heap_setCell_same _ _ 2 _ _ _ (heap_setCell_same _ _ 1 _ _ _ (heap_setCell_same _ _ 0 _ _ _ ST.out.r))
      refine bodyPost_ret (results_cell_row Try.results128 _ _ (w.heap.size + 1) _ _ _ _ rfl (HE _).out Try.underlying28 rfl (by kernel_rfl)) rfl ⟨_, L, rfl, ?_, ?_, ?_⟩
      · have := HL.out
        rwa [List.take_of_length_le (by omega)] at this
      · refine (ListP.lower (B' := w.heap.size) (ST.out.l.blocks (w1 := (((wr.setCell ⟨w.heap.size + 1, 0, none⟩ (.int .i64 b)).setCell ⟨w.heap.size + 1, 1, none⟩ (.int .i64 d)).setCell ⟨w.heap.size + 1, 2, none⟩ (.slice al L.length cl))) (by simp [World.setCell]) (fun k hk _ => ?_)) (by omega))
        rw [heap_setCell_other _ _ _ _ (by simp; omega), heap_setCell_other _ _ _ _ (by simp; omega), heap_setCell_other _ _ _ _ (by simp; omega)]
      · exact ((ST.out.bel.setCell (p := ⟨w.heap.size + 1, 0, none⟩) (by simp) _).setCell (p := ⟨w.heap.size + 1, 1, none⟩) (by simp) _).setCell (p := ⟨w.heap.size + 1, 2, none⟩) (by simp) _
end Go.Proofs.Ytejajlloipkkhaa
