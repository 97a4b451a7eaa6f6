/- The specification's ideal peers. The specification's sameness of peers. The specification's IsIdeal. The program's good peers. Ways through the ring: what a walk, a step and a route are, in numbers. Ways through the ring: each forward brings the end nearer. Ways through the ring: with forwards enough the owner is found, and never another one. Ways through the ring: the best number to begin with. The row of a number's digits: what rowOf answers. DigitsOf on both sides: the digits, the highest first, in new memory. The best number to begin with, on both sides. BestImag on both sides. GoodPeers, in the program. The specification's copy of peers. What the laws over peers share: the specification's GoodPeers; two boxes read. Peers of one's own: a pointer is set; backs are set. A struct and a bool are answered; one number of a peer is written; the specification's IdealPeers. Structs in blocks of their own: read, written cell by cell, written whole, answered. Ways through the ring: the small helpers of both sides. DigitsOf of the program: the row of digits, copied into new memory. -/
import Derived.Laws.Rows
import Derived.Laws.Tables
import Derived.Laws.CopyOwn
import Derived.Deep.DeepCutAuto
import Derived.Laws.AppendOwnNone
import Derived.Test.YtejajlloipkkhaaZ0
import Derived.Test.YtejajlloipkkhaaZ1
namespace Go.Proofs.Ytejajlloipkkhaa
open Go.RowKit
set_option linter.unusedVariables false
theorem ListP.lower {B B' : Nat} {w : World} {vl : Value} {L : List (Pr × Value)} (h : ListP B w vl L) (hb : B' ≤ B) : ListP B' w vl L :=
  ⟨Joins.ownsRow_le h.own hb, fun i hi => by
    obtain ⟨ab, cb, hv, hc, hm, ho⟩ := h.val i hi
    refine ⟨ab, cb, hv, hc, hm, ?_⟩
    rcases ho with ho | ⟨gb, ha, hl, os⟩
    · exact .inl ho
    · exact .inr ⟨gb, ha, hl, os.mono hb⟩, h.sep⟩
set_option maxHeartbeats 12800000 in
theorem lideal_any (b d : Int) (n : Nat) (a : Option Addr) (cap : Nat) (zs : List Int) (w : World) (R : Ring b d zs) (hr : RowAt w a zs) (hn : n ≤ 3) :
    Calls Try.prog 128 #[.agg #[.int .i64 b, .int .i64 d], .slice a zs.length cap, .int .i64 (n : Int)] w fun e w' => ∃ vl L, e = .returned (.agg #[.int .i64 b, .int .i64 d, vl]) ∧ L.map (·.1) = idealL b d zs n ∧ ListP w.heap.size w' vl L ∧ Below w.heap.size w w' := by
  obtain ⟨i0, hi, hz0, hz1, hz2⟩ := info_parts'
  obtain ⟨i1, hi1, hy0, hy1, hy2⟩ := info_peer'
  obtain ⟨hb1, hb2, hd1, hd2, _⟩ := gsB_true R.gs
  have l2 := R.l2
  have RR : Hid (Ring b d zs) := R
  have HR : Hid (RowAt w a zs) := hr
  clear R hr
  go_enter Try.func128, Try.ntmps128
  go_wp2_with fail
  go_loopw [17] (fun vi wr => ∃ (k : Nat) (vl : Value) (L : List (Pr × Value)), k ≤ zs.length ∧ vi = .int .i64 k ∧ Hid (IdSt w wr #[.int .i64 b, .int .i64 d] 25 b d vl L) ∧ Hid (L.map (·.1) = (zs.take k).map (idlP b d zs n))) (fun vi _ => zs.length - (intOf vi).toNat)
  case atStart => exact ⟨0, _, [], Nat.zero_le _, rfl, idSt0 w _ _ b d, by simp [Hid]⟩
  case round =>
    obtain ⟨k, vl, L, hk, rfl, ST, HL⟩ := hrel
    by_cases hlt : k < zs.length
    · obtain ⟨bk, off, rfl⟩ := rowAt_form HR.out (by omega)
      have hc1 := (rowAt_cell (HR.out.keep ST.out.bel) (by omega)).2 k hlt
      obtain ⟨x1, x2⟩ := RR.out.rng k hlt
      have HT : Hid ((zs.take (k + 1)).map (idlP b d zs n) = (zs.take k).map (idlP b d zs n) ++ [idlP b d zs n (zs.getD k 0)]) := by
        unfold Hid
        rw [List.take_succ_eq_append_getElem hlt, List.map_append]
        simp [List.getD_eq_getElem?_getD, hlt]
      generalize zs.getD k 0 = x at hc1 x1 x2 HT
      have HP : Hid (0 ≤ pntI b d zs x ∧ pntI b d zs x < sz b) := dwn_rng RR.out (shf_bd d x 0 hb1 hb2).1 (shf_bd d x 0 hb1 hb2).2
      go_upto_region 5 with (fail)
      go_cut [10] (fun v10 wc => ∃ X, v10 = .pointer (some ⟨X, 0, none⟩) ∧ Hid (XSt w wc #[.int .i64 b, .int .i64 d] 25 b d vl L X x (nxtI zs x) (pntI b d zs x)))
      case first =>
        have sta := ST.out.keep ((Below.refl _ _).drew)
        have xsa := (xSt_new (x := 0) (y := 0) (z := 0) ST.out).keep ((Below.refl _ _).drew)
        have staA := xsa.st
        have hsl := sta.lt
        go_region_held (fun w' => w'.cell? ⟨w.heap.size, 0, none⟩ = some (.int .i64 b) ∧ w'.cell? ⟨w.heap.size, 1, none⟩ = some (.int .i64 d)) (with_reducible (first | exact sta.qq | exact staA.qq | exact stb.qq | exact stb.qqA _ | exact stc.qq | exact stc.qqA _ | exact stc.qq4 (by omega) _ _ _ _)) (first
          | (go_at_call 99; refine (lnext_any b d _ cap zs x _ RR.out (HR.out.keep sta.bel) x1 x2).mono ?_; rintro e wa ⟨rfl, hwa⟩; have stb := sta.keep hwa; have hsb := stb.lt)
          | (go_at_call 99; refine (lnext_any b d _ cap zs x _ RR.out (HR.out.keep staA.bel) x1 x2).mono ?_; rintro e wa ⟨rfl, hwa⟩; have xsb := xsa.keep hwa; have stb := xsb.st; have hsb := stb.lt)
          | (go_at_call 130; have xsb' := xsb; refine (lpoint_any b d _ cap zs x _ RR.out (HR.out.keep stb.bel) x1 x2).mono ?_; rintro e wb ⟨rfl, hwb⟩; have xsc := xsb.keep hwb; have stc := xsc.st; obtain ⟨y0, y1, y2, y3, g0, g1, g2, g3⟩ := xsc.cells; have hlo := xsc.lo)
          | (go_at_call 130; refine (lpoint_any b d _ cap zs x _ RR.out (HR.out.keep stb.bel) x1 x2).mono ?_; rintro e wb ⟨rfl, hwb⟩; have stc := stb.keep hwb)
          | (go_at_call 130; refine (lpoint_any b d _ cap zs x _ RR.out (HR.out.keep (stb.keep (belA _ _)).bel) x1 x2).mono ?_; rintro e wb ⟨rfl, hwb⟩; have xsc := (xSt_new (x := 0) (y := 0) (z := 0) stb).keep hwb; have stc := xsc.st; obtain ⟨y0, y1, y2, y3, g0, g1, g2, g3⟩ := xsc.cells; have hlo := xsc.lo))
        all_goals (go_wp2_with fail; go_meet; first | exact ⟨_, rfl, xSt_new stc⟩ | exact ⟨_, rfl, xsc.put _ _ _⟩)
      case rest =>
        obtain ⟨X, rfl, XS⟩ := hcut
        obtain ⟨al, cl, rfl, hcl⟩ := XS.out.st.l.form
        obtain ⟨y0, y1, y2, y3, g0, g1, g2, g3⟩ := XS.out.cells
        have hX1 := XS.out.lo
        have hX2 := XS.out.hi
        have hLk : L.length = k := by have := congrArg List.length HL.out; simp at this; omega
        have HLK : Hid (L.length = k) := hLk
        clear ST hc1 hLk hcl
        go_wp2_with fail
        go_loopw [11, 12] (fun v11 v12 wi => ∃ (j : Nat) (ab : Option Addr) (cb : Nat), j ≤ n ∧ v12 = .int .i64 j ∧ v11 = .int .i64 (prvN zs (pntI b d zs x) j) ∧ Hid (Away X wc wi) ∧ Hid (wi.heap[X]? = some (.cells #[.int .i64 x, .int .i64 (nxtI zs x), .int .i64 (pntI b d zs x), .slice ab j cb] 101 (0, 0))) ∧ Hid (wi.ownsRow wc.heap.size 3 1 (.slice ab j cb) j ((bckL zs (pntI b d zs x) j).map (Value.int .i64)))) (fun _ v12 _ => n - (intOf v12).toNat)
        case atStart => exact ⟨0, none, 0, Nat.zero_le _, rfl, rfl, Away.refl _ _, XS.out.blk, World.ownsRow_nil _ _ _ _⟩
        case round =>
          obtain ⟨j, ab, cb, hj, rfl, rfl, HA, HX, HO⟩ := hrel
          clear y0 y1 y2 y3 g0 g1 g2 g3
          have HI : Hid (IdSt w wr #[.int .i64 b, .int .i64 d] 25 b d (.slice al L.length cl) L) := XS.out.st.away HA.out hX1 ⟨_, XS.out.blk⟩ XS.out.ne
          have hsz : wc.heap.size ≤ wr.heap.size := HA.out.size
          by_cases hjn : j < n
          · obtain ⟨q0, q1⟩ := HI.out.qq
            obtain ⟨p1, p2⟩ := prvN_rng RR.out HP.out.1 HP.out.2 j
            have HBS : Hid (bckL zs (pntI b d zs x) (j + 1) = bckL zs (pntI b d zs x) j ++ [prvI zs (prvN zs (pntI b d zs x) j)]) := bckL_succ _ _ _
            have HPS : Hid (prvI zs (prvN zs (pntI b d zs x) j) = prvN zs (pntI b d zs x) (j + 1)) := rfl
            have CP := lprev_any b d (some ⟨bk, off, none⟩) cap zs (prvN zs (pntI b d zs x) j) wr RR.out (HR.out.keep HI.out.bel) p1 p2
            go_wp2_with fail
            refine CP.mono ?_
            rintro e w2 ⟨rfl, hw2⟩
            have HA2 : Hid (Away X wc w2) := HA.out.keep hw2
            have HX2 : Hid (w2.heap[X]? = some (.cells #[.int .i64 x, .int .i64 (nxtI zs x), .int .i64 (pntI b d zs x), .slice ab j cb] 101 (0, 0))) := (hw2.block X (by omega)).trans HX.out
            have HO2 : Hid (w2.ownsRow wc.heap.size 3 1 (.slice ab j cb) j ((bckL zs (pntI b d zs x) j).map (Value.int .i64))) := own_blocks HO.out (fun k hk => hw2.block k (HO.out.lt k hk).2)
            have hs2 : wc.heap.size ≤ w2.heap.size := HA2.out.size
            have x3 : w2.cell? ⟨X, 3, none⟩ = some (.slice ab j cb) := (cell_of_row w2 _ _ _ _ _ HX2.out).trans rfl
            clear CP q0 q1 hw2 HI HA HX HO
            generalize prvI zs (prvN zs (pntI b d zs x) j) = pv at HBS HPS
            go_wp2_with (at_builtin; refine wpList_append_own _ rfl (.tmp 43) (.tmp 45) 33 rfl wc.heap.size 3 i0 (.int .i64 0) 1 8 Try.underlying33 hi hz0 hz1 hz2 rfl (by decide) _ _ _ rfl (HO2.out.alloc _) ⟨w2.heap.size, 0, none⟩ 1 1 [.int .i64 pv] rfl rfl (cell_one_new _ _ _) (by simp [Value.oneCell']) (by unfold maxLen; omega) (by omega) (by simp; omega) ?_; intro v5 w5 hown5 hgrow5 _; obtain ⟨g5, cp5, rfl⟩ := Joins.ownsRow_form hown5 (by omega); have HA5 : Hid (Away X wc w5) := (HA2.out.keep (belA _ _)).grown hgrow5 (fun k hk => (HO2.out.lt k hk).1); have HX5 : Hid (w5.heap[X]? = some (.cells #[.int .i64 x, .int .i64 (nxtI zs x), .int .i64 (pntI b d zs x), .slice ab j cb] 101 (0, 0))) := (hgrow5.block X (by simp; omega) (fun he => by have := (HO2.out.lt X he.symm).1; omega)).trans ((heap_alloc_old _ _ (by omega)).trans HX2.out); have x35 : w5.cell? ⟨X, 3, none⟩ = some (.slice ab j cb) := (cell_of_row w5 _ _ _ _ _ HX5.out).trans rfl; have f35 : w5.frozen? ⟨X, 3, none⟩ = false := frozen_of_row w5 _ _ _ _ HX5.out; have HO5 : Hid (w5.ownsRow wc.heap.size 3 1 (.slice (some ⟨g5, 0, none⟩) (j + 1) cp5) (j + 1) ((bckL zs (pntI b d zs x) (j + 1)).map (Value.int .i64))) := (by rw [HBS.out, List.map_append]; exact hown5); clear hown5 hgrow5)
            go_roundw
            case rel => exact ⟨j + 1, _, _, by omega, by go_num, by rw [HPS.out], HA5.out.set 3 _, heap_setCell_same _ _ 3 _ _ _ HX5.out, own_blocks HO5.out (fun k hk => heap_setCell_other _ _ _ _ (by have := (HO5.out.lt k hk).1; simp; omega))⟩
            case measure => simp [intOf]; omega
          · obtain rfl : j = n := by omega
            have x0 : wr.cell? ⟨X, 0, none⟩ = some (.int .i64 x) := (cell_of_row wr _ _ _ _ _ HX.out).trans rfl
            have x1' : wr.cell? ⟨X, 1, none⟩ = some (.int .i64 (nxtI zs x)) := (cell_of_row wr _ _ _ _ _ HX.out).trans rfl
            have x2' : wr.cell? ⟨X, 2, none⟩ = some (.int .i64 (pntI b d zs x)) := (cell_of_row wr _ _ _ _ _ HX.out).trans rfl
            have x3 : wr.cell? ⟨X, 3, none⟩ = some (.slice ab j cb) := (cell_of_row wr _ _ _ _ _ HX.out).trans rfl
            have p2 : wr.cell? ⟨w.heap.size + 1 + 1, 2, none⟩ = some (.slice al L.length cl) := (cell_of_row wr _ _ _ _ _ HI.out.p).trans rfl
            have hsw : w.heap.size + 3 ≤ wr.heap.size := HI.out.lt
            have hLl : L.length ≤ 16 := by have := HLK.out; omega
            have HV : Hid (ValOk wc.heap.size (wr.heap.size + 1) (wr.alloc (.cells #[.int .i64 x, .int .i64 (nxtI zs x), .int .i64 (pntI b d zs x), .slice ab j cb] 101)) (idlP b d zs j x, .slice ab j cb)) := by
              have hl := bckL_len zs (pntI b d zs x) j
              by_cases hj0 : j = 0
              · refine ⟨ab, cb, by show _ = Value.slice ab (bckL zs (pntI b d zs x) j).length cb; rw [hl], ⟨?_, ?_⟩, by show (bckL zs (pntI b d zs x) j).length ≤ _; omega, .inl (List.eq_nil_of_length_eq_zero (by show (bckL zs (pntI b d zs x) j).length = 0; omega))⟩
                · show (bckL zs (pntI b d zs x) j).length ≤ cb
                  omega
                · intro h
                  subst h
                  rcases Joins.ownsRow_forms HO.out with ⟨h1, _⟩ | ⟨g, c, h1⟩
                  · simp at h1; exact h1.2
                  · simp at h1
              · obtain ⟨gb, cb', hvv⟩ := Joins.ownsRow_form HO.out (by omega)
                simp at hvv
                obtain ⟨rfl, rfl⟩ := hvv
                obtain ⟨os, _, hcb⟩ := OwnS.of_owns HO.out
                refine ⟨_, cb, by show _ = Value.slice _ (bckL zs (pntI b d zs x) j).length cb; rw [hl], ⟨by show (bckL zs (pntI b d zs x) j).length ≤ cb; omega, fun h => by cases h⟩, by show (bckL zs (pntI b d zs x) j).length ≤ _; omega, .inr ⟨gb, rfl, by have := os.lt; omega, os.keep (belA _ _)⟩⟩
            have HOW : Hid ((wr.alloc (.cells #[.int .i64 x, .int .i64 (nxtI zs x), .int .i64 (pntI b d zs x), .slice ab j cb] 101)).ownsRow (w.heap.size + 3) 101 4 (.slice al L.length cl) L.length (flatP L)) := HI.out.l.own.alloc _
            go_wp2_with (at_builtin; refine wpList_append_own _ rfl (.tmp 49) (.tmp 51) 26 rfl (w.heap.size + 3) 101 i1 _ 4 48 Try.underlying26 hi1 hy0 hy1 hy2 rfl (by decide) _ _ _ rfl HOW.out ⟨wr.heap.size, 0, none⟩ 1 1 [.int .i64 x, .int .i64 (nxtI zs x), .int .i64 (pntI b d zs x), .slice ab j cb] rfl rfl (cell_four_new _ _ _ _ _ _) (by simp [Value.oneCell']) (by unfold maxLen; omega) (by omega) (by simp; omega) ?_; intro v6 w6 hown6 hgrow6 _; obtain ⟨g6, cp6, rfl⟩ := Joins.ownsRow_form hown6 (by omega); have ST6 : Hid (IdSt w (w6.setCell ⟨w.heap.size + 1 + 1, 2, none⟩ (.slice (some ⟨g6, 0, none⟩) (L.length + 1) cp6)) #[.int .i64 b, .int .i64 d] 25 b d (.slice (some ⟨g6, 0, none⟩) (L.length + 1) cp6) (L ++ [(idlP b d zs j x, .slice ab j cb)])) := IdSt.grow2 (e := (idlP b d zs j x, .slice ab j cb)) XS.out.st (HI.out.keep (belA _ _)) hgrow6 hown6 (HV.out.wide (by simp)); have HP6 : Hid (w6.heap[w.heap.size + 1 + 1]? = some (.cells #[.int .i64 b, .int .i64 d, .slice al L.length cl] 28 (0, 0))) := (hgrow6.block _ (by simp; omega) (fun he => by have := (HOW.out.lt _ he.symm).1; omega)).trans ((heap_alloc_old _ _ (by omega)).trans HI.out.p); have p26 : w6.cell? ⟨w.heap.size + 1 + 1, 2, none⟩ = some (.slice al L.length cl) := (cell_of_row w6 _ _ _ _ _ HP6.out).trans rfl; have f26 : w6.frozen? ⟨w.heap.size + 1 + 1, 2, none⟩ = false := frozen_of_row w6 _ _ _ _ HP6.out; clear hown6 hgrow6)
            go_roundw
            case rel => exact ⟨k + 1, _, _, by omega, by go_num, ST6, by unfold Hid; rw [List.map_append, HL.out, HT.out]; rfl⟩
            case measure => simp [intOf]; omega
    · obtain ⟨al, cl, rfl, _⟩ := ST.out.l.form
      have p0 : wr.cell? ⟨w.heap.size + 1 + 1, 0, none⟩ = some (.int .i64 b) := (cell_of_row wr _ _ _ _ _ ST.out.p).trans rfl
      have p1 : wr.cell? ⟨w.heap.size + 1 + 1, 1, none⟩ = some (.int .i64 d) := (cell_of_row wr _ _ _ _ _ ST.out.p).trans rfl
      have p2 : wr.cell? ⟨w.heap.size + 1 + 1, 2, none⟩ = some (.slice al L.length cl) := (cell_of_row wr _ _ _ _ _ ST.out.p).trans rfl
      have r0 : wr.cell? ⟨w.heap.size + 1, 0, none⟩ = some (.int .i64 0) := (cell_of_row wr _ _ _ _ _ ST.out.r).trans rfl
      have r1 : wr.cell? ⟨w.heap.size + 1, 1, none⟩ = some (.int .i64 0) := (cell_of_row wr _ _ _ _ _ ST.out.r).trans rfl
      have r2 : wr.cell? ⟨w.heap.size + 1, 2, none⟩ = some (.slice none 0 0) := (cell_of_row wr _ _ _ _ _ ST.out.r).trans rfl
      have q0 : wr.frozen? ⟨w.heap.size + 1, 0, none⟩ = false := frozen_of_row wr _ _ _ _ ST.out.r
      have q1 : wr.frozen? ⟨w.heap.size + 1, 1, none⟩ = false := frozen_of_row wr _ _ _ _ ST.out.r
      have q2 : wr.frozen? ⟨w.heap.size + 1, 2, none⟩ = false := frozen_of_row wr _ _ _ _ ST.out.r
      go_wp2
      have HE : ∀ v : Value, Hid ((((wr.setCell ⟨w.heap.size + 1, 0, none⟩ (.int .i64 b)).setCell ⟨w.heap.size + 1, 1, none⟩ (.int .i64 d)).setCell ⟨w.heap.size + 1, 2, none⟩ v).heap[w.heap.size + 1]? = some (.cells #[.int .i64 b, .int .i64 d, v] 28 (0, 0))) := fun v =>
        heap_setCell_same _ _ 2 _ _ _ (heap_setCell_same _ _ 1 _ _ _ (heap_setCell_same _ _ 0 _ _ _ ST.out.r))
      refine bodyPost_ret (results_cell_row Try.results128 _ _ (w.heap.size + 1) _ _ _ _ rfl (HE _).out Try.underlying28 rfl (by kernel_rfl)) rfl ⟨_, L, rfl, ?_, ?_, ?_⟩
      · have := HL.out
        rwa [List.take_of_length_le (by omega)] at this
      · refine (ListP.lower (B' := w.heap.size) (ST.out.l.blocks (w1 := (((wr.setCell ⟨w.heap.size + 1, 0, none⟩ (.int .i64 b)).setCell ⟨w.heap.size + 1, 1, none⟩ (.int .i64 d)).setCell ⟨w.heap.size + 1, 2, none⟩ (.slice al L.length cl))) (by simp [World.setCell]) (fun k hk _ => ?_)) (by omega))
        rw [heap_setCell_other _ _ _ _ (by simp; omega), heap_setCell_other _ _ _ _ (by simp; omega), heap_setCell_other _ _ _ _ (by simp; omega)]
      · exact ((ST.out.bel.setCell (p := ⟨w.heap.size + 1, 0, none⟩) (by simp) _).setCell (p := ⟨w.heap.size + 1, 1, none⟩) (by simp) _).setCell (p := ⟨w.heap.size + 1, 2, none⟩) (by simp) _
end Go.Proofs.Ytejajlloipkkhaa
namespace Go.Proofs.Ytejajlloipkkhaa
open Go.RowKit
set_option linter.unusedVariables false
def smP (p q : Pr) : Bool := decide (p.id = q.id ∧ p.succ = q.succ ∧ p.point = q.point) && sameB p.backs q.backs
def sameP (ps qs : List Pr) : Bool := decide (ps.length = qs.length) && decide (∀ i, i < ps.length → smP (ps.getD i pr0) (qs.getD i pr0) = true)
theorem smP_parts {p q : Pr} : smP p q = true ↔ p.id = q.id ∧ p.succ = q.succ ∧ p.point = q.point ∧ sameB p.backs q.backs = true := by
  unfold smP
  simp only [Bool.and_eq_true, decide_eq_true_eq, and_assoc]
theorem sameP_no {ps qs : List Pr} {k : Nat} (hk : k < ps.length) (h : ¬ smP (ps.getD k pr0) (qs.getD k pr0) = true) : sameP ps qs = false := by
  unfold sameP
  rw [decide_eq_false (p := ∀ i, i < ps.length → smP (ps.getD i pr0) (qs.getD i pr0) = true) (fun hh => h (hh k hk)), Bool.and_false]
theorem sameP_yes {ps qs : List Pr} (hl : ps.length = qs.length) (h : ∀ i, i < ps.length → smP (ps.getD i pr0) (qs.getD i pr0) = true) : sameP ps qs = true := by
  unfold sameP
  rw [decide_eq_true hl, decide_eq_true h]; rfl
end Go.Proofs.Ytejajlloipkkhaa
namespace Go.Proofs.Ytejajlloipkkhaa
open Go.RowKit
set_option linter.unusedVariables false
theorem goodP_true {b d : Int} {ps : List Pr} (h : goodP b d ps = true) : Ring b d (idsP ps) ∧ ∀ i, i < ps.length → prB (idsP ps) (ps.getD i pr0) = true := by
  unfold goodP at h
  rw [Bool.and_eq_true] at h
  exact ⟨ringB_true h.1, of_decide_eq_true h.2⟩
def idlB (b d : Int) (ps : List Pr) : Bool := goodP b d ps && sameP ps (idealL b d (idsP ps) (ps.getD 0 pr0).backs.length)
structure ISt (w wr : World) (b d : Int) (bk off n cap : Nat) (v : Value) : Prop where
  bx : BxP w wr b d (.slice (some ⟨bk, off, none⟩) n cap)
  lt : bk < wr.heap.size
  c3 : wr.cell? ⟨bk, off + 3, none⟩ = some v
theorem ISt.keep {w wr w1 : World} {b d : Int} {bk off n cap : Nat} {v : Value} (h : ISt w wr b d bk off n cap v) (hb : Below wr.heap.size wr w1) : ISt w w1 b d bk off n cap v :=
  ⟨h.bx.keep hb, Nat.lt_of_lt_of_le h.lt hb.size, (hb.cell (p := ⟨bk, off + 3, none⟩) h.lt).trans h.c3⟩
theorem ISt.qq {w wr : World} {b d : Int} {bk off n cap : Nat} {v : Value} (h : ISt w wr b d bk off n cap v) : wr.cell? ⟨w.heap.size, 0, none⟩ = some (.int .i64 b) ∧ wr.cell? ⟨w.heap.size, 1, none⟩ = some (.int .i64 d) ∧ wr.cell? ⟨w.heap.size, 2, none⟩ = some (.slice (some ⟨bk, off, none⟩) n cap) ∧ wr.cell? ⟨bk, off + 3, none⟩ = some v := ⟨h.bx.c0, h.bx.c1, h.bx.c2, h.c3⟩
end Go.Proofs.Ytejajlloipkkhaa
namespace Go.Proofs.Ytejajlloipkkhaa
open Go.RowKit
set_option linter.unusedVariables false

set_option maxHeartbeats 1600000 in
theorem idsOf_any (q : Nat) (a : Option Addr) (cap : Nat) (ps : List Pr) (w : World) (hm : ps.length ≤ 1048576) (hq : q < w.heap.size) (c2 : w.cell? ⟨q, 2, none⟩ = some (.slice a ps.length cap)) (hr : PeersAt w a ps) :
    Calls Try.prog 57 #[.pointer (some ⟨q, 0, none⟩)] w fun e w' => e = .returned (.slice (some ⟨w.heap.size, 0, none⟩) ps.length ps.length) ∧ OwnZ w w' w.heap.size (idsP ps) := by
  have hmk := make_ints ps.length hm
  have hil := idsP_len ps
  have HR : Hid (PeersAt w a ps) := hr
  clear hr
  have hc20 : (w.alloc (.cells (zv (List.replicate ps.length 0)) 3)).cell? ⟨q, 2, none⟩ = some (.slice a ps.length cap) := (cell_alloc_old' _ hq trivial).trans c2
  go_enter Try.func57, Try.ntmps57
  go_wp2_with fail
  clear hmk
  have st0 : OwnZ w (w.alloc (.cells (zv (List.replicate ps.length 0)) 3)) w.heap.size (cop (idsP ps) 0) :=
    ⟨(Below.refl _ _).alloc (Nat.le_refl _) _, Nat.le_refl _, by rw [cop_none, hil]; exact heap_alloc_new _ _⟩
  go_loopw [16] (fun vi wr => ∃ k : Nat, k ≤ ps.length ∧ vi = .int .i64 k ∧ OwnZ w wr w.heap.size (cop (idsP ps) k)) (fun vi _ => ps.length - (intOf vi).toNat)
  case atStart => exact ⟨0, Nat.zero_le _, rfl, st0⟩
  case round =>
    obtain ⟨k, hk, rfl, st⟩ := hrel
    clear st0 hc20
    have hc2 : wr.cell? ⟨q, 2, none⟩ = some (.slice a ps.length cap) := (st.bel.cell (p := ⟨q, 2, none⟩) hq).trans c2
    by_cases hlt : k < ps.length
    · obtain ⟨bk, off, rfl⟩ := peersAt_form HR.out (by omega)
      obtain ⟨c0, _, _, _⟩ := (peersAt_cell (HR.out.keep st.bel) (by omega)).2 k hlt
      obtain ⟨r0, r1⟩ := st.at k (by rw [cop_len (by omega)]; omega)
      have st2 := st.put k ((idsP ps).getD k 0)
      rw [cop_set (by omega)] at st2
      rw [← idsP_get] at c0
      clear st
      generalize (idsP ps).getD k 0 = x0 at c0 st2
      generalize (cop (idsP ps) k).getD k 0 = y at r0
      go_wp2
      go_roundw
      case rel => exact ⟨k + 1, by omega, by go_num, st2⟩
      case measure => simp [intOf]; omega
    · have hkl : k = (idsP ps).length := by omega
      rw [hkl, cop_all] at st
      go_wp2
      go_ret
      exact ⟨rfl, st⟩

def bokB (zs bs : List Int) : Bool := decide (bs.length ≤ 3) && decide (∀ i, i < bs.length → memI zs (bs.getD i 0) = true)
theorem bokB_yes {zs bs : List Int} (h3 : bs.length ≤ 3) (h : ∀ i, i < bs.length → memI zs (bs.getD i 0) = true) : bokB zs bs = true := by
  unfold bokB; rw [decide_eq_true h3, decide_eq_true h]; rfl
theorem bokB_no {zs bs : List Int} {k : Nat} (hk : k < bs.length) (h : memI zs (bs.getD k 0) = false) : bokB zs bs = false := by
  unfold bokB
  rw [decide_eq_false (p := ∀ i, i < bs.length → memI zs (bs.getD i 0) = true) (fun g => by rw [g k hk] at h; cases h), Bool.and_false]
set_option maxHeartbeats 1600000 in
theorem areBacks_any (a ab : Option Addr) (cap cb : Nat) (zs bs : List Int) (w : World) (hm : zs.length ≤ maxLen) (hmb : bs.length ≤ maxLen) (hr : RowAt w a zs) (hrb : RowAt w ab bs) :
    Calls Try.prog 121 #[.slice a zs.length cap, .slice ab bs.length cb] w fun e w' => e = .returned (.bool (bokB zs bs)) ∧ w' = w := by
  have HR : Hid (RowAt w a zs) := hr
  have HRB : Hid (RowAt w ab bs) := hrb
  have HM : Hid (zs.length ≤ maxLen) := hm
  clear hr hrb hm
  unfold maxLen at hmb
  by_cases h3 : bs.length ≤ 3
  · go_enter Try.func121, Try.ntmps121
    go_wp2_with fail
    go_loop [12] (fun v => ∃ j : Nat, j ≤ bs.length ∧ v = .int .i64 j ∧ Hid (∀ i, i < j → memI zs (bs.getD i 0) = true)) (fun v => bs.length - (intOf v).toNat)
    case atStart => exact ⟨0, Nat.zero_le _, rfl, fun i hi => by omega⟩
    case round =>
      obtain ⟨j, hj, rfl, HT⟩ := hrel
      by_cases hjl : j < bs.length
      · obtain ⟨bb, ob, rfl⟩ := rowAt_form HRB.out (by omega)
        have hcb := (rowAt_cell HRB.out (by omega)).2 j hjl
        have CB := isMember_any a cap zs (bs.getD j 0) w HM.out HR.out
        cases h5 : memI zs (bs.getD j 0)
        · rw [h5] at CB
          have hv : Hid (bokB zs bs = false) := bokB_no hjl h5
          clear h5
          generalize bs.getD j 0 = z at hcb CB
          go_wp2_with fail
          refine CB.mono ?_
          rintro e w7 ⟨rfl, hw7⟩
          subst hw7
          go_wp2
          go_ret
          exact ⟨ret_bool hv.out.symm, rfl⟩
        · rw [h5] at CB
          have HT2 : Hid (∀ i, i < j + 1 → memI zs (bs.getD i 0) = true) := fun i hi => by
            by_cases he : i = j
            · subst he; exact h5
            · exact HT.out i (by omega)
          clear h5
          generalize bs.getD j 0 = z at hcb CB
          go_wp2_with fail
          refine CB.mono ?_
          rintro e w7 ⟨rfl, hw7⟩
          subst hw7
          go_wp2
          go_round
          case rel => exact ⟨j + 1, by omega, by go_num, HT2⟩
          case measure => simp [intOf]; omega
      · have hv : Hid (bokB zs bs = true) := bokB_yes h3 (fun i hi => HT.out i (by omega))
        go_wp2
        go_ret
        exact ⟨ret_bool hv.out.symm, rfl⟩
  · have hv : bokB zs bs = false := by unfold bokB; rw [decide_eq_false h3]; rfl
    rw [hv]
    go_enter Try.func121, Try.ntmps121
    go_wp2
    go_ret
    exact ⟨rfl, rfl⟩

def prI (zs : List Int) (p : Pr) : Bool := decide (p.succ = nxtI zs p.id) && memI zs p.point && bokB zs p.backs
theorem prI_eq {b d : Int} {zs : List Int} (R : Ring b d zs) (p : Pr) : prI zs p = prB zs p := by
  unfold prI prB bokB
  rw [mem_has R, Bool.and_assoc, Bool.and_assoc, Bool.and_assoc]
  have e : decide (∀ i, i < p.backs.length → memI zs (p.backs.getD i 0) = true) = decide (∀ i, i < p.backs.length → hasB zs (p.backs.getD i 0) = true) := by
    congr 1
    simp only [mem_has R]
  rw [e]

set_option maxHeartbeats 3200000 in
theorem isPeer_any (a : Option Addr) (cap : Nat) (zs : List Int) (q o : Nat) (p : Pr) (w : World) (l1 : 1 ≤ zs.length) (l2 : zs.length ≤ 16) (hr : RowAt w a zs) (hq : q < w.heap.size) (hp : PeerAt w q o p) :
    Calls Try.prog 95 #[.slice a zs.length cap, .pointer (some ⟨q, o, none⟩)] w fun e w' => e = .returned (.bool (prI zs p)) ∧ Below w.heap.size w w' := by
  obtain ⟨c0, c1, c2, ab, cb, c3, hrb, hmb, _⟩ := hp
  have hmx : zs.length ≤ maxLen := by unfold maxLen; omega
  obtain ⟨x0, x1, x2, bs⟩ := p
  have z0 : ∀ k : Kin w.heap.size w, k.v.cell? ⟨q, o, none⟩ = some (.int .i64 x0) := kin_cell hq c0
  have z1 : ∀ k : Kin w.heap.size w, k.v.cell? ⟨q, o + 1, none⟩ = some (.int .i64 x1) := kin_cell hq c1
  have z2 : ∀ k : Kin w.heap.size w, k.v.cell? ⟨q, o + 2, none⟩ = some (.int .i64 x2) := kin_cell hq c2
  have z3 : ∀ k : Kin w.heap.size w, k.v.cell? ⟨q, o + 3, none⟩ = some (.slice ab bs.length cb) := kin_cell hq c3
  have CN : ∀ w1, Below w.heap.size w w1 → Calls Try.prog 120 #[.slice a zs.length cap, .int .i64 x0] w1 fun e w' => e = .returned (.int .i64 (nxtI zs x0)) ∧ w' = w1 := fun w1 h => nextIn_any a cap zs x0 w1 l1 l2 (hr.keep h)
  have CH : ∀ w1, Below w.heap.size w w1 → Calls Try.prog 107 #[.slice a zs.length cap, .int .i64 x2] w1 fun e w' => e = .returned (.bool (memI zs x2)) ∧ w' = w1 := fun w1 h => isMember_any a cap zs x2 w1 hmx (hr.keep h)
  have CB : ∀ w1, Below w.heap.size w w1 → Calls Try.prog 121 #[.slice a zs.length cap, .slice ab bs.length cb] w1 fun e w' => e = .returned (.bool (bokB zs bs)) ∧ w' = w1 := fun w1 h => areBacks_any a ab cap cb zs bs w1 hmx hmb (hr.keep h) (hrb.keep h)
  have hv : prI zs ⟨x0, x1, x2, bs⟩ = (decide (x1 = nxtI zs x0) && memI zs x2 && bokB zs bs) := rfl
  rw [hv]
  clear hv c0 c1 c2 c3 hrb hmb hr hmx
  generalize nxtI zs x0 = nx at *
  generalize memI zs x2 = mx at *
  generalize bokB zs bs = bx at *
  by_cases h1 : x1 = nx
  · have e1 : (x1 == nx) = true := beq_iff_eq.2 h1
    rw [decide_eq_true h1]
    clear h1
    cases mx
    · go_enter Try.func95, Try.ntmps95
      go_wp2
      refine region_kin w.heap.size (by kernel_rfl) (by kernel_rfl) (fun hne => ?_)
      repeat (go_big_quiet_step (first | (go_at_call 120; exact kin_same (CN _ (Kin.bel _))) | (go_at_call 107; exact kin_same (CH _ (Kin.bel _))) | (go_at_call 121; exact kin_same (CB _ (Kin.bel _)))))
      refine wpQuiet_nil ?_
      intro w5 hw'
      obtain ⟨⟨w6, hw5⟩, hw''⟩ := hw'
      obtain rfl : w5 = w6 := hw''
      clear z0 z1 z2 z3 hne
      go_wp2
      go_ret
      exact ⟨rfl, hw5⟩
    · go_enter Try.func95, Try.ntmps95
      go_wp2
      refine region_kin w.heap.size (by kernel_rfl) (by kernel_rfl) (fun hne => ?_)
      repeat (go_big_quiet_step (first | (go_at_call 120; exact kin_same (CN _ (Kin.bel _))) | (go_at_call 107; exact kin_same (CH _ (Kin.bel _))) | (go_at_call 121; exact kin_same (CB _ (Kin.bel _)))))
      refine wpQuiet_nil ?_
      intro w5 hw'
      obtain ⟨⟨w6, hw5⟩, hw''⟩ := hw'
      obtain rfl : w5 = w6 := hw''
      clear z0 z1 z2 z3 hne
      go_wp2
      go_ret
      exact ⟨ret_bool (by simp), hw5⟩
  · have e1 : (x1 == nx) = false := by simp only [beq_eq_false_iff_ne, ne_eq]; exact h1
    rw [decide_eq_false h1]
    clear h1
    go_enter Try.func95, Try.ntmps95
    go_wp2
    refine region_kin w.heap.size (by kernel_rfl) (by kernel_rfl) (fun hne => ?_)
    repeat (go_big_quiet_step (first | (go_at_call 120; exact kin_same (CN _ (Kin.bel _))) | (go_at_call 107; exact kin_same (CH _ (Kin.bel _))) | (go_at_call 121; exact kin_same (CB _ (Kin.bel _)))))
    refine wpQuiet_nil ?_
    intro w5 hw'
    obtain ⟨⟨w6, hw5⟩, hw''⟩ := hw'
    obtain rfl : w5 = w6 := hw''
    clear z0 z1 z2 z3 hne
    go_wp2
    go_ret
    exact ⟨ret_bool (by simp), hw5⟩
end Go.Proofs.Ytejajlloipkkhaa
namespace Go.Proofs.Ytejajlloipkkhaa
open Go.RowKit
set_option linter.unusedVariables false
/-- how far it is up to the first number whose last n digits are the first n of the key -/
def up4 (b d f k n : Int) : Int := (k / sz ((b / d - n) * d) - f % sz (n * d) + sz (n * d)) % sz (n * d)
def best (b d f m k : Int) : Nat → Int × Int
  | 0 => (f, b / d)
  | n + 1 => if up4 b d f k (n + 1 : Nat) < m then ((f + up4 b d f k (n + 1 : Nat)) % sz b, b / d - (n + 1 : Nat)) else best b d f m k n
def bestI (b d f t k : Int) : Int × Int := best b d f (rnd b f t) k (cnt b d)
structure Wk where
  at_ : Int
  imag : Int
  left : Int
  points : Int
  succs : Int
  state : Int
  owner : Int
def wk0 : Wk := ⟨0, 0, 0, 0, 0, 0, 0⟩
def Wk.cells (v : Wk) : Array Value := #[.int .i64 v.at_, .int .i64 v.imag, .int .i64 v.left, .int .i64 v.points, .int .i64 v.succs, .int .i64 v.state, .int .i64 v.owner]
def prN : Pr := ⟨-1, 0, 0, []⟩
def peerI : List Pr → Int → Pr
  | [], _ => prN
  | p :: ps, x => if p.id = x then p else peerI ps x
def dgt4 (d k l : Int) : Int := k / sz ((l - 1) * d) % sz d
def stp (b d : Int) (ps : List Pr) (k ttl : Int) (v : Wk) : Wk :=
  if k = v.at_ then ⟨v.at_, v.imag, v.left, v.points, v.succs, 1, v.at_⟩
  else if arcB b v.at_ k (peerI ps v.at_).succ = true then ⟨v.at_, v.imag, v.left, v.points, v.succs, 1, (peerI ps v.at_).succ⟩
  else if ttl ≤ v.points + v.succs then ⟨v.at_, v.imag, v.left, v.points, v.succs, 2, v.owner⟩
  else if 0 < v.left ∧ (v.imag = v.at_ ∨ btwB b v.at_ v.imag (peerI ps v.at_).succ = true) then ⟨(peerI ps v.at_).point, shf b d v.imag (dgt4 d k v.left), v.left - 1, v.points + 1, v.succs, v.state, v.owner⟩
  else ⟨(peerI ps v.at_).succ, v.imag, v.left, v.points, v.succs + 1, v.state, v.owner⟩
def askP (b d : Int) (ps : List Pr) (x k : Int) : Bool := goodP b d ps && hasB (idsP ps) x && numB b d k
def stt (b d : Int) (ps : List Pr) (x k : Int) : Wk := ⟨x, (bestI b d x (peerI ps x).succ k).1, (bestI b d x (peerI ps x).succ k).2, 0, 0, 0, 0⟩
def wkB (b d : Int) (ps : List Pr) (v : Wk) : Bool := numB b d v.imag && inB v.left 0 (b / d) && inB v.points 0 1000 && inB v.succs 0 1000 && inB v.state 0 2 && (if v.state = 1 then hasB (idsP ps) v.owner else decide (v.owner = 0))
def goodW (b d : Int) (ps : List Pr) (k : Int) (v : Wk) : Bool := askP b d ps v.at_ k && wkB b d ps v
def rtW (b d : Int) (ps : List Pr) (k ttl : Int) : Nat → Wk → Wk
  | 0, v => v
  | n + 1, v => if v.state = 0 then rtW b d ps k ttl n (stp b d ps k ttl v) else v
def rtL (b d : Int) (ps : List Pr) (k ttl : Int) : Nat → Wk → List Int
  | 0, _ => []
  | n + 1, v => if v.state = 0 then (if v.points + v.succs < (stp b d ps k ttl v).points + (stp b d ps k ttl v).succs then [(stp b d ps k ttl v).at_] else []) ++ rtL b d ps k ttl n (stp b d ps k ttl v) else []
def bndI (b d : Int) (n : Nat) : Int := b / d + (b / d + 1) * ((n : Int) - 1)
theorem peerI_mem : ∀ (ps : List Pr) (x : Int), hasB (idsP ps) x = true → (peerI ps x).id = x ∧ ∃ i, i < ps.length ∧ peerI ps x = ps.getD i pr0
  | [], x, h => by
    have := of_decide_eq_true h
    obtain ⟨i, hi, _⟩ := this
    simp [idsP] at hi
  | p :: ps, x, h => by
    unfold peerI
    by_cases he : p.id = x
    · rw [if_pos he]
      exact ⟨he, 0, by simp, by simp⟩
    · rw [if_neg he]
      have h2 : hasB (idsP ps) x = true := by
        obtain ⟨i, hi, hx⟩ := of_decide_eq_true h
        cases i with
        | zero => exact absurd (by simpa [idsP] using hx) he
        | succ i => exact decide_eq_true ⟨i, by simpa [idsP] using hi, by simpa [idsP] using hx⟩
      obtain ⟨h3, i, hi, h4⟩ := peerI_mem ps x h2
      exact ⟨h3, i + 1, by simpa using hi, by simpa using h4⟩
/-- of good peers: what a peer's numbers are -/
theorem peerI_good {b d : Int} {ps : List Pr} (hg : goodP b d ps = true) {x : Int} (hx : hasB (idsP ps) x = true) : (peerI ps x).id = x ∧ (peerI ps x).succ = nxtI (idsP ps) x ∧ hasB (idsP ps) (peerI ps x).point = true := by
  obtain ⟨h1, i, hi, h2⟩ := peerI_mem ps x hx
  have := prB_parts.1 ((goodP_true hg).2 i hi)
  rw [← h2] at this
  exact ⟨h1, by rw [this.1, h1], this.2.1⟩
theorem has_rng {b d : Int} {zs : List Int} (R : Ring b d zs) {x : Int} (h : hasB zs x = true) : 0 ≤ x ∧ x < sz b := by
  obtain ⟨i, hi, rfl⟩ := of_decide_eq_true h
  exact R.rng i hi
theorem askP_parts {b d : Int} {ps : List Pr} {x k : Int} (h : askP b d ps x k = true) : goodP b d ps = true ∧ hasB (idsP ps) x = true ∧ 0 ≤ k ∧ k < sz b := by
  unfold askP at h
  simp only [Bool.and_eq_true] at h
  obtain ⟨_, h1, h2⟩ := numB_true h.2
  exact ⟨h.1.1, h.1.2, h1, h2⟩
theorem nxt_has {b d : Int} {zs : List Int} (R : Ring b d zs) (x : Int) : hasB zs (nxtI zs x) = true := decide_eq_true ⟨uptI zs x % zs.length, Nat.mod_lt _ (by have := R.l1; omega), rfl⟩
end Go.Proofs.Ytejajlloipkkhaa
namespace Go.Proofs.Ytejajlloipkkhaa
open Go.RowKit
set_option linter.unusedVariables false
theorem dist_up {b x y : Int} (x1 : 0 ≤ x) (y2 : y < sz b) (h : x ≤ y) : dist b x y = y - x := by
  unfold dist
  rw [show y - x + sz b = (y - x) + sz b * 1 by omega, Int.add_mul_emod_self_left]
  exact Int.emod_eq_of_lt (by omega) (by omega)
theorem dist_dn {b x y : Int} (y1 : 0 ≤ y) (x2 : x < sz b) (h : y < x) : dist b x y = y - x + sz b := by
  unfold dist
  exact Int.emod_eq_of_lt (by omega) (by omega)
/-- going up from place i to place t round a ring of n -/
def md (n t i : Nat) : Nat := (t + n - i) % n
theorem md_lt {n t i : Nat} (hn : 0 < n) : md n t i < n := Nat.mod_lt _ hn
theorem md_le {n t i : Nat} (ht : t < n) (h : i ≤ t) : md n t i = t - i := by
  unfold md
  rw [show t + n - i = (t - i) + n by omega, Nat.add_mod_right, Nat.mod_eq_of_lt (by omega)]
theorem md_gt {n t i : Nat} (hi : i < n) (h : t < i) : md n t i = t + n - i := by
  unfold md
  rw [Nat.mod_eq_of_lt (by omega)]
theorem md_zero {n t i : Nat} (ht : t < n) (hi : i < n) (h : md n t i = 0) : t = i := by
  by_cases hti : i ≤ t
  · rw [md_le ht hti] at h; omega
  · rw [md_gt hi (by omega)] at h; omega
theorem md_step {n t i : Nat} (ht : t < n) (hi : i < n) (h : ¬ md n t i = 0) : md n t ((i + 1) % n) + 1 = md n t i := by
  by_cases hti : i ≤ t
  · rw [md_le ht hti] at h ⊢
    rw [Nat.mod_eq_of_lt (show i + 1 < n by omega), md_le ht (by omega)]
    omega
  · rw [md_gt hi (by omega)]
    by_cases hl : i + 1 < n
    · rw [Nat.mod_eq_of_lt hl, md_gt hl (by omega)]
      omega
    · rw [show i + 1 = n by omega, Nat.mod_self, md_le ht (Nat.zero_le _)]
      omega
/-- the place of the first member going down from a number, it counted -/
def dnP (zs : List Int) (t : Int) : Nat := (uptI zs t + zs.length - 1) % zs.length
/-- the place of the first member going down from a number, it not counted -/
def pvP (zs : List Int) (t : Int) : Nat := (blw zs t + zs.length - 1) % zs.length
theorem dn_btw {b d : Int} {zs : List Int} (R : Ring b d zs) {t : Int} (t1 : 0 ≤ t) (t2 : t < sz b) {i : Nat} (hi : i < zs.length) (h : dnP zs t = i) : t = zs.getD i 0 ∨ btwB b (zs.getD i 0) t (nxtI zs (zs.getD i 0)) = true := by
  have l1 := R.l1
  have hle := upt_le zs t
  by_cases he : t = zs.getD i 0
  · exact .inl he
  · refine .inr (decide_eq_true ?_)
    rw [nxt_at R hi]
    obtain ⟨m1, m2⟩ := R.rng i hi
    unfold dnP at h
    by_cases hu : uptI zs t = 0
    · have hin : i = zs.length - 1 := by rw [← h, hu, Nat.zero_add, Nat.mod_eq_of_lt (by omega)]
      have h0 := R.upper t 0 (by omega) (by omega)
      have e : (i + 1) % zs.length = 0 := by rw [show i + 1 = zs.length by omega, Nat.mod_self]
      rw [e]
      by_cases hn : zs.length = 1
      · have hi0 : i = 0 := by omega
        subst hi0
        exact ⟨⟨he, by omega⟩, .inl rfl⟩
      · have h2 := R.ris 0 i (by omega) hi
        have r0 := R.rng 0 (by omega)
        refine ⟨⟨he, by omega⟩, .inr ⟨he, ?_⟩⟩
        rw [dist_dn t1 m2 (by omega), dist_dn r0.1 m2 h2]
        omega
    · have hin : i = uptI zs t - 1 := by
        rw [← h, show uptI zs t + zs.length - 1 = (uptI zs t - 1) + zs.length by omega, Nat.add_mod_right, Nat.mod_eq_of_lt (by omega)]
      have hlo := upt_low (zs := zs) (x := t) (i := i) (by omega)
      by_cases hl : i + 1 < zs.length
      · rw [Nat.mod_eq_of_lt hl]
        have hup := R.upper t (i + 1) (by omega) hl
        obtain ⟨q1, q2⟩ := R.rng (i + 1) hl
        refine ⟨⟨he, by omega⟩, .inr ⟨he, ?_⟩⟩
        rw [dist_up m1 t2 hlo, dist_up m1 q2 (by omega)]
        omega
      · have e : (i + 1) % zs.length = 0 := by rw [show i + 1 = zs.length by omega, Nat.mod_self]
        rw [e]
        by_cases hn : zs.length = 1
        · have hi0 : i = 0 := by omega
          subst hi0
          exact ⟨⟨he, he⟩, .inl rfl⟩
        · have h2 := R.ris 0 i (by omega) hi
          have r0 := R.rng 0 (by omega)
          refine ⟨⟨he, by omega⟩, .inr ⟨he, ?_⟩⟩
          rw [dist_up m1 t2 hlo, dist_dn r0.1 m2 h2]
          omega
theorem pv_arc {b d : Int} {zs : List Int} (R : Ring b d zs) {t : Int} (t1 : 0 ≤ t) (t2 : t < sz b) {i : Nat} (hi : i < zs.length) (h : pvP zs t = i) : t = zs.getD i 0 ∨ arcB b (zs.getD i 0) t (nxtI zs (zs.getD i 0)) = true := by
  have l1 := R.l1
  have hle := blw_le t zs
  by_cases he : t = zs.getD i 0
  · exact .inl he
  · refine .inr (decide_eq_true ?_)
    rw [nxt_at R hi]
    obtain ⟨m1, m2⟩ := R.rng i hi
    unfold pvP at h
    by_cases hu : blw zs t = 0
    · have hin : i = zs.length - 1 := by rw [← h, hu, Nat.zero_add, Nat.mod_eq_of_lt (by omega)]
      have h0 := R.above t 0 (by omega) (by omega)
      have e : (i + 1) % zs.length = 0 := by rw [show i + 1 = zs.length by omega, Nat.mod_self]
      rw [e]
      by_cases hn : zs.length = 1
      · have hi0 : i = 0 := by omega
        subst hi0
        exact .inl rfl
      · have h2 := R.ris 0 i (by omega) hi
        have r0 := R.rng 0 (by omega)
        refine .inr ⟨he, ?_⟩
        rw [dist_dn t1 m2 (by omega), dist_dn r0.1 m2 h2]
        omega
    · have hin : i = blw zs t - 1 := by
        rw [← h, show blw zs t + zs.length - 1 = (blw zs t - 1) + zs.length by omega, Nat.add_mod_right, Nat.mod_eq_of_lt (by omega)]
      have hlo := blw_lt (zs := zs) (x := t) i (by omega)
      by_cases hl : i + 1 < zs.length
      · rw [Nat.mod_eq_of_lt hl]
        have hup := R.above t (i + 1) (by omega) hl
        obtain ⟨q1, q2⟩ := R.rng (i + 1) hl
        refine .inr ⟨he, ?_⟩
        rw [dist_up m1 t2 (by omega), dist_up m1 q2 (by omega)]
        omega
      · have e : (i + 1) % zs.length = 0 := by rw [show i + 1 = zs.length by omega, Nat.mod_self]
        rw [e]
        by_cases hn : zs.length = 1
        · have hi0 : i = 0 := by omega
          subst hi0
          exact .inl rfl
        · have h2 := R.ris 0 i (by omega) hi
          have r0 := R.rng 0 (by omega)
          refine .inr ⟨he, ?_⟩
          rw [dist_up m1 t2 (by omega), dist_dn r0.1 m2 h2]
          omega
/-- who is found is the owner -/
theorem arc_own {b d : Int} {zs : List Int} (R : Ring b d zs) {t : Int} (t1 : 0 ≤ t) (t2 : t < sz b) {i : Nat} (hi : i < zs.length) (hne : ¬ t = zs.getD i 0) (h : arcB b (zs.getD i 0) t (nxtI zs (zs.getD i 0)) = true) : nxtI zs (zs.getD i 0) = ownI zs t := by
  have l1 := R.l1
  have h' := of_decide_eq_true h
  rw [nxt_at R hi] at h' ⊢
  obtain ⟨m1, m2⟩ := R.rng i hi
  have key : blw zs t % zs.length = (i + 1) % zs.length := by
    by_cases hn : zs.length = 1
    · rw [hn, Nat.mod_one, Nat.mod_one]
    · have hd : dist b (zs.getD i 0) t ≤ dist b (zs.getD i 0) (zs.getD ((i + 1) % zs.length) 0) := by
        rcases h' with h' | h'
        · have := inj R hi (Nat.mod_lt _ (by omega)) h'
          by_cases hl : i + 1 < zs.length
          · rw [Nat.mod_eq_of_lt hl] at this; omega
          · rw [show i + 1 = zs.length by omega, Nat.mod_self] at this; omega
        · exact h'.2
      by_cases hgt : zs.getD i 0 < t
      · rw [dist_up m1 t2 (by omega)] at hd
        by_cases hl : i + 1 < zs.length
        · rw [Nat.mod_eq_of_lt hl] at hd ⊢
          have hq := R.rng (i + 1) hl
          have hr := R.ris i (i + 1) (by omega) hl
          rw [dist_up m1 hq.2 (by omega)] at hd
          rw [blw_eq (k := i + 1) (by omega) (fun j hj => by
            by_cases hji : j = i
            · subst hji; exact hgt
            · have := R.ris j i (by omega) hi; omega) (fun _ => by omega)]
          exact Nat.mod_eq_of_lt hl
        · rw [blw_eq (k := zs.length) (Nat.le_refl _) (fun j hj => by
            by_cases hji : j = i
            · subst hji; exact hgt
            · have := R.ris j i (by omega) hi; omega) (fun h => by omega), show i + 1 = zs.length by omega]
      · have hlt : t < zs.getD i 0 := by omega
        rw [dist_dn t1 m2 hlt] at hd
        by_cases hl : i + 1 < zs.length
        · rw [Nat.mod_eq_of_lt hl] at hd
          have hq := R.rng (i + 1) hl
          have hr := R.ris i (i + 1) (by omega) hl
          rw [dist_up m1 hq.2 (by omega)] at hd
          omega
        · have e : (i + 1) % zs.length = 0 := by rw [show i + 1 = zs.length by omega, Nat.mod_self]
          rw [e] at hd ⊢
          have h2 := R.ris 0 i (by omega) hi
          have r0 := R.rng 0 (by omega)
          rw [dist_dn r0.1 m2 h2] at hd
          rw [blw_eq (k := 0) (by omega) (fun j hj => by omega) (fun _ => by omega)]
          simp
  unfold ownI
  rw [key]
theorem own_self {b d : Int} {zs : List Int} (R : Ring b d zs) {i : Nat} (hi : i < zs.length) : ownI zs (zs.getD i 0) = zs.getD i 0 := by
  unfold ownI
  rw [blw_mem R hi, Nat.mod_eq_of_lt hi]
end Go.Proofs.Ytejajlloipkkhaa
namespace Go.Proofs.Ytejajlloipkkhaa
open Go.RowKit
set_option linter.unusedVariables false
/-- a walk's At is a member, its Imag a number, and some digits are left -/
structure WOk (b : Int) (zs : List Int) (v : Wk) : Prop where
  mem : hasB zs v.at_ = true
  i1 : 0 ≤ v.imag
  i2 : v.imag < sz b
  l0 : 0 ≤ v.left
/-- how many forwards are left at most -/
def pot (zs : List Int) (k : Int) (v : Wk) : Nat :=
  if v.left = 0 then md zs.length (pvP zs k) (blw zs v.at_) else md zs.length (dnP zs v.imag) (blw zs v.at_) + v.left.toNat * zs.length
theorem at_place {b d : Int} {zs : List Int} (R : Ring b d zs) {x : Int} (h : hasB zs x = true) : blw zs x < zs.length ∧ zs.getD (blw zs x) 0 = x := by
  rw [← mem_has R] at h
  exact of_decide_eq_true h
theorem shf_rng (b d x g : Int) (hb1 : 1 ≤ b) (hb2 : b ≤ 12) : 0 ≤ shf b d x g ∧ shf b d x g < sz b := by
  unfold shf
  have h := sz_bd hb1 hb2
  exact ⟨Int.emod_nonneg _ (by omega), Int.emod_lt_of_pos _ (by omega)⟩
theorem pot_top {b d : Int} {zs : List Int} (R : Ring b d zs) (k : Int) {v : Wk} (l0 : 0 ≤ v.left) : pot zs k v + 1 ≤ (v.left.toNat + 1) * zs.length := by
  have l1 := R.l1
  unfold pot
  split
  · rename_i h
    have := md_lt (n := zs.length) (t := pvP zs k) (i := blw zs v.at_) (by omega)
    rw [h]
    simp
    omega
  · have := md_lt (n := zs.length) (t := dnP zs v.imag) (i := blw zs v.at_) (by omega)
    rw [Nat.add_mul, Nat.one_mul]
    omega
/-- what one step does -/
def Stp (b : Int) (zs : List Int) (k ttl : Int) (v x : Wk) : Prop :=
  x = ⟨v.at_, v.imag, v.left, v.points, v.succs, 1, ownI zs k⟩ ∨
  (x = ⟨v.at_, v.imag, v.left, v.points, v.succs, 2, v.owner⟩ ∧ ttl ≤ v.points + v.succs ∧ 1 ≤ pot zs k v) ∨
  (WOk b zs x ∧ x.state = v.state ∧ x.owner = v.owner ∧ v.points + v.succs < ttl ∧ pot zs k x + 1 ≤ pot zs k v ∧ ((x.points = v.points + 1 ∧ x.succs = v.succs ∧ x.left = v.left - 1) ∨ (x.points = v.points ∧ x.succs = v.succs + 1 ∧ x.left = v.left)))
theorem stp_kind {b d : Int} {ps : List Pr} {k ttl : Int} {v : Wk} (hg : goodP b d ps = true) (k1 : 0 ≤ k) (k2 : k < sz b) (hv : WOk b (idsP ps) v) : Stp b (idsP ps) k ttl v (stp b d ps k ttl v) := by
  have R := (goodP_true hg).1
  obtain ⟨hb1, hb2, hd1, hd2, _⟩ := gsB_true R.gs
  have l1 := R.l1
  obtain ⟨p1, p2, p3⟩ := peerI_good hg hv.mem
  obtain ⟨hi, he⟩ := at_place R hv.mem
  unfold stp
  by_cases c1 : k = v.at_
  · rw [if_pos c1]
    refine .inl ?_
    rw [c1, ← he, own_self R hi]
  · rw [if_neg c1]
    have c1' : ¬ k = (idsP ps).getD (blw (idsP ps) v.at_) 0 := by rw [he]; exact c1
    by_cases c2 : arcB b v.at_ k (peerI ps v.at_).succ = true
    · rw [if_pos c2]
      refine .inl ?_
      rw [p2] at c2 ⊢
      have := arc_own R k1 k2 hi c1' (by rw [he]; exact c2)
      rw [he] at this
      rw [this]
    · rw [if_neg c2]
      have hpv : ¬ pvP (idsP ps) k = blw (idsP ps) v.at_ := fun h => by
        rcases pv_arc R k1 k2 hi h with h | h
        · exact c1' h
        · rw [he, ← p2] at h; exact c2 h
      have hpl : pvP (idsP ps) k < (idsP ps).length := Nat.mod_lt _ (by omega)
      have hdl : dnP (idsP ps) v.imag < (idsP ps).length := Nat.mod_lt _ (by omega)
      have hmk : ¬ md (idsP ps).length (pvP (idsP ps) k) (blw (idsP ps) v.at_) = 0 := fun h => hpv (md_zero hpl hi h)
      by_cases c3 : ttl ≤ v.points + v.succs
      · rw [if_pos c3]
        refine .inr (.inl ⟨rfl, c3, ?_⟩)
        unfold pot
        split
        · omega
        · rename_i h
          have := hv.l0
          have h1 : 1 ≤ v.left.toNat := by omega
          have : 1 * 1 ≤ v.left.toNat * (idsP ps).length := Nat.mul_le_mul h1 l1
          omega
      · rw [if_neg c3]
        by_cases c4 : 0 < v.left ∧ (v.imag = v.at_ ∨ btwB b v.at_ v.imag (peerI ps v.at_).succ = true)
        · rw [if_pos c4]
          have hsh := shf_rng b d v.imag (dgt4 d k v.left) hb1 hb2
          refine .inr (.inr ⟨⟨p3, hsh.1, hsh.2, by show 0 ≤ v.left - 1; omega⟩, rfl, rfl, by omega, ?_, .inl ⟨rfl, rfl, rfl⟩⟩)
          have ht := pot_top R k (v := ⟨(peerI ps v.at_).point, shf b d v.imag (dgt4 d k v.left), v.left - 1, v.points + 1, v.succs, v.state, v.owner⟩) (by show 0 ≤ v.left - 1; omega)
          have e : (v.left - 1).toNat + 1 = v.left.toNat := by omega
          have hq : pot (idsP ps) k v = md (idsP ps).length (dnP (idsP ps) v.imag) (blw (idsP ps) v.at_) + v.left.toNat * (idsP ps).length := by
            unfold pot
            rw [if_neg (by omega)]
          rw [hq]
          show _ + 1 ≤ _
          have ht' : pot (idsP ps) k ⟨(peerI ps v.at_).point, shf b d v.imag (dgt4 d k v.left), v.left - 1, v.points + 1, v.succs, v.state, v.owner⟩ + 1 ≤ v.left.toNat * (idsP ps).length := by rw [← e]; exact ht
          omega
        · rw [if_neg c4]
          have hnx : (peerI ps v.at_).succ = (idsP ps).getD ((blw (idsP ps) v.at_ + 1) % (idsP ps).length) 0 := by rw [p2]; conv => lhs; rw [← he]; rw [nxt_at R hi]
          have hbs : blw (idsP ps) (peerI ps v.at_).succ = (blw (idsP ps) v.at_ + 1) % (idsP ps).length := by rw [hnx, blw_mem R (Nat.mod_lt _ (by omega))]
          refine .inr (.inr ⟨⟨by rw [p2]; exact nxt_has R _, hv.i1, hv.i2, hv.l0⟩, rfl, rfl, by omega, ?_, .inr ⟨rfl, rfl, rfl⟩⟩)
          unfold pot
          by_cases hl : v.left = 0
          · rw [if_pos hl, if_pos hl]
            show md _ _ (blw (idsP ps) (peerI ps v.at_).succ) + 1 ≤ _
            rw [hbs]
            exact Nat.le_of_eq (md_step hpl hi hmk)
          · rw [if_neg hl, if_neg hl]
            show md _ (dnP (idsP ps) v.imag) (blw (idsP ps) (peerI ps v.at_).succ) + v.left.toNat * _ + 1 ≤ _
            have hmi : ¬ md (idsP ps).length (dnP (idsP ps) v.imag) (blw (idsP ps) v.at_) = 0 := fun h => by
              rcases dn_btw R hv.i1 hv.i2 hi (md_zero hdl hi h) with h | h
              · exact c4 ⟨by have := hv.l0; omega, .inl (by rw [h, he])⟩
              · rw [he, ← p2] at h
                exact c4 ⟨by have := hv.l0; omega, .inr h⟩
            have := md_step hdl hi hmi
            rw [hbs]
            omega
/-- where a way ends -/
theorem rt_end {b d : Int} {ps : List Pr} {k ttl : Int} (hg : goodP b d ps = true) (k1 : 0 ≤ k) (k2 : k < sz b) : ∀ (F : Nat) (v : Wk), WOk b (idsP ps) v → v.state = 0 → v.owner = 0 → v.points + v.succs ≤ ttl → pot (idsP ps) k v < F →
    ((rtW b d ps k ttl F v).state = 1 ∧ (rtW b d ps k ttl F v).owner = ownI (idsP ps) k ∨ (rtW b d ps k ttl F v).state = 2 ∧ (rtW b d ps k ttl F v).owner = 0 ∧ ttl < v.points + v.succs + pot (idsP ps) k v) ∧
    (rtW b d ps k ttl F v).points + (rtW b d ps k ttl F v).succs ≤ v.points + v.succs + pot (idsP ps) k v ∧ (rtW b d ps k ttl F v).points + (rtW b d ps k ttl F v).succs ≤ ttl ∧
    (rtW b d ps k ttl F v).points + (rtW b d ps k ttl F v).succs = v.points + v.succs + ((rtL b d ps k ttl F v).length : Int) ∧ v.points ≤ (rtW b d ps k ttl F v).points ∧ v.succs ≤ (rtW b d ps k ttl F v).succs
  | 0, v, _, _, _, _, h => by omega
  | F + 1, v, hw, hs, ho, ht, hp => by
    have hk := stp_kind (ttl := ttl) hg k1 k2 hw
    unfold rtW rtL
    rw [if_pos hs, if_pos hs]
    rcases hk with h | ⟨h, h1, h2⟩ | ⟨hw', hs', ho', ht', hp', hl⟩
    ·
      have hst : (stp b d ps k ttl v).state = 1 := by rw [h]
      have e1 : rtW b d ps k ttl F (stp b d ps k ttl v) = stp b d ps k ttl v := by cases F <;> simp [rtW, hst]
      have e2 : rtL b d ps k ttl F (stp b d ps k ttl v) = [] := by cases F <;> simp [rtL, hst]
      rw [e1, e2, h]
      refine ⟨.inl ⟨rfl, rfl⟩, by show v.points + v.succs ≤ _; omega, ht, ?_, Int.le_refl _, Int.le_refl _⟩
      show v.points + v.succs = _
      simp
    ·
      have hst : (stp b d ps k ttl v).state = 2 := by rw [h]
      have e1 : rtW b d ps k ttl F (stp b d ps k ttl v) = stp b d ps k ttl v := by cases F <;> simp [rtW, hst]
      have e2 : rtL b d ps k ttl F (stp b d ps k ttl v) = [] := by cases F <;> simp [rtL, hst]
      rw [e1, e2, h]
      refine ⟨.inr ⟨rfl, ho, by omega⟩, by show v.points + v.succs ≤ _; omega, ht, ?_, Int.le_refl _, Int.le_refl _⟩
      show v.points + v.succs = _
      simp
    ·
      have hsum : (stp b d ps k ttl v).points + (stp b d ps k ttl v).succs = v.points + v.succs + 1 := by rcases hl with ⟨h1, h2, _⟩ | ⟨h1, h2, _⟩ <;> omega
      have ih := rt_end (ttl := ttl) hg k1 k2 F (stp b d ps k ttl v) hw' (hs'.trans hs) (ho'.trans ho) (by omega) (by omega)
      obtain ⟨i1, i2, i3, i4, i5, i6⟩ := ih
      rw [if_pos (by omega)]
      refine ⟨?_, by omega, i3, ?_, by rcases hl with ⟨h1, h2, _⟩ | ⟨h1, h2, _⟩ <;> omega, by rcases hl with ⟨h1, h2, _⟩ | ⟨h1, h2, _⟩ <;> omega⟩
      · rcases i1 with i1 | ⟨j1, j2, j3⟩
        · exact .inl i1
        · exact .inr ⟨j1, j2, by omega⟩
      · rw [i4, hsum]
        simp only [List.length_append, List.length_cons, List.length_nil]
        omega
/-- more fuel than is needed changes nothing -/
theorem rt_more {b d : Int} {ps : List Pr} {k ttl : Int} (hg : goodP b d ps = true) (k1 : 0 ≤ k) (k2 : k < sz b) : ∀ (F G : Nat) (v : Wk), WOk b (idsP ps) v → v.state = 0 → pot (idsP ps) k v < F → F ≤ G → rtW b d ps k ttl G v = rtW b d ps k ttl F v ∧ rtL b d ps k ttl G v = rtL b d ps k ttl F v
  | 0, _, v, _, _, h, _ => by omega
  | F + 1, 0, v, _, _, _, h => by omega
  | F + 1, G + 1, v, hw, hs, hp, hFG => by
    have hk := stp_kind (ttl := ttl) hg k1 k2 hw
    unfold rtW rtL
    rw [if_pos hs, if_pos hs, if_pos hs, if_pos hs]
    rcases hk with h | ⟨h, h1, h2⟩ | ⟨hw', hs', ho', ht', hp', hl⟩
    ·
      have hst : (stp b d ps k ttl v).state = 1 := by rw [h]
      constructor
      · cases F <;> cases G <;> simp [rtW, hst]
      · cases F <;> cases G <;> simp [rtL, hst]
    ·
      have hst : (stp b d ps k ttl v).state = 2 := by rw [h]
      constructor
      · cases F <;> cases G <;> simp [rtW, hst]
      · cases F <;> cases G <;> simp [rtL, hst]
    ·
      obtain ⟨e1, e2⟩ := rt_more (ttl := ttl) hg k1 k2 F G (stp b d ps k ttl v) hw' (hs'.trans hs) (by omega) (by omega)
      rw [e1, e2]
      exact ⟨rfl, rfl⟩
end Go.Proofs.Ytejajlloipkkhaa
namespace Go.Proofs.Ytejajlloipkkhaa
open Go.RowKit
set_option linter.unusedVariables false
theorem sz_add {x y : Int} (hx : 0 ≤ x) (hy : 0 ≤ y) : sz (x + y) = sz x * sz y := by
  unfold sz
  rw [Int.toNat_add hx hy, Int.pow_add]
theorem sz_pos (x : Int) : 0 < sz x := by unfold sz; exact Int.pow_pos (by omega)
theorem sz_zero : sz 0 = 1 := rfl
theorem bits_eq {b d : Int} (hg : gsB b d = true) : b / d * d = b := by
  obtain ⟨_, _, h3, _, h5⟩ := gsB_true hg
  have := Int.mul_ediv_add_emod b d
  rw [h5, Int.add_zero, Int.mul_comm] at this
  exact this
/-- how a space's numbers part into those of n digits and those of the rest -/
theorem sz_part {b d : Int} (hg : gsB b d = true) {n : Int} (n1 : 0 ≤ n) (n2 : n ≤ b / d) : sz (n * d) * sz ((b / d - n) * d) = sz b := by
  obtain ⟨_, _, h3, _, _⟩ := gsB_true hg
  have h1 : 0 ≤ n * d := Int.mul_nonneg n1 (by omega)
  have h2 : 0 ≤ (b / d - n) * d := Int.mul_nonneg (by omega) (by omega)
  rw [← sz_add h1 h2, ← Int.add_mul, show n + (b / d - n) = b / d by omega, bits_eq hg]
theorem mod_mod_part {b d : Int} (hg : gsB b d = true) {n : Int} (n1 : 0 ≤ n) (n2 : n ≤ b / d) (y : Int) : y % sz b % sz (n * d) = y % sz (n * d) := by
  rw [← sz_part hg n1 n2]
  exact Int.emod_emod_of_dvd _ ⟨_, rfl⟩
theorem want_lt {b d k : Int} (hg : gsB b d = true) {n : Int} (n1 : 0 ≤ n) (n2 : n ≤ b / d) (k1 : 0 ≤ k) (k2 : k < sz b) : 0 ≤ k / sz ((b / d - n) * d) ∧ k / sz ((b / d - n) * d) < sz (n * d) := by
  refine ⟨Int.ediv_nonneg k1 (Int.le_of_lt (sz_pos _)), ?_⟩
  rw [← sz_part hg n1 n2] at k2
  exact Int.ediv_lt_of_lt_mul (sz_pos _) k2
theorem up4_bd (b d f k n : Int) : 0 ≤ up4 b d f k n ∧ up4 b d f k n < sz (n * d) := by
  unfold up4
  exact ⟨Int.emod_nonneg _ (by have := sz_pos (n * d); omega), Int.emod_lt_of_pos _ (sz_pos _)⟩
theorem up4_hits {b d f k n : Int} (hg : gsB b d = true) (n1 : 0 ≤ n) (n2 : n ≤ b / d) (k1 : 0 ≤ k) (k2 : k < sz b) : (f + up4 b d f k n) % sz (n * d) = k / sz ((b / d - n) * d) := by
  obtain ⟨w1, w2⟩ := want_lt hg n1 n2 k1 k2
  unfold up4
  generalize k / sz ((b / d - n) * d) = t at w1 w2
  generalize sz (n * d) = p at w2
  rw [Int.add_emod_emod]
  have h := Int.mul_ediv_add_emod f p
  have e : f + (t - f % p + p) = t + p * (f / p + 1) := by
    rw [Int.mul_add, Int.mul_one]
    omega
  rw [e, Int.add_mul_emod_self_left]
  exact Int.emod_eq_of_lt w1 w2
theorem best_prop {b d f k m : Int} (hg : gsB b d = true) (f1 : 0 ≤ f) (f2 : f < sz b) (k1 : 0 ≤ k) (k2 : k < sz b) (hm : 0 < m) : ∀ N : Nat, (N : Int) ≤ b / d →
    ∃ n : Int, 0 ≤ n ∧ n ≤ b / d ∧ (best b d f m k N).2 = b / d - n ∧ 0 ≤ (best b d f m k N).1 ∧ (best b d f m k N).1 < sz b ∧ (best b d f m k N).1 % sz (n * d) = k / sz ((b / d - n) * d) ∧ ∃ u, 0 ≤ u ∧ u < m ∧ (best b d f m k N).1 = (f + u) % sz b
  | 0, hN => by
    unfold best
    refine ⟨0, Int.le_refl _, hN, by show b / d = _; omega, f1, f2, ?_, 0, Int.le_refl _, hm, ?_⟩
    · show f % sz (0 * d) = k / sz ((b / d - 0) * d)
      rw [Int.zero_mul, sz_zero, Int.emod_one, Int.sub_zero, bits_eq hg, Int.ediv_eq_zero_of_lt k1 k2]
    · show f = (f + 0) % sz b
      rw [Int.add_zero, Int.emod_eq_of_lt f1 f2]
  | N + 1, hN => by
    unfold best
    split
    · rename_i h
      have hb := up4_bd b d f k ((N + 1 : Nat) : Int)
      refine ⟨((N + 1 : Nat) : Int), by omega, hN, rfl, Int.emod_nonneg _ (by have := sz_pos b; omega), Int.emod_lt_of_pos _ (sz_pos _), ?_, up4 b d f k ((N + 1 : Nat) : Int), hb.1, h, rfl⟩
      show (f + up4 b d f k ((N + 1 : Nat) : Int)) % sz b % sz (((N + 1 : Nat) : Int) * d) = _
      rw [mod_mod_part hg (by omega) hN]
      exact up4_hits hg (by omega) hN k1 k2
    · exact best_prop hg f1 f2 k1 k2 hm N (by omega)
theorem rnd_pos {b x y : Int} (hb1 : 1 ≤ b) (x1 : 0 ≤ x) (x2 : x < sz b) (y1 : 0 ≤ y) (y2 : y < sz b) : 0 < rnd b x y ∧ rnd b x y ≤ sz b := by
  unfold rnd
  have := sz_pos b
  split
  · omega
  · rename_i h
    by_cases hl : x ≤ y
    · rw [dist_up x1 y2 hl]; omega
    · rw [dist_dn y1 x2 (by omega)]; omega
theorem bestI_prop {b d f t k : Int} (hg : gsB b d = true) (f1 : 0 ≤ f) (f2 : f < sz b) (t1 : 0 ≤ t) (t2 : t < sz b) (k1 : 0 ≤ k) (k2 : k < sz b) :
    ∃ n : Int, 0 ≤ n ∧ n ≤ b / d ∧ (bestI b d f t k).2 = b / d - n ∧ 0 ≤ (bestI b d f t k).1 ∧ (bestI b d f t k).1 < sz b ∧ (bestI b d f t k).1 % sz (n * d) = k / sz ((b / d - n) * d) ∧ ∃ u, 0 ≤ u ∧ u < rnd b f t ∧ (bestI b d f t k).1 = (f + u) % sz b := by
  obtain ⟨h1, h2, h3, h4, _⟩ := gsB_true hg
  have hc := cnt_bd h1 h2 h3 h4
  exact best_prop hg f1 f2 k1 k2 (rnd_pos h1 f1 f2 t1 t2).1 (cnt b d) (by omega)
/-- the number that is best lies from 'from' on, ahead of 'to' -/
theorem best_arc {b d f t k : Int} (hg : gsB b d = true) (f1 : 0 ≤ f) (f2 : f < sz b) (t1 : 0 ≤ t) (t2 : t < sz b) (k1 : 0 ≤ k) (k2 : k < sz b) (hft : ¬ f = t) (hi : ¬ (bestI b d f t k).1 = f) : arcB b t (bestI b d f t k).1 f = false := by
  obtain ⟨n, _, _, _, x1, x2, _, u, u1, u2, hx⟩ := bestI_prop hg f1 f2 t1 t2 k1 k2
  generalize (bestI b d f t k).1 = x at *
  have hs := sz_pos b
  unfold rnd at u2
  rw [if_neg hft] at u2
  refine decide_eq_false (fun h => ?_)
  rcases h with h | ⟨_, h⟩
  · exact hft h.symm
  · have hu : ¬ u = 0 := fun h => hi (by rw [hx, h, Int.add_zero, Int.emod_eq_of_lt f1 f2])
    by_cases hl : f ≤ t
    · rw [dist_up f1 t2 hl] at u2
      rw [Int.emod_eq_of_lt (by omega) (by omega)] at hx
      rw [dist_dn x1 t2 (by omega), dist_dn f1 t2 (by omega)] at h
      omega
    · rw [dist_dn t1 f2 (by omega)] at u2
      rw [dist_up t1 f2 (by omega)] at h
      by_cases hw : f + u < sz b
      · rw [Int.emod_eq_of_lt (by omega) hw] at hx
        rw [dist_up t1 x2 (by omega)] at h
        omega
      · have hx2 : x = f + u - sz b := by
          rw [hx, show f + u = (f + u - sz b) + sz b * 1 by omega, Int.add_mul_emod_self_left]
          rw [Int.emod_eq_of_lt (by omega) (by omega)]
          omega
        rw [dist_dn x1 t2 (by omega)] at h
        omega
/-- the digit of a key that comes next -/
theorem dgt4_bd (d k l : Int) : 0 ≤ dgt4 d k l ∧ dgt4 d k l < sz d := by
  unfold dgt4
  exact ⟨Int.emod_nonneg _ (by have := sz_pos d; omega), Int.emod_lt_of_pos _ (sz_pos _)⟩
/-- a digit more is shifted in -/
theorem shift_more {b d z k l : Int} (hg : gsB b d = true) (hl1 : 1 ≤ l) (hl2 : l ≤ b / d) (k1 : 0 ≤ k) (h : z % sz ((b / d - l) * d) = k / sz (l * d)) : shf b d z (dgt4 d k l) % sz ((b / d - (l - 1)) * d) = k / sz ((l - 1) * d) := by
  obtain ⟨_, _, h3, _, _⟩ := gsB_true hg
  have n1 : 0 ≤ (b / d - l) * d := Int.mul_nonneg (by omega) (by omega)
  have n2 : 0 ≤ (l - 1) * d := Int.mul_nonneg (by omega) (by omega)
  have e1 : (b / d - (l - 1)) * d = (b / d - l) * d + d := by rw [show b / d - (l - 1) = (b / d - l) + 1 by omega, Int.add_mul, Int.one_mul]
  have e2 : l * d = (l - 1) * d + d := by rw [Int.sub_mul, Int.one_mul]; omega
  unfold shf
  rw [mod_mod_part hg (by omega) (by omega), e1, sz_add n1 (by omega)]
  rw [e2, sz_add n2 (by omega)] at h
  unfold dgt4
  have hp := sz_pos ((b / d - l) * d)
  have hd := sz_pos d
  have hq := sz_pos ((l - 1) * d)
  generalize sz ((b / d - l) * d) = p at *
  generalize sz ((l - 1) * d) = q at *
  generalize sz d = s at *
  rw [← Int.ediv_ediv_of_nonneg (Int.le_of_lt hq)] at h
  have hk0 : 0 ≤ k / q := Int.ediv_nonneg k1 (Int.le_of_lt hq)
  generalize k / q = y at *
  have hy := Int.mul_ediv_add_emod y s
  have hz := Int.mul_ediv_add_emod z p
  have hg1 := Int.emod_nonneg y (show s ≠ 0 by omega)
  have hg2 := Int.emod_lt_of_pos y hd
  have e : z * s + y % s = (y / s * s + y % s) + p * s * (z / p) := by
    conv => lhs; rw [← hz, h]
    rw [Int.add_mul, Int.mul_right_comm]
    omega
  rw [e, Int.add_mul_emod_self_left, Int.mul_comm (y / s) s, hy]
  refine Int.emod_eq_of_lt hk0 ?_
  have hz2 := Int.emod_lt_of_pos z hp
  rw [h] at hz2
  have := Int.mul_le_mul_of_nonneg_right (show y / s + 1 ≤ p by omega) (Int.le_of_lt hd)
  rw [Int.add_mul, Int.one_mul] at this
  have hc := Int.mul_comm (y / s) s
  omega
end Go.Proofs.Ytejajlloipkkhaa
namespace Go.Proofs.Ytejajlloipkkhaa
open Go.RowKit
set_option linter.unusedVariables false

theorem zv_one (l : List Int) : (zv l).all (·.oneCell') = true := by
  rw [Array.all_eq_true_iff_forall_mem]
  intro v hv
  simp [zv] at hv
  obtain ⟨a, _, rfl⟩ := hv
  rfl
theorem digL_cons {j n : Nat} {B x xj : Int} {done : List Int} (h : digL (j + 1) B xj ++ done = digL n B x) : digL j B (xj / B) ++ (xj % B :: done) = digL n B x := by
  rw [← h, digL, List.append_assoc]; rfl

theorem div_bd {x B s : Int} (h0 : 0 ≤ x) (h1 : x < s) (hB : 1 ≤ B) : 0 ≤ x / B ∧ x / B < s := by
  refine ⟨Int.ediv_nonneg h0 (by omega), ?_⟩
  have : x / B ≤ x := Int.ediv_le_self _ h0
  omega

/-- what lies in the three blocks while the loop goes -/
structure RowSt (w wr : World) (b d : Int) (n j : Nat) (T A : TypeId) (done : List Int) : Prop where
  bel : Below w.heap.size w wr
  s : wr.heap[w.heap.size]? = some (.cells #[.int .i64 b, .int .i64 d] T (0, 0))
  r : wr.heap[w.heap.size + 1]? = some (.cells (zv (List.replicate 12 0)) A (0, 0))
  row : wr.heap[w.heap.size + 1 + 1]? = some (.cells (zv (rowZ n (List.replicate j 0 ++ done))) A (0, 0))
  sz : w.heap.size + 1 + 1 < wr.heap.size

theorem RowSt.keep {w wr w1 : World} {b d : Int} {n j : Nat} {T A : TypeId} {done : List Int} (h : RowSt w wr b d n j T A done) (hb : Below wr.heap.size wr w1) : RowSt w w1 b d n j T A done :=
  ⟨h.bel.trans (hb.mono h.bel.size), (hb.block _ (by have := h.sz; omega)).trans h.s, (hb.block _ (by have := h.sz; omega)).trans h.r, (hb.block _ h.sz).trans h.row, Nat.lt_of_lt_of_le h.sz hb.size⟩

theorem rowZ_set {n j : Nat} {done : List Int} (v : Int) : (rowZ n (List.replicate (j + 1) 0 ++ done)).set j v = rowZ n (List.replicate j 0 ++ (v :: done)) := by
  unfold rowZ
  rw [List.replicate_succ', List.append_assoc, List.append_assoc, List.append_assoc, List.set_append_right _ _ (by simp)]
  simp

theorem RowSt.put {w wr : World} {b d : Int} {n j : Nat} {T A : TypeId} {done : List Int} (h : RowSt w wr b d n (j + 1) T A done) (v : Int) : RowSt w (wr.setCell ⟨w.heap.size + 1 + 1, j, none⟩ (.int .i64 v)) b d n j T A (v :: done) := by
  refine ⟨h.bel.setCell (by simp; omega) _, ?_, ?_, ?_, by simpa [World.setCell] using h.sz⟩
  · rw [heap_setCell_other _ _ _ _ (by simp; omega)]; exact h.s
  · rw [heap_setCell_other _ _ _ _ (by simp)]; exact h.r
  · rw [heap_setCell_same _ _ _ _ _ _ h.row, zv_set, rowZ_set]

theorem RowSt.cells {w wr : World} {b d : Int} {n j : Nat} {T A : TypeId} {done : List Int} (h : RowSt w wr b d n j T A done) :
    wr.cell? ⟨w.heap.size, 0, none⟩ = some (.int .i64 b) ∧ wr.cell? ⟨w.heap.size, 1, none⟩ = some (.int .i64 d) :=
  ⟨(cell_of_row wr _ _ _ _ _ h.s).trans rfl, (cell_of_row wr _ _ _ _ _ h.s).trans rfl⟩

theorem RowSt.at {w wr : World} {b d : Int} {n j : Nat} {T A : TypeId} {done : List Int} (h : RowSt w wr b d n (j + 1) T A done) :
    wr.cell? ⟨w.heap.size + 1 + 1, j, none⟩ = some (.int .i64 ((rowZ n (List.replicate (j + 1) 0 ++ done)).getD j 0)) ∧ wr.frozen? ⟨w.heap.size + 1 + 1, j, none⟩ = false :=
  ⟨(cell_of_row wr _ _ _ _ _ h.row).trans (zv_get _ _ (by simp [rowZ]; omega)), frozen_of_row wr _ _ _ _ h.row⟩

theorem rowSt_init (w : World) (b d : Int) (n : Nat) (hn : n ≤ 12) (T A : TypeId) {w1 : World} {N : Nat} (hb : Below N (((w.alloc (.cells #[.int .i64 b, .int .i64 d] T)).alloc (.cells (zv (List.replicate 12 0)) A)).alloc (.cells (zv (List.replicate 12 0)) A)) w1) (hN : w.heap.size + 1 + 1 + 1 ≤ N) :
    RowSt w w1 b d n n T A [] := by
  have e : rowZ n (List.replicate n 0 ++ []) = List.replicate 12 0 := by
    unfold rowZ
    rw [List.append_nil, List.replicate_append_replicate]
    congr 1; omega
  have h0 : RowSt w (((w.alloc (.cells #[.int .i64 b, .int .i64 d] T)).alloc (.cells (zv (List.replicate 12 0)) A)).alloc (.cells (zv (List.replicate 12 0)) A)) b d n n T A [] := by
    refine ⟨(((Below.refl _ _).alloc (Nat.le_refl _) _).alloc (by simp) _).alloc (by simp; omega) _, ?_, ?_, ?_, by simp⟩
    · rw [heap_alloc_old _ _ (by simp; omega)]; exact heap_alloc2_old _ _ _
    · rw [heap_alloc_old _ _ (by simp)]; exact heap_alloc2_new _ _ _
    · rw [e]
      have := heap_alloc_new ((w.alloc (.cells #[.int .i64 b, .int .i64 d] T)).alloc (.cells (zv (List.replicate 12 0)) A)) (.cells (zv (List.replicate 12 0)) A)
      simpa using this
  exact h0.keep (hb.mono (by simpa using hN))

set_option maxHeartbeats 800000 in
theorem row_any (b d x : Int) (w : World) (hb1 : 1 ≤ b) (hb2 : b ≤ 12) (hd1 : 1 ≤ d) (hd2 : d ≤ b) (h1 : 0 ≤ x) (h2 : x < sz b) :
    Calls Try.prog 79 #[.agg #[.int .i64 b, .int .i64 d], .int .i64 x] w fun e w' => e = .returned (.agg (zv (rowZ (cnt b d) (digL (cnt b d) (sz d) x)))) ∧ Below w.heap.size w w' := by
  obtain ⟨hq, q1, q2⟩ := cnt_bd hb1 hb2 hd1 hd2
  have hd3 : d ≤ 12 := by omega
  obtain ⟨hs1, hs2⟩ := sz_bd hb1 hb2
  obtain ⟨hs3, hs4⟩ := sz_bd hd1 hd3
  go_enter Try.func79, Try.ntmps79
  go_wp2_with fail
  refine (count_any _ _ _ hb1 hb2 hd1 hd2).mono ?_
  rintro e w1 ⟨rfl, hw1⟩
  have st0 : RowSt w w1 b d (cnt b d) (cnt b d) 25 116 [] := rowSt_init w b d _ q2 _ _ (by exact hw1) (by simp)
  clear hw1
  go_wp2_with fail
  go_loopw [1, 6] (fun vx vi wr => ∃ (j : Nat) (iv xj : Int) (done : List Int), j ≤ 12 ∧ vi = .int .i64 iv ∧ iv = (j : Int) - 1 ∧ vx = .int .i64 xj ∧ 0 ≤ xj ∧ xj < sz b ∧ digL j (sz d) xj ++ done = digL (cnt b d) (sz d) x ∧ RowSt w wr b d (cnt b d) j 25 116 done) (fun _ vi _ => (intOf vi + 1).toNat)
  case atStart => exact ⟨cnt b d, _, x, [], q2, rfl, by omega, rfl, h1, h2, by simp, st0⟩
  case round =>
    obtain ⟨j, iv, xj, done, hj, rfl, hiv, rfl, hx1, hx2, hdig, st⟩ := hrel
    have HD : Hid (digL j (sz d) xj ++ done = digL (cnt b d) (sz d) x) := hdig
    clear hdig hq st0
    obtain ⟨c0, c1⟩ := st.cells
    cases j with
    | zero =>
      obtain rfl : iv = -1 := by omega
      clear hiv
      have hdone : done = digL (cnt b d) (sz d) x := by simpa [digL] using HD.out
      subst hdone
      have hlen : (zv (rowZ (cnt b d) (List.replicate 0 0 ++ digL (cnt b d) (sz d) x))).size = 12 := by rw [zv_size]; simp [rowZ, digL_len]; omega
      have hone : (zv (rowZ (cnt b d) (List.replicate 0 0 ++ digL (cnt b d) (sz d) x))).all (·.oneCell') = true := zv_one _
      have hinf : (Try.prog.info? 116).map (·.size) = some (zv (rowZ (cnt b d) (List.replicate 0 0 ++ digL (cnt b d) (sz d) x))).size := by rw [hlen]; kernel_rfl
      have hold : (zv (List.replicate 12 0)).size = (zv (rowZ (cnt b d) (List.replicate 0 0 ++ digL (cnt b d) (sz d) x))).size := by rw [hlen, zv_size]; rfl
      have SR : Hid (wr.heap[w.heap.size + 1 + 1]? = some (.cells (zv (rowZ (cnt b d) (List.replicate 0 0 ++ digL (cnt b d) (sz d) x))) 116 (0, 0))) := st.row
      have SQ : Hid (wr.heap[w.heap.size + 1]? = some (.cells (zv (List.replicate 12 0)) 116 (0, 0))) := st.r
      have HI : Hid ((Try.prog.info? 116).map (·.size) = some (zv (rowZ (cnt b d) (List.replicate 0 0 ++ digL (cnt b d) (sz d) x))).size) := hinf
      have HB : Hid (Below w.heap.size w wr) := st.bel
      have HO : Hid ((zv (List.replicate 12 0)).size = (zv (rowZ (cnt b d) (List.replicate 0 0 ++ digL (cnt b d) (sz d) x))).size) := hold
      have HN : Hid ((zv (rowZ (cnt b d) (List.replicate 0 0 ++ digL (cnt b d) (sz d) x))).all (·.oneCell') = true) := hone
      clear hinf hlen hold hone st
      go_wp2_with (first | (refine wpList_load_row rfl 116 (.tmp 5) rfl (w.heap.size + 1 + 1) rfl _ _ _ _ SR.out Try.underlying116 rfl HI.out ?_) | (refine wpList_store_row rfl 116 (.tmp 4) (.tmp 24) rfl (w.heap.size + 1) _ rfl rfl _ _ SQ.out HI.out HO.out HN.out ?_))
      refine bodyPost_ret (v := .agg (zv (rowZ (cnt b d) (List.replicate 0 0 ++ digL (cnt b d) (sz d) x)))) (results_cell_row Try.results79 _ _ (w.heap.size + 1) _ _ _ _ rfl (setRow_heap _ _ _ _ _ _ SQ.out) Try.underlying116 rfl HI.out) rfl ⟨rfl, below_setRow HB.out (by omega) _⟩
    | succ m =>
      obtain rfl : iv = (m : Int) := by omega
      clear hiv
      go_wp2_with fail
      refine (base_any _ _ _ hd1 hd3).mono ?_
      rintro e w2 ⟨rfl, hw2⟩
      have st2 := st.keep hw2
      clear st hw2 c0 c1
      obtain ⟨c0, c1⟩ := st2.cells
      obtain ⟨r0, r1⟩ := st2.at
      go_wp2_with fail
      refine (base_any _ _ _ hd1 hd3).mono ?_
      rintro e w3 ⟨rfl, hw3⟩
      have st3 := (st2.put (xj % sz d)).keep hw3
      clear st2 hw3 c0 c1 r0 r1
      go_wp2
      go_roundw
      case rel =>
        obtain ⟨y1, y2⟩ := div_bd hx1 hx2 (by omega : 1 ≤ sz d)
        exact ⟨m, _, xj / sz d, xj % sz d :: done, by omega, rfl, by omega, rfl, y1, y2, digL_cons HD.out, st3⟩
      case measure => simp [intOf]
end Go.Proofs.Ytejajlloipkkhaa
namespace Go.Proofs.Ytejajlloipkkhaa
open Go.RowKit
set_option linter.unusedVariables false

/-- digits that are made from behind -/
def drow (n j : Nat) (done : List Int) : List Int := List.replicate j 0 ++ done
theorem drow_set {n j : Nat} {done : List Int} (v : Int) : (drow n (j + 1) done).set j v = drow n j (v :: done) := by
  unfold drow
  rw [List.replicate_succ', List.append_assoc, List.set_append_right _ _ (by simp)]
  simp

theorem BoxAt.put {w wr : World} {b d : Int} (h : BoxAt w wr b d) {g : Nat} (hg : w.heap.size < g) (i : Nat) (v : Value) : BoxAt w (wr.setCell ⟨g, i, none⟩ v) b d := by
  have hb : (wr.setCell ⟨g, i, none⟩ v).heap[w.heap.size]? = wr.heap[w.heap.size]? := heap_setCell_other _ _ _ _ (by simp; omega)
  exact ⟨h.bel.setCell (by simp; omega) _, (World.cell?_of_block (w := wr) hb).trans h.c0, (World.cell?_of_block (w := wr) hb).trans h.c1, by simpa [World.setCell] using h.lt⟩

def gOk (b d x : Int) : Bool := numB b d x
/-- a list of digits that is answered: nil where there is none, else in a block of its own -/
def DigV (b d x : Int) (w w' : World) (v : Value) : Prop :=
  (numB b d x = false ∧ v = .slice none 0 0) ∨ (numB b d x = true ∧ ∃ g, v = .slice (some ⟨g, 0, none⟩) (cnt b d) (cnt b d) ∧ OwnZ w w' g (digL (cnt b d) (sz d) x))

end Go.Proofs.Ytejajlloipkkhaa
namespace Go.Proofs.Ytejajlloipkkhaa
open Go.RowKit
set_option linter.unusedVariables false
theorem ndbd {b d n : Int} (hg : gsB b d = true) (n1 : 0 ≤ n) (n2 : n ≤ b / d) : 0 ≤ n * d ∧ n * d ≤ 12 := by
  obtain ⟨h1, h2, h3, _, _⟩ := gsB_true hg
  refine ⟨Int.mul_nonneg n1 (by omega), ?_⟩
  have := Int.mul_le_mul_of_nonneg_right n2 (show 0 ≤ d by omega)
  rw [bits_eq hg] at this
  omega
theorem sz_nd {x : Int} (h1 : 0 ≤ x) (h2 : x ≤ 12) : 1 ≤ sz x ∧ sz x ≤ 4096 := by
  by_cases h : x = 0
  · subst h; decide
  · have := sz_bd (b := x) (by omega) h2; omega
theorem ret_two {x y a b : Int} (h1 : x = a) (h2 : y = b) : Ending.returned (.tuple #[.int .i64 x, .int .i64 y]) = .returned (.tuple #[.int .i64 a, .int .i64 b]) := by rw [h1, h2]
theorem dist_zero {b f t : Int} (f1 : 0 ≤ f) (f2 : f < sz b) (t1 : 0 ≤ t) (t2 : t < sz b) : dist b f t = 0 ↔ f = t := by
  rw [dist_eq f1 f2 t1 t2]
  split <;> omega
theorem rnd_dist {b f t : Int} (f1 : 0 ≤ f) (f2 : f < sz b) (t1 : 0 ≤ t) (t2 : t < sz b) : rnd b f t = if dist b f t = 0 then sz b else dist b f t := by
  unfold rnd
  by_cases h : f = t
  · rw [if_pos h, if_pos ((dist_zero f1 f2 t1 t2).2 h)]
  · rw [if_neg h, if_neg (fun hh => h ((dist_zero f1 f2 t1 t2).1 hh))]
set_option maxHeartbeats 1600000 in
theorem lbest_any (b d f t k : Int) (w : World) (hg : gsB b d = true) (f1 : 0 ≤ f) (f2 : f < sz b) (t1 : 0 ≤ t) (t2 : t < sz b) (k1 : 0 ≤ k) (k2 : k < sz b) :
    Calls Try.prog 78 #[.agg #[.int .i64 b, .int .i64 d], .int .i64 f, .int .i64 t, .int .i64 k] w fun e w' => e = .returned (.tuple #[.int .i64 (bestI b d f t k).1, .int .i64 (bestI b d f t k).2]) ∧ Below w.heap.size w w' := by
  obtain ⟨hb1, hb2, hd1, hd2, _⟩ := gsB_true hg
  obtain ⟨hs1, hs2⟩ := sz_bd hb1 hb2
  obtain ⟨hq, q1, q2⟩ := cnt_bd hb1 hb2 hd1 hd2
  have hr := rnd_dist f1 f2 t1 t2
  generalize hR : bestI b d f t k = R
  have HR : Hid (bestI b d f t k = R) := hR
  clear hR
  go_enter Try.func78, Try.ntmps78
  go_wp2_with fail
  refine (ldist_any _ _ _ _ _ hb1 hb2 f1 f2 t1 t2).mono ?_
  rintro e w1 ⟨rfl, hw1⟩
  have BX1 : Hid (BoxAt w w1 b d) := boxAt1 hw1 (by simp)
  clear hw1
  go_upto_if 26 with (fail)
  go_cut [11] (fun v11 wc => v11 = .int .i64 (rnd b f t) ∧ Hid (BoxAt w wc b d))
  case first =>
    obtain ⟨_, c0, c1, _⟩ := BX1.out
    by_cases h0 : dist b f t = 0
    · rw [if_pos h0] at hr
      go_wp2_with fail
      refine (lsize_any _ _ _ hb1 hb2).mono ?_
      rintro e w2 ⟨rfl, hw2⟩
      go_wp2_with fail
      go_meet
      exact ⟨by rw [hr], BX1.out.keep hw2⟩
    · rw [if_neg h0] at hr
      go_wp2_with fail
      go_meet
      exact ⟨by rw [hr], BX1⟩
  case rest =>
    obtain ⟨rfl, BX2⟩ := hcut
    clear BX1 hr
    obtain ⟨m2, m1⟩ := rnd_pos hb1 f1 f2 t1 t2
    have HG : Hid (gsB b d = true) := hg
    have HB : Hid (R = best b d f (rnd b f t) k (cnt b d)) := HR.out.symm
    generalize rnd b f t = m at *
    clear hg
    go_wp2_with fail
    go_loop [12] (fun v => ∃ (j : Nat) (n : Int), n = (j : Int) ∧ j ≤ cnt b d ∧ v = .int .i64 n ∧ Hid (R = best b d f m k j)) (fun v => (intOf v).toNat)
    case atStart => exact ⟨cnt b d, _, rfl, Nat.le_refl _, rfl, HB⟩
    case round =>
      obtain ⟨j, n, hn, hj, rfl, HI⟩ := hrel
      clear HB
      obtain ⟨_, c0, c1, _⟩ := BX2.out
      cases j with
      | zero =>
        obtain rfl : n = 0 := by omega
        clear hn
        go_wp2_with fail
        go_ret2
        exact ⟨ret_two (by rw [HI.out]; rfl) (by rw [HI.out]; exact hq.symm), BX2.out.bel⟩
      | succ j =>
        obtain ⟨nd1, nd2⟩ := ndbd HG.out (show 0 ≤ n by omega) (show n ≤ b / d by omega)
        obtain ⟨od1, od2⟩ := ndbd HG.out (show 0 ≤ b / d - n by omega) (show b / d - n ≤ b / d by omega)
        rw [hq] at od1 od2
        have HN : Hid (n = ((j + 1 : Nat) : Int)) := hn
        have n1 : 1 ≤ n := by omega
        have n2 : n ≤ 12 := by omega
        clear hn
        obtain ⟨x, hx⟩ : ∃ x, x = n * d := ⟨_, rfl⟩
        obtain ⟨y, hy⟩ : ∃ y, y = ((cnt b d : Int) - n) * d := ⟨_, rfl⟩
        have HX : Hid (x = n * d) := hx
        have HY : Hid (y = ((cnt b d : Int) - n) * d) := hy
        rw [← hx] at nd1 nd2
        rw [← hy] at od1 od2
        have hwx : wrap64 (n * d) = x := by rw [← hx]; exact IntWalk.wrap64_in x (by omega)
        have hwy : wrap64 (((cnt b d : Int) - n) * d) = y := by rw [← hy]; exact IntWalk.wrap64_in y (by omega)
        clear hx hy
        obtain ⟨p1, p2⟩ := sz_nd nd1 nd2
        have hP : wrap64 (2 ^ x.toNat) = sz x := IntWalk.wrap64_in (sz x) (by omega)
        have hK : k / 2 ^ y.toNat = k / sz y := rfl
        have K1 : 0 ≤ k / sz y := Int.ediv_nonneg k1 (Int.le_of_lt (sz_pos _))
        have K2 : k / sz y ≤ 4096 := Int.le_trans (Int.ediv_le_self _ k1) (by omega)
        go_upto_region 10 with (fail)
        simp only [hP]
        clear hP hK
        have HP : Hid (sz x = sz (n * d)) := by rw [← HX.out]; rfl
        have HK : Hid (k / sz y = k / sz (((cnt b d : Int) - n) * d)) := by rw [← HY.out]; rfl
        generalize sz x = P at *
        generalize k / sz y = K at *
        have g1 := Int.emod_nonneg f (show P ≠ 0 by omega)
        have g2 := Int.emod_lt_of_pos f (show 0 < P by omega)
        go_upto_region 11 with (fail)
        have HU : Hid (up4 b d f k n = (K - f % P + P) % P) := by unfold Hid up4; rw [hq, ← HP.out, ← HK.out]
        have u1 := Int.emod_nonneg (K - f % P + P) (show P ≠ 0 by omega)
        have u2 := Int.emod_lt_of_pos (K - f % P + P) (show 0 < P by omega)
        generalize (K - f % P + P) % P = U at *
        by_cases hu : U < m
        · have HV : Hid (R = ((f + U) % sz b, (cnt b d : Int) - n)) := by
            have h := HI.out
            unfold best at h
            rw [← HN.out, HU.out, if_pos hu, hq] at h
            exact h
          have hub : decide (U < m) = true := decide_eq_true hu
          go_wp2_with fail
          refine (lsize_any _ _ _ hb1 hb2).mono ?_
          rintro e w2 ⟨rfl, hw2⟩
          go_wp2_with fail
          go_ret2
          exact ⟨ret_two (by rw [HV.out]) (by rw [HV.out]), belt BX2.out.bel hw2⟩
        · have HV : Hid (R = best b d f m k j) := by
            have h := HI.out
            unfold best at h
            rw [← HN.out, HU.out, if_neg hu] at h
            exact h
          have hub : decide (U < m) = false := decide_eq_false hu
          go_wp2_with fail
          go_round
          case rel => exact ⟨j, _, by have := HN.out; omega, by omega, rfl, HV⟩
          case measure => simp [intOf]; omega
theorem up_eq {K f P S : Int} (h : P ∣ S) : (K - f + S) % P = (K - f % P + P) % P := by
  obtain ⟨q, rfl⟩ := h
  rw [Int.add_mul_emod_self_left, Int.add_emod_right, Int.sub_emod_emod]
set_option maxHeartbeats 1600000 in
theorem imagFrom_any (b d f t k : Int) (w : World) (hg : gsB b d = true) (f1 : 0 ≤ f) (f2 : f < sz b) (t1 : 0 ≤ t) (t2 : t < sz b) (k1 : 0 ≤ k) (k2 : k < sz b) :
    Calls Try.prog 77 #[.agg #[.int .i64 b, .int .i64 d], .int .i64 f, .int .i64 t, .int .i64 k] w fun e w' => e = .returned (.tuple #[.int .i64 (bestI b d f t k).1, .int .i64 (bestI b d f t k).2]) ∧ Below w.heap.size w w' := by
  obtain ⟨hb1, hb2, hd1, hd2, _⟩ := gsB_true hg
  obtain ⟨hs1, hs2⟩ := sz_bd hb1 hb2
  obtain ⟨hq, q1, q2⟩ := cnt_bd hb1 hb2 hd1 hd2
  obtain ⟨m2, m1⟩ := rnd_pos hb1 f1 f2 t1 t2
  generalize hR : bestI b d f t k = R
  have HB : Hid (R = best b d f (rnd b f t) k (cnt b d)) := hR.symm
  have HG : Hid (gsB b d = true) := hg
  have HRU := fun w => roundUp_any b d f t w hb1 hb2 f1 f2 t1 t2
  generalize rnd b f t = m at *
  clear hR hg
  go_enter Try.func77, Try.ntmps77
  go_wp2_with fail
  have BX2 : Hid (BoxAt w (w.alloc (.cells #[.int .i64 b, .int .i64 d] 25)) b d) := boxAt1 (N := w.heap.size + 1) (Below.refl _ _) (Nat.le_refl _)
  go_loopw [10] (fun v wr => ∃ (j : Nat) (l n : Int), l = (j : Int) ∧ n = (cnt b d : Int) - l ∧ j ≤ cnt b d ∧ v = .int .i64 l ∧ Hid (BoxAt w wr b d) ∧ Hid (R = best b d f m k (cnt b d - j))) (fun v _ => cnt b d + 1 - (intOf v).toNat)
  case atStart => exact ⟨0, _, _, rfl, rfl, by omega, rfl, BX2, HB⟩
  case round =>
    obtain ⟨j, l, n, hl, hn, hj, rfl, BX, HI⟩ := hrel
    clear HB BX2
    obtain ⟨_, c0, c1, _⟩ := BX.out
    obtain ⟨nd1, nd2⟩ := ndbd HG.out (show 0 ≤ n by omega) (show n ≤ b / d by omega)
    obtain ⟨od1, od2⟩ := ndbd HG.out (show 0 ≤ l by omega) (show l ≤ b / d by omega)
    have HN : Hid (l = (j : Int) ∧ n = (cnt b d : Int) - l) := ⟨hl, hn⟩
    have l1 : 0 ≤ l := by omega
    have l2 : l ≤ 12 := by omega
    have hpart : sz (n * d) * sz (l * d) = sz b := by
      have := sz_part HG.out (show 0 ≤ n by omega) (show n ≤ b / d by omega)
      rwa [show b / d - n = l by omega] at this
    clear hl hn
    obtain ⟨y, hy⟩ : ∃ y, y = l * d := ⟨_, rfl⟩
    have HY : Hid (y = l * d) := hy
    have hwy : wrap64 (l * d) = y := by rw [← hy]; exact IntWalk.wrap64_in y (by omega)
    rw [← hy] at od1 od2 hpart
    clear hy
    obtain ⟨p1, p2⟩ := sz_nd nd1 nd2
    have hP : sz b / 2 ^ y.toNat = sz (n * d) := by
      show sz b / sz y = _
      rw [← hpart]; exact Int.mul_ediv_cancel _ (by have := sz_pos y; omega)
    have HD : Hid (sz (n * d) ∣ sz b) := ⟨_, hpart.symm⟩
    have hK : k / 2 ^ y.toNat = k / sz y := rfl
    clear hpart
    have K1 : 0 ≤ k / sz y := Int.ediv_nonneg k1 (Int.le_of_lt (sz_pos _))
    have K2 : k / sz y ≤ 4096 := Int.le_trans (Int.ediv_le_self _ k1) (by omega)
    go_wp2_with fail
    refine (size_any _ _ _ hb1 hb2).mono ?_
    rintro e w2 ⟨rfl, hw2⟩
    have BX2 : Hid (BoxAt w w2 b d) := BX.out.keep hw2
    clear BX hw2 c0 c1
    obtain ⟨_, c0, c1, z2⟩ := BX2.out
    go_upto_region 5 with (fail)
    clear hP
    have HP : Hid (sz (n * d) = sz (n * d)) := rfl
    have HK : Hid (k / sz y = k / sz (l * d)) := by rw [← HY.out]; rfl
    obtain ⟨P, hP⟩ : ∃ P, P = sz (n * d) := ⟨_, rfl⟩
    clear HP
    have HP : Hid (P = sz (n * d)) := hP
    simp only [← hP] at p1 p2 HD ⊢
    clear hP
    have c0k : ∀ p : Kin w2.heap.size w2, p.v.cell? ⟨w.heap.size, 0, none⟩ = some (.int .i64 b) := kin_cell z2 c0
    have c1k : ∀ p : Kin w2.heap.size w2, p.v.cell? ⟨w.heap.size, 1, none⟩ = some (.int .i64 d) := kin_cell z2 c1
    refine region_kin w2.heap.size (by kernel_rfl) (by kernel_rfl) (fun hne => ?_)
    repeat (go_big_quiet_step ((go_at_call 82; exact kin_of (Nat.le_refl _) (size_any _ _ _ hb1 hb2))))
    refine wpQuiet_nil ?_
    intro w5 hw'
    obtain ⟨⟨w6, hw5⟩, hw''⟩ := hw'
    obtain rfl : w5 = w6 := hw''
    have BX5 : Hid (BoxAt w w5 b d) := BX2.out.keep hw5
    clear c0k c1k hne hw5 c0 c1 z2 BX2 hK
    have HU : Hid (up4 b d f k n = (k / sz y - f + sz b) % P) := by
      obtain ⟨h1, h2⟩ := HN.out
      unfold Hid up4
      rw [up_eq HD.out, HK.out, HP.out, hq, show (cnt b d : Int) - n = l by omega]
    have u1 := Int.emod_nonneg (k / sz y - f + sz b) (show P ≠ 0 by omega)
    have u2 := Int.emod_lt_of_pos (k / sz y - f + sz b) (show 0 < P by omega)
    generalize (k / sz y - f + sz b) % P = U at *
    obtain ⟨_, c0, c1, z5⟩ := BX5.out
    by_cases hu : U < m
    · have HV : Hid (R = ((f + U) % sz b, l)) := by
        obtain ⟨h1, h2⟩ := HN.out
        have h := HI.out
        by_cases hz : cnt b d - j = 0
        · rw [hz] at h
          unfold best at h
          have hn0 : n = 0 := by omega
          have hP := HP.out
          rw [hn0, Int.zero_mul, sz_zero] at hP
          have hU0 : U = 0 := by omega
          rw [hU0, Int.add_zero, Int.emod_eq_of_lt f1 f2]
          rw [hq, show (cnt b d : Int) = l by omega] at h
          exact h
        · obtain ⟨i, hi⟩ : ∃ i, cnt b d - j = i + 1 := ⟨cnt b d - j - 1, by omega⟩
          rw [hi] at h
          unfold best at h
          rw [show ((i + 1 : Nat) : Int) = n by omega, HU.out, if_pos hu, hq, show (cnt b d : Int) - n = l by omega] at h
          exact h
      go_wp2_with fail
      refine (HRU _).mono ?_
      rintro e w7 ⟨rfl, hw7⟩
      have BX7 : Hid (BoxAt w w7 b d) := BX5.out.keep hw7
      clear BX5 hw7 c0 c1
      obtain ⟨_, c0, c1, z7⟩ := BX7.out
      go_wp2_with fail
      refine (size_any _ _ _ hb1 hb2).mono ?_
      rintro e w8 ⟨rfl, hw8⟩
      go_wp2_with fail
      go_ret2
      exact ⟨ret_two (by rw [HV.out]) (by rw [HV.out]), belt BX7.out.bel hw8⟩
    · have HV : Hid (j < cnt b d ∧ R = best b d f m k (cnt b d - (j + 1))) := by
        obtain ⟨h1, h2⟩ := HN.out
        have h := HI.out
        have hz : ¬ cnt b d - j = 0 := fun hz => by
          have hn0 : n = 0 := by omega
          have hP := HP.out
          rw [hn0, Int.zero_mul, sz_zero] at hP
          omega
        obtain ⟨i, hi⟩ : ∃ i, cnt b d - j = i + 1 := ⟨cnt b d - j - 1, by omega⟩
        rw [hi] at h
        unfold best at h
        rw [show ((i + 1 : Nat) : Int) = n by omega, HU.out, if_neg hu] at h
        exact ⟨by omega, by rw [show cnt b d - (j + 1) = i by omega]; exact h⟩
      have hub : decide (U < m) = false := decide_eq_false hu
      go_wp2_with fail
      refine (HRU _).mono ?_
      rintro e w7 ⟨rfl, hw7⟩
      have BX7 : Hid (BoxAt w w7 b d) := BX5.out.keep hw7
      clear BX5 hw7 c0 c1
      obtain ⟨_, c0, c1, z7⟩ := BX7.out
      go_wp2_with fail
      go_roundw
      case rel =>
        obtain ⟨h1, h2⟩ := HN.out
        exact ⟨j + 1, _, _, by omega, rfl, HV.out.1, rfl, BX7, HV.out.2⟩
      case measure => have h := HN.out.1; have h2 := HV.out.1; simp [intOf]; omega
end Go.Proofs.Ytejajlloipkkhaa
namespace Go.Proofs.Ytejajlloipkkhaa
open Go.RowKit
set_option linter.unusedVariables false
def bstOk (b d f t k : Int) : Bool := numB b d f && numB b d t && numB b d k
def bstV (b d f t k : Int) : Int × Int := if bstOk b d f t k = true then bestI b d f t k else (0, 0)
set_option maxHeartbeats 800000 in
theorem BestImag_any (b d f t k : Int) (w : World) :
    Calls Try.prog 34 #[.agg #[.int .i64 b, .int .i64 d], .int .i64 f, .int .i64 t, .int .i64 k] w fun e w' => e = .returned (.tuple #[.int .i64 (bstV b d f t k).1, .int .i64 (bstV b d f t k).2, .bool (bstOk b d f t k)]) ∧ Below w.heap.size w w' := by
  unfold bstV bstOk
  cases hf : numB b d f
  · simp only [Bool.false_and]
    skip
    go_enter Try.func34, Try.ntmps34
    go_wp2_with fail
    refine (isNumber_any _ _ _ _).mono ?_
    rintro e w1 ⟨rfl, hw1⟩
    obtain ⟨k10, k11, z1⟩ := keep2 (bk := w.heap.size) (u := .int .i64 b) (v := .int .i64 d) hw1 (by simp; try omega) (by simp) (by simp)
    go_wp2
    go_ret3
    exact ⟨rfl, bel1 hw1 (by simp; try omega)⟩
  · cases ht : numB b d t
    · simp only [Bool.false_and, Bool.and_false]
      go_enter Try.func34, Try.ntmps34
      go_wp2_with fail
      refine (isNumber_any _ _ _ _).mono ?_
      rintro e w1 ⟨rfl, hw1⟩
      obtain ⟨k10, k11, z1⟩ := keep2 (bk := w.heap.size) (u := .int .i64 b) (v := .int .i64 d) hw1 (by simp; try omega) (by simp) (by simp)
      go_wp2_with fail
      refine (isNumber_any _ _ _ _).mono ?_
      rintro e w2 ⟨rfl, hw2⟩
      obtain ⟨k20, k21, z2⟩ := keep2 hw2 z1 k10 k11
      go_wp2
      go_ret3
      exact ⟨rfl, belt (bel1 hw1 (by simp; try omega)) hw2⟩
    · cases hk : numB b d k
      · simp only [Bool.and_false]
        go_enter Try.func34, Try.ntmps34
        go_wp2_with fail
        refine (isNumber_any _ _ _ _).mono ?_
        rintro e w1 ⟨rfl, hw1⟩
        obtain ⟨k10, k11, z1⟩ := keep2 (bk := w.heap.size) (u := .int .i64 b) (v := .int .i64 d) hw1 (by simp; try omega) (by simp) (by simp)
        go_wp2_with fail
        refine (isNumber_any _ _ _ _).mono ?_
        rintro e w2 ⟨rfl, hw2⟩
        obtain ⟨k20, k21, z2⟩ := keep2 hw2 z1 k10 k11
        go_wp2_with fail
        refine (isNumber_any _ _ _ _).mono ?_
        rintro e w3 ⟨rfl, hw3⟩
        obtain ⟨k30, k31, z3⟩ := keep2 hw3 z2 k20 k21
        go_wp2
        go_ret3
        exact ⟨rfl, belt (belt (bel1 hw1 (by simp; try omega)) hw2) hw3⟩
      · obtain ⟨hg, f1, f2⟩ := numB_true hf
        obtain ⟨_, t1, t2⟩ := numB_true ht
        obtain ⟨_, k1, k2⟩ := numB_true hk
        simp only [Bool.and_self, if_true]
        go_enter Try.func34, Try.ntmps34
        go_wp2_with fail
        refine (isNumber_any _ _ _ _).mono ?_
        rintro e w1 ⟨rfl, hw1⟩
        obtain ⟨k10, k11, z1⟩ := keep2 (bk := w.heap.size) (u := .int .i64 b) (v := .int .i64 d) hw1 (by simp; try omega) (by simp) (by simp)
        go_wp2_with fail
        refine (isNumber_any _ _ _ _).mono ?_
        rintro e w2 ⟨rfl, hw2⟩
        obtain ⟨k20, k21, z2⟩ := keep2 hw2 z1 k10 k11
        go_wp2_with fail
        refine (isNumber_any _ _ _ _).mono ?_
        rintro e w3 ⟨rfl, hw3⟩
        obtain ⟨k30, k31, z3⟩ := keep2 hw3 z2 k20 k21
        go_wp2_with fail
        refine (imagFrom_any _ _ _ _ _ _ hg f1 f2 t1 t2 k1 k2).mono ?_
        rintro e w4 ⟨rfl, hw4⟩
        obtain ⟨k40, k41, z4⟩ := keep2 hw4 z3 k30 k31
        go_wp2
        go_ret3
        exact ⟨rfl, belt (belt (belt (bel1 hw1 (by simp; try omega)) hw2) hw3) hw4⟩
set_option maxHeartbeats 800000 in
theorem lBestImag_any (b d f t k : Int) (w : World) :
    Calls Try.prog 35 #[.agg #[.int .i64 b, .int .i64 d], .int .i64 f, .int .i64 t, .int .i64 k] w fun e w' => e = .returned (.tuple #[.int .i64 (bstV b d f t k).1, .int .i64 (bstV b d f t k).2, .bool (bstOk b d f t k)]) ∧ Below w.heap.size w w' := by
  have hn := numsB_3 b d f t k
  unfold bstV bstOk
  cases hx : (numB b d f && numB b d t && numB b d k)
  ·
    rw [hx] at hn
    go_enter Try.func35, Try.ntmps35
    go_wp2_with fail
    refine (lnums_any b d _ _ _ [f, t, k] _ (by simp [maxLen]) ?hl ?hc).mono ?_
    case hl => simp
    case hc =>
      intro i hi
      match i, hi with
      | 0, _ => simp
      | 1, _ => simp
      | 2, _ => simp
    rintro e w1 ⟨rfl, hw1⟩
    obtain ⟨k10, k11, z1⟩ := keep2 (bk := w.heap.size) (u := .int .i64 b) (v := .int .i64 d) hw1 (by simp; try omega) (by simp) (by simp)
    go_wp2
    go_ret3
    exact ⟨rfl, bel2 hw1 (by simp; try omega)⟩
  ·
    have hx2 := hx
    rw [Bool.and_eq_true, Bool.and_eq_true] at hx2
    obtain ⟨⟨hf, ht⟩, hk⟩ := hx2
    obtain ⟨hg, f1, f2⟩ := numB_true hf
    obtain ⟨_, t1, t2⟩ := numB_true ht
    obtain ⟨_, k1, k2⟩ := numB_true hk
    clear hf ht hk
    rw [hx] at hn
    go_enter Try.func35, Try.ntmps35
    go_wp2_with fail
    refine (lnums_any b d _ _ _ [f, t, k] _ (by simp [maxLen]) ?hl ?hc).mono ?_
    case hl => simp
    case hc =>
      intro i hi
      match i, hi with
      | 0, _ => simp
      | 1, _ => simp
      | 2, _ => simp
    rintro e w1 ⟨rfl, hw1⟩
    obtain ⟨k10, k11, z1⟩ := keep2 (bk := w.heap.size) (u := .int .i64 b) (v := .int .i64 d) hw1 (by simp; try omega) (by simp) (by simp)
    go_wp2_with fail
    refine (lbest_any _ _ _ _ _ _ hg f1 f2 t1 t2 k1 k2).mono ?_
    rintro e w2 ⟨rfl, hw2⟩
    obtain ⟨k20, k21, z2⟩ := keep2 hw2 z1 k10 k11
    go_wp2
    go_ret3
    exact ⟨rfl, belt (bel2 hw1 (by simp; try omega)) hw2⟩
end Go.Proofs.Ytejajlloipkkhaa
namespace Go.Proofs.Ytejajlloipkkhaa
open Go.RowKit
set_option linter.unusedVariables false

set_option maxHeartbeats 3200000 in
theorem GoodPeers_any (b d : Int) (a : Option Addr) (cap : Nat) (ps : List Pr) (w : World) (hm : ps.length ≤ 1048576) (hr : PeersAt w a ps) :
    Calls Try.prog 56 #[.agg #[.int .i64 b, .int .i64 d, .slice a ps.length cap]] w fun e w' => e = .returned (.bool (goodP b d ps)) ∧ Below w.heap.size w w' := by
  have hil := idsP_len ps
  have hr1 := hr.alloc (.cells #[.int .i64 b, .int .i64 d, .slice a ps.length cap] 28)
  by_cases hbig : 16 < ps.length
  · have hv : goodP b d ps = false := by unfold goodP; rw [ringB_len (by omega)]; rfl
    rw [hv]
    go_enter Try.func56, Try.ntmps56
    go_wp2
    go_ret
    exact ⟨rfl, (Below.refl _ _).alloc (Nat.le_refl _) _⟩
  · have l16 : ps.length ≤ 16 := by omega
    have CI := idsOf_any w.heap.size a cap ps (w.alloc (.cells #[.int .i64 b, .int .i64 d, .slice a ps.length cap] 28)) hm (by simp) (by go_simp) hr1
    have HR : Hid (PeersAt w a ps) := hr
    clear hr hr1
    cases hg : ringB b d (idsP ps)
    · have hv : Hid (goodP b d ps = false) := by unfold Hid goodP; rw [hg]; rfl
      go_enter Try.func56, Try.ntmps56
      go_wp2_with fail
      refine CI.mono ?_
      rintro e w1 ⟨rfl, ow1⟩
      clear CI
      have BX1 : Hid (BxP w w1 b d (.slice a ps.length cap)) := bxP1 ow1.bel (by simp)
      have HI1 : Hid (RowAt w1 (some ⟨w.heap.size + 1, 0, none⟩) (idsP ps)) := by have := rowAt_of_row ow1.row; simp only [World.size_alloc] at this; exact this
      have CR := GoodRing_any b d (some ⟨w.heap.size + 1, 0, none⟩) ps.length (idsP ps) w1 (by unfold maxLen; omega) HI1.out
      rw [hg, hil] at CR
      obtain ⟨_, _, q0, q1, q2⟩ := BX1.out
      clear ow1
      go_wp2_with fail
      refine CR.mono ?_
      rintro e w2 ⟨rfl, hw2⟩
      go_wp2
      go_ret
      exact ⟨ret_bool hv.out.symm, belt BX1.out.bel hw2⟩
    · have R := ringB_true hg
      have l1 := R.l1
      rw [hil] at l1
      have RR : Hid (Ring b d (idsP ps)) := R
      have HG : Hid (ringB b d (idsP ps) = true) := hg
      have hg1 := hg
      clear R hg
      go_enter Try.func56, Try.ntmps56
      go_wp2_with fail
      refine CI.mono ?_
      rintro e w1 ⟨rfl, ow1⟩
      clear CI
      have BX1 : Hid (BxP w w1 b d (.slice a ps.length cap)) := bxP1 ow1.bel (by simp)
      have HI1 : Hid (RowAt w1 (some ⟨w.heap.size + 1, 0, none⟩) (idsP ps)) := by have := rowAt_of_row ow1.row; simp only [World.size_alloc] at this; exact this
      have CR := GoodRing_any b d (some ⟨w.heap.size + 1, 0, none⟩) ps.length (idsP ps) w1 (by unfold maxLen; omega) HI1.out
      rw [hg1, hil] at CR
      obtain ⟨_, _, q0, q1, q2⟩ := BX1.out
      clear ow1 hg1
      go_wp2_with fail
      refine CR.mono ?_
      rintro e w2 ⟨rfl, hw2⟩
      clear CR q0 q1 q2
      have BX2 : Hid (BxP w w2 b d (.slice a ps.length cap)) := BX1.out.keep hw2
      have HI2 : Hid (RowAt w2 (some ⟨w.heap.size + 1, 0, none⟩) (idsP ps)) := HI1.out.keep hw2
      clear BX1 HI1 hw2
      obtain ⟨_, _, _, _, q2⟩ := BX2.out
      go_wp2_with fail
      go_loopw [18] (fun vi wr => ∃ (k : Nat), k ≤ ps.length ∧ vi = .int .i64 k ∧ Hid (BxP w wr b d (.slice a ps.length cap)) ∧ Hid (RowAt wr (some ⟨w.heap.size + 1, 0, none⟩) (idsP ps)) ∧ Hid (∀ i, i < k → prB (idsP ps) (ps.getD i pr0) = true)) (fun vi _ => ps.length - (intOf vi).toNat)
      case atStart => exact ⟨0, Nat.zero_le _, rfl, BX2, HI2, fun i hi => by omega⟩
      case round =>
        obtain ⟨k, hk, rfl, BX, HI, HS⟩ := hrel
        clear BX2 HI2 q2
        obtain ⟨_, qlt, _, _, q2⟩ := BX.out
        have HB : Hid (Below w.heap.size w wr) := BX.out.bel
        by_cases hlt : k < ps.length
        · obtain ⟨bk, off, rfl⟩ := peersAt_form HR.out (by omega)
          obtain ⟨hbk, hpk⟩ := peersAt_cell (HR.out.keep HB.out) (by omega)
          have C := isPeer_any (some ⟨w.heap.size + 1, 0, none⟩) ps.length (idsP ps) bk (off + k * 4) (ps.getD k pr0) wr (by omega) (by omega) HI.out hbk (hpk k hlt)
          rw [prI_eq RR.out, hil] at C
          clear hpk
          cases hp : prB (idsP ps) (ps.getD k pr0)
          · rw [hp] at C
            have hv : Hid (goodP b d ps = false) := goodP_no hlt (by rw [hp]; simp)
            clear hp
            go_wp2_with fail
            refine C.mono ?_
            rintro e w3 ⟨rfl, hw3⟩
            go_wp2
            go_ret
            exact ⟨ret_bool hv.out.symm, belt HB.out hw3⟩
          · rw [hp] at C
            have HS2 : Hid (∀ i, i < k + 1 → prB (idsP ps) (ps.getD i pr0) = true) := fun i hi => by
              by_cases he : i = k
              · subst he; exact hp
              · exact HS.out i (by omega)
            clear hp
            go_wp2_with fail
            refine C.mono ?_
            rintro e w3 ⟨rfl, hw3⟩
            have BX3 : Hid (BxP w w3 b d (.slice (some ⟨bk, off, none⟩) ps.length cap)) := BX.out.keep hw3
            have HI3 : Hid (RowAt w3 (some ⟨w.heap.size + 1, 0, none⟩) (idsP ps)) := HI.out.keep hw3
            go_wp2
            go_roundw
            case rel => exact ⟨k + 1, by omega, by go_num, BX3, HI3, HS2⟩
            case measure => simp [intOf]; omega
        · have hv : Hid (goodP b d ps = true) := goodP_yes HG.out (fun i hi => HS.out i (by omega))
          go_wp2
          go_ret
          exact ⟨ret_bool hv.out.symm, HB.out⟩
end Go.Proofs.Ytejajlloipkkhaa
namespace Go.Proofs.Ytejajlloipkkhaa
open Go.RowKit
set_option linter.unusedVariables false
theorem rowAt_reads {w : World} {ad : Addr} {zs : List Int} (h : RowAt w (some ad) zs) : ∀ (j : Nat) (u : Value), (zs.map (Value.int .i64))[j]? = some u → w.cell? (ad.add j) = some u := by
  intro j u hj
  have hl : j < zs.length := by
    rcases Nat.lt_or_ge j zs.length with h' | h'
    · exact h'
    · rw [List.getElem?_eq_none (by simpa using h')] at hj; cases hj
  obtain ⟨bk, off, ha⟩ := rowAt_form h (by omega)
  simp at ha
  subst ha
  rw [add_none', (rowAt_cell h (by omega)).2 j hl]
  rw [List.getElem?_map, List.getElem?_eq_getElem hl] at hj
  simp at hj
  rw [← hj]
  simp [List.getD_eq_getElem?_getD, hl]
end Go.Proofs.Ytejajlloipkkhaa
namespace Go.Proofs.Ytejajlloipkkhaa
open Go.RowKit
set_option linter.unusedVariables false
theorem qq6 {w w4 wr : World} {b d b' d' : Int} {v v' : Value} (h : BxP w wr b d v) (x : BxP w4 wr b' d' v') : wr.cell? ⟨w.heap.size, 0, none⟩ = some (.int .i64 b) ∧ wr.cell? ⟨w.heap.size, 1, none⟩ = some (.int .i64 d) ∧ wr.cell? ⟨w.heap.size, 2, none⟩ = some v ∧ wr.cell? ⟨w4.heap.size, 0, none⟩ = some (.int .i64 b') ∧ wr.cell? ⟨w4.heap.size, 1, none⟩ = some (.int .i64 d') ∧ wr.cell? ⟨w4.heap.size, 2, none⟩ = some v' := ⟨h.c0, h.c1, h.c2, x.c0, x.c1, x.c2⟩
end Go.Proofs.Ytejajlloipkkhaa
namespace Go.Proofs.Ytejajlloipkkhaa
open Go.RowKit
set_option linter.unusedVariables false
theorem OwnP.point {B T : Nat} {w : World} {g : Nat} {L : List (Pr × Value)} (h : OwnP B T w g L) {i : Nat} (hi : i < L.length) (z : Int) :
    OwnP B T (w.setCell ⟨g, i * 4 + 2, none⟩ (.int .i64 z)) g (L.set i (⟨(L.getD i d0).1.id, (L.getD i d0).1.succ, z, (L.getD i d0).1.backs⟩, (L.getD i d0).2)) := by
  obtain ⟨cur, hc⟩ := h.blk
  have hb4 : ∀ k, ¬ k = g → (w.setCell ⟨g, i * 4 + 2, none⟩ (.int .i64 z)).heap[k]? = w.heap[k]? := fun k hk => heap_setCell_other _ _ _ _ (by simpa using hk)
  have hcell : ∀ j u, w.cell? ⟨g, j, none⟩ = some u → (w.setCell ⟨g, i * 4 + 2, none⟩ (.int .i64 z)).cell? ⟨g, j, none⟩ = some (if j = i * 4 + 2 then .int .i64 z else u) := fun j u hu => cell_set hu
  refine ⟨h.lo, h.hi, ⟨_, heap_setCell_same _ _ _ _ _ _ hc⟩, fun j hj => ?_, fun j hj => ?_, fun j k hjk hk => ?_⟩
  · rw [List.length_set] at hj
    rw [getD_set hj]
    have hcj := h.cel j hj
    have k0 := hcell _ _ hcj.c0
    have k1 := hcell _ _ hcj.c1
    have k2 := hcell _ _ hcj.c2
    have k3 := hcell _ _ hcj.c3
    rw [if_neg (by omega)] at k0 k1 k3
    by_cases hij : i = j
    · subst hij
      rw [if_pos rfl] at k2 ⊢
      exact ⟨k0, k1, k2, k3⟩
    · rw [if_neg (by omega)] at k2
      rw [if_neg hij]
      exact ⟨k0, k1, k2, k3⟩
  · rw [List.length_set] at hj
    rw [getD_set hj]
    have old : ∀ q, q < L.length → ValOk B T (w.setCell ⟨g, i * 4 + 2, none⟩ (.int .i64 z)) (L.getD q d0) := fun q hq => by
      obtain ⟨ab, cb, hv, hcb, hm, ho⟩ := h.val q hq
      refine ⟨ab, cb, hv, hcb, hm, ?_⟩
      rcases ho with ho | ⟨gb, ha, ht, os⟩
      · exact .inl ho
      · exact .inr ⟨gb, ha, ht, os.of_block (hb4 gb (os.ne_peer hc))⟩
    by_cases hij : i = j
    · rw [if_pos hij]; exact old i hi
    · rw [if_neg hij]; exact old j hj
  · rw [List.length_set] at hk
    rw [getD_set (by omega), getD_set hk]
    by_cases hij : i = j
    · rw [if_pos hij, if_neg (by omega)]
      subst hij
      exact h.sep i k hjk hk
    · rw [if_neg hij]
      by_cases hik : i = k
      · rw [if_pos hik]
        subst hik
        exact h.sep j i hjk hk
      · rw [if_neg hik]
        exact h.sep j k hjk hk
theorem OwnP.backs {B T : Nat} {w w1 : World} {g : Nat} {L : List (Pr × Value)} (h : OwnP B T w g L) (hT : T = w.heap.size) (hb : Below w.heap.size w w1) {i : Nat} (hi : i < L.length) {bs : List Int} {gb cb : Nat} (hm : bs.length ≤ 1048576) (hcb : bs.length ≤ cb) (os : OwnS w.heap.size w1 gb bs) :
    OwnP B w1.heap.size (w1.setCell ⟨g, i * 4 + 3, none⟩ (.slice (some ⟨gb, 0, none⟩) bs.length cb)) g (L.set i (⟨(L.getD i d0).1.id, (L.getD i d0).1.succ, (L.getD i d0).1.point, bs⟩, .slice (some ⟨gb, 0, none⟩) bs.length cb)) := by
  have hlt := h.lt
  have hslo := os.lo
  have h1 := (h.keep hb).wide (T' := w1.heap.size) (by have := hb.size; omega)
  obtain ⟨cur, hc⟩ := h1.blk
  have hBw : B ≤ w.heap.size := by have := h.lo; omega
  have hb4 : ∀ k, ¬ k = g → (w1.setCell ⟨g, i * 4 + 3, none⟩ (.slice (some ⟨gb, 0, none⟩) bs.length cb)).heap[k]? = w1.heap[k]? := fun k hk => heap_setCell_other _ _ _ _ (by simpa using hk)
  have hcell : ∀ j u, w1.cell? ⟨g, j, none⟩ = some u → (w1.setCell ⟨g, i * 4 + 3, none⟩ (.slice (some ⟨gb, 0, none⟩) bs.length cb)).cell? ⟨g, j, none⟩ = some (if j = i * 4 + 3 then .slice (some ⟨gb, 0, none⟩) bs.length cb else u) := fun j u hu => cell_set hu
  refine ⟨h.lo, h1.hi, ⟨_, heap_setCell_same _ _ _ _ _ _ hc⟩, fun j hj => ?_, fun j hj => ?_, fun j k hjk hk => ?_⟩
  · rw [List.length_set] at hj
    rw [getD_set hj]
    have hcj := h1.cel j hj
    have k0 := hcell _ _ hcj.c0
    have k1 := hcell _ _ hcj.c1
    have k2 := hcell _ _ hcj.c2
    have k3 := hcell _ _ hcj.c3
    rw [if_neg (by omega)] at k0 k1 k2
    by_cases hij : i = j
    · subst hij
      rw [if_pos rfl] at k3 ⊢
      exact ⟨k0, k1, k2, k3⟩
    · rw [if_neg (by omega)] at k3
      rw [if_neg hij]
      exact ⟨k0, k1, k2, k3⟩
  · rw [List.length_set] at hj
    rw [getD_set hj]
    by_cases hij : i = j
    · rw [if_pos hij]
      exact ⟨_, cb, rfl, ⟨hcb, fun h => by cases h⟩, hm, .inr ⟨gb, rfl, os.lt, (os.mono hBw).of_block (hb4 gb (by omega))⟩⟩
    · rw [if_neg hij]
      obtain ⟨ab, cb', hv, hc', hm', ho⟩ := h1.val j hj
      refine ⟨ab, cb', hv, hc', hm', ?_⟩
      rcases ho with ho | ⟨gj, ha, ht, osj⟩
      · exact .inl ho
      · exact .inr ⟨gj, ha, ht, osj.of_block (hb4 gj (osj.ne_peer hc))⟩
  · rw [List.length_set] at hk
    rw [getD_set (by omega), getD_set hk]
    have old : ∀ q, q < L.length → ¬ (L.getD q d0).1.backs = [] → ¬ (L.getD q d0).2.ownBlock = some gb := fun q hq hn he => by
      obtain ⟨ab, cb', hv, _, _, ho⟩ := h.val q hq
      rcases ho with ho | ⟨gq, ha, ht, _⟩
      · exact hn ho
      · rw [hv, ha] at he
        simp [Value.ownBlock] at he
        omega
    by_cases hij : i = j
    · rw [if_pos hij, if_neg (by omega)]
      intro _ hn he
      exact old k hk hn (by rw [← he]; rfl)
    · rw [if_neg hij]
      by_cases hik : i = k
      · rw [if_pos hik]
        intro hn _ he
        exact old j (by omega) hn (by rw [he]; rfl)
      · rw [if_neg hik]
        exact h.sep j k hjk hk
end Go.Proofs.Ytejajlloipkkhaa
namespace Go.Proofs.Ytejajlloipkkhaa
open Go.RowKit
set_option linter.unusedVariables false
def isRowD (d : TypeDesc) : Bool := match d with | .struct _ | .array _ _ => true | _ => false
theorem results_cell_tmp {fn : Func} {p q : Tmp} {ty : TypeId} (h : fn.results = #[.cell p ty, .tmp q]) (tmps : Array Value) (w : World) (g : Nat) (t : TypeId) (cs : Array Value) (fr : Nat × Nat) (d : TypeDesc) (u : Value)
    (hp : tmps.getD p undef = .pointer (some ⟨g, 0, none⟩)) (hq : tmps.getD q undef = u) (hg : w.heap[g]? = some (.cells cs t fr))
    (hu : Try.prog.underlying ty = some d) (hd : isRowD d = true) (hi : (Try.prog.info? ty).map (·.size) = some cs.size) :
    (results fn tmps).run Try.prog w = .ok (.tuple #[.agg cs, u]) w := by
  have hp' : tmps[p]?.getD undef = .pointer (some ⟨g, 0, none⟩) := by simpa using hp
  have hq' : tmps[q]?.getD undef = u := by simpa using hq
  have hl := run_loadVar_row w g t ty cs fr d hg hu (by cases d <;> first | rfl | (simp [isRowD] at hd)) hi
  simp [results, h, hp', hq', asAddr, hl]
def setF (f : Nat) (p : Pr) (z : Int) : Pr := if f = 0 then ⟨z, p.succ, p.point, p.backs⟩ else if f = 1 then ⟨p.id, z, p.point, p.backs⟩ else ⟨p.id, p.succ, z, p.backs⟩
theorem setF_backs (f : Nat) (p : Pr) (z : Int) : (setF f p z).backs = p.backs := by unfold setF; split <;> (try split) <;> rfl
/-- one number of a peer of one's own is written -/
theorem OwnP.num {B T : Nat} {w : World} {g : Nat} {L : List (Pr × Value)} (h : OwnP B T w g L) {i : Nat} (hi : i < L.length) (f : Nat) (hf : f < 3) (z : Int) :
    OwnP B T (w.setCell ⟨g, i * 4 + f, none⟩ (.int .i64 z)) g (L.set i (setF f (L.getD i d0).1 z, (L.getD i d0).2)) := by
  obtain ⟨cur, hc⟩ := h.blk
  have hb4 : ∀ k, ¬ k = g → (w.setCell ⟨g, i * 4 + f, none⟩ (.int .i64 z)).heap[k]? = w.heap[k]? := fun k hk => heap_setCell_other _ _ _ _ (by simpa using hk)
  have hcell : ∀ j u, w.cell? ⟨g, j, none⟩ = some u → (w.setCell ⟨g, i * 4 + f, none⟩ (.int .i64 z)).cell? ⟨g, j, none⟩ = some (if j = i * 4 + f then .int .i64 z else u) := fun j u hu => cell_set hu
  refine ⟨h.lo, h.hi, ⟨_, heap_setCell_same _ _ _ _ _ _ hc⟩, fun j hj => ?_, fun j hj => ?_, fun j k hjk hk => ?_⟩
  · rw [List.length_set] at hj
    rw [getD_set hj]
    have hcj := h.cel j hj
    have k0 := hcell _ _ hcj.c0
    have k1 := hcell _ _ hcj.c1
    have k2 := hcell _ _ hcj.c2
    have k3 := hcell _ _ hcj.c3
    rw [if_neg (by omega)] at k3
    by_cases hij : i = j
    · subst hij
      rw [if_pos rfl]
      unfold setF
      by_cases f0 : f = 0
      · subst f0
        rw [if_pos (by omega)] at k0
        rw [if_neg (by omega)] at k1 k2
        exact ⟨k0, k1, k2, k3⟩
      · by_cases f1 : f = 1
        · subst f1
          rw [if_pos (by omega)] at k1
          rw [if_neg (by omega)] at k0 k2
          exact ⟨k0, k1, k2, k3⟩
        · have f2 : f = 2 := by omega
          subst f2
          rw [if_pos (by omega)] at k2
          rw [if_neg (by omega)] at k0 k1
          exact ⟨k0, k1, k2, k3⟩
    · rw [if_neg hij]
      rw [if_neg (by omega)] at k0 k1 k2
      exact ⟨k0, k1, k2, k3⟩
  · rw [List.length_set] at hj
    rw [getD_set hj]
    have old : ∀ q, q < L.length → ValOk B T (w.setCell ⟨g, i * 4 + f, none⟩ (.int .i64 z)) (L.getD q d0) := fun q hq => by
      obtain ⟨ab, cb, hv, hcb, hm, ho⟩ := h.val q hq
      refine ⟨ab, cb, hv, hcb, hm, ?_⟩
      rcases ho with ho | ⟨gb, ha, ht, os⟩
      · exact .inl ho
      · exact .inr ⟨gb, ha, ht, os.of_block (hb4 gb (os.ne_peer hc))⟩
    by_cases hij : i = j
    · rw [if_pos hij]
      have := old i hi
      unfold ValOk at this ⊢
      simp only [setF_backs]
      exact this
    · rw [if_neg hij]; exact old j hj
  · rw [List.length_set] at hk
    rw [getD_set (by omega), getD_set hk]
    by_cases hij : i = j
    · rw [if_pos hij, if_neg (by omega)]
      subst hij
      simp only [setF_backs]
      exact h.sep i k hjk hk
    · rw [if_neg hij]
      by_cases hik : i = k
      · rw [if_pos hik]
        subst hik
        simp only [setF_backs]
        exact h.sep j i hjk hk
      · rw [if_neg hik]
        exact h.sep j k hjk hk
theorem getD_same {L : List (Pr × Value)} {k : Nat} {e : Pr × Value} (hk : k < L.length) : (L.set k e).getD k d0 = e := by rw [getD_set hk, if_pos rfl]
/-- three cells of a struct are written -/
def set3 (w : World) (g : Nat) (x y v : Value) : World := ((w.setCell ⟨g, 0, none⟩ x).setCell ⟨g, 1, none⟩ y).setCell ⟨g, 2, none⟩ v
theorem set3_row {w : World} {g : Nat} {a b c x y v : Value} {t : TypeId} (h : w.heap[g]? = some (.cells #[a, b, c] t (0, 0))) : (set3 w g x y v).heap[g]? = some (.cells #[x, y, v] t (0, 0)) :=
  heap_setCell_same _ _ 2 _ _ _ (heap_setCell_same _ _ 1 _ _ _ (heap_setCell_same _ _ 0 _ _ _ h))
theorem set3_block {w : World} {g k : Nat} {x y v : Value} (h : ¬ k = g) : (set3 w g x y v).heap[k]? = w.heap[k]? := by
  unfold set3
  rw [heap_setCell_other _ _ _ _ (by simpa using h), heap_setCell_other _ _ _ _ (by simpa using h), heap_setCell_other _ _ _ _ (by simpa using h)]
theorem set3_size {w : World} {g : Nat} {x y v : Value} : (set3 w g x y v).heap.size = w.heap.size := by simp [set3, World.setCell]
theorem set3_below {n : Nat} {w0 w : World} {g : Nat} {x y v : Value} (h : Below n w0 w) (hg : n ≤ g) : Below n w0 (set3 w g x y v) :=
  ((h.setCell (p := ⟨g, 0, none⟩) hg _).setCell (p := ⟨g, 1, none⟩) hg _).setCell (p := ⟨g, 2, none⟩) hg _
/-- the argument's box and the answer's box, of peers -/
structure RB (w wr : World) (S0 : Array Value) (T0 : TypeId) : Prop where
  bel : Below w.heap.size w wr
  lt : w.heap.size + 1 < wr.heap.size
  s : wr.heap[w.heap.size]? = some (.cells S0 T0 (0, 0))
  r : wr.heap[w.heap.size + 1]? = some (.cells #[.int .i64 0, .int .i64 0, .slice none 0 0] 28 (0, 0))
theorem RB.blocks {w wr w1 : World} {S0 : Array Value} {T0 : TypeId} (h : RB w wr S0 T0) (hb : Below w.heap.size w w1) (hs : wr.heap.size ≤ w1.heap.size) (hk : ∀ k, k ≤ w.heap.size + 1 → w1.heap[k]? = wr.heap[k]?) : RB w w1 S0 T0 :=
  ⟨hb, Nat.lt_of_lt_of_le h.lt hs, (hk _ (by omega)).trans h.s, (hk _ (by omega)).trans h.r⟩
theorem RB.keep {w wr w1 : World} {S0 : Array Value} {T0 : TypeId} (h : RB w wr S0 T0) (hb : Below wr.heap.size wr w1) : RB w w1 S0 T0 :=
  h.blocks (belt h.bel hb) hb.size (fun k hk => hb.block k (by have := h.lt; omega))
theorem rb0 (w : World) (S0 : Array Value) (T0 : TypeId) : RB w ((w.alloc (.cells S0 T0)).alloc (.cells #[.int .i64 0, .int .i64 0, .slice none 0 0] 28)) S0 T0 := by
  refine ⟨((Below.refl _ _).alloc (Nat.le_refl _) _).alloc (by simp) _, by simp, ?_, ?_⟩
  · rw [heap_alloc_old _ _ (by simp)]
    exact heap_alloc_new _ _
  · have := heap_alloc_new (w.alloc (.cells S0 T0)) (.cells #[.int .i64 0, .int .i64 0, .slice none 0 0] 28)
    simpa using this
theorem RB.cells {w wr : World} {S0 : Array Value} {T0 : TypeId} (h : RB w wr S0 T0) : wr.cell? ⟨w.heap.size + 1, 0, none⟩ = some (.int .i64 0) ∧ wr.cell? ⟨w.heap.size + 1, 1, none⟩ = some (.int .i64 0) ∧ wr.cell? ⟨w.heap.size + 1, 2, none⟩ = some (.slice none 0 0) ∧
    wr.frozen? ⟨w.heap.size + 1, 0, none⟩ = false ∧ wr.frozen? ⟨w.heap.size + 1, 1, none⟩ = false ∧ wr.frozen? ⟨w.heap.size + 1, 2, none⟩ = false :=
  ⟨(cell_of_row wr _ _ _ _ _ h.r).trans rfl, (cell_of_row wr _ _ _ _ _ h.r).trans rfl, (cell_of_row wr _ _ _ _ _ h.r).trans rfl, frozen_of_row wr _ _ _ _ h.r, frozen_of_row wr _ _ _ _ h.r, frozen_of_row wr _ _ _ _ h.r⟩
theorem RB.arg2 {w wr : World} {x y : Value} {T0 : TypeId} (h : RB w wr #[x, y] T0) : wr.cell? ⟨w.heap.size, 0, none⟩ = some x ∧ wr.cell? ⟨w.heap.size, 1, none⟩ = some y :=
  ⟨(cell_of_row wr _ _ _ _ _ h.s).trans rfl, (cell_of_row wr _ _ _ _ _ h.s).trans rfl⟩
theorem RB.arg3 {w wr : World} {x y z : Value} {T0 : TypeId} (h : RB w wr #[x, y, z] T0) : wr.cell? ⟨w.heap.size, 0, none⟩ = some x ∧ wr.cell? ⟨w.heap.size, 1, none⟩ = some y ∧ wr.cell? ⟨w.heap.size, 2, none⟩ = some z :=
  ⟨(cell_of_row wr _ _ _ _ _ h.s).trans rfl, (cell_of_row wr _ _ _ _ _ h.s).trans rfl, (cell_of_row wr _ _ _ _ _ h.s).trans rfl⟩

def idlOk (b d : Int) (zs : List Int) (n : Int) : Bool := ringB b d zs && inB n 0 3
theorem idealL_len (b d : Int) (zs : List Int) (n : Nat) : (idealL b d zs n).length = zs.length := by simp [idealL]
set_option maxHeartbeats 1600000 in
theorem lIdealPeers_any (b d n : Int) (a : Option Addr) (cap : Nat) (zs : List Int) (w : World) (hm : zs.length ≤ maxLen) (hr : RowAt w a zs) :
    Calls Try.prog 118 #[.agg #[.int .i64 b, .int .i64 d], .slice a zs.length cap, .int .i64 n] w fun e w' => ∃ v, e = .returned v ∧ Below w.heap.size w w' ∧
      ((idlOk b d zs n = false ∧ v = .tuple #[.agg #[.int .i64 0, .int .i64 0, .slice none 0 0], .bool false]) ∨ (idlOk b d zs n = true ∧ ∃ a0 cp, v = .tuple #[.agg #[.int .i64 b, .int .i64 d, .slice a0 zs.length cp], .bool true] ∧ PeersAt w' a0 (idealL b d zs n.toNat))) := by
  have rb := rb0 w #[.int .i64 b, .int .i64 d] 25
  have CR := lring_any b d a cap zs _ hm (hr.keep rb.bel)
  have HR : Hid (RowAt w a zs) := hr
  have RB0 : Hid _ := rb
  clear hr rb
  cases hg : ringB b d zs
  · have hv : Hid (idlOk b d zs n = false) := by unfold Hid idlOk; rw [hg]; rfl
    rw [hg] at CR
    go_enter Try.func118, Try.ntmps118
    go_wp2_with fail
    refine CR.mono ?_
    rintro e w1 ⟨rfl, hw1⟩
    have RB1 : Hid (RB w w1 #[.int .i64 b, .int .i64 d] 25) := RB0.out.keep hw1
    obtain ⟨r0, r1, r2, q0, q1, q2⟩ := RB1.out.cells
    clear CR hw1
    go_wp2
    refine bodyPost_ret (results_cell_tmp Try.results118 _ _ (w.heap.size + 1) _ _ _ _ _ rfl rfl (set3_row RB1.out.r) Try.underlying28 rfl (by kernel_rfl)) rfl ⟨_, rfl, set3_below RB1.out.bel (by omega), .inl ⟨hv.out, rfl⟩⟩
  · rw [hg] at CR
    cases hn : inB n 0 3
    · have hv : Hid (idlOk b d zs n = false) := by unfold Hid idlOk; rw [hg, hn]; rfl
      have CN : ∀ w1, Calls Try.prog 54 #[.int .i64 n, .int .i64 0, .int .i64 3] w1 fun e w' => e = .returned (.bool false) ∧ w' = w1 := fun w1 => by have := lin_any n 0 3 w1; rwa [hn] at this
      clear hg hn
      go_enter Try.func118, Try.ntmps118
      go_wp2_with fail
      refine CR.mono ?_
      rintro e w1 ⟨rfl, hw1⟩
      have RB1 : Hid (RB w w1 #[.int .i64 b, .int .i64 d] 25) := RB0.out.keep hw1
      obtain ⟨r0, r1, r2, q0, q1, q2⟩ := RB1.out.cells
      clear CR hw1
      go_wp2_with fail
      refine (CN _).mono ?_
      rintro e w2 ⟨rfl, he2⟩
      subst he2
      go_wp2
      refine bodyPost_ret (results_cell_tmp Try.results118 _ _ (w.heap.size + 1) _ _ _ _ _ rfl rfl (set3_row RB1.out.r) Try.underlying28 rfl (by kernel_rfl)) rfl ⟨_, rfl, set3_below RB1.out.bel (by omega), .inl ⟨hv.out, rfl⟩⟩
    · have hv : Hid (idlOk b d zs n = true) := by unfold Hid idlOk; rw [hg, hn]; rfl
      have CN : ∀ w1, Calls Try.prog 54 #[.int .i64 n, .int .i64 0, .int .i64 3] w1 fun e w' => e = .returned (.bool true) ∧ w' = w1 := fun w1 => by have := lin_any n 0 3 w1; rwa [hn] at this
      obtain ⟨n1, n2⟩ := inB_true hn
      obtain ⟨m, rfl⟩ : ∃ m : Nat, n = (m : Int) := ⟨n.toNat, by omega⟩
      have R := ringB_true hg
      have RR : Hid (Ring b d zs) := R
      clear hg hn n1 R
      go_enter Try.func118, Try.ntmps118
      go_wp2_with fail
      refine CR.mono ?_
      rintro e w1 ⟨rfl, hw1⟩
      have RB1 : Hid (RB w w1 #[.int .i64 b, .int .i64 d] 25) := RB0.out.keep hw1
      obtain ⟨s0, s1⟩ := RB1.out.arg2
      clear CR hw1
      go_wp2_with fail
      refine (CN _).mono ?_
      rintro e w2 ⟨rfl, he2⟩
      subst he2
      go_wp2_with fail
      refine (lideal_any b d m a cap zs _ RR.out (HR.out.keep RB1.out.bel) (by omega)).mono ?_
      rintro e w3 ⟨vl, L, rfl, hL, lp, hw3⟩
      have RB3 : Hid (RB w w3 #[.int .i64 b, .int .i64 d] 25) := RB1.out.keep hw3
      obtain ⟨r0, r1, r2, q0, q1, q2⟩ := RB3.out.cells
      obtain ⟨al, cl, rfl, hcl⟩ := lp.form
      have hLl : L.length = zs.length := by rw [← List.length_map (f := (·.1)), hL, idealL_len]
      rw [hLl] at lp ⊢
      have lp2 := lp.blocks (w1 := set3 w3 (w.heap.size + 1) (.int .i64 b) (.int .i64 d) (.slice al zs.length cl)) (by rw [set3_size]; exact Nat.le_refl _) (fun k hk _ => set3_block (by have := RB1.out.lt; omega))
      have hp := lp2.peersAt
      rw [hL] at hp
      have HP : Hid _ := hp
      clear hp lp2 lp hw3 hcl
      go_wp2
      refine bodyPost_ret (results_cell_tmp Try.results118 _ _ (w.heap.size + 1) _ _ _ _ _ rfl rfl (set3_row RB3.out.r) Try.underlying28 rfl (by kernel_rfl)) rfl ⟨_, rfl, set3_below RB3.out.bel (by omega), .inr ⟨hv.out, _, _, rfl, HP.out⟩⟩
end Go.Proofs.Ytejajlloipkkhaa
namespace Go.Proofs.Ytejajlloipkkhaa
open Go.RowKit Go.Deep
set_option linter.unusedVariables false
/-- block g holds these cells -/
def Bk (w : World) (g : Nat) (C : Array Value) (T : TypeId) : Prop := w.heap[g]? = some (.cells C T (0, 0))
theorem Bk.lt {w : World} {g : Nat} {C : Array Value} {T : TypeId} (h : Bk w g C T) : g < w.heap.size := (Array.getElem?_eq_some_iff.1 h).1
theorem Bk.keepN {w w1 : World} {g n : Nat} {C : Array Value} {T : TypeId} (h : Bk w g C T) (hb : Below n w w1) (hg : g < n) : Bk w1 g C T := (hb.block g hg).trans h
theorem Bk.keep {w w1 : World} {g : Nat} {C : Array Value} {T : TypeId} (h : Bk w g C T) (hb : Below w.heap.size w w1) : Bk w1 g C T := h.keepN hb h.lt
theorem Bk.new (w : World) (C : Array Value) (T : TypeId) : Bk (w.alloc (.cells C T)) w.heap.size C T := heap_alloc_new _ _
theorem Bk.alloc {w : World} {g : Nat} {C : Array Value} {T : TypeId} (h : Bk w g C T) (o : Obj) : Bk (w.alloc o) g C T := h.keep ((Below.refl _ _).alloc (Nat.le_refl _) o)
theorem Bk.cell {w : World} {g : Nat} {C : Array Value} {T : TypeId} (h : Bk w g C T) (i : Nat) : w.cell? ⟨g, i, none⟩ = C[i]? := cell_of_row w _ _ _ _ _ h
theorem Bk.fr {w : World} {g : Nat} {C : Array Value} {T : TypeId} (h : Bk w g C T) (i : Nat) : w.frozen? ⟨g, i, none⟩ = false := frozen_of_row w _ _ _ _ h
theorem Bk.set {w : World} {g : Nat} {C : Array Value} {T : TypeId} (h : Bk w g C T) (i : Nat) (v : Value) : Bk (w.setCell ⟨g, i, none⟩ v) g (C.setIfInBounds i v) T := heap_setCell_same _ _ _ _ _ _ h
theorem Bk.oth {w : World} {g k : Nat} {C : Array Value} {T : TypeId} (h : Bk w g C T) (hk : ¬ g = k) (i : Nat) (v : Value) : Bk (w.setCell ⟨k, i, none⟩ v) g C T := (heap_setCell_other _ _ _ _ (by simpa using hk)).trans h
theorem Bk.c3 {w : World} {g : Nat} {a b c : Value} {T : TypeId} (h : Bk w g #[a, b, c] T) : w.cell? ⟨g, 0, none⟩ = some a ∧ w.cell? ⟨g, 1, none⟩ = some b ∧ w.cell? ⟨g, 2, none⟩ = some c := ⟨h.cell 0, h.cell 1, h.cell 2⟩
theorem Bk.c2 {w : World} {g : Nat} {a b : Value} {T : TypeId} (h : Bk w g #[a, b] T) : w.cell? ⟨g, 0, none⟩ = some a ∧ w.cell? ⟨g, 1, none⟩ = some b := ⟨h.cell 0, h.cell 1⟩
theorem Bk.c4 {w : World} {g : Nat} {a b c d : Value} {T : TypeId} (h : Bk w g #[a, b, c, d] T) : w.cell? ⟨g, 0, none⟩ = some a ∧ w.cell? ⟨g, 1, none⟩ = some b ∧ w.cell? ⟨g, 2, none⟩ = some c ∧ w.cell? ⟨g, 3, none⟩ = some d := ⟨h.cell 0, h.cell 1, h.cell 2, h.cell 3⟩
theorem Bk.f4 {w : World} {g : Nat} {C : Array Value} {T : TypeId} (h : Bk w g C T) : w.frozen? ⟨g, 0, none⟩ = false ∧ w.frozen? ⟨g, 1, none⟩ = false ∧ w.frozen? ⟨g, 2, none⟩ = false ∧ w.frozen? ⟨g, 3, none⟩ = false := ⟨h.fr 0, h.fr 1, h.fr 2, h.fr 3⟩
theorem Bk.c7 {w : World} {g : Nat} {a b c d e f k : Value} {T : TypeId} (h : Bk w g #[a, b, c, d, e, f, k] T) : w.cell? ⟨g, 0, none⟩ = some a ∧ w.cell? ⟨g, 1, none⟩ = some b ∧ w.cell? ⟨g, 2, none⟩ = some c ∧ w.cell? ⟨g, 3, none⟩ = some d ∧ w.cell? ⟨g, 4, none⟩ = some e ∧ w.cell? ⟨g, 5, none⟩ = some f ∧ w.cell? ⟨g, 6, none⟩ = some k := ⟨h.cell 0, h.cell 1, h.cell 2, h.cell 3, h.cell 4, h.cell 5, h.cell 6⟩
theorem Bk.f7 {w : World} {g : Nat} {C : Array Value} {T : TypeId} (h : Bk w g C T) : w.frozen? ⟨g, 0, none⟩ = false ∧ w.frozen? ⟨g, 1, none⟩ = false ∧ w.frozen? ⟨g, 2, none⟩ = false ∧ w.frozen? ⟨g, 3, none⟩ = false ∧ w.frozen? ⟨g, 4, none⟩ = false ∧ w.frozen? ⟨g, 5, none⟩ = false ∧ w.frozen? ⟨g, 6, none⟩ = false := ⟨h.fr 0, h.fr 1, h.fr 2, h.fr 3, h.fr 4, h.fr 5, h.fr 6⟩
theorem Bk.drew {w : World} {g : Nat} {C : Array Value} {T : TypeId} (h : Bk w g C T) : Bk w.drew g C T := h
/-- cells from i on are written, one by one -/
def setL (w : World) (g : Nat) : Nat → List Value → World
  | _, [] => w
  | i, v :: vs => setL (w.setCell ⟨g, i, none⟩ v) g (i + 1) vs
def ovr (C : Array Value) : Nat → List Value → Array Value
  | _, [] => C
  | i, v :: vs => ovr (C.setIfInBounds i v) (i + 1) vs
theorem Bk.setL {g : Nat} {T : TypeId} : ∀ (vs : List Value) {w : World} {C : Array Value} (i : Nat), Bk w g C T → Bk (setL w g i vs) g (ovr C i vs) T
  | [], _, _, _, h => h
  | v :: vs, _, _, i, h => Bk.setL vs (i + 1) (h.set i v)
theorem setL_oth {g k : Nat} (hk : ¬ k = g) : ∀ (vs : List Value) (w : World) (i : Nat), (setL w g i vs).heap[k]? = w.heap[k]?
  | [], _, _ => rfl
  | v :: vs, w, i => by
    unfold setL
    rw [setL_oth hk vs _ (i + 1), heap_setCell_other _ _ _ _ (by simpa using hk)]
theorem setL_size {g : Nat} : ∀ (vs : List Value) (w : World) (i : Nat), (setL w g i vs).heap.size = w.heap.size
  | [], _, _ => rfl
  | v :: vs, w, i => by
    unfold setL
    rw [setL_size vs _ (i + 1)]
    simp [World.setCell]
theorem setL_below {g n : Nat} {w0 : World} (hg : n ≤ g) : ∀ (vs : List Value) {w : World} (i : Nat), Below n w0 w → Below n w0 (setL w g i vs)
  | [], _, _, h => h
  | v :: vs, _, i, h => setL_below hg vs (i + 1) (h.setCell (p := ⟨g, i, none⟩) hg v)
end Go.Proofs.Ytejajlloipkkhaa
namespace Go.Proofs.Ytejajlloipkkhaa
open Go.RowKit Go.Deep
set_option linter.unusedVariables false
theorem peerI_first : ∀ (ps : List Pr) (x : Int) (k : Nat), k < ps.length → (∀ i, i < k → ¬ (ps.getD i pr0).id = x) → (ps.getD k pr0).id = x → peerI ps x = ps.getD k pr0
  | [], x, k, hk, _, _ => by simp at hk
  | p :: ps, x, 0, _, _, h => by
    unfold peerI
    rw [if_pos (by simpa using h)]
    simp
  | p :: ps, x, k + 1, hk, h1, h2 => by
    unfold peerI
    rw [if_neg (by have := h1 0 (by omega); simpa using this)]
    have := peerI_first ps x k (by simpa using hk) (fun i hi => by have := h1 (i + 1) (by omega); simpa using this) (by simpa using h2)
    simpa using this
/-- the place of the first peer with an Id -/
def idxI : List Pr → Int → Nat
  | [], _ => 0
  | p :: ps, x => if p.id = x then 0 else idxI ps x + 1
theorem idxI_first : ∀ (ps : List Pr) (x : Int) (k : Nat), k < ps.length → (∀ i, i < k → ¬ (ps.getD i pr0).id = x) → (ps.getD k pr0).id = x → idxI ps x = k
  | [], x, k, hk, _, _ => by simp at hk
  | p :: ps, x, 0, _, _, h => by
    unfold idxI
    rw [if_pos (by simpa using h)]
  | p :: ps, x, k + 1, hk, h1, h2 => by
    unfold idxI
    rw [if_neg (by have := h1 0 (by omega); simpa using this)]
    have := idxI_first ps x k (by simpa using hk) (fun i hi => by have := h1 (i + 1) (by omega); simpa using this) (by simpa using h2)
    omega
theorem idxI_mem : ∀ (ps : List Pr) (x : Int), hasB (idsP ps) x = true → idxI ps x < ps.length ∧ peerI ps x = ps.getD (idxI ps x) pr0
  | [], x, h => by
    have := of_decide_eq_true h
    obtain ⟨i, hi, _⟩ := this
    simp [idsP] at hi
  | p :: ps, x, h => by
    unfold peerI idxI
    by_cases he : p.id = x
    · rw [if_pos he, if_pos he]
      exact ⟨by simp, by simp⟩
    · rw [if_neg he, if_neg he]
      have h2 : hasB (idsP ps) x = true := by
        obtain ⟨i, hi, hx⟩ := of_decide_eq_true h
        cases i with
        | zero => exact absurd (by simpa [idsP] using hx) he
        | succ i => exact decide_eq_true ⟨i, by simpa [idsP] using hi, by simpa [idsP] using hx⟩
      obtain ⟨h3, h4⟩ := idxI_mem ps x h2
      exact ⟨by simpa using h3, by simpa using h4⟩
theorem peer_at {w : World} {bk off : Nat} {ps : List Pr} {x : Int} (hx : hasB (idsP ps) x = true) (hr : PeersAt w (some ⟨bk, off, none⟩) ps) : bk < w.heap.size ∧ PeerAt w bk (off + idxI ps x * 4) (peerI ps x) := by
  obtain ⟨h1, h2⟩ := idxI_mem ps x hx
  obtain ⟨h3, h4⟩ := peersAt_cell hr (by omega)
  rw [h2]
  exact ⟨h3, h4 _ h1⟩
theorem fwd_any (n : Int) (w : World) :
    Calls Try.prog 51 #[.int .i64 n] w fun e w' => e = .returned (.bool (inB n 0 1000)) ∧ w' = w := by
  by_cases h1 : 0 ≤ n
  · by_cases h2 : n ≤ 1000
    · rw [inB_yes h1 h2]
      go_enter Try.func51, Try.ntmps51
      go_wp2
      go_ret
      exact ⟨rfl, rfl⟩
    · rw [inB_no (by omega)]
      go_enter Try.func51, Try.ntmps51
      go_wp2
      go_ret
      exact ⟨rfl, rfl⟩
  · rw [inB_no (by omega)]
    go_enter Try.func51, Try.ntmps51
    go_wp2
    go_ret
    exact ⟨rfl, rfl⟩
set_option maxHeartbeats 800000 in
theorem isId_any (b d : Int) (q : Nat) (a : Option Addr) (cap : Nat) (ps : List Pr) (x : Int) (w : World) (R : Ring b d (idsP ps)) (hq : q < w.heap.size) (c2 : w.cell? ⟨q, 2, none⟩ = some (.slice a ps.length cap)) (hr : PeersAt w a ps) :
    Calls Try.prog 68 #[.pointer (some ⟨q, 0, none⟩), .int .i64 x] w fun e w' => e = .returned (.bool (hasB (idsP ps) x)) ∧ Below w.heap.size w w' := by
  have hil := idsP_len ps
  have l2 := R.l2
  rw [hil] at l2
  have CI := idsOf_any q a cap ps w (by omega) hq c2 hr
  have hv : Hid (hasB (idsP ps) x = memI (idsP ps) x) := (mem_has R x).symm
  go_enter Try.func68, Try.ntmps68
  go_wp2_with fail
  refine CI.mono ?_
  rintro e w1 ⟨rfl, ow1⟩
  have C := isMember_any (some ⟨w.heap.size, 0, none⟩) ps.length (idsP ps) x w1 (by unfold maxLen; omega) (rowAt_of_row ow1.row)
  rw [hil] at C
  go_wp2_with fail
  refine C.mono ?_
  rintro e w2 ⟨rfl, hw2⟩
  subst hw2
  go_wp2
  go_ret
  exact ⟨ret_bool hv.out.symm, ow1.bel⟩
set_option maxHeartbeats 800000 in
theorem peerOf_any (q bk off : Nat) (cap : Nat) (ps : List Pr) (x : Int) (w : World) (hm : ps.length ≤ 1048576) (hx : hasB (idsP ps) x = true) (c2 : w.cell? ⟨q, 2, none⟩ = some (.slice (some ⟨bk, off, none⟩) ps.length cap)) (hr : PeersAt w (some ⟨bk, off, none⟩) ps) :
    Calls Try.prog 90 #[.pointer (some ⟨q, 0, none⟩), .int .i64 x] w fun e w' => e = .returned (.pointer (some ⟨bk, off + idxI ps x * 4, none⟩)) ∧ w' = w := by
  obtain ⟨i0, hi0, hx0⟩ := of_decide_eq_true hx
  rw [idsP_get] at hx0
  rw [idsP_len] at hi0
  obtain ⟨hbk, hc⟩ := peersAt_cell hr (by omega)
  have HC : Hid (∀ i, i < ps.length → PeerAt w bk (off + i * 4) (ps.getD i pr0)) := hc
  have HX : Hid ((ps.getD i0 pr0).id = x) := hx0
  clear hc hx0 hr hx
  go_enter Try.func90, Try.ntmps90
  go_wp2_with fail
  go_loop [5] (fun v => ∃ j : Nat, j ≤ i0 ∧ v = .int .i64 j ∧ Hid (∀ i, i < j → ¬ (ps.getD i pr0).id = x)) (fun v => i0 - (intOf v).toNat)
  case atStart => exact ⟨0, Nat.zero_le _, rfl, fun i hi => by omega⟩
  case round =>
    obtain ⟨j, hj, rfl, HT⟩ := hrel
    have hjl : j < ps.length := by omega
    obtain ⟨c0, _⟩ := HC.out j hjl
    by_cases he : (ps.getD j pr0).id = x
    · have HV : Hid (idxI ps x = j) := idxI_first ps x j hjl HT.out he
      have he' : ((ps.getD j pr0).id != x) = false := by rw [he]; simp
      clear he
      generalize (ps.getD j pr0).id = y at *
      go_wp2_with fail
      go_ret
      exact ⟨by rw [HV.out]; rfl, rfl⟩
    · have HT2 : Hid (∀ i, i < j + 1 → ¬ (ps.getD i pr0).id = x) := fun i hi => by
        by_cases h : i = j
        · subst h; exact he
        · exact HT.out i (by omega)
      have hlt : j < i0 := by
        by_cases h : j = i0
        · subst h; exact absurd HX.out he
        · omega
      have he' : ((ps.getD j pr0).id != x) = true := by simpa using he
      clear he
      generalize (ps.getD j pr0).id = y at c0 he'
      go_wp2_with fail
      go_round
      case rel => exact ⟨j + 1, by omega, by go_num, HT2⟩
      case measure => simp [intOf]; omega
theorem peerI_none : ∀ (ps : List Pr) (x : Int), (∀ i, i < ps.length → ¬ (ps.getD i pr0).id = x) → peerI ps x = prN
  | [], x, _ => rfl
  | p :: ps, x, h => by
    unfold peerI
    rw [if_neg (by have := h 0 (by simp); simpa using this)]
    exact peerI_none ps x (fun i hi => by have := h (i + 1) (by simpa using hi); simpa using this)
theorem hasB_at {ps : List Pr} {x : Int} {j : Nat} (hj : j < ps.length) (h : (ps.getD j pr0).id = x) : hasB (idsP ps) x = true := decide_eq_true ⟨j, by rw [idsP_len]; exact hj, by rw [idsP_get]; exact h⟩
theorem hasB_not {ps : List Pr} {x : Int} (h : ∀ i, i < ps.length → ¬ (ps.getD i pr0).id = x) : hasB (idsP ps) x = false := decide_eq_false (fun ⟨i, hi, he⟩ => h i (by rw [idsP_len] at hi; exact hi) (by rw [idsP_get] at he; exact he))
/-- the slice of the backs of a peer that is found -/
def bkV (w : World) (a : Option Addr) (ps : List Pr) (x : Int) : Value :=
  if hasB (idsP ps) x = true then (match a with | some p => (w.cell? ⟨p.block, p.off + idxI ps x * 4 + 3, none⟩).getD undef | none => undef) else .slice none 0 0
theorem bkV_keep {w w1 : World} {a : Option Addr} {ps : List Pr} {x : Int} {n : Nat} (hr : PeersAt w a ps) (hb : Below n w w1) (hn : w.heap.size ≤ n) : bkV w1 a ps x = bkV w a ps x := by
  unfold bkV
  by_cases h : hasB (idsP ps) x = true
  · rw [if_pos h, if_pos h]
    obtain ⟨h1, _⟩ := idxI_mem ps x h
    obtain ⟨bk, off, rfl⟩ := peersAt_form hr (by omega)
    obtain ⟨h3, _⟩ := peersAt_cell hr (by omega)
    show (w1.cell? ⟨bk, off + idxI ps x * 4 + 3, none⟩).getD undef = (w.cell? ⟨bk, off + idxI ps x * 4 + 3, none⟩).getD undef
    rw [hb.cell (p := ⟨bk, off + idxI ps x * 4 + 3, none⟩) (by show bk < n; omega)]
  · rw [if_neg h, if_neg h]
set_option maxHeartbeats 1600000 in
theorem lpeer_any (b d : Int) (a : Option Addr) (cap : Nat) (ps : List Pr) (x : Int) (w : World) (hm : ps.length ≤ 1048576) (hr : PeersAt w a ps) :
    Calls Try.prog 102 #[.agg #[.int .i64 b, .int .i64 d, .slice a ps.length cap], .int .i64 x] w fun e w' => e = .returned (.agg #[.int .i64 (peerI ps x).id, .int .i64 (peerI ps x).succ, .int .i64 (peerI ps x).point, bkV w a ps x]) ∧ Below w.heap.size w w' := by
  have HR : Hid (PeersAt w a ps) := hr
  clear hr
  go_enter Try.func102, Try.ntmps102
  go_wp2_with fail
  have B0 : Below w.heap.size w ((w.alloc (.cells #[.int .i64 b, .int .i64 d, .slice a ps.length cap] 28)).alloc (.cells #[.int .i64 0, .int .i64 0, .int .i64 0, .slice none 0 0] 101)) := ((Below.refl _ _).alloc (Nat.le_refl _) _).alloc (by simp) _
  have K0 : Bk ((w.alloc (.cells #[.int .i64 b, .int .i64 d, .slice a ps.length cap] 28)).alloc (.cells #[.int .i64 0, .int .i64 0, .int .i64 0, .slice none 0 0] 101)) (w.heap.size + 1) #[.int .i64 0, .int .i64 0, .int .i64 0, .slice none 0 0] 101 := by
    have := Bk.new (w.alloc (.cells #[.int .i64 b, .int .i64 d, .slice a ps.length cap] 28)) #[.int .i64 0, .int .i64 0, .int .i64 0, .slice none 0 0] 101
    simpa using this
  go_loopw [10] (fun v wr => ∃ j : Nat, j ≤ ps.length ∧ v = .int .i64 j ∧ Hid (∀ i, i < j → ¬ (ps.getD i pr0).id = x) ∧ Hid (Below w.heap.size w wr) ∧ Hid (Bk wr (w.heap.size + 1) #[.int .i64 0, .int .i64 0, .int .i64 0, .slice none 0 0] 101)) (fun v _ => ps.length - (intOf v).toNat)
  case atStart => exact ⟨0, Nat.zero_le _, rfl, fun i hi => by omega, B0, K0⟩
  case round =>
    obtain ⟨j, hj, rfl, HT, HB, HK⟩ := hrel
    clear B0 K0
    by_cases hjl : j < ps.length
    · obtain ⟨bk, off, rfl⟩ := peersAt_form HR.out (by omega)
      have HC : Hid (PeerAt wr bk (off + j * 4) (ps.getD j pr0)) := (peersAt_cell (HR.out.keep HB.out) (by omega)).2 j hjl
      obtain ⟨c0, c1, c2, ab, cb, c3, _⟩ := HC.out
      obtain ⟨f0, f1, f2, f3⟩ := HK.out.f4
      obtain ⟨r0, r1, r2, r3⟩ := HK.out.c4
      have hlt := HK.out.lt
      by_cases he : (ps.getD j pr0).id = x
      · have HV : Hid (peerI ps x = ps.getD j pr0) := peerI_first ps x j hjl HT.out he
        have he' : ((ps.getD j pr0).id == x) = true := by simpa using he
        have HV0 : Hid ((peerI ps x).id = (ps.getD j pr0).id ∧ (peerI ps x).succ = (ps.getD j pr0).succ ∧ (peerI ps x).point = (ps.getD j pr0).point) := by rw [HV.out]; exact ⟨rfl, rfl, rfl⟩
        have HW : Hid (bkV w (some ⟨bk, off, none⟩) ps x = .slice ab (ps.getD j pr0).backs.length cb) := by
          have hbk := (peersAt_cell HR.out (by omega)).1
          unfold Hid bkV
          rw [if_pos (hasB_at hjl he), idxI_first ps x j hjl HT.out he]
          show (w.cell? ⟨bk, off + j * 4 + 3, none⟩).getD undef = _
          rw [← HB.out.cell (p := ⟨bk, off + j * 4 + 3, none⟩) hbk, c3]
          rfl
        clear he HV HT HC
        generalize (ps.getD j pr0).id = x0 at *
        generalize (ps.getD j pr0).succ = x1 at *
        generalize (ps.getD j pr0).point = x2 at *
        generalize (ps.getD j pr0).backs.length = nb at *
        go_wp2_with fail
        refine bodyPost_ret (results_cell_row Try.results102 _ _ (w.heap.size + 1) _ _ _ _ rfl (Bk.alloc (Bk.setL [.int .i64 x0, .int .i64 x1, .int .i64 x2, .slice ab nb cb] 0 HK.out) _) Try.underlying101 rfl (by kernel_rfl)) rfl ⟨by rw [HV0.out.1, HV0.out.2.1, HV0.out.2.2, HW.out]; rfl, Below.alloc (setL_below (by omega) [.int .i64 x0, .int .i64 x1, .int .i64 x2, .slice ab nb cb] 0 HB.out) (by rw [setL_size]; omega) _⟩
      · have HT2 : Hid (∀ i, i < j + 1 → ¬ (ps.getD i pr0).id = x) := fun i hi => by
          by_cases h : i = j
          · subst h; exact he
          · exact HT.out i (by omega)
        have he' : ((ps.getD j pr0).id == x) = false := by simpa using he
        clear he HT HC
        generalize (ps.getD j pr0).id = x0 at c0 he'
        generalize (ps.getD j pr0).succ = x1 at c1
        generalize (ps.getD j pr0).point = x2 at c2
        generalize (ps.getD j pr0).backs.length = nb at c3
        have HB2 : Hid (Below w.heap.size w (wr.alloc (.cells #[.int .i64 x0, .int .i64 x1, .int .i64 x2, .slice ab nb cb] 101))) := HB.out.alloc HB.out.size _
        have HK2 : Hid (Bk (wr.alloc (.cells #[.int .i64 x0, .int .i64 x1, .int .i64 x2, .slice ab nb cb] 101)) (w.heap.size + 1) #[.int .i64 0, .int .i64 0, .int .i64 0, .slice none 0 0] 101) := HK.out.alloc _
        clear f0 f1 f2 f3 r0 r1 r2 r3
        go_wp2_with fail
        go_roundw
        case rel => exact ⟨j + 1, by omega, by go_num, HT2, HB2, HK2⟩
        case measure => simp [intOf]; omega
    · have HV : Hid (peerI ps x = prN) := peerI_none ps x (fun i hi => HT.out i (by omega))
      have HW : Hid (bkV w a ps x = .slice none 0 0) := by unfold Hid bkV; rw [hasB_not (fun i hi => HT.out i (by omega))]; rfl
      obtain ⟨f0, f1, f2, f3⟩ := HK.out.f4
      obtain ⟨r0, r1, r2, r3⟩ := HK.out.c4
      go_wp2_with fail
      refine bodyPost_ret (results_cell_row Try.results102 _ _ (w.heap.size + 1) _ _ _ _ rfl (Bk.setL [.int .i64 (-1), .int .i64 0, .int .i64 0, .slice none 0 0] 0 HK.out) Try.underlying101 rfl (by kernel_rfl)) rfl ⟨by rw [HV.out, HW.out]; rfl, setL_below (by omega) [.int .i64 (-1), .int .i64 0, .int .i64 0, .slice none 0 0] 0 HB.out⟩
end Go.Proofs.Ytejajlloipkkhaa
namespace Go.Proofs.Ytejajlloipkkhaa
open Go.RowKit
set_option linter.unusedVariables false

theorem size_int : (Try.prog.info? 3).map (·.size) = some 1 := by kernel_rfl
theorem ints_one (l : List Int) : ∀ v ∈ l.map (Value.int .i64), v.oneCell' = true := by
  intro v hv
  simp at hv
  obtain ⟨a, _, rfl⟩ := hv
  rfl
theorem len_min {n : Nat} {B x : Int} (h : n ≤ 12) : ((digL n B x).map (Value.int .i64)).length = Nat.min 12 n := by rw [List.length_map, digL_len]; exact (Nat.min_eq_right h).symm
theorem belA9 {w w4 : World} {o : Obj} (h : Below w.heap.size w w4) : Below w.heap.size w (w4.alloc o) := h.alloc h.size o
theorem splice_all {l m : List Int} (h : l.length = m.length) : splice (l.map (Value.int .i64)) 0 (m.map (Value.int .i64)) = m.map (Value.int .i64) := by
  simp [splice, h]
/-- the first digits of a row, read from where it lies, behind a call and a new block -/
theorem row_src {n : Nat} {B x : Int} {w3 w4 : World} {g : Nat} {A : TypeId} {o : Obj} (hn : n ≤ 12) (h : w3.heap[g]? = some (.cells (zv (rowZ n (digL n B x))) A (0, 0))) (hb : Below w3.heap.size w3 w4) :
    ∀ j v, ((digL n B x).map (Value.int .i64))[j]? = some v → (w4.alloc o).cell? ((⟨g, 0, none⟩ : Addr).add j) = some v := by
  intro j v hv
  have hg : g < w3.heap.size := (Array.getElem?_eq_some_iff.1 h).1
  have hg4 : g < w4.heap.size := Nat.lt_of_lt_of_le hg hb.size
  have e : (⟨g, 0, none⟩ : Addr).add j = ⟨g, j, none⟩ := by unfold Addr.add; split <;> simp_all
  rw [e, World.cell?_alloc_past o g j hg4, hb.cell (p := ⟨g, j, none⟩) hg, cell_of_row _ _ _ _ _ _ h, ← hv]
  have hj : j < n := by
    have := (List.getElem?_eq_some_iff.1 hv).1
    simpa [digL_len] using this
  simp only [zv, rowZ, List.map_append, List.getElem?_toArray]
  rw [List.getElem?_append_left (by simp [digL_len]; omega)]

theorem row_size {n : Nat} {B x : Int} (h : n ≤ 12) : (zv (rowZ n (digL n B x))).size = 12 := by rw [zv_size]; simp [rowZ, digL_len]; omega
theorem row_len {n : Nat} {B x : Int} (h : n ≤ 12) : (rowZ n (digL n B x)).length = 12 := by simp [rowZ, digL_len]; omega

/-- a row that is stored into the block that was made last: what stands behind it is said of any such world -/
theorem wpList_store_new {P : Program} {ops : Array Oper} {rest : List Oper} {o : Oper} {a : Act} {Q : Exit → Act → World → Prop} (hgd : o.guard = none) (ty : TypeId) (x y : Operand) (ho : o.op = .store ty x y)
    (w0 : World) (z r : Array Value) (hx : a.eval x = .pointer (some ⟨w0.heap.size, 0, none⟩)) (hy : a.eval y = .agg r) (A : TypeId) (hi : (P.info? ty).map (·.size) = some r.size)
    (hold : z.size = r.size) (h1 : r.all (·.oneCell') = true)
    (h : ∀ w', Hid (w'.heap[w0.heap.size]? = some (.cells r A (0, 0))) → Below w0.heap.size w0 w' → wpList P ops Q rest (a.put o.dst undef) w') : wpList P ops Q (o :: rest) a (w0.alloc (.cells z A)) := by
  refine wpList_store_row hgd ty x y ho w0.heap.size r hx hy A z (heap_alloc_new _ _) hi hold h1 ?_
  exact h _ (setRow_heap _ _ _ _ _ _ (heap_alloc_new _ _)) (below_setRow ((Below.refl _ _).alloc (Nat.le_refl _) _) (Nat.le_refl _) _)

set_option maxRecDepth 100000 in
set_option maxHeartbeats 1600000 in
theorem DigitsOf_any (b d x : Int) (w : World) :
    Calls Try.prog 36 #[.agg #[.int .i64 b, .int .i64 d], .int .i64 x] w fun e w' => ∃ v, e = .returned (.tuple #[v, .bool (numB b d x)]) ∧ Below w.heap.size w w' ∧ DigV b d x w w' v := by
  cases hx : numB b d x
  ·
    go_enter Try.func36, Try.ntmps36
    go_wp2_with fail
    refine (isNumber_any _ _ _ _).mono ?_
    rintro e w1 ⟨rfl, hw1⟩
    obtain ⟨k10, k11, z1⟩ := keep2 (bk := w.heap.size) (u := .int .i64 b) (v := .int .i64 d) hw1 (by simp; try omega) (by simp) (by simp)
    go_wp2
    go_ret2
    exact ⟨_, rfl, bel1 hw1 (by simp; try omega), .inl ⟨hx, rfl⟩⟩
  ·
    obtain ⟨hg, x1, x2⟩ := numB_true hx
    obtain ⟨hb1, hb2, hd1, hd2, h5⟩ := gsB_true hg
    clear h5
    obtain ⟨hq, q1, q2⟩ := cnt_bd hb1 hb2 hd1 hd2
    have hmk := make_ints (cnt b d) (by omega)
    have HI : Hid ((Try.prog.info? 116).map (·.size) = some (zv (rowZ (cnt b d) (digL (cnt b d) (sz d) x))).size) := by
      show _ = _
      rw [row_size q2]; kernel_rfl
    have HO : Hid ((zv (List.replicate 12 0)).size = (zv (rowZ (cnt b d) (digL (cnt b d) (sz d) x))).size) := by
      show _ = _
      rw [row_size q2, zv_size]; rfl
    have HN : Hid ((zv (rowZ (cnt b d) (digL (cnt b d) (sz d) x))).all (·.oneCell') = true) := zv_one _
    go_enter Try.func36, Try.ntmps36
    go_wp2_with fail
    refine (isNumber_any _ _ _ _).mono ?_
    rintro e w1 ⟨rfl, hw1⟩
    obtain ⟨k10, k11, z1⟩ := keep2 (bk := w.heap.size) (u := .int .i64 b) (v := .int .i64 d) hw1 (by simp; try omega) (by simp) (by simp)
    go_wp2_with fail
    refine (row_any _ _ _ _ hb1 hb2 hd1 hd2 x1 x2).mono ?_
    rintro e w2 ⟨rfl, hw2⟩
    obtain ⟨k20, k21, z2⟩ := keep2 hw2 z1 k10 k11
    go_wp2_with (first | (refine wpList_store_new rfl 116 (.tmp 6) (.tmp 14) rfl w2 _ _ rfl rfl _ HI.out HO.out HN.out ?_; intro w3 s31 hw3; obtain ⟨k30, k31, z3⟩ := keep2 hw3 z2 k20 k21) | (go_at_call 61; refine (count_any _ _ _ hb1 hb2 hd1 hd2).mono ?_; rintro e w4 ⟨rfl, hw4⟩; obtain ⟨k40, k41, z4⟩ := keep2 hw4 z3 k30 k31) | (refine wpList_copy_splice rfl (.tmp 18) (.tmp 19) 33 33 rfl 3 Try.underlying33 size_int _ _ _ _ _ _ rfl rfl w4.heap.size 0 ((List.replicate (cnt b d) 0).map (Value.int .i64)) 3 (heap_alloc_new _ _) ((digL (cnt b d) (sz d) x).map (Value.int .i64)) (len_min q2) (fun _ => ⟨rfl, _, rfl, row_src q2 s31.out hw4⟩) (by simp [digL_len]) (ints_one _) w.heap.size w (belA9 (belt (belt (belt (bel1 hw1 (by simp; try omega)) hw2) hw3) hw4)) (by have := (belt (belt (belt (bel1 hw1 (by simp; try omega)) hw2) hw3) hw4).size; omega) ?_; intro w5 H5 hb5))
    go_ret2
    exact ⟨_, rfl, hb5, .inr ⟨hx, _, rfl, ⟨hb5, by have := (belt (belt (belt (bel1 hw1 (by simp; try omega)) hw2) hw3) hw4).size; omega, by have := H5.out; rwa [splice_all (by simp [digL_len])] at this⟩⟩⟩
end Go.Proofs.Ytejajlloipkkhaa
