/- The program's IdealPeers. -/
import Derived.Test.YtgmdbihdnacpjaaX1
namespace Go.Proofs.Ytgmdbihdnacpjaa
open Go.RowKit
set_option linter.unusedVariables false
theorem ips2 (w wa : World) (b d : Int) (n : Nat) (h : RB w wa #[.int .i64 b, .int .i64 d] 25) :
    IPS w ((wa.alloc (.cells #[.int .i64 b, .int .i64 d, .slice (some ⟨wa.heap.size + 1, 0, none⟩) n n] 28)).alloc (.cells (madeCells #[.int .i64 0, .int .i64 0, .int .i64 0, .slice none 0 0] (n * 4)) 37)) b d wa.heap.size (wa.heap.size + 1) n (List.replicate n d0) := by
  have hlt := h.lt
  have hb1 := belA wa (.cells #[.int .i64 b, .int .i64 d, .slice (some ⟨wa.heap.size + 1, 0, none⟩) n n] 28)
  have hb2 := belA (wa.alloc (.cells #[.int .i64 b, .int .i64 d, .slice (some ⟨wa.heap.size + 1, 0, none⟩) n n] 28)) (.cells (madeCells #[.int .i64 0, .int .i64 0, .int .i64 0, .slice none 0 0] (n * 4)) 37)
  have hm := made_peers (wa.alloc (.cells #[.int .i64 b, .int .i64 d, .slice (some ⟨wa.heap.size + 1, 0, none⟩) n n] 28)) n
  simp only [World.size_alloc] at hm
  refine ⟨(h.keep hb1).keep hb2, by omega, ?_, ?_⟩
  · rw [heap_alloc_old _ _ (by simp)]
    exact heap_alloc_new _ _
  · simp only [World.size_alloc]
    exact hm.mono (by omega)
theorem heap_size_setCell (w : World) (a : Addr) (v : Value) : (w.setCell a v).heap.size = w.heap.size := by simp [World.setCell]
theorem map_getD {L : List (Pr × Value)} {ps : List Pr} (hl : L.length = ps.length) (h : ∀ j, j < ps.length → (L.getD j d0).1 = ps.getD j pr0) : L.map (·.1) = ps := map_fst hl h
set_option maxHeartbeats 6400000 in
theorem IdealPeers_any (b d n : Int) (a : Option Addr) (cap : Nat) (zs : List Int) (w : World) (hm : zs.length ≤ maxLen) (hr : RowAt w a zs) :
    Calls Try.prog 28 #[.agg #[.int .i64 b, .int .i64 d], .slice a zs.length cap, .int .i64 n] w fun e w' => ∃ v, e = .returned v ∧ Below w.heap.size w w' ∧
      ((idlOk b d zs n = false ∧ v = .tuple #[.agg #[.int .i64 0, .int .i64 0, .slice none 0 0], .bool false]) ∨ (idlOk b d zs n = true ∧ ∃ g L, v = .tuple #[.agg #[.int .i64 b, .int .i64 d, .slice (some ⟨g, 0, none⟩) zs.length zs.length], .bool true] ∧ L.map (·.1) = idealL b d zs n.toNat ∧ OwnP w.heap.size w'.heap.size w' g L)) := by
  have rb := rb0 w #[.int .i64 b, .int .i64 d] 25
  have CR := GoodRing_any b d a cap zs _ hm (hr.keep rb.bel)
  have HR : Hid (RowAt w a zs) := hr
  have RB0 : Hid _ := rb
  clear hr rb
  cases hg : ringB b d zs
  · have hv : Hid (idlOk b d zs n = false) := by unfold Hid idlOk; rw [hg]; rfl
    rw [hg] at CR
    go_enter Try.func28, Try.ntmps28
    go_wp2_with fail
    refine CR.mono ?_
    rintro e w1 ⟨rfl, hw1⟩
    have RB1 : Hid (RB w w1 #[.int .i64 b, .int .i64 d] 25) := RB0.out.keep hw1
    obtain ⟨r0, r1, r2, q0, q1, q2⟩ := RB1.out.cells
    clear CR hw1
    go_wp2
    refine bodyPost_ret (results_cell_tmp Try.results28 _ _ (w.heap.size + 1) _ _ _ _ _ rfl rfl (set3_row RB1.out.r) Try.underlying28 rfl (by kernel_rfl)) rfl ⟨_, rfl, set3_below RB1.out.bel (by omega), .inl ⟨hv.out, rfl⟩⟩
  · rw [hg] at CR
    by_cases hn : inB n 0 3 = true
    · obtain ⟨n1, n2⟩ := inB_true hn
      have hv : Hid (idlOk b d zs n = true) := by unfold Hid idlOk; rw [hg, hn]; rfl
      obtain ⟨m, rfl⟩ : ∃ m : Nat, n = (m : Int) := ⟨n.toNat, by omega⟩
      have R := ringB_true hg
      have l1 := R.l1
      have l2 := R.l2
      have RR : Hid (Ring b d zs) := R
      have hmk := make_peers zs.length (by omega)
      have hm3 : m ≤ 3 := by omega
      clear hg hn n1 R
      go_enter Try.func28, Try.ntmps28
      go_wp2_with fail
      refine CR.mono ?_
      rintro e w1 ⟨rfl, hw1⟩
      have RB1 : Hid (RB w w1 #[.int .i64 b, .int .i64 d] 25) := RB0.out.keep hw1
      obtain ⟨s0, s1⟩ := RB1.out.arg2
      clear CR hw1
      go_upto_region 3 with (fail)
      go_cut [8] (fun v8 wc => ∃ X G, v8 = .pointer (some ⟨X, 0, none⟩) ∧ Hid (IPS w wc b d X G zs.length (List.replicate zs.length d0)))
      case first =>
        have hlt1 := RB1.out.lt
        have g0 : ∀ o, (w1.alloc o).cell? ⟨w.heap.size, 0, none⟩ = some (.int .i64 b) := fun o => ((belA w1 o).cell (p := ⟨w.heap.size, 0, none⟩) (show w.heap.size < w1.heap.size by omega)).trans s0
        have g1 : ∀ o, (w1.alloc o).cell? ⟨w.heap.size, 1, none⟩ = some (.int .i64 d) := fun o => ((belA w1 o).cell (p := ⟨w.heap.size, 1, none⟩) (show w.heap.size < w1.heap.size by omega)).trans s1
        have e0 : ∀ o o', ((w1.alloc o).alloc o').cell? ⟨w.heap.size, 0, none⟩ = some (.int .i64 b) := fun o o' => ((belA (w1.alloc o) o').cell (p := ⟨w.heap.size, 0, none⟩) (by simp; omega)).trans (g0 o)
        have e1 : ∀ o o', ((w1.alloc o).alloc o').cell? ⟨w.heap.size, 1, none⟩ = some (.int .i64 d) := fun o o' => ((belA (w1.alloc o) o').cell (p := ⟨w.heap.size, 1, none⟩) (by simp; omega)).trans (g1 o)
        go_region
        all_goals (go_wp2_with fail; go_meet; clear g0 g1 e0 e1 hmk s0 s1 RB0 HR RR; first | exact ⟨_, _, rfl, (ips1 w w1 b d zs.length RB1.out).keep (Below.refl _ _).drew⟩ | exact ⟨_, _, rfl, (ips2 w w1 b d zs.length RB1.out).keep (Below.refl _ _).drew⟩)
      case rest =>
        obtain ⟨X, G, rfl, IP0⟩ := hcut
        clear hmk s0 s1 RB0 RB1
        go_wp2_with fail
        go_loopw [32] (fun vi wr => ∃ (k : Nat) (L : List (Pr × Value)), k ≤ zs.length ∧ vi = .int .i64 k ∧ Hid (IPS w wr b d X G zs.length L) ∧ Hid (L.length = zs.length) ∧ Hid (∀ j, j < k → (L.getD j d0).1 = idlP b d zs m (zs.getD j 0))) (fun vi _ => zs.length - (intOf vi).toNat)
        case atStart => exact ⟨0, _, Nat.zero_le _, rfl, IP0, by unfold Hid; simp, fun j hj => by omega⟩
        case round =>
          obtain ⟨k, L, hk, rfl, IP, HL, HS⟩ := hrel
          clear IP0
          by_cases hlt : k < zs.length
          · obtain ⟨bk, off, rfl⟩ := rowAt_form HR.out (by omega)
            have hc1 := (rowAt_cell (HR.out.keep IP.out.rb.bel) (by omega)).2 k hlt
            obtain ⟨x1, x2⟩ := RR.out.rng k hlt
            have HX : Hid (idlP b d zs m (zs.getD k 0) = ⟨zs.getD k 0, nxtI zs (zs.getD k 0), pntI b d zs (zs.getD k 0), bckL zs (pntI b d zs (zs.getD k 0)) m⟩) := rfl
            obtain ⟨x, hx⟩ : ∃ x, x = zs.getD k 0 := ⟨_, rfl⟩
            rw [← hx] at hc1 x1 x2 HX
            have HXE : Hid (zs.getD k 0 = x) := hx.symm
            clear hx
            have hkL : k < L.length := by rw [HL.out]; exact hlt
            obtain ⟨p0, p1, p2⟩ := IP.out.cell
            obtain ⟨c0, c1, c2, c3⟩ := IP.out.ow.cel k hkL
            have f0 := IP.out.at (k * 4)
            have IP1 : Hid _ := IP.out.num hkL 0 (by omega) x
            have hG := IP.out.ow.lo
            rw [Nat.add_zero] at IP1
            generalize (L.getD k d0).1.id = o0 at c0
            clear p0 p1 c1 c2 c3
            go_wp2_with fail
            refine (nextIn_any _ cap zs x _ l1 l2 (HR.out.keep IP1.out.rb.bel)).mono ?_
            rintro e wb ⟨rfl, hwb⟩
            have IB : Hid (IPS w wb b d X G zs.length (L.set k (setF 0 (L.getD k d0).1 x, (L.getD k d0).2))) := by unfold Hid; rw [hwb]; exact IP1.out
            have hkb : k < (L.set k (setF 0 (L.getD k d0).1 x, (L.getD k d0).2)).length := by rw [List.length_set]; exact hkL
            clear IP1 hwb p2 c0 f0 hc1
            obtain ⟨_, c1, _, _⟩ := IB.out.ow.cel k hkb
            have f1 := IB.out.at (k * 4 + 1)
            have IB1 := IB.out.num hkb 1 (by omega) (nxtI zs x)
            rw [getD_same hkL, List.set_set] at IB1
            have IB2 : Hid _ := IB1
            obtain ⟨s0, s1⟩ := IB.out.rb.arg2
            obtain ⟨s2, s3⟩ := IB2.out.rb.arg2
            generalize ((L.set k (setF 0 (L.getD k d0).1 x, (L.getD k d0).2)).getD k d0).1.succ = o1 at c1
            clear IB1
            go_wp2_with fail
            refine (pointIn_any b d _ cap zs x _ RR.out (HR.out.keep IB2.out.rb.bel) x1 x2).mono ?_
            rintro e wc ⟨rfl, hwc⟩
            have IC : Hid (IPS w wc b d X G zs.length (L.set k (setF 1 (setF 0 (L.getD k d0).1 x) (nxtI zs x), (L.getD k d0).2))) := IB2.out.keep hwc
            have hkc : k < (L.set k (setF 1 (setF 0 (L.getD k d0).1 x) (nxtI zs x), (L.getD k d0).2)).length := by rw [List.length_set]; exact hkL
            clear IB IB2 hwc c1 f1 s0 s1 s2 s3 hkb
            obtain ⟨_, _, c2, _⟩ := IC.out.ow.cel k hkc
            have f2 := IC.out.at (k * 4 + 2)
            have IC1 := IC.out.num hkc 2 (by omega) (pntI b d zs x)
            rw [getD_same hkL, List.set_set] at IC1
            have IC2 : Hid _ := IC1
            generalize ((L.set k (setF 1 (setF 0 (L.getD k d0).1 x) (nxtI zs x), (L.getD k d0).2)).getD k d0).1.point = o2 at c2
            clear IC1
            go_wp2_with fail
            refine (backsOf_any _ cap zs (pntI b d zs x) m _ l1 l2 hm3 (HR.out.keep IC2.out.rb.bel)).mono ?_
            rintro e wd ⟨rfl, owd⟩
            have hke : k < (L.set k (setF 2 (setF 1 (setF 0 (L.getD k d0).1 x) (nxtI zs x)) (pntI b d zs x), (L.getD k d0).2)).length := by rw [List.length_set]; exact hkL
            have hbl := bckL_len zs (pntI b d zs x) m
            have ID1 := IC2.out.backs owd.bel hke (cb := m) (by omega) (by omega) owd.owns
            have ID0 := IC2.out.keep owd.bel
            rw [getD_same hkL, List.set_set, hbl] at ID1
            have e4 : (⟨(setF 2 (setF 1 (setF 0 (L.getD k d0).1 x) (nxtI zs x)) (pntI b d zs x)).id, (setF 2 (setF 1 (setF 0 (L.getD k d0).1 x) (nxtI zs x)) (pntI b d zs x)).succ, (setF 2 (setF 1 (setF 0 (L.getD k d0).1 x) (nxtI zs x)) (pntI b d zs x)).point, bckL zs (pntI b d zs x) m⟩ : Pr) = idlP b d zs m x := rfl
            rw [e4] at ID1
            have ID2 : Hid _ := ID1
            obtain ⟨_, _, _, c3⟩ := ID0.ow.cel k hke
            have f3 := ID0.at (k * 4 + 3)
            simp only [heap_size_setCell] at ID2 c3 f3
            generalize ((L.set k (setF 2 (setF 1 (setF 0 (L.getD k d0).1 x) (nxtI zs x)) (pntI b d zs x), (L.getD k d0).2)).getD k d0).2 = o3 at c3
            clear IC IC2 ID0 ID1 owd c2 f2 hkc hke e4 hbl
            go_wp2_with fail
            go_roundw
            case rel => exact ⟨k + 1, _, by omega, by go_num, ID2, by unfold Hid; rw [List.length_set]; exact HL.out, fun j hj => by
              rw [getD_set (by have := HL.out; omega)]
              by_cases hij : k = j
              · subst hij; rw [if_pos rfl, HXE.out]
              · rw [if_neg hij]; exact HS.out j (by omega)⟩
            case measure => simp [intOf]; omega
          · obtain rfl : k = zs.length := by omega
            obtain ⟨r0, r1, r2, q0, q1, q2⟩ := IP.out.rb.cells
            obtain ⟨p0, p1, p2⟩ := IP.out.cell
            have hlo := IP.out.lo
            have hG := IP.out.ow.lo
            have HF : Hid (L.map (·.1) = idealL b d zs m) := map_getD (by rw [HL.out, idealL_len]) (fun j hj => by
              rw [idealL_len] at hj
              rw [HS.out j hj]
              unfold idealL
              simp [List.getD_eq_getElem?_getD, hj])
            have OW : Hid (OwnP w.heap.size (set3 wr (w.heap.size + 1) (.int .i64 b) (.int .i64 d) (.slice (some ⟨G, 0, none⟩) zs.length zs.length)).heap.size (set3 wr (w.heap.size + 1) (.int .i64 b) (.int .i64 d) (.slice (some ⟨G, 0, none⟩) zs.length zs.length)) G L) := by
              unfold Hid
              rw [set3_size]
              exact (IP.out.ow.blocks (fun k hk _ _ => set3_block (by omega))).mono (by omega)
            go_wp2
            refine bodyPost_ret (results_cell_tmp Try.results28 _ _ (w.heap.size + 1) _ _ _ _ _ rfl rfl (set3_row IP.out.rb.r) Try.underlying28 rfl (by kernel_rfl)) rfl ⟨_, rfl, set3_below IP.out.rb.bel (by omega), .inr ⟨hv.out, G, L, rfl, HF.out, OW.out⟩⟩
    · have hv : Hid (idlOk b d zs n = false) := by unfold Hid idlOk; rw [hg]; simpa using hn
      have hn' : n < 0 ∨ 3 < n := by unfold inB at hn; simp at hn; omega
      clear hg hn
      by_cases hneg : n < 0
      · clear hn'
        go_enter Try.func28, Try.ntmps28
        go_wp2_with fail
        refine CR.mono ?_
        rintro e w1 ⟨rfl, hw1⟩
        have RB1 : Hid (RB w w1 #[.int .i64 b, .int .i64 d] 25) := RB0.out.keep hw1
        obtain ⟨r0, r1, r2, q0, q1, q2⟩ := RB1.out.cells
        clear CR hw1
        go_wp2
        refine bodyPost_ret (results_cell_tmp Try.results28 _ _ (w.heap.size + 1) _ _ _ _ _ rfl rfl (set3_row RB1.out.r) Try.underlying28 rfl (by kernel_rfl)) rfl ⟨_, rfl, set3_below RB1.out.bel (by omega), .inl ⟨hv.out, rfl⟩⟩
      · have hbig : 3 < n := by omega
        clear hn'
        go_enter Try.func28, Try.ntmps28
        go_wp2_with fail
        refine CR.mono ?_
        rintro e w1 ⟨rfl, hw1⟩
        have RB1 : Hid (RB w w1 #[.int .i64 b, .int .i64 d] 25) := RB0.out.keep hw1
        obtain ⟨r0, r1, r2, q0, q1, q2⟩ := RB1.out.cells
        clear CR hw1
        go_wp2
        refine bodyPost_ret (results_cell_tmp Try.results28 _ _ (w.heap.size + 1) _ _ _ _ _ rfl rfl (set3_row RB1.out.r) Try.underlying28 rfl (by kernel_rfl)) rfl ⟨_, rfl, set3_below RB1.out.bel (by omega), .inl ⟨hv.out, rfl⟩⟩
end Go.Proofs.Ytgmdbihdnacpjaa
