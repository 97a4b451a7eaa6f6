/- The specification's copy of peers. -/
import Derived.Test.YtgmdbihdnacpjaaW5
import Derived.Laws.AppendOwnNone
namespace Go.Proofs.Ytgmdbihdnacpjaa
open Go.RowKit
set_option linter.unusedVariables false
theorem rowAt_reads {w : World} {ad : Addr} {zs : List Int} (h : RowAt w (some ad) zs) : ∀ (j : Nat) (u : Value), (zs.map (Value.int .i64))[j]? = some u → w.cell? (ad.add j) = some u := by
  intro j u hj
  have hl : j < zs.length := by
    rcases Nat.lt_or_ge j zs.length with h' | h'
    · exact h'
    · rw [List.getElem?_eq_none (by simpa using h')] at hj; cases hj
  obtain ⟨bk, off, ha⟩ := rowAt_form h (by omega)
  simp at ha
  subst ha
  rw [add_none', (rowAt_cell h (by omega)).2 j hl]
  rw [List.getElem?_map, List.getElem?_eq_getElem hl] at hj
  simp at hj
  rw [← hj]
  simp [List.getD_eq_getElem?_getD, hl]
set_option maxHeartbeats 800000 in
theorem lownG_any (a : Option Addr) (cap : Nat) (zs : List Int) (w : World) (h2 : zs.length ≤ 1048576) (hr : RowAt w a zs) (hn : a = none → cap = 0) :
    Calls Try.prog 52 #[.slice a zs.length cap] w fun e w' => ∃ g cp, e = .returned (.slice (some ⟨g, 0, none⟩) zs.length cp) ∧ zs.length ≤ cp ∧ OwnS w.heap.size w' g zs ∧ Below w.heap.size w w' := by
  obtain ⟨i0, hi, hz0, hz1, hz2⟩ := info_parts'
  have own0 : Hid ((w.alloc (.cells #[] 3)).ownsRow w.heap.size 3 1 (.slice (some ⟨w.heap.size, 0, none⟩) 0 0) 0 []) := own_lit0 w
  cases a with
  | none =>
    have hc := hn rfl
    subst hc
    have hz : zs = [] := by
      rcases hr with h | ⟨_, _, h, _⟩
      · exact h
      · cases h
    subst hz
    go_enter Try.func52, Try.ntmps52
    go_wp2_with (at_builtin; refine wpList_append_own_none rfl (.tmp 3) (.tmp 4) 29 rfl w.heap.size 3 i0 1 Try.underlying29 hi _ _ _ rfl own0.out rfl ?_)
    go_ret
    have hos : OwnS w.heap.size (w.alloc (.cells #[] 3)) w.heap.size [] := ⟨Nat.le_refl _, #[], heap_alloc_new _ _, rfl⟩
    first | exact ⟨w.heap.size, 0, rfl, Nat.le_refl _, hos, belA _ _⟩ | exact ⟨w.heap.size, ⟨0, rfl⟩, hos, belA _ _⟩
  | some ad =>
    have s1 : Hid ((zs.map (Value.int .i64)).length = zs.length * 1) := by simp [Hid]
    have c1 : Hid (∀ (j : Nat) (u : Value), (zs.map (Value.int .i64))[j]? = some u → (w.alloc (.cells #[] 3)).cell? (ad.add j) = some u) := rowAt_reads (hr.alloc (.cells #[] 3))
    go_enter Try.func52, Try.ntmps52
    go_wp2_with (at_builtin; refine wpList_append_own _ rfl (.tmp 3) (.tmp 4) 29 rfl w.heap.size 3 i0 (.int .i64 0) 1 8 Try.underlying29 hi hz0 hz1 hz2 rfl (by decide) _ _ _ rfl own0.out ad _ _ (zs.map (Value.int .i64)) rfl s1.out c1.out (ints_oneCell _ _) (by unfold maxLen; omega) (by omega) (by simp) ?_; intro v6 w6 hown6 hgrow6 hnil6; rw [Nat.zero_add, List.nil_append] at hown6; obtain ⟨g6, cp6, rfl⟩ := own_form hown6 (fun he => by have := (hnil6.1 he).1; cases this); obtain ⟨os6, len6, hcp6⟩ := OwnS.of_owns hown6; have HB6 : Hid (Below w.heap.size w w6) := grown_bel ((Below.refl _ _).alloc (Nat.le_refl _) _) hgrow6 (by simp) (fun k hk => (own0.out.lt k hk).1); clear hown6 hgrow6 hnil6)
    go_ret
    exact ⟨g6, cp6, rfl, hcp6, os6, HB6.out⟩

set_option maxHeartbeats 6400000 in
theorem lownP_any (b d : Int) (a : Option Addr) (cap : Nat) (ps : List Pr) (w : World) (hm : ps.length ≤ 1048576) (h3 : ∀ i, i < ps.length → (ps.getD i pr0).backs.length ≤ 1048576) (hr : PeersAt w a ps) :
    Calls Try.prog 51 #[.agg #[.int .i64 b, .int .i64 d, .slice a ps.length cap]] w fun e w' => ∃ vl L, e = .returned (.agg #[.int .i64 b, .int .i64 d, vl]) ∧ L.map (·.1) = ps ∧ ListP w.heap.size w' vl L ∧ Below w.heap.size w w' := by
  obtain ⟨i1, hi1, hy0, hy1, hy2⟩ := info_peer'
  have HR : Hid (PeersAt w a ps) := hr
  have H3 : Hid (∀ i, i < ps.length → (ps.getD i pr0).backs.length ≤ 1048576) := h3
  clear hr h3
  go_enter Try.func51, Try.ntmps51
  go_wp2_with fail
  go_loopw [12] (fun vi wr => ∃ (k : Nat) (vl : Value) (L : List (Pr × Value)), k ≤ ps.length ∧ vi = .int .i64 k ∧ Hid (IdSt w wr #[.int .i64 b, .int .i64 d, .slice a ps.length cap] 28 b d vl L) ∧ Hid (L.map (·.1) = ps.take k)) (fun vi _ => ps.length - (intOf vi).toNat)
  case atStart => exact ⟨0, _, [], Nat.zero_le _, rfl, idSt0 w _ _ b d, by simp [Hid]⟩
  case round =>
    obtain ⟨k, vl, L, hk, rfl, ST, HL⟩ := hrel
    obtain ⟨al, cl, rfl, _⟩ := ST.out.l.form
    by_cases hlt : k < ps.length
    · obtain ⟨bk, off, rfl⟩ := peersAt_form HR.out (by omega)
      have hLk : L.length = k := by have := congrArg List.length HL.out; simp at this; omega
      have HLK : Hid (L.length = k) := hLk
      clear hLk
      obtain ⟨c0, c1, c2, ab, cb, c3, hrb, _, _, hnil⟩ := (peersAt_cell (HR.out.keep ST.out.bel) (by omega)).2 k hlt
      have HT : Hid (ps.take (k + 1) = ps.take k ++ [ps.getD k pr0]) := by
        unfold Hid
        rw [List.take_succ_eq_append_getElem hlt]
        simp [List.getD_eq_getElem?_getD, hlt]
      have hn := H3.out k hlt
      generalize ps.getD k pr0 = p at c0 c1 c2 c3 hrb HT hn
      obtain ⟨x0, x1, x2, bs⟩ := p
      simp only at c0 c1 c2 c3 hrb hn
      have hsw : w.heap.size + 3 ≤ wr.heap.size := ST.out.lt
      have CO := lownG_any ab cb bs (wr.alloc (.cells #[.int .i64 x0, .int .i64 x1, .int .i64 x2, .slice ab bs.length cb] 37)) hn (hrb.alloc _) hnil
      go_wp2_with fail
      refine CO.mono ?_
      rintro e w2 ⟨g, cp, rfl, hcp, os, hw2⟩
      have HST : Hid (IdSt w (wr.alloc (.cells #[.int .i64 x0, .int .i64 x1, .int .i64 x2, .slice ab bs.length cb] 37)) #[.int .i64 b, .int .i64 d, .slice (some ⟨bk, off, none⟩) ps.length cap] 28 b d (.slice al L.length cl) L) := ST.out.keep (belA _ _)
      have hs2 : wr.heap.size < w2.heap.size := by have := hw2.size; simp at this; omega
      have HX2 : Hid (w2.heap[wr.heap.size]? = some (.cells #[.int .i64 x0, .int .i64 x1, .int .i64 x2, .slice ab bs.length cb] 37 (0, 0))) := (hw2.block _ (by simp)).trans (heap_alloc_new _ _)
      have hg := os.lo
      simp only [World.size_alloc] at hg
      have HA : ∀ v : Value, Hid (Away wr.heap.size (wr.alloc (.cells #[.int .i64 x0, .int .i64 x1, .int .i64 x2, .slice ab bs.length cb] 37)) (w2.setCell ⟨wr.heap.size, 3, none⟩ v)) := fun v => ((Away.refl _ _).keep hw2).set 3 v
      have x3 : w2.cell? ⟨wr.heap.size, 3, none⟩ = some (.slice ab bs.length cb) := (cell_of_row w2 _ _ _ _ _ HX2.out).trans rfl
      have f3 : w2.frozen? ⟨wr.heap.size, 3, none⟩ = false := frozen_of_row w2 _ _ _ _ HX2.out
      have HOS : Hid (OwnS (wr.heap.size + 1) w2 g bs) := by unfold Hid; simpa using os
      clear CO hw2 os c0 c1 c2 c3 hrb
      have HX3 : Hid ((w2.setCell ⟨wr.heap.size, 3, none⟩ (.slice (some ⟨g, 0, none⟩) bs.length cp)).heap[wr.heap.size]? = some (.cells #[.int .i64 x0, .int .i64 x1, .int .i64 x2, .slice (some ⟨g, 0, none⟩) bs.length cp] 37 (0, 0))) := heap_setCell_same _ _ 3 _ _ _ HX2.out
      have HI : Hid (IdSt w (w2.setCell ⟨wr.heap.size, 3, none⟩ (.slice (some ⟨g, 0, none⟩) bs.length cp)) #[.int .i64 b, .int .i64 d, .slice (some ⟨bk, off, none⟩) ps.length cap] 28 b d (.slice al L.length cl) L) := HST.out.away (HA _).out hsw ⟨_, heap_alloc_new _ _⟩ (fun he => by have := (ST.out.l.own.lt _ he).2; omega)
      have HO3 : Hid (OwnS (wr.heap.size + 1) (w2.setCell ⟨wr.heap.size, 3, none⟩ (.slice (some ⟨g, 0, none⟩) bs.length cp)) g bs) := HOS.out.of_block (heap_setCell_other _ _ _ _ (by simp; omega))
      have hs3 : (w2.setCell ⟨wr.heap.size, 3, none⟩ (.slice (some ⟨g, 0, none⟩) bs.length cp)).heap.size = w2.heap.size := by simp [World.setCell]
      have HS3 : Hid ((w2.setCell ⟨wr.heap.size, 3, none⟩ (.slice (some ⟨g, 0, none⟩) bs.length cp)).heap.size = w2.heap.size) := hs3
      clear hs3
      have z0 : w2.cell? ⟨wr.heap.size, 0, none⟩ = some (.int .i64 x0) := (cell_of_row w2 _ _ _ _ _ HX2.out).trans rfl
      have z1 : w2.cell? ⟨wr.heap.size, 1, none⟩ = some (.int .i64 x1) := (cell_of_row w2 _ _ _ _ _ HX2.out).trans rfl
      have z2 : w2.cell? ⟨wr.heap.size, 2, none⟩ = some (.int .i64 x2) := (cell_of_row w2 _ _ _ _ _ HX2.out).trans rfl
      have p2 : (w2.setCell ⟨wr.heap.size, 3, none⟩ (.slice (some ⟨g, 0, none⟩) bs.length cp)).cell? ⟨w.heap.size + 1 + 1, 2, none⟩ = some (.slice al L.length cl) := (cell_of_row (w2.setCell ⟨wr.heap.size, 3, none⟩ (.slice (some ⟨g, 0, none⟩) bs.length cp)) _ _ _ _ _ HI.out.p).trans rfl
      have p2' : w2.cell? ⟨w.heap.size + 1 + 1, 2, none⟩ = some (.slice al L.length cl) := by
        have h0 : ¬ w.heap.size + 1 + 1 = wr.heap.size := by omega
        rw [cell_far h0] at p2
        exact p2
      clear p2
      have hLl : L.length ≤ 1048576 := by have := HLK.out; omega
      have HV : Hid (ValOk (wr.alloc (.cells #[.int .i64 x0, .int .i64 x1, .int .i64 x2, .slice ab bs.length cb] 37)).heap.size ((w2.setCell ⟨wr.heap.size, 3, none⟩ (.slice (some ⟨g, 0, none⟩) bs.length cp)).alloc (.cells #[.int .i64 x0, .int .i64 x1, .int .i64 x2, .slice (some ⟨g, 0, none⟩) bs.length cp] 37)).heap.size ((w2.setCell ⟨wr.heap.size, 3, none⟩ (.slice (some ⟨g, 0, none⟩) bs.length cp)).alloc (.cells #[.int .i64 x0, .int .i64 x1, .int .i64 x2, .slice (some ⟨g, 0, none⟩) bs.length cp] 37)) (⟨x0, x1, x2, bs⟩, .slice (some ⟨g, 0, none⟩) bs.length cp)) :=
        ⟨_, cp, rfl, ⟨hcp, fun h => by cases h⟩, hn, .inr ⟨g, rfl, by have := HO3.out.lt; simp only [World.size_alloc]; omega, by have := HO3.out.keep (belA _ (.cells #[.int .i64 x0, .int .i64 x1, .int .i64 x2, .slice (some ⟨g, 0, none⟩) bs.length cp] 37)); simpa only [World.size_alloc] using this⟩⟩
      have HOW : Hid (((w2.setCell ⟨wr.heap.size, 3, none⟩ (.slice (some ⟨g, 0, none⟩) bs.length cp)).alloc (.cells #[.int .i64 x0, .int .i64 x1, .int .i64 x2, .slice (some ⟨g, 0, none⟩) bs.length cp] 37)).ownsRow (w.heap.size + 3) 37 4 (.slice al L.length cl) L.length (flatP L)) := HI.out.l.own.alloc _
      have HPP : Hid ((w2.setCell ⟨wr.heap.size, 3, none⟩ (.slice (some ⟨g, 0, none⟩) bs.length cp)).heap[w.heap.size + 1 + 1]? = some (.cells #[.int .i64 b, .int .i64 d, .slice al L.length cl] 28 (0, 0))) := HI.out.p
      have HZ : Hid (w.heap.size + 3 ≤ (w2.setCell ⟨wr.heap.size, 3, none⟩ (.slice (some ⟨g, 0, none⟩) bs.length cp)).heap.size ∧ w.heap.size + 3 ≤ ((w2.setCell ⟨wr.heap.size, 3, none⟩ (.slice (some ⟨g, 0, none⟩) bs.length cp)).alloc (.cells #[.int .i64 x0, .int .i64 x1, .int .i64 x2, .slice (some ⟨g, 0, none⟩) bs.length cp] 37)).heap.size ∧ w.heap.size + 1 + 1 < ((w2.setCell ⟨wr.heap.size, 3, none⟩ (.slice (some ⟨g, 0, none⟩) bs.length cp)).alloc (.cells #[.int .i64 x0, .int .i64 x1, .int .i64 x2, .slice (some ⟨g, 0, none⟩) bs.length cp] 37)).heap.size) := by
        have := HS3.out
        refine ⟨by omega, ?_, ?_⟩ <;> (simp only [World.size_alloc]; omega)
      have HNW : Hid (∀ (j : Nat) (u : Value), [Value.int .i64 x0, .int .i64 x1, .int .i64 x2, .slice (some ⟨g, 0, none⟩) bs.length cp][j]? = some u → ((w2.setCell ⟨wr.heap.size, 3, none⟩ (.slice (some ⟨g, 0, none⟩) bs.length cp)).alloc (.cells #[.int .i64 x0, .int .i64 x1, .int .i64 x2, .slice (some ⟨g, 0, none⟩) bs.length cp] 37)).cell? ((⟨w2.heap.size, 0, none⟩ : Addr).add j) = some u) := by
        have := cell_four_new (w2.setCell ⟨wr.heap.size, 3, none⟩ (.slice (some ⟨g, 0, none⟩) bs.length cp)) (.int .i64 x0) (.int .i64 x1) (.int .i64 x2) (.slice (some ⟨g, 0, none⟩) bs.length cp) 37
        rw [HS3.out] at this
        exact this
      clear HA
      go_wp2_with (at_builtin; refine wpList_append_own _ rfl (.tmp 21) (.tmp 23) 26 rfl (w.heap.size + 3) 37 i1 _ 4 48 Try.underlying26 hi1 hy0 hy1 hy2 rfl (by decide) _ _ _ rfl HOW.out ⟨w2.heap.size, 0, none⟩ 1 1 [.int .i64 x0, .int .i64 x1, .int .i64 x2, .slice (some ⟨g, 0, none⟩) bs.length cp] rfl rfl HNW.out (by simp [Value.oneCell']) (by unfold maxLen; omega) (by omega) HZ.out.2.1 ?_; intro v6 w6 hown6 hgrow6 _; obtain ⟨g6, cp6, rfl⟩ := Joins.ownsRow_form hown6 (by omega); have ST6 : Hid (IdSt w (w6.setCell ⟨w.heap.size + 1 + 1, 2, none⟩ (.slice (some ⟨g6, 0, none⟩) (L.length + 1) cp6)) #[.int .i64 b, .int .i64 d, .slice (some ⟨bk, off, none⟩) ps.length cap] 28 b d (.slice (some ⟨g6, 0, none⟩) (L.length + 1) cp6) (L ++ [(⟨x0, x1, x2, bs⟩, .slice (some ⟨g, 0, none⟩) bs.length cp)])) := IdSt.grow2 (e := (⟨x0, x1, x2, bs⟩, .slice (some ⟨g, 0, none⟩) bs.length cp)) HST.out (HI.out.keep (belA _ _)) hgrow6 hown6 HV.out; have HP6 : Hid (w6.heap[w.heap.size + 1 + 1]? = some (.cells #[.int .i64 b, .int .i64 d, .slice al L.length cl] 28 (0, 0))) := (hgrow6.block _ HZ.out.2.2 (fun he => by have := (HOW.out.lt _ he.symm).1; omega)).trans ((heap_alloc_old _ _ (by have := HZ.out.1; omega)).trans HPP.out); have p26 : w6.cell? ⟨w.heap.size + 1 + 1, 2, none⟩ = some (.slice al L.length cl) := (cell_of_row w6 _ _ _ _ _ HP6.out).trans rfl; have f26 : w6.frozen? ⟨w.heap.size + 1 + 1, 2, none⟩ = false := frozen_of_row w6 _ _ _ _ HP6.out; clear hown6 hgrow6)
      go_roundw
      case rel => exact ⟨k + 1, _, _, by omega, by go_num, ST6, by unfold Hid; rw [List.map_append, HL.out, HT.out]; rfl⟩
      case measure => simp [intOf]; omega
    · have p0 : wr.cell? ⟨w.heap.size + 1 + 1, 0, none⟩ = some (.int .i64 b) := (cell_of_row wr _ _ _ _ _ ST.out.p).trans rfl
      have p1 : wr.cell? ⟨w.heap.size + 1 + 1, 1, none⟩ = some (.int .i64 d) := (cell_of_row wr _ _ _ _ _ ST.out.p).trans rfl
      have p2 : wr.cell? ⟨w.heap.size + 1 + 1, 2, none⟩ = some (.slice al L.length cl) := (cell_of_row wr _ _ _ _ _ ST.out.p).trans rfl
      have r0 : wr.cell? ⟨w.heap.size + 1, 0, none⟩ = some (.int .i64 0) := (cell_of_row wr _ _ _ _ _ ST.out.r).trans rfl
      have r1 : wr.cell? ⟨w.heap.size + 1, 1, none⟩ = some (.int .i64 0) := (cell_of_row wr _ _ _ _ _ ST.out.r).trans rfl
      have r2 : wr.cell? ⟨w.heap.size + 1, 2, none⟩ = some (.slice none 0 0) := (cell_of_row wr _ _ _ _ _ ST.out.r).trans rfl
      have q0 : wr.frozen? ⟨w.heap.size + 1, 0, none⟩ = false := frozen_of_row wr _ _ _ _ ST.out.r
      have q1 : wr.frozen? ⟨w.heap.size + 1, 1, none⟩ = false := frozen_of_row wr _ _ _ _ ST.out.r
      have q2 : wr.frozen? ⟨w.heap.size + 1, 2, none⟩ = false := frozen_of_row wr _ _ _ _ ST.out.r
      go_wp2
      have HE : ∀ v : Value, Hid ((((wr.setCell ⟨w.heap.size + 1, 0, none⟩ (.int .i64 b)).setCell ⟨w.heap.size + 1, 1, none⟩ (.int .i64 d)).setCell ⟨w.heap.size + 1, 2, none⟩ v).heap[w.heap.size + 1]? = some (.cells #[.int .i64 b, .int .i64 d, v] 28 (0, 0))) := fun v =>
        heap_setCell_same _ _ 2 _ _ _ (heap_setCell_same _ _ 1 _ _ _ (heap_setCell_same _ _ 0 _ _ _ ST.out.r))
      refine bodyPost_ret (results_cell_row Try.results51 _ _ (w.heap.size + 1) _ _ _ _ rfl (HE _).out Try.underlying28 rfl (by kernel_rfl)) rfl ⟨_, L, rfl, ?_, ?_, ?_⟩
      · have := HL.out
        rwa [List.take_of_length_le (by omega)] at this
      · refine (ListP.lower (B' := w.heap.size) (ST.out.l.blocks (w1 := (((wr.setCell ⟨w.heap.size + 1, 0, none⟩ (.int .i64 b)).setCell ⟨w.heap.size + 1, 1, none⟩ (.int .i64 d)).setCell ⟨w.heap.size + 1, 2, none⟩ (.slice al L.length cl))) (by simp [World.setCell]) (fun k hk _ => ?_)) (by omega))
        rw [heap_setCell_other _ _ _ _ (by simp; omega), heap_setCell_other _ _ _ _ (by simp; omega), heap_setCell_other _ _ _ _ (by simp; omega)]
      · exact ((ST.out.bel.setCell (p := ⟨w.heap.size + 1, 0, none⟩) (by simp) _).setCell (p := ⟨w.heap.size + 1, 1, none⟩) (by simp) _).setCell (p := ⟨w.heap.size + 1, 2, none⟩) (by simp) _
end Go.Proofs.Ytgmdbihdnacpjaa
