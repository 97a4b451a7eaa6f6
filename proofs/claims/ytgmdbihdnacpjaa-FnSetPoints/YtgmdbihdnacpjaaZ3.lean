/- The specification's copy of peers. What the laws over peers share: the specification's GoodPeers; two boxes read. Peers of one's own: a pointer is set; backs are set. A struct and a bool are answered; one number of a peer is written; the specification's IdealPeers. The program's good peers. GoodPeers, in the program. MembersOf, on both sides; what the laws over peers keep when peers are marked. What the laws over lists share: the box of the space, and what has been kept since. What the walks of exact laws share: boxes, marks, lists and peers of one's own that may be empty. The program's pointers by digits. The program's ideal peers. The program's IdealPeers. Answers of chapter 3 in one form: a list or peers, and whether it was asked well. -/
import Derived.Laws.AppendOwnNone
import Derived.Test.YtgmdbihdnacpjaaZ0
import Derived.Test.YtgmdbihdnacpjaaZ1
import Derived.Test.YtgmdbihdnacpjaaZ2
namespace Go.Proofs.Ytgmdbihdnacpjaa
open Go.RowKit
set_option linter.unusedVariables false
theorem rowAt_reads {w : World} {ad : Addr} {zs : List Int} (h : RowAt w (some ad) zs) : ∀ (j : Nat) (u : Value), (zs.map (Value.int .i64))[j]? = some u → w.cell? (ad.add j) = some u := by
  intro j u hj
  have hl : j < zs.length := by
    rcases Nat.lt_or_ge j zs.length with h' | h'
    · exact h'
    · rw [List.getElem?_eq_none (by simpa using h')] at hj; cases hj
  obtain ⟨bk, off, ha⟩ := rowAt_form h (by omega)
  simp at ha
  subst ha
  rw [add_none', (rowAt_cell h (by omega)).2 j hl]
  rw [List.getElem?_map, List.getElem?_eq_getElem hl] at hj
  simp at hj
  rw [← hj]
  simp [List.getD_eq_getElem?_getD, hl]
set_option maxHeartbeats 800000 in
theorem lownG_any (a : Option Addr) (cap : Nat) (zs : List Int) (w : World) (h2 : zs.length ≤ 1048576) (hr : RowAt w a zs) (hn : a = none → cap = 0) :
    Calls Try.prog 52 #[.slice a zs.length cap] w fun e w' => ∃ g cp, e = .returned (.slice (some ⟨g, 0, none⟩) zs.length cp) ∧ zs.length ≤ cp ∧ OwnS w.heap.size w' g zs ∧ Below w.heap.size w w' := by
  obtain ⟨i0, hi, hz0, hz1, hz2⟩ := info_parts'
  have own0 : Hid ((w.alloc (.cells #[] 3)).ownsRow w.heap.size 3 1 (.slice (some ⟨w.heap.size, 0, none⟩) 0 0) 0 []) := own_lit0 w
  cases a with
  | none =>
    have hc := hn rfl
    subst hc
    have hz : zs = [] := by
      rcases hr with h | ⟨_, _, h, _⟩
      · exact h
      · cases h
    subst hz
    go_enter Try.func52, Try.ntmps52
    go_wp2_with (at_builtin; refine wpList_append_own_none rfl (.tmp 3) (.tmp 4) 29 rfl w.heap.size 3 i0 1 Try.underlying29 hi _ _ _ rfl own0.out rfl ?_)
    go_ret
    have hos : OwnS w.heap.size (w.alloc (.cells #[] 3)) w.heap.size [] := ⟨Nat.le_refl _, #[], heap_alloc_new _ _, rfl⟩
    first | exact ⟨w.heap.size, 0, rfl, Nat.le_refl _, hos, belA _ _⟩ | exact ⟨w.heap.size, ⟨0, rfl⟩, hos, belA _ _⟩
  | some ad =>
    have s1 : Hid ((zs.map (Value.int .i64)).length = zs.length * 1) := by simp [Hid]
    have c1 : Hid (∀ (j : Nat) (u : Value), (zs.map (Value.int .i64))[j]? = some u → (w.alloc (.cells #[] 3)).cell? (ad.add j) = some u) := rowAt_reads (hr.alloc (.cells #[] 3))
    go_enter Try.func52, Try.ntmps52
    go_wp2_with (at_builtin; refine wpList_append_own _ rfl (.tmp 3) (.tmp 4) 29 rfl w.heap.size 3 i0 (.int .i64 0) 1 8 Try.underlying29 hi hz0 hz1 hz2 rfl (by decide) _ _ _ rfl own0.out ad _ _ (zs.map (Value.int .i64)) rfl s1.out c1.out (ints_oneCell _ _) (by unfold maxLen; omega) (by omega) (by simp) ?_; intro v6 w6 hown6 hgrow6 hnil6; rw [Nat.zero_add, List.nil_append] at hown6; obtain ⟨g6, cp6, rfl⟩ := own_form hown6 (fun he => by have := (hnil6.1 he).1; cases this); obtain ⟨os6, len6, hcp6⟩ := OwnS.of_owns hown6; have HB6 : Hid (Below w.heap.size w w6) := grown_bel ((Below.refl _ _).alloc (Nat.le_refl _) _) hgrow6 (by simp) (fun k hk => (own0.out.lt k hk).1); clear hown6 hgrow6 hnil6)
    go_ret
    exact ⟨g6, cp6, rfl, hcp6, os6, HB6.out⟩

set_option maxHeartbeats 6400000 in
theorem lownP_any (b d : Int) (a : Option Addr) (cap : Nat) (ps : List Pr) (w : World) (hm : ps.length ≤ 1048576) (h3 : ∀ i, i < ps.length → (ps.getD i pr0).backs.length ≤ 1048576) (hr : PeersAt w a ps) :
    Calls Try.prog 51 #[.agg #[.int .i64 b, .int .i64 d, .slice a ps.length cap]] w fun e w' => ∃ vl L, e = .returned (.agg #[.int .i64 b, .int .i64 d, vl]) ∧ L.map (·.1) = ps ∧ ListP w.heap.size w' vl L ∧ Below w.heap.size w w' := by
  obtain ⟨i1, hi1, hy0, hy1, hy2⟩ := info_peer'
  have HR : Hid (PeersAt w a ps) := hr
  have H3 : Hid (∀ i, i < ps.length → (ps.getD i pr0).backs.length ≤ 1048576) := h3
  clear hr h3
  go_enter Try.func51, Try.ntmps51
  go_wp2_with fail
  go_loopw [12] (fun vi wr => ∃ (k : Nat) (vl : Value) (L : List (Pr × Value)), k ≤ ps.length ∧ vi = .int .i64 k ∧ Hid (IdSt w wr #[.int .i64 b, .int .i64 d, .slice a ps.length cap] 28 b d vl L) ∧ Hid (L.map (·.1) = ps.take k)) (fun vi _ => ps.length - (intOf vi).toNat)
  case atStart => exact ⟨0, _, [], Nat.zero_le _, rfl, idSt0 w _ _ b d, by simp [Hid]⟩
  case round =>
    obtain ⟨k, vl, L, hk, rfl, ST, HL⟩ := hrel
    obtain ⟨al, cl, rfl, _⟩ := ST.out.l.form
    by_cases hlt : k < ps.length
    · obtain ⟨bk, off, rfl⟩ := peersAt_form HR.out (by omega)
      have hLk : L.length = k := by have := congrArg List.length HL.out; simp at this; omega
      have HLK : Hid (L.length = k) := hLk
      clear hLk
      obtain ⟨c0, c1, c2, ab, cb, c3, hrb, _, _, hnil⟩ := (peersAt_cell (HR.out.keep ST.out.bel) (by omega)).2 k hlt
      have HT : Hid (ps.take (k + 1) = ps.take k ++ [ps.getD k pr0]) := by
        unfold Hid
        rw [List.take_succ_eq_append_getElem hlt]
        simp [List.getD_eq_getElem?_getD, hlt]
      have hn := H3.out k hlt
      generalize ps.getD k pr0 = p at c0 c1 c2 c3 hrb HT hn
      obtain ⟨x0, x1, x2, bs⟩ := p
      simp only at c0 c1 c2 c3 hrb hn
      have hsw : w.heap.size + 3 ≤ wr.heap.size := ST.out.lt
      have CO := lownG_any ab cb bs (wr.alloc (.cells #[.int .i64 x0, .int .i64 x1, .int .i64 x2, .slice ab bs.length cb] 37)) hn (hrb.alloc _) hnil
      go_wp2_with fail
      refine CO.mono ?_
      rintro e w2 ⟨g, cp, rfl, hcp, os, hw2⟩
      have HST : Hid (IdSt w (wr.alloc (.cells #[.int .i64 x0, .int .i64 x1, .int .i64 x2, .slice ab bs.length cb] 37)) #[.int .i64 b, .int .i64 d, .slice (some ⟨bk, off, none⟩) ps.length cap] 28 b d (.slice al L.length cl) L) := ST.out.keep (belA _ _)
      have hs2 : wr.heap.size < w2.heap.size := by have := hw2.size; simp at this; omega
      have HX2 : Hid (w2.heap[wr.heap.size]? = some (.cells #[.int .i64 x0, .int .i64 x1, .int .i64 x2, .slice ab bs.length cb] 37 (0, 0))) := (hw2.block _ (by simp)).trans (heap_alloc_new _ _)
      have hg := os.lo
      simp only [World.size_alloc] at hg
      have HA : ∀ v : Value, Hid (Away wr.heap.size (wr.alloc (.cells #[.int .i64 x0, .int .i64 x1, .int .i64 x2, .slice ab bs.length cb] 37)) (w2.setCell ⟨wr.heap.size, 3, none⟩ v)) := fun v => ((Away.refl _ _).keep hw2).set 3 v
      have x3 : w2.cell? ⟨wr.heap.size, 3, none⟩ = some (.slice ab bs.length cb) := (cell_of_row w2 _ _ _ _ _ HX2.out).trans rfl
      have f3 : w2.frozen? ⟨wr.heap.size, 3, none⟩ = false := frozen_of_row w2 _ _ _ _ HX2.out
      have HOS : Hid (OwnS (wr.heap.size + 1) w2 g bs) := by unfold Hid; simpa using os
      clear CO hw2 os c0 c1 c2 c3 hrb
      have HX3 : Hid ((w2.setCell ⟨wr.heap.size, 3, none⟩ (.slice (some ⟨g, 0, none⟩) bs.length cp)).heap[wr.heap.size]? = some (.cells #[.int .i64 x0, .int .i64 x1, .int .i64 x2, .slice (some ⟨g, 0, none⟩) bs.length cp] 37 (0, 0))) := heap_setCell_same _ _ 3 _ _ _ HX2.out
      have HI : Hid (IdSt w (w2.setCell ⟨wr.heap.size, 3, none⟩ (.slice (some ⟨g, 0, none⟩) bs.length cp)) #[.int .i64 b, .int .i64 d, .slice (some ⟨bk, off, none⟩) ps.length cap] 28 b d (.slice al L.length cl) L) := HST.out.away (HA _).out hsw ⟨_, heap_alloc_new _ _⟩ (fun he => by have := (ST.out.l.own.lt _ he).2; omega)
      have HO3 : Hid (OwnS (wr.heap.size + 1) (w2.setCell ⟨wr.heap.size, 3, none⟩ (.slice (some ⟨g, 0, none⟩) bs.length cp)) g bs) := HOS.out.of_block (heap_setCell_other _ _ _ _ (by simp; omega))
      have hs3 : (w2.setCell ⟨wr.heap.size, 3, none⟩ (.slice (some ⟨g, 0, none⟩) bs.length cp)).heap.size = w2.heap.size := by simp [World.setCell]
      have HS3 : Hid ((w2.setCell ⟨wr.heap.size, 3, none⟩ (.slice (some ⟨g, 0, none⟩) bs.length cp)).heap.size = w2.heap.size) := hs3
      clear hs3
      have z0 : w2.cell? ⟨wr.heap.size, 0, none⟩ = some (.int .i64 x0) := (cell_of_row w2 _ _ _ _ _ HX2.out).trans rfl
      have z1 : w2.cell? ⟨wr.heap.size, 1, none⟩ = some (.int .i64 x1) := (cell_of_row w2 _ _ _ _ _ HX2.out).trans rfl
      have z2 : w2.cell? ⟨wr.heap.size, 2, none⟩ = some (.int .i64 x2) := (cell_of_row w2 _ _ _ _ _ HX2.out).trans rfl
      have p2 : (w2.setCell ⟨wr.heap.size, 3, none⟩ (.slice (some ⟨g, 0, none⟩) bs.length cp)).cell? ⟨w.heap.size + 1 + 1, 2, none⟩ = some (.slice al L.length cl) := (cell_of_row (w2.setCell ⟨wr.heap.size, 3, none⟩ (.slice (some ⟨g, 0, none⟩) bs.length cp)) _ _ _ _ _ HI.out.p).trans rfl
      have p2' : w2.cell? ⟨w.heap.size + 1 + 1, 2, none⟩ = some (.slice al L.length cl) := by
        have h0 : ¬ w.heap.size + 1 + 1 = wr.heap.size := by omega
        rw [cell_far h0] at p2
        exact p2
      clear p2
      have hLl : L.length ≤ 1048576 := by have := HLK.out; omega
      have HV : Hid (ValOk (wr.alloc (.cells #[.int .i64 x0, .int .i64 x1, .int .i64 x2, .slice ab bs.length cb] 37)).heap.size ((w2.setCell ⟨wr.heap.size, 3, none⟩ (.slice (some ⟨g, 0, none⟩) bs.length cp)).alloc (.cells #[.int .i64 x0, .int .i64 x1, .int .i64 x2, .slice (some ⟨g, 0, none⟩) bs.length cp] 37)).heap.size ((w2.setCell ⟨wr.heap.size, 3, none⟩ (.slice (some ⟨g, 0, none⟩) bs.length cp)).alloc (.cells #[.int .i64 x0, .int .i64 x1, .int .i64 x2, .slice (some ⟨g, 0, none⟩) bs.length cp] 37)) (⟨x0, x1, x2, bs⟩, .slice (some ⟨g, 0, none⟩) bs.length cp)) :=
        ⟨_, cp, rfl, ⟨hcp, fun h => by cases h⟩, hn, .inr ⟨g, rfl, by have := HO3.out.lt; simp only [World.size_alloc]; omega, by have := HO3.out.keep (belA _ (.cells #[.int .i64 x0, .int .i64 x1, .int .i64 x2, .slice (some ⟨g, 0, none⟩) bs.length cp] 37)); simpa only [World.size_alloc] using this⟩⟩
      have HOW : Hid (((w2.setCell ⟨wr.heap.size, 3, none⟩ (.slice (some ⟨g, 0, none⟩) bs.length cp)).alloc (.cells #[.int .i64 x0, .int .i64 x1, .int .i64 x2, .slice (some ⟨g, 0, none⟩) bs.length cp] 37)).ownsRow (w.heap.size + 3) 37 4 (.slice al L.length cl) L.length (flatP L)) := HI.out.l.own.alloc _
      have HPP : Hid ((w2.setCell ⟨wr.heap.size, 3, none⟩ (.slice (some ⟨g, 0, none⟩) bs.length cp)).heap[w.heap.size + 1 + 1]? = some (.cells #[.int .i64 b, .int .i64 d, .slice al L.length cl] 28 (0, 0))) := HI.out.p
      have HZ : Hid (w.heap.size + 3 ≤ (w2.setCell ⟨wr.heap.size, 3, none⟩ (.slice (some ⟨g, 0, none⟩) bs.length cp)).heap.size ∧ w.heap.size + 3 ≤ ((w2.setCell ⟨wr.heap.size, 3, none⟩ (.slice (some ⟨g, 0, none⟩) bs.length cp)).alloc (.cells #[.int .i64 x0, .int .i64 x1, .int .i64 x2, .slice (some ⟨g, 0, none⟩) bs.length cp] 37)).heap.size ∧ w.heap.size + 1 + 1 < ((w2.setCell ⟨wr.heap.size, 3, none⟩ (.slice (some ⟨g, 0, none⟩) bs.length cp)).alloc (.cells #[.int .i64 x0, .int .i64 x1, .int .i64 x2, .slice (some ⟨g, 0, none⟩) bs.length cp] 37)).heap.size) := by
        have := HS3.out
        refine ⟨by omega, ?_, ?_⟩ <;> (simp only [World.size_alloc]; omega)
      have HNW : Hid (∀ (j : Nat) (u : Value), [Value.int .i64 x0, .int .i64 x1, .int .i64 x2, .slice (some ⟨g, 0, none⟩) bs.length cp][j]? = some u → ((w2.setCell ⟨wr.heap.size, 3, none⟩ (.slice (some ⟨g, 0, none⟩) bs.length cp)).alloc (.cells #[.int .i64 x0, .int .i64 x1, .int .i64 x2, .slice (some ⟨g, 0, none⟩) bs.length cp] 37)).cell? ((⟨w2.heap.size, 0, none⟩ : Addr).add j) = some u) := by
        have := cell_four_new (w2.setCell ⟨wr.heap.size, 3, none⟩ (.slice (some ⟨g, 0, none⟩) bs.length cp)) (.int .i64 x0) (.int .i64 x1) (.int .i64 x2) (.slice (some ⟨g, 0, none⟩) bs.length cp) 37
        rw [HS3.out] at this
        exact this
      clear HA
      go_wp2_with (at_builtin; refine wpList_append_own _ rfl (.tmp 21) (.tmp 23) 26 rfl (w.heap.size + 3) 37 i1 _ 4 48 Try.underlying26 hi1 hy0 hy1 hy2 rfl (by decide) _ _ _ rfl HOW.out ⟨w2.heap.size, 0, none⟩ 1 1 [.int .i64 x0, .int .i64 x1, .int .i64 x2, .slice (some ⟨g, 0, none⟩) bs.length cp] rfl rfl HNW.out (by simp [Value.oneCell']) (by unfold maxLen; omega) (by omega) HZ.out.2.1 ?_; intro v6 w6 hown6 hgrow6 _; obtain ⟨g6, cp6, rfl⟩ := Joins.ownsRow_form hown6 (by omega); have ST6 : Hid (IdSt w (w6.setCell ⟨w.heap.size + 1 + 1, 2, none⟩ (.slice (some ⟨g6, 0, none⟩) (L.length + 1) cp6)) #[.int .i64 b, .int .i64 d, .slice (some ⟨bk, off, none⟩) ps.length cap] 28 b d (.slice (some ⟨g6, 0, none⟩) (L.length + 1) cp6) (L ++ [(⟨x0, x1, x2, bs⟩, .slice (some ⟨g, 0, none⟩) bs.length cp)])) := IdSt.grow2 (e := (⟨x0, x1, x2, bs⟩, .slice (some ⟨g, 0, none⟩) bs.length cp)) HST.out (HI.out.keep (belA _ _)) hgrow6 hown6 HV.out; have HP6 : Hid (w6.heap[w.heap.size + 1 + 1]? = some (.cells #[.int .i64 b, .int .i64 d, .slice al L.length cl] 28 (0, 0))) := (hgrow6.block _ HZ.out.2.2 (fun he => by have := (HOW.out.lt _ he.symm).1; omega)).trans ((heap_alloc_old _ _ (by have := HZ.out.1; omega)).trans HPP.out); have p26 : w6.cell? ⟨w.heap.size + 1 + 1, 2, none⟩ = some (.slice al L.length cl) := (cell_of_row w6 _ _ _ _ _ HP6.out).trans rfl; have f26 : w6.frozen? ⟨w.heap.size + 1 + 1, 2, none⟩ = false := frozen_of_row w6 _ _ _ _ HP6.out; clear hown6 hgrow6)
      go_roundw
      case rel => exact ⟨k + 1, _, _, by omega, by go_num, ST6, by unfold Hid; rw [List.map_append, HL.out, HT.out]; rfl⟩
      case measure => simp [intOf]; omega
    · have p0 : wr.cell? ⟨w.heap.size + 1 + 1, 0, none⟩ = some (.int .i64 b) := (cell_of_row wr _ _ _ _ _ ST.out.p).trans rfl
      have p1 : wr.cell? ⟨w.heap.size + 1 + 1, 1, none⟩ = some (.int .i64 d) := (cell_of_row wr _ _ _ _ _ ST.out.p).trans rfl
      have p2 : wr.cell? ⟨w.heap.size + 1 + 1, 2, none⟩ = some (.slice al L.length cl) := (cell_of_row wr _ _ _ _ _ ST.out.p).trans rfl
      have r0 : wr.cell? ⟨w.heap.size + 1, 0, none⟩ = some (.int .i64 0) := (cell_of_row wr _ _ _ _ _ ST.out.r).trans rfl
      have r1 : wr.cell? ⟨w.heap.size + 1, 1, none⟩ = some (.int .i64 0) := (cell_of_row wr _ _ _ _ _ ST.out.r).trans rfl
      have r2 : wr.cell? ⟨w.heap.size + 1, 2, none⟩ = some (.slice none 0 0) := (cell_of_row wr _ _ _ _ _ ST.out.r).trans rfl
      have q0 : wr.frozen? ⟨w.heap.size + 1, 0, none⟩ = false := frozen_of_row wr _ _ _ _ ST.out.r
      have q1 : wr.frozen? ⟨w.heap.size + 1, 1, none⟩ = false := frozen_of_row wr _ _ _ _ ST.out.r
      have q2 : wr.frozen? ⟨w.heap.size + 1, 2, none⟩ = false := frozen_of_row wr _ _ _ _ ST.out.r
      go_wp2
      have HE : ∀ v : Value, Hid ((((wr.setCell ⟨w.heap.size + 1, 0, none⟩ (.int .i64 b)).setCell ⟨w.heap.size + 1, 1, none⟩ (.int .i64 d)).setCell ⟨w.heap.size + 1, 2, none⟩ v).heap[w.heap.size + 1]? = some (.cells #[.int .i64 b, .int .i64 d, v] 28 (0, 0))) := fun v =>
        heap_setCell_same _ _ 2 _ _ _ (heap_setCell_same _ _ 1 _ _ _ (heap_setCell_same _ _ 0 _ _ _ ST.out.r))
      refine bodyPost_ret (results_cell_row Try.results51 _ _ (w.heap.size + 1) _ _ _ _ rfl (HE _).out Try.underlying28 rfl (by kernel_rfl)) rfl ⟨_, L, rfl, ?_, ?_, ?_⟩
      · have := HL.out
        rwa [List.take_of_length_le (by omega)] at this
      · refine (ListP.lower (B' := w.heap.size) (ST.out.l.blocks (w1 := (((wr.setCell ⟨w.heap.size + 1, 0, none⟩ (.int .i64 b)).setCell ⟨w.heap.size + 1, 1, none⟩ (.int .i64 d)).setCell ⟨w.heap.size + 1, 2, none⟩ (.slice al L.length cl))) (by simp [World.setCell]) (fun k hk _ => ?_)) (by omega))
        rw [heap_setCell_other _ _ _ _ (by simp; omega), heap_setCell_other _ _ _ _ (by simp; omega), heap_setCell_other _ _ _ _ (by simp; omega)]
      · exact ((ST.out.bel.setCell (p := ⟨w.heap.size + 1, 0, none⟩) (by simp) _).setCell (p := ⟨w.heap.size + 1, 1, none⟩) (by simp) _).setCell (p := ⟨w.heap.size + 1, 2, none⟩) (by simp) _
end Go.Proofs.Ytgmdbihdnacpjaa
namespace Go.Proofs.Ytgmdbihdnacpjaa
open Go.RowKit
set_option linter.unusedVariables false
set_option maxHeartbeats 800000 in
theorem lGoodPeers_any (b d : Int) (a : Option Addr) (cap : Nat) (ps : List Pr) (w : World) (hm : ps.length ≤ 1048576) (hr : PeersAt w a ps) :
    Calls Try.prog 22 #[.agg #[.int .i64 b, .int .i64 d, .slice a ps.length cap]] w fun e w' => e = .returned (.bool (goodP b d ps)) ∧ Below w.heap.size w w' := by
  have hr1 := hr.alloc (.cells #[.int .i64 b, .int .i64 d, .slice a ps.length cap] 28)
  go_enter Try.func22, Try.ntmps22
  go_wp2_with fail
  refine (lgood_any b d a cap ps _ hm hr1).mono ?_
  rintro e w1 ⟨rfl, hw1⟩
  go_wp2
  go_ret
  exact ⟨rfl, bel1 hw1 (by simp)⟩
theorem qq6 {w w4 wr : World} {b d b' d' : Int} {v v' : Value} (h : BxP w wr b d v) (x : BxP w4 wr b' d' v') : wr.cell? ⟨w.heap.size, 0, none⟩ = some (.int .i64 b) ∧ wr.cell? ⟨w.heap.size, 1, none⟩ = some (.int .i64 d) ∧ wr.cell? ⟨w.heap.size, 2, none⟩ = some v ∧ wr.cell? ⟨w4.heap.size, 0, none⟩ = some (.int .i64 b') ∧ wr.cell? ⟨w4.heap.size, 1, none⟩ = some (.int .i64 d') ∧ wr.cell? ⟨w4.heap.size, 2, none⟩ = some v' := ⟨h.c0, h.c1, h.c2, x.c0, x.c1, x.c2⟩
end Go.Proofs.Ytgmdbihdnacpjaa
namespace Go.Proofs.Ytgmdbihdnacpjaa
open Go.RowKit
set_option linter.unusedVariables false
theorem OwnP.point {B T : Nat} {w : World} {g : Nat} {L : List (Pr × Value)} (h : OwnP B T w g L) {i : Nat} (hi : i < L.length) (z : Int) :
    OwnP B T (w.setCell ⟨g, i * 4 + 2, none⟩ (.int .i64 z)) g (L.set i (⟨(L.getD i d0).1.id, (L.getD i d0).1.succ, z, (L.getD i d0).1.backs⟩, (L.getD i d0).2)) := by
  obtain ⟨cur, hc⟩ := h.blk
  have hb4 : ∀ k, ¬ k = g → (w.setCell ⟨g, i * 4 + 2, none⟩ (.int .i64 z)).heap[k]? = w.heap[k]? := fun k hk => heap_setCell_other _ _ _ _ (by simpa using hk)
  have hcell : ∀ j u, w.cell? ⟨g, j, none⟩ = some u → (w.setCell ⟨g, i * 4 + 2, none⟩ (.int .i64 z)).cell? ⟨g, j, none⟩ = some (if j = i * 4 + 2 then .int .i64 z else u) := fun j u hu => cell_set hu
  refine ⟨h.lo, h.hi, ⟨_, heap_setCell_same _ _ _ _ _ _ hc⟩, fun j hj => ?_, fun j hj => ?_, fun j k hjk hk => ?_⟩
  · rw [List.length_set] at hj
    rw [getD_set hj]
    have hcj := h.cel j hj
    have k0 := hcell _ _ hcj.c0
    have k1 := hcell _ _ hcj.c1
    have k2 := hcell _ _ hcj.c2
    have k3 := hcell _ _ hcj.c3
    rw [if_neg (by omega)] at k0 k1 k3
    by_cases hij : i = j
    · subst hij
      rw [if_pos rfl] at k2 ⊢
      exact ⟨k0, k1, k2, k3⟩
    · rw [if_neg (by omega)] at k2
      rw [if_neg hij]
      exact ⟨k0, k1, k2, k3⟩
  · rw [List.length_set] at hj
    rw [getD_set hj]
    have old : ∀ q, q < L.length → ValOk B T (w.setCell ⟨g, i * 4 + 2, none⟩ (.int .i64 z)) (L.getD q d0) := fun q hq => by
      obtain ⟨ab, cb, hv, hcb, hm, ho⟩ := h.val q hq
      refine ⟨ab, cb, hv, hcb, hm, ?_⟩
      rcases ho with ho | ⟨gb, ha, ht, os⟩
      · exact .inl ho
      · exact .inr ⟨gb, ha, ht, os.of_block (hb4 gb (os.ne_peer hc))⟩
    by_cases hij : i = j
    · rw [if_pos hij]; exact old i hi
    · rw [if_neg hij]; exact old j hj
  · rw [List.length_set] at hk
    rw [getD_set (by omega), getD_set hk]
    by_cases hij : i = j
    · rw [if_pos hij, if_neg (by omega)]
      subst hij
      exact h.sep i k hjk hk
    · rw [if_neg hij]
      by_cases hik : i = k
      · rw [if_pos hik]
        subst hik
        exact h.sep j i hjk hk
      · rw [if_neg hik]
        exact h.sep j k hjk hk
theorem OwnP.backs {B T : Nat} {w w1 : World} {g : Nat} {L : List (Pr × Value)} (h : OwnP B T w g L) (hT : T = w.heap.size) (hb : Below w.heap.size w w1) {i : Nat} (hi : i < L.length) {bs : List Int} {gb cb : Nat} (hm : bs.length ≤ 1048576) (hcb : bs.length ≤ cb) (os : OwnS w.heap.size w1 gb bs) :
    OwnP B w1.heap.size (w1.setCell ⟨g, i * 4 + 3, none⟩ (.slice (some ⟨gb, 0, none⟩) bs.length cb)) g (L.set i (⟨(L.getD i d0).1.id, (L.getD i d0).1.succ, (L.getD i d0).1.point, bs⟩, .slice (some ⟨gb, 0, none⟩) bs.length cb)) := by
  have hlt := h.lt
  have hslo := os.lo
  have h1 := (h.keep hb).wide (T' := w1.heap.size) (by have := hb.size; omega)
  obtain ⟨cur, hc⟩ := h1.blk
  have hBw : B ≤ w.heap.size := by have := h.lo; omega
  have hb4 : ∀ k, ¬ k = g → (w1.setCell ⟨g, i * 4 + 3, none⟩ (.slice (some ⟨gb, 0, none⟩) bs.length cb)).heap[k]? = w1.heap[k]? := fun k hk => heap_setCell_other _ _ _ _ (by simpa using hk)
  have hcell : ∀ j u, w1.cell? ⟨g, j, none⟩ = some u → (w1.setCell ⟨g, i * 4 + 3, none⟩ (.slice (some ⟨gb, 0, none⟩) bs.length cb)).cell? ⟨g, j, none⟩ = some (if j = i * 4 + 3 then .slice (some ⟨gb, 0, none⟩) bs.length cb else u) := fun j u hu => cell_set hu
  refine ⟨h.lo, h1.hi, ⟨_, heap_setCell_same _ _ _ _ _ _ hc⟩, fun j hj => ?_, fun j hj => ?_, fun j k hjk hk => ?_⟩
  · rw [List.length_set] at hj
    rw [getD_set hj]
    have hcj := h1.cel j hj
    have k0 := hcell _ _ hcj.c0
    have k1 := hcell _ _ hcj.c1
    have k2 := hcell _ _ hcj.c2
    have k3 := hcell _ _ hcj.c3
    rw [if_neg (by omega)] at k0 k1 k2
    by_cases hij : i = j
    · subst hij
      rw [if_pos rfl] at k3 ⊢
      exact ⟨k0, k1, k2, k3⟩
    · rw [if_neg (by omega)] at k3
      rw [if_neg hij]
      exact ⟨k0, k1, k2, k3⟩
  · rw [List.length_set] at hj
    rw [getD_set hj]
    by_cases hij : i = j
    · rw [if_pos hij]
      exact ⟨_, cb, rfl, ⟨hcb, fun h => by cases h⟩, hm, .inr ⟨gb, rfl, os.lt, (os.mono hBw).of_block (hb4 gb (by omega))⟩⟩
    · rw [if_neg hij]
      obtain ⟨ab, cb', hv, hc', hm', ho⟩ := h1.val j hj
      refine ⟨ab, cb', hv, hc', hm', ?_⟩
      rcases ho with ho | ⟨gj, ha, ht, osj⟩
      · exact .inl ho
      · exact .inr ⟨gj, ha, ht, osj.of_block (hb4 gj (osj.ne_peer hc))⟩
  · rw [List.length_set] at hk
    rw [getD_set (by omega), getD_set hk]
    have old : ∀ q, q < L.length → ¬ (L.getD q d0).1.backs = [] → ¬ (L.getD q d0).2.ownBlock = some gb := fun q hq hn he => by
      obtain ⟨ab, cb', hv, _, _, ho⟩ := h.val q hq
      rcases ho with ho | ⟨gq, ha, ht, _⟩
      · exact hn ho
      · rw [hv, ha] at he
        simp [Value.ownBlock] at he
        omega
    by_cases hij : i = j
    · rw [if_pos hij, if_neg (by omega)]
      intro _ hn he
      exact old k hk hn (by rw [← he]; rfl)
    · rw [if_neg hij]
      by_cases hik : i = k
      · rw [if_pos hik]
        intro hn _ he
        exact old j (by omega) hn (by rw [he]; rfl)
      · rw [if_neg hik]
        exact h.sep j k hjk hk
end Go.Proofs.Ytgmdbihdnacpjaa
namespace Go.Proofs.Ytgmdbihdnacpjaa
open Go.RowKit
set_option linter.unusedVariables false
def isRowD (d : TypeDesc) : Bool := match d with | .struct _ | .array _ _ => true | _ => false
theorem results_cell_tmp {fn : Func} {p q : Tmp} {ty : TypeId} (h : fn.results = #[.cell p ty, .tmp q]) (tmps : Array Value) (w : World) (g : Nat) (t : TypeId) (cs : Array Value) (fr : Nat × Nat) (d : TypeDesc) (u : Value)
    (hp : tmps.getD p undef = .pointer (some ⟨g, 0, none⟩)) (hq : tmps.getD q undef = u) (hg : w.heap[g]? = some (.cells cs t fr))
    (hu : Try.prog.underlying ty = some d) (hd : isRowD d = true) (hi : (Try.prog.info? ty).map (·.size) = some cs.size) :
    (results fn tmps).run Try.prog w = .ok (.tuple #[.agg cs, u]) w := by
  have hp' : tmps[p]?.getD undef = .pointer (some ⟨g, 0, none⟩) := by simpa using hp
  have hq' : tmps[q]?.getD undef = u := by simpa using hq
  have hl := run_loadVar_row w g t ty cs fr d hg hu (by cases d <;> first | rfl | (simp [isRowD] at hd)) hi
  simp [results, h, hp', hq', asAddr, hl]
def setF (f : Nat) (p : Pr) (z : Int) : Pr := if f = 0 then ⟨z, p.succ, p.point, p.backs⟩ else if f = 1 then ⟨p.id, z, p.point, p.backs⟩ else ⟨p.id, p.succ, z, p.backs⟩
theorem setF_backs (f : Nat) (p : Pr) (z : Int) : (setF f p z).backs = p.backs := by unfold setF; split <;> (try split) <;> rfl
/-- one number of a peer of one's own is written -/
theorem OwnP.num {B T : Nat} {w : World} {g : Nat} {L : List (Pr × Value)} (h : OwnP B T w g L) {i : Nat} (hi : i < L.length) (f : Nat) (hf : f < 3) (z : Int) :
    OwnP B T (w.setCell ⟨g, i * 4 + f, none⟩ (.int .i64 z)) g (L.set i (setF f (L.getD i d0).1 z, (L.getD i d0).2)) := by
  obtain ⟨cur, hc⟩ := h.blk
  have hb4 : ∀ k, ¬ k = g → (w.setCell ⟨g, i * 4 + f, none⟩ (.int .i64 z)).heap[k]? = w.heap[k]? := fun k hk => heap_setCell_other _ _ _ _ (by simpa using hk)
  have hcell : ∀ j u, w.cell? ⟨g, j, none⟩ = some u → (w.setCell ⟨g, i * 4 + f, none⟩ (.int .i64 z)).cell? ⟨g, j, none⟩ = some (if j = i * 4 + f then .int .i64 z else u) := fun j u hu => cell_set hu
  refine ⟨h.lo, h.hi, ⟨_, heap_setCell_same _ _ _ _ _ _ hc⟩, fun j hj => ?_, fun j hj => ?_, fun j k hjk hk => ?_⟩
  · rw [List.length_set] at hj
    rw [getD_set hj]
    have hcj := h.cel j hj
    have k0 := hcell _ _ hcj.c0
    have k1 := hcell _ _ hcj.c1
    have k2 := hcell _ _ hcj.c2
    have k3 := hcell _ _ hcj.c3
    rw [if_neg (by omega)] at k3
    by_cases hij : i = j
    · subst hij
      rw [if_pos rfl]
      unfold setF
      by_cases f0 : f = 0
      · subst f0
        rw [if_pos (by omega)] at k0
        rw [if_neg (by omega)] at k1 k2
        exact ⟨k0, k1, k2, k3⟩
      · by_cases f1 : f = 1
        · subst f1
          rw [if_pos (by omega)] at k1
          rw [if_neg (by omega)] at k0 k2
          exact ⟨k0, k1, k2, k3⟩
        · have f2 : f = 2 := by omega
          subst f2
          rw [if_pos (by omega)] at k2
          rw [if_neg (by omega)] at k0 k1
          exact ⟨k0, k1, k2, k3⟩
    · rw [if_neg hij]
      rw [if_neg (by omega)] at k0 k1 k2
      exact ⟨k0, k1, k2, k3⟩
  · rw [List.length_set] at hj
    rw [getD_set hj]
    have old : ∀ q, q < L.length → ValOk B T (w.setCell ⟨g, i * 4 + f, none⟩ (.int .i64 z)) (L.getD q d0) := fun q hq => by
      obtain ⟨ab, cb, hv, hcb, hm, ho⟩ := h.val q hq
      refine ⟨ab, cb, hv, hcb, hm, ?_⟩
      rcases ho with ho | ⟨gb, ha, ht, os⟩
      · exact .inl ho
      · exact .inr ⟨gb, ha, ht, os.of_block (hb4 gb (os.ne_peer hc))⟩
    by_cases hij : i = j
    · rw [if_pos hij]
      have := old i hi
      unfold ValOk at this ⊢
      simp only [setF_backs]
      exact this
    · rw [if_neg hij]; exact old j hj
  · rw [List.length_set] at hk
    rw [getD_set (by omega), getD_set hk]
    by_cases hij : i = j
    · rw [if_pos hij, if_neg (by omega)]
      subst hij
      simp only [setF_backs]
      exact h.sep i k hjk hk
    · rw [if_neg hij]
      by_cases hik : i = k
      · rw [if_pos hik]
        subst hik
        simp only [setF_backs]
        exact h.sep j i hjk hk
      · rw [if_neg hik]
        exact h.sep j k hjk hk
theorem getD_same {L : List (Pr × Value)} {k : Nat} {e : Pr × Value} (hk : k < L.length) : (L.set k e).getD k d0 = e := by rw [getD_set hk, if_pos rfl]
/-- three cells of a struct are written -/
def set3 (w : World) (g : Nat) (x y v : Value) : World := ((w.setCell ⟨g, 0, none⟩ x).setCell ⟨g, 1, none⟩ y).setCell ⟨g, 2, none⟩ v
theorem set3_row {w : World} {g : Nat} {a b c x y v : Value} {t : TypeId} (h : w.heap[g]? = some (.cells #[a, b, c] t (0, 0))) : (set3 w g x y v).heap[g]? = some (.cells #[x, y, v] t (0, 0)) :=
  heap_setCell_same _ _ 2 _ _ _ (heap_setCell_same _ _ 1 _ _ _ (heap_setCell_same _ _ 0 _ _ _ h))
theorem set3_block {w : World} {g k : Nat} {x y v : Value} (h : ¬ k = g) : (set3 w g x y v).heap[k]? = w.heap[k]? := by
  unfold set3
  rw [heap_setCell_other _ _ _ _ (by simpa using h), heap_setCell_other _ _ _ _ (by simpa using h), heap_setCell_other _ _ _ _ (by simpa using h)]
theorem set3_size {w : World} {g : Nat} {x y v : Value} : (set3 w g x y v).heap.size = w.heap.size := by simp [set3, World.setCell]
theorem set3_below {n : Nat} {w0 w : World} {g : Nat} {x y v : Value} (h : Below n w0 w) (hg : n ≤ g) : Below n w0 (set3 w g x y v) :=
  ((h.setCell (p := ⟨g, 0, none⟩) hg _).setCell (p := ⟨g, 1, none⟩) hg _).setCell (p := ⟨g, 2, none⟩) hg _
/-- the argument's box and the answer's box, of peers -/
structure RB (w wr : World) (S0 : Array Value) (T0 : TypeId) : Prop where
  bel : Below w.heap.size w wr
  lt : w.heap.size + 1 < wr.heap.size
  s : wr.heap[w.heap.size]? = some (.cells S0 T0 (0, 0))
  r : wr.heap[w.heap.size + 1]? = some (.cells #[.int .i64 0, .int .i64 0, .slice none 0 0] 28 (0, 0))
theorem RB.blocks {w wr w1 : World} {S0 : Array Value} {T0 : TypeId} (h : RB w wr S0 T0) (hb : Below w.heap.size w w1) (hs : wr.heap.size ≤ w1.heap.size) (hk : ∀ k, k ≤ w.heap.size + 1 → w1.heap[k]? = wr.heap[k]?) : RB w w1 S0 T0 :=
  ⟨hb, Nat.lt_of_lt_of_le h.lt hs, (hk _ (by omega)).trans h.s, (hk _ (by omega)).trans h.r⟩
theorem RB.keep {w wr w1 : World} {S0 : Array Value} {T0 : TypeId} (h : RB w wr S0 T0) (hb : Below wr.heap.size wr w1) : RB w w1 S0 T0 :=
  h.blocks (belt h.bel hb) hb.size (fun k hk => hb.block k (by have := h.lt; omega))
theorem rb0 (w : World) (S0 : Array Value) (T0 : TypeId) : RB w ((w.alloc (.cells S0 T0)).alloc (.cells #[.int .i64 0, .int .i64 0, .slice none 0 0] 28)) S0 T0 := by
  refine ⟨((Below.refl _ _).alloc (Nat.le_refl _) _).alloc (by simp) _, by simp, ?_, ?_⟩
  · rw [heap_alloc_old _ _ (by simp)]
    exact heap_alloc_new _ _
  · have := heap_alloc_new (w.alloc (.cells S0 T0)) (.cells #[.int .i64 0, .int .i64 0, .slice none 0 0] 28)
    simpa using this
theorem RB.cells {w wr : World} {S0 : Array Value} {T0 : TypeId} (h : RB w wr S0 T0) : wr.cell? ⟨w.heap.size + 1, 0, none⟩ = some (.int .i64 0) ∧ wr.cell? ⟨w.heap.size + 1, 1, none⟩ = some (.int .i64 0) ∧ wr.cell? ⟨w.heap.size + 1, 2, none⟩ = some (.slice none 0 0) ∧
    wr.frozen? ⟨w.heap.size + 1, 0, none⟩ = false ∧ wr.frozen? ⟨w.heap.size + 1, 1, none⟩ = false ∧ wr.frozen? ⟨w.heap.size + 1, 2, none⟩ = false :=
  ⟨(cell_of_row wr _ _ _ _ _ h.r).trans rfl, (cell_of_row wr _ _ _ _ _ h.r).trans rfl, (cell_of_row wr _ _ _ _ _ h.r).trans rfl, frozen_of_row wr _ _ _ _ h.r, frozen_of_row wr _ _ _ _ h.r, frozen_of_row wr _ _ _ _ h.r⟩
theorem RB.arg2 {w wr : World} {x y : Value} {T0 : TypeId} (h : RB w wr #[x, y] T0) : wr.cell? ⟨w.heap.size, 0, none⟩ = some x ∧ wr.cell? ⟨w.heap.size, 1, none⟩ = some y :=
  ⟨(cell_of_row wr _ _ _ _ _ h.s).trans rfl, (cell_of_row wr _ _ _ _ _ h.s).trans rfl⟩
theorem RB.arg3 {w wr : World} {x y z : Value} {T0 : TypeId} (h : RB w wr #[x, y, z] T0) : wr.cell? ⟨w.heap.size, 0, none⟩ = some x ∧ wr.cell? ⟨w.heap.size, 1, none⟩ = some y ∧ wr.cell? ⟨w.heap.size, 2, none⟩ = some z :=
  ⟨(cell_of_row wr _ _ _ _ _ h.s).trans rfl, (cell_of_row wr _ _ _ _ _ h.s).trans rfl, (cell_of_row wr _ _ _ _ _ h.s).trans rfl⟩

def idlOk (b d : Int) (zs : List Int) (n : Int) : Bool := ringB b d zs && inB n 0 3
theorem idealL_len (b d : Int) (zs : List Int) (n : Nat) : (idealL b d zs n).length = zs.length := by simp [idealL]
set_option maxHeartbeats 1600000 in
theorem lIdealPeers_any (b d n : Int) (a : Option Addr) (cap : Nat) (zs : List Int) (w : World) (hm : zs.length ≤ maxLen) (hr : RowAt w a zs) :
    Calls Try.prog 25 #[.agg #[.int .i64 b, .int .i64 d], .slice a zs.length cap, .int .i64 n] w fun e w' => ∃ v, e = .returned v ∧ Below w.heap.size w w' ∧
      ((idlOk b d zs n = false ∧ v = .tuple #[.agg #[.int .i64 0, .int .i64 0, .slice none 0 0], .bool false]) ∨ (idlOk b d zs n = true ∧ ∃ a0 cp, v = .tuple #[.agg #[.int .i64 b, .int .i64 d, .slice a0 zs.length cp], .bool true] ∧ PeersAt w' a0 (idealL b d zs n.toNat))) := by
  have rb := rb0 w #[.int .i64 b, .int .i64 d] 25
  have CR := lring_any b d a cap zs _ hm (hr.keep rb.bel)
  have HR : Hid (RowAt w a zs) := hr
  have RB0 : Hid _ := rb
  clear hr rb
  cases hg : ringB b d zs
  · have hv : Hid (idlOk b d zs n = false) := by unfold Hid idlOk; rw [hg]; rfl
    rw [hg] at CR
    go_enter Try.func25, Try.ntmps25
    go_wp2_with fail
    refine CR.mono ?_
    rintro e w1 ⟨rfl, hw1⟩
    have RB1 : Hid (RB w w1 #[.int .i64 b, .int .i64 d] 25) := RB0.out.keep hw1
    obtain ⟨r0, r1, r2, q0, q1, q2⟩ := RB1.out.cells
    clear CR hw1
    go_wp2
    refine bodyPost_ret (results_cell_tmp Try.results25 _ _ (w.heap.size + 1) _ _ _ _ _ rfl rfl (set3_row RB1.out.r) Try.underlying28 rfl (by kernel_rfl)) rfl ⟨_, rfl, set3_below RB1.out.bel (by omega), .inl ⟨hv.out, rfl⟩⟩
  · rw [hg] at CR
    cases hn : inB n 0 3
    · have hv : Hid (idlOk b d zs n = false) := by unfold Hid idlOk; rw [hg, hn]; rfl
      have CN : ∀ w1, Calls Try.prog 78 #[.int .i64 n, .int .i64 0, .int .i64 3] w1 fun e w' => e = .returned (.bool false) ∧ w' = w1 := fun w1 => by have := lin_any n 0 3 w1; rwa [hn] at this
      clear hg hn
      go_enter Try.func25, Try.ntmps25
      go_wp2_with fail
      refine CR.mono ?_
      rintro e w1 ⟨rfl, hw1⟩
      have RB1 : Hid (RB w w1 #[.int .i64 b, .int .i64 d] 25) := RB0.out.keep hw1
      obtain ⟨r0, r1, r2, q0, q1, q2⟩ := RB1.out.cells
      clear CR hw1
      go_wp2_with fail
      refine (CN _).mono ?_
      rintro e w2 ⟨rfl, he2⟩
      subst he2
      go_wp2
      refine bodyPost_ret (results_cell_tmp Try.results25 _ _ (w.heap.size + 1) _ _ _ _ _ rfl rfl (set3_row RB1.out.r) Try.underlying28 rfl (by kernel_rfl)) rfl ⟨_, rfl, set3_below RB1.out.bel (by omega), .inl ⟨hv.out, rfl⟩⟩
    · have hv : Hid (idlOk b d zs n = true) := by unfold Hid idlOk; rw [hg, hn]; rfl
      have CN : ∀ w1, Calls Try.prog 78 #[.int .i64 n, .int .i64 0, .int .i64 3] w1 fun e w' => e = .returned (.bool true) ∧ w' = w1 := fun w1 => by have := lin_any n 0 3 w1; rwa [hn] at this
      obtain ⟨n1, n2⟩ := inB_true hn
      obtain ⟨m, rfl⟩ : ∃ m : Nat, n = (m : Int) := ⟨n.toNat, by omega⟩
      have R := ringB_true hg
      have RR : Hid (Ring b d zs) := R
      clear hg hn n1 R
      go_enter Try.func25, Try.ntmps25
      go_wp2_with fail
      refine CR.mono ?_
      rintro e w1 ⟨rfl, hw1⟩
      have RB1 : Hid (RB w w1 #[.int .i64 b, .int .i64 d] 25) := RB0.out.keep hw1
      obtain ⟨s0, s1⟩ := RB1.out.arg2
      clear CR hw1
      go_wp2_with fail
      refine (CN _).mono ?_
      rintro e w2 ⟨rfl, he2⟩
      subst he2
      go_wp2_with fail
      refine (lideal_any b d m a cap zs _ RR.out (HR.out.keep RB1.out.bel) (by omega)).mono ?_
      rintro e w3 ⟨vl, L, rfl, hL, lp, hw3⟩
      have RB3 : Hid (RB w w3 #[.int .i64 b, .int .i64 d] 25) := RB1.out.keep hw3
      obtain ⟨r0, r1, r2, q0, q1, q2⟩ := RB3.out.cells
      obtain ⟨al, cl, rfl, hcl⟩ := lp.form
      have hLl : L.length = zs.length := by rw [← List.length_map (f := (·.1)), hL, idealL_len]
      rw [hLl] at lp ⊢
      have lp2 := lp.blocks (w1 := set3 w3 (w.heap.size + 1) (.int .i64 b) (.int .i64 d) (.slice al zs.length cl)) (by rw [set3_size]; exact Nat.le_refl _) (fun k hk _ => set3_block (by have := RB1.out.lt; omega))
      have hp := lp2.peersAt
      rw [hL] at hp
      have HP : Hid _ := hp
      clear hp lp2 lp hw3 hcl
      go_wp2
      refine bodyPost_ret (results_cell_tmp Try.results25 _ _ (w.heap.size + 1) _ _ _ _ _ rfl rfl (set3_row RB3.out.r) Try.underlying28 rfl (by kernel_rfl)) rfl ⟨_, rfl, set3_below RB3.out.bel (by omega), .inr ⟨hv.out, _, _, rfl, HP.out⟩⟩
end Go.Proofs.Ytgmdbihdnacpjaa
namespace Go.Proofs.Ytgmdbihdnacpjaa
open Go.RowKit
set_option linter.unusedVariables false

set_option maxHeartbeats 1600000 in
theorem idsOf_any (q : Nat) (a : Option Addr) (cap : Nat) (ps : List Pr) (w : World) (hm : ps.length ≤ 1048576) (hq : q < w.heap.size) (c2 : w.cell? ⟨q, 2, none⟩ = some (.slice a ps.length cap)) (hr : PeersAt w a ps) :
    Calls Try.prog 44 #[.pointer (some ⟨q, 0, none⟩)] w fun e w' => e = .returned (.slice (some ⟨w.heap.size, 0, none⟩) ps.length ps.length) ∧ OwnZ w w' w.heap.size (idsP ps) := by
  have hmk := make_ints ps.length hm
  have hil := idsP_len ps
  have HR : Hid (PeersAt w a ps) := hr
  clear hr
  have hc20 : (w.alloc (.cells (zv (List.replicate ps.length 0)) 3)).cell? ⟨q, 2, none⟩ = some (.slice a ps.length cap) := (cell_alloc_old' _ hq trivial).trans c2
  go_enter Try.func44, Try.ntmps44
  go_wp2_with fail
  clear hmk
  have st0 : OwnZ w (w.alloc (.cells (zv (List.replicate ps.length 0)) 3)) w.heap.size (cop (idsP ps) 0) :=
    ⟨(Below.refl _ _).alloc (Nat.le_refl _) _, Nat.le_refl _, by rw [cop_none, hil]; exact heap_alloc_new _ _⟩
  go_loopw [16] (fun vi wr => ∃ k : Nat, k ≤ ps.length ∧ vi = .int .i64 k ∧ OwnZ w wr w.heap.size (cop (idsP ps) k)) (fun vi _ => ps.length - (intOf vi).toNat)
  case atStart => exact ⟨0, Nat.zero_le _, rfl, st0⟩
  case round =>
    obtain ⟨k, hk, rfl, st⟩ := hrel
    clear st0 hc20
    have hc2 : wr.cell? ⟨q, 2, none⟩ = some (.slice a ps.length cap) := (st.bel.cell (p := ⟨q, 2, none⟩) hq).trans c2
    by_cases hlt : k < ps.length
    · obtain ⟨bk, off, rfl⟩ := peersAt_form HR.out (by omega)
      obtain ⟨c0, _, _, _⟩ := (peersAt_cell (HR.out.keep st.bel) (by omega)).2 k hlt
      obtain ⟨r0, r1⟩ := st.at k (by rw [cop_len (by omega)]; omega)
      have st2 := st.put k ((idsP ps).getD k 0)
      rw [cop_set (by omega)] at st2
      rw [← idsP_get] at c0
      clear st
      generalize (idsP ps).getD k 0 = x0 at c0 st2
      generalize (cop (idsP ps) k).getD k 0 = y at r0
      go_wp2
      go_roundw
      case rel => exact ⟨k + 1, by omega, by go_num, st2⟩
      case measure => simp [intOf]; omega
    · have hkl : k = (idsP ps).length := by omega
      rw [hkl, cop_all] at st
      go_wp2
      go_ret
      exact ⟨rfl, st⟩

def bokB (zs bs : List Int) : Bool := decide (bs.length ≤ 3) && decide (∀ i, i < bs.length → memI zs (bs.getD i 0) = true)
theorem bokB_yes {zs bs : List Int} (h3 : bs.length ≤ 3) (h : ∀ i, i < bs.length → memI zs (bs.getD i 0) = true) : bokB zs bs = true := by
  unfold bokB; rw [decide_eq_true h3, decide_eq_true h]; rfl
theorem bokB_no {zs bs : List Int} {k : Nat} (hk : k < bs.length) (h : memI zs (bs.getD k 0) = false) : bokB zs bs = false := by
  unfold bokB
  rw [decide_eq_false (p := ∀ i, i < bs.length → memI zs (bs.getD i 0) = true) (fun g => by rw [g k hk] at h; cases h), Bool.and_false]
set_option maxHeartbeats 1600000 in
theorem areBacks_any (a ab : Option Addr) (cap cb : Nat) (zs bs : List Int) (w : World) (hm : zs.length ≤ maxLen) (hmb : bs.length ≤ maxLen) (hr : RowAt w a zs) (hrb : RowAt w ab bs) :
    Calls Try.prog 46 #[.slice a zs.length cap, .slice ab bs.length cb] w fun e w' => e = .returned (.bool (bokB zs bs)) ∧ w' = w := by
  have HR : Hid (RowAt w a zs) := hr
  have HRB : Hid (RowAt w ab bs) := hrb
  have HM : Hid (zs.length ≤ maxLen) := hm
  clear hr hrb hm
  unfold maxLen at hmb
  by_cases h3 : bs.length ≤ 3
  · go_enter Try.func46, Try.ntmps46
    go_wp2_with fail
    go_loop [12] (fun v => ∃ j : Nat, j ≤ bs.length ∧ v = .int .i64 j ∧ Hid (∀ i, i < j → memI zs (bs.getD i 0) = true)) (fun v => bs.length - (intOf v).toNat)
    case atStart => exact ⟨0, Nat.zero_le _, rfl, fun i hi => by omega⟩
    case round =>
      obtain ⟨j, hj, rfl, HT⟩ := hrel
      by_cases hjl : j < bs.length
      · obtain ⟨bb, ob, rfl⟩ := rowAt_form HRB.out (by omega)
        have hcb := (rowAt_cell HRB.out (by omega)).2 j hjl
        have CB := isMember_any a cap zs (bs.getD j 0) w HM.out HR.out
        cases h5 : memI zs (bs.getD j 0)
        · rw [h5] at CB
          have hv : Hid (bokB zs bs = false) := bokB_no hjl h5
          clear h5
          generalize bs.getD j 0 = z at hcb CB
          go_wp2_with fail
          refine CB.mono ?_
          rintro e w7 ⟨rfl, hw7⟩
          subst hw7
          go_wp2
          go_ret
          exact ⟨ret_bool hv.out.symm, rfl⟩
        · rw [h5] at CB
          have HT2 : Hid (∀ i, i < j + 1 → memI zs (bs.getD i 0) = true) := fun i hi => by
            by_cases he : i = j
            · subst he; exact h5
            · exact HT.out i (by omega)
          clear h5
          generalize bs.getD j 0 = z at hcb CB
          go_wp2_with fail
          refine CB.mono ?_
          rintro e w7 ⟨rfl, hw7⟩
          subst hw7
          go_wp2
          go_round
          case rel => exact ⟨j + 1, by omega, by go_num, HT2⟩
          case measure => simp [intOf]; omega
      · have hv : Hid (bokB zs bs = true) := bokB_yes h3 (fun i hi => HT.out i (by omega))
        go_wp2
        go_ret
        exact ⟨ret_bool hv.out.symm, rfl⟩
  · have hv : bokB zs bs = false := by unfold bokB; rw [decide_eq_false h3]; rfl
    rw [hv]
    go_enter Try.func46, Try.ntmps46
    go_wp2
    go_ret
    exact ⟨rfl, rfl⟩

def prI (zs : List Int) (p : Pr) : Bool := decide (p.succ = nxtI zs p.id) && memI zs p.point && bokB zs p.backs
theorem prI_eq {b d : Int} {zs : List Int} (R : Ring b d zs) (p : Pr) : prI zs p = prB zs p := by
  unfold prI prB bokB
  rw [mem_has R, Bool.and_assoc, Bool.and_assoc, Bool.and_assoc]
  have e : decide (∀ i, i < p.backs.length → memI zs (p.backs.getD i 0) = true) = decide (∀ i, i < p.backs.length → hasB zs (p.backs.getD i 0) = true) := by
    congr 1
    simp only [mem_has R]
  rw [e]

set_option maxHeartbeats 3200000 in
theorem isPeer_any (a : Option Addr) (cap : Nat) (zs : List Int) (q o : Nat) (p : Pr) (w : World) (l1 : 1 ≤ zs.length) (l2 : zs.length ≤ 16) (hr : RowAt w a zs) (hq : q < w.heap.size) (hp : PeerAt w q o p) :
    Calls Try.prog 56 #[.slice a zs.length cap, .pointer (some ⟨q, o, none⟩)] w fun e w' => e = .returned (.bool (prI zs p)) ∧ Below w.heap.size w w' := by
  obtain ⟨c0, c1, c2, ab, cb, c3, hrb, hmb, _⟩ := hp
  have hmx : zs.length ≤ maxLen := by unfold maxLen; omega
  obtain ⟨x0, x1, x2, bs⟩ := p
  have z0 : ∀ k : Kin w.heap.size w, k.v.cell? ⟨q, o, none⟩ = some (.int .i64 x0) := kin_cell hq c0
  have z1 : ∀ k : Kin w.heap.size w, k.v.cell? ⟨q, o + 1, none⟩ = some (.int .i64 x1) := kin_cell hq c1
  have z2 : ∀ k : Kin w.heap.size w, k.v.cell? ⟨q, o + 2, none⟩ = some (.int .i64 x2) := kin_cell hq c2
  have z3 : ∀ k : Kin w.heap.size w, k.v.cell? ⟨q, o + 3, none⟩ = some (.slice ab bs.length cb) := kin_cell hq c3
  have CN : ∀ w1, Below w.heap.size w w1 → Calls Try.prog 61 #[.slice a zs.length cap, .int .i64 x0] w1 fun e w' => e = .returned (.int .i64 (nxtI zs x0)) ∧ w' = w1 := fun w1 h => nextIn_any a cap zs x0 w1 l1 l2 (hr.keep h)
  have CH : ∀ w1, Below w.heap.size w w1 → Calls Try.prog 45 #[.slice a zs.length cap, .int .i64 x2] w1 fun e w' => e = .returned (.bool (memI zs x2)) ∧ w' = w1 := fun w1 h => isMember_any a cap zs x2 w1 hmx (hr.keep h)
  have CB : ∀ w1, Below w.heap.size w w1 → Calls Try.prog 46 #[.slice a zs.length cap, .slice ab bs.length cb] w1 fun e w' => e = .returned (.bool (bokB zs bs)) ∧ w' = w1 := fun w1 h => areBacks_any a ab cap cb zs bs w1 hmx hmb (hr.keep h) (hrb.keep h)
  have hv : prI zs ⟨x0, x1, x2, bs⟩ = (decide (x1 = nxtI zs x0) && memI zs x2 && bokB zs bs) := rfl
  rw [hv]
  clear hv c0 c1 c2 c3 hrb hmb hr hmx
  generalize nxtI zs x0 = nx at *
  generalize memI zs x2 = mx at *
  generalize bokB zs bs = bx at *
  by_cases h1 : x1 = nx
  · have e1 : (x1 == nx) = true := beq_iff_eq.2 h1
    rw [decide_eq_true h1]
    clear h1
    cases mx
    · go_enter Try.func56, Try.ntmps56
      go_wp2
      refine region_kin w.heap.size (by kernel_rfl) (by kernel_rfl) (fun hne => ?_)
      repeat (go_big_quiet_step (first | (go_at_call 61; exact kin_same (CN _ (Kin.bel _))) | (go_at_call 45; exact kin_same (CH _ (Kin.bel _))) | (go_at_call 46; exact kin_same (CB _ (Kin.bel _)))))
      refine wpQuiet_nil ?_
      intro w5 hw'
      obtain ⟨⟨w6, hw5⟩, hw''⟩ := hw'
      obtain rfl : w5 = w6 := hw''
      clear z0 z1 z2 z3 hne
      go_wp2
      go_ret
      exact ⟨rfl, hw5⟩
    · go_enter Try.func56, Try.ntmps56
      go_wp2
      refine region_kin w.heap.size (by kernel_rfl) (by kernel_rfl) (fun hne => ?_)
      repeat (go_big_quiet_step (first | (go_at_call 61; exact kin_same (CN _ (Kin.bel _))) | (go_at_call 45; exact kin_same (CH _ (Kin.bel _))) | (go_at_call 46; exact kin_same (CB _ (Kin.bel _)))))
      refine wpQuiet_nil ?_
      intro w5 hw'
      obtain ⟨⟨w6, hw5⟩, hw''⟩ := hw'
      obtain rfl : w5 = w6 := hw''
      clear z0 z1 z2 z3 hne
      go_wp2
      go_ret
      exact ⟨ret_bool (by simp), hw5⟩
  · have e1 : (x1 == nx) = false := by simp only [beq_eq_false_iff_ne, ne_eq]; exact h1
    rw [decide_eq_false h1]
    clear h1
    go_enter Try.func56, Try.ntmps56
    go_wp2
    refine region_kin w.heap.size (by kernel_rfl) (by kernel_rfl) (fun hne => ?_)
    repeat (go_big_quiet_step (first | (go_at_call 61; exact kin_same (CN _ (Kin.bel _))) | (go_at_call 45; exact kin_same (CH _ (Kin.bel _))) | (go_at_call 46; exact kin_same (CB _ (Kin.bel _)))))
    refine wpQuiet_nil ?_
    intro w5 hw'
    obtain ⟨⟨w6, hw5⟩, hw''⟩ := hw'
    obtain rfl : w5 = w6 := hw''
    clear z0 z1 z2 z3 hne
    go_wp2
    go_ret
    exact ⟨ret_bool (by simp), hw5⟩
end Go.Proofs.Ytgmdbihdnacpjaa
namespace Go.Proofs.Ytgmdbihdnacpjaa
open Go.RowKit
set_option linter.unusedVariables false

set_option maxHeartbeats 3200000 in
theorem GoodPeers_any (b d : Int) (a : Option Addr) (cap : Nat) (ps : List Pr) (w : World) (hm : ps.length ≤ 1048576) (hr : PeersAt w a ps) :
    Calls Try.prog 16 #[.agg #[.int .i64 b, .int .i64 d, .slice a ps.length cap]] w fun e w' => e = .returned (.bool (goodP b d ps)) ∧ Below w.heap.size w w' := by
  have hil := idsP_len ps
  have hr1 := hr.alloc (.cells #[.int .i64 b, .int .i64 d, .slice a ps.length cap] 28)
  by_cases hbig : 16 < ps.length
  · have hv : goodP b d ps = false := by unfold goodP; rw [ringB_len (by omega)]; rfl
    rw [hv]
    go_enter Try.func16, Try.ntmps16
    go_wp2
    go_ret
    exact ⟨rfl, (Below.refl _ _).alloc (Nat.le_refl _) _⟩
  · have l16 : ps.length ≤ 16 := by omega
    have CI := idsOf_any w.heap.size a cap ps (w.alloc (.cells #[.int .i64 b, .int .i64 d, .slice a ps.length cap] 28)) hm (by simp) (by go_simp) hr1
    have HR : Hid (PeersAt w a ps) := hr
    clear hr hr1
    cases hg : ringB b d (idsP ps)
    · have hv : Hid (goodP b d ps = false) := by unfold Hid goodP; rw [hg]; rfl
      go_enter Try.func16, Try.ntmps16
      go_wp2_with fail
      refine CI.mono ?_
      rintro e w1 ⟨rfl, ow1⟩
      clear CI
      have BX1 : Hid (BxP w w1 b d (.slice a ps.length cap)) := bxP1 ow1.bel (by simp)
      have HI1 : Hid (RowAt w1 (some ⟨w.heap.size + 1, 0, none⟩) (idsP ps)) := by have := rowAt_of_row ow1.row; simp only [World.size_alloc] at this; exact this
      have CR := GoodRing_any b d (some ⟨w.heap.size + 1, 0, none⟩) ps.length (idsP ps) w1 (by unfold maxLen; omega) HI1.out
      rw [hg, hil] at CR
      obtain ⟨_, _, q0, q1, q2⟩ := BX1.out
      clear ow1
      go_wp2_with fail
      refine CR.mono ?_
      rintro e w2 ⟨rfl, hw2⟩
      go_wp2
      go_ret
      exact ⟨ret_bool hv.out.symm, belt BX1.out.bel hw2⟩
    · have R := ringB_true hg
      have l1 := R.l1
      rw [hil] at l1
      have RR : Hid (Ring b d (idsP ps)) := R
      have HG : Hid (ringB b d (idsP ps) = true) := hg
      have hg1 := hg
      clear R hg
      go_enter Try.func16, Try.ntmps16
      go_wp2_with fail
      refine CI.mono ?_
      rintro e w1 ⟨rfl, ow1⟩
      clear CI
      have BX1 : Hid (BxP w w1 b d (.slice a ps.length cap)) := bxP1 ow1.bel (by simp)
      have HI1 : Hid (RowAt w1 (some ⟨w.heap.size + 1, 0, none⟩) (idsP ps)) := by have := rowAt_of_row ow1.row; simp only [World.size_alloc] at this; exact this
      have CR := GoodRing_any b d (some ⟨w.heap.size + 1, 0, none⟩) ps.length (idsP ps) w1 (by unfold maxLen; omega) HI1.out
      rw [hg1, hil] at CR
      obtain ⟨_, _, q0, q1, q2⟩ := BX1.out
      clear ow1 hg1
      go_wp2_with fail
      refine CR.mono ?_
      rintro e w2 ⟨rfl, hw2⟩
      clear CR q0 q1 q2
      have BX2 : Hid (BxP w w2 b d (.slice a ps.length cap)) := BX1.out.keep hw2
      have HI2 : Hid (RowAt w2 (some ⟨w.heap.size + 1, 0, none⟩) (idsP ps)) := HI1.out.keep hw2
      clear BX1 HI1 hw2
      obtain ⟨_, _, _, _, q2⟩ := BX2.out
      go_wp2_with fail
      go_loopw [18] (fun vi wr => ∃ (k : Nat), k ≤ ps.length ∧ vi = .int .i64 k ∧ Hid (BxP w wr b d (.slice a ps.length cap)) ∧ Hid (RowAt wr (some ⟨w.heap.size + 1, 0, none⟩) (idsP ps)) ∧ Hid (∀ i, i < k → prB (idsP ps) (ps.getD i pr0) = true)) (fun vi _ => ps.length - (intOf vi).toNat)
      case atStart => exact ⟨0, Nat.zero_le _, rfl, BX2, HI2, fun i hi => by omega⟩
      case round =>
        obtain ⟨k, hk, rfl, BX, HI, HS⟩ := hrel
        clear BX2 HI2 q2
        obtain ⟨_, qlt, _, _, q2⟩ := BX.out
        have HB : Hid (Below w.heap.size w wr) := BX.out.bel
        by_cases hlt : k < ps.length
        · obtain ⟨bk, off, rfl⟩ := peersAt_form HR.out (by omega)
          obtain ⟨hbk, hpk⟩ := peersAt_cell (HR.out.keep HB.out) (by omega)
          have C := isPeer_any (some ⟨w.heap.size + 1, 0, none⟩) ps.length (idsP ps) bk (off + k * 4) (ps.getD k pr0) wr (by omega) (by omega) HI.out hbk (hpk k hlt)
          rw [prI_eq RR.out, hil] at C
          clear hpk
          cases hp : prB (idsP ps) (ps.getD k pr0)
          · rw [hp] at C
            have hv : Hid (goodP b d ps = false) := goodP_no hlt (by rw [hp]; simp)
            clear hp
            go_wp2_with fail
            refine C.mono ?_
            rintro e w3 ⟨rfl, hw3⟩
            go_wp2
            go_ret
            exact ⟨ret_bool hv.out.symm, belt HB.out hw3⟩
          · rw [hp] at C
            have HS2 : Hid (∀ i, i < k + 1 → prB (idsP ps) (ps.getD i pr0) = true) := fun i hi => by
              by_cases he : i = k
              · subst he; exact hp
              · exact HS.out i (by omega)
            clear hp
            go_wp2_with fail
            refine C.mono ?_
            rintro e w3 ⟨rfl, hw3⟩
            have BX3 : Hid (BxP w w3 b d (.slice (some ⟨bk, off, none⟩) ps.length cap)) := BX.out.keep hw3
            have HI3 : Hid (RowAt w3 (some ⟨w.heap.size + 1, 0, none⟩) (idsP ps)) := HI.out.keep hw3
            go_wp2
            go_roundw
            case rel => exact ⟨k + 1, by omega, by go_num, BX3, HI3, HS2⟩
            case measure => simp [intOf]; omega
        · have hv : Hid (goodP b d ps = true) := goodP_yes HG.out (fun i hi => HS.out i (by omega))
          go_wp2
          go_ret
          exact ⟨ret_bool hv.out.symm, HB.out⟩
end Go.Proofs.Ytgmdbihdnacpjaa
namespace Go.Proofs.Ytgmdbihdnacpjaa
open Go.RowKit
set_option linter.unusedVariables false

set_option maxHeartbeats 1600000 in
theorem MembersOf_any (b d : Int) (a : Option Addr) (cap : Nat) (ps : List Pr) (w : World) (hm : ps.length ≤ 1048576) (hr : PeersAt w a ps) :
    Calls Try.prog 38 #[.agg #[.int .i64 b, .int .i64 d, .slice a ps.length cap]] w fun e w' => ∃ v, e = .returned v ∧ Below w.heap.size w w' ∧
      ((goodP b d ps = false ∧ v = .tuple #[.slice none 0 0, .bool false]) ∨ (goodP b d ps = true ∧ ∃ g, v = .tuple #[.slice (some ⟨g, 0, none⟩) ps.length ps.length, .bool true] ∧ OwnS w.heap.size w' g (idsP ps))) := by
  have hr1 := hr.alloc (.cells #[.int .i64 b, .int .i64 d, .slice a ps.length cap] 28)
  have HR : Hid (PeersAt w a ps) := hr
  clear hr
  have C := GoodPeers_any b d a cap ps _ hm hr1
  cases hg : goodP b d ps
  · rw [hg] at C
    go_enter Try.func38, Try.ntmps38
    go_wp2_with fail
    refine C.mono ?_
    rintro e w1 ⟨rfl, hw1⟩
    go_wp2
    go_ret2
    exact ⟨_, rfl, bel1 hw1 (by simp), .inl ⟨trivial, rfl⟩⟩
  · rw [hg] at C
    go_enter Try.func38, Try.ntmps38
    go_wp2_with fail
    refine C.mono ?_
    rintro e w1 ⟨rfl, hw1⟩
    have BX : Hid (BxP w w1 b d (.slice a ps.length cap)) := bxP1 hw1 (by simp)
    go_wp2_with fail
    refine (idsOf_any w.heap.size a cap ps w1 hm BX.out.lt BX.out.c2 (HR.out.keep BX.out.bel)).mono ?_
    rintro e w2 ⟨rfl, ow2⟩
    go_wp2
    go_ret2
    exact ⟨_, rfl, belt BX.out.bel ow2.bel, .inr ⟨trivial, _, rfl, ow2.owns.mono BX.out.bel.size⟩⟩

set_option maxHeartbeats 1600000 in
theorem lMembersOf_any (b d : Int) (a : Option Addr) (cap : Nat) (ps : List Pr) (w : World) (hm : ps.length ≤ 1048576) (hr : PeersAt w a ps) :
    Calls Try.prog 37 #[.agg #[.int .i64 b, .int .i64 d, .slice a ps.length cap]] w fun e w' => ∃ v, e = .returned v ∧ Below w.heap.size w w' ∧
      ((goodP b d ps = false ∧ v = .tuple #[.slice none 0 0, .bool false]) ∨ (goodP b d ps = true ∧ ∃ a0 cp, v = .tuple #[.slice a0 ps.length cp, .bool true] ∧ RowAt w' a0 (idsP ps))) := by
  have hil := idsP_len ps
  have hr1 := hr.alloc (.cells #[.int .i64 b, .int .i64 d, .slice a ps.length cap] 28)
  have HR : Hid (PeersAt w a ps) := hr
  clear hr
  have C := lgood_any b d a cap ps _ hm hr1
  cases hg : goodP b d ps
  · rw [hg] at C
    go_enter Try.func37, Try.ntmps37
    go_wp2_with fail
    refine C.mono ?_
    rintro e w1 ⟨rfl, hw1⟩
    go_wp2
    go_ret2
    exact ⟨_, rfl, bel1 hw1 (by simp), .inl ⟨trivial, rfl⟩⟩
  · rw [hg] at C
    go_enter Try.func37, Try.ntmps37
    go_wp2_with fail
    refine C.mono ?_
    rintro e w1 ⟨rfl, hw1⟩
    have BX : Hid (BxP w w1 b d (.slice a ps.length cap)) := bxP1 hw1 (by simp)
    obtain ⟨_, _, q0, q1, q2⟩ := BX.out
    go_wp2_with fail
    refine (lmembers_any b d a cap ps w1 hm (HR.out.keep BX.out.bel)).mono ?_
    rintro e w2 ⟨v, rfl, hown, hw2⟩
    obtain ⟨a1, cap1, rfl, hc1, hrow1⟩ := own_rowAt hown
    rw [hil]
    go_wp2
    go_ret2
    exact ⟨_, rfl, belt BX.out.bel hw2, .inr ⟨trivial, _, _, rfl, hrow1⟩⟩

/-- the box of peers that came in, where blocks beyond it turn -/
theorem BxP.away {w wr w1 : World} {b d : Int} {v : Value} (h : BxP w wr b d v) (hb : Below w.heap.size w w1) (hs : wr.heap.size ≤ w1.heap.size) (hk : w1.heap[w.heap.size]? = wr.heap[w.heap.size]?) : BxP w w1 b d v :=
  ⟨hb, Nat.lt_of_lt_of_le h.lt hs, (World.cell?_of_block (a := ⟨w.heap.size, 0, none⟩) hk).trans h.c0, (World.cell?_of_block (a := ⟨w.heap.size, 1, none⟩) hk).trans h.c1, (World.cell?_of_block (a := ⟨w.heap.size, 2, none⟩) hk).trans h.c2⟩
theorem BxP.only {w wr w1 : World} {b d : Int} {v : Value} {g : Nat} (h : BxP w wr b d v) (ho : Only g wr w1) (hg : w.heap.size < g) : BxP w w1 b d v :=
  h.away (ho.below h.bel (by omega)) (by rw [ho.size]; exact Nat.le_refl _) (ho.block _ (by omega))
theorem map_len {L : List (Pr × Value)} {ps : List Pr} (h : L.map (·.1) = ps) : L.length = ps.length := by rw [← h, List.length_map]
end Go.Proofs.Ytgmdbihdnacpjaa
namespace Go.Proofs.Ytgmdbihdnacpjaa
open Go.RowKit
set_option linter.unusedVariables false

/-- the boxed space, and all that lay below it, are as they were -/
structure Bx (w : World) (b d : Int) (wk : World) : Prop where
  bel : Below (w.heap.size + 1) (w.alloc (.cells #[.int .i64 b, .int .i64 d] 43)) wk
theorem Bx.at {w wk : World} {b d : Int} (h : Bx w b d wk) : wk.cell? ⟨w.heap.size, 0, none⟩ = some (.int .i64 b) ∧ wk.cell? ⟨w.heap.size, 1, none⟩ = some (.int .i64 d) ∧ w.heap.size < wk.heap.size :=
  ⟨(h.bel.cell (p := ⟨w.heap.size, 0, none⟩) (by simp)).trans (by simp), (h.bel.cell (p := ⟨w.heap.size, 1, none⟩) (by simp)).trans (by simp), by have := h.bel.size; simp at this; omega⟩
theorem Bx.old {w wk : World} {b d : Int} (h : Bx w b d wk) : Below w.heap.size w wk := bel1 h.bel (by omega)
theorem Bx.step {w wk w' : World} {b d : Int} (h : Bx w b d wk) (hw : Below wk.heap.size wk w') : Bx w b d w' :=
  ⟨h.bel.trans (hw.mono (by have := h.at.2.2; omega))⟩
theorem Bx.first {w w1 : World} {b d : Int} (h : Below (w.alloc (.cells #[.int .i64 b, .int .i64 d] 43)).heap.size (w.alloc (.cells #[.int .i64 b, .int .i64 d] 43)) w1) : Bx w b d w1 := ⟨h.mono (by simp)⟩
theorem Bx.only {w wk w' : World} {b d : Int} {g : Nat} (h : Bx w b d wk) (ho : Only g wk w') (hg : w.heap.size < g) : Bx w b d w' :=
  ⟨h.bel.trans ⟨ho.os, ho.tape, ho.output, by rw [ho.size]; exact Nat.le_refl _, fun k hk => ho.block k (by omega)⟩⟩
theorem mrk_at' {k0 : Int} {zs : List Int} {n : Nat} (h : zs.length = n) : (mrk k0 zs n).length = n ∧ ∀ i, i < (mrk k0 zs n).length → (mrk k0 zs n).getD i 0 = k0 + (i : Int) := by
  subst h
  exact ⟨mrk_len (Nat.le_refl _), fun i hi => mrk_get (by rwa [mrk_len (Nat.le_refl _)] at hi)⟩
end Go.Proofs.Ytgmdbihdnacpjaa
namespace Go.Proofs.Ytgmdbihdnacpjaa
open Go.RowKit
set_option linter.unusedVariables false
/-- a box that was laid in the world w is as it was -/
structure BxV (w wr : World) (cs : Array Value) (T : TypeId) : Prop where
  row : wr.heap[w.heap.size]? = some (.cells cs T (0, 0))
theorem BxV.lt {w wr : World} {cs : Array Value} {T : TypeId} (h : BxV w wr cs T) : w.heap.size < wr.heap.size := (Array.getElem?_eq_some_iff.1 h.row).1
theorem BxV.keep {w wr w1 : World} {cs : Array Value} {T : TypeId} (h : BxV w wr cs T) (hb : Below wr.heap.size wr w1) : BxV w w1 cs T :=
  ⟨(hb.block _ h.lt).trans h.row⟩
theorem bxV1 {w w1 : World} {cs : Array Value} {T : TypeId} (hb : Below (w.alloc (.cells cs T)).heap.size (w.alloc (.cells cs T)) w1) : BxV w w1 cs T := by
  have h0 : BxV w (w.alloc (.cells cs T)) cs T := ⟨heap_alloc_new _ _⟩
  exact h0.keep hb
theorem BxV.c2 {w wr : World} {x y : Value} {T : TypeId} (h : BxV w wr #[x, y] T) : wr.cell? ⟨w.heap.size, 0, none⟩ = some x ∧ wr.cell? ⟨w.heap.size, 1, none⟩ = some y :=
  ⟨(cell_of_row wr _ _ _ _ _ h.row).trans rfl, (cell_of_row wr _ _ _ _ _ h.row).trans rfl⟩
theorem BxV.c3 {w wr : World} {x y z : Value} {T : TypeId} (h : BxV w wr #[x, y, z] T) : wr.cell? ⟨w.heap.size, 0, none⟩ = some x ∧ wr.cell? ⟨w.heap.size, 1, none⟩ = some y ∧ wr.cell? ⟨w.heap.size, 2, none⟩ = some z :=
  ⟨(cell_of_row wr _ _ _ _ _ h.row).trans rfl, (cell_of_row wr _ _ _ _ _ h.row).trans rfl, (cell_of_row wr _ _ _ _ _ h.row).trans rfl⟩
theorem bxv6 {w w4 wr : World} {x y z x' y' z' : Value} {T T' : TypeId} (h : BxV w wr #[x, y, z] T) (k : BxV w4 wr #[x', y', z'] T') : wr.cell? ⟨w.heap.size, 0, none⟩ = some x ∧ wr.cell? ⟨w.heap.size, 1, none⟩ = some y ∧ wr.cell? ⟨w.heap.size, 2, none⟩ = some z ∧ wr.cell? ⟨w4.heap.size, 0, none⟩ = some x' ∧ wr.cell? ⟨w4.heap.size, 1, none⟩ = some y' ∧ wr.cell? ⟨w4.heap.size, 2, none⟩ = some z' :=
  ⟨h.c3.1, h.c3.2.1, h.c3.2.2, k.c3.1, k.c3.2.1, k.c3.2.2⟩
/-- nothing was changed but blocks from B to T; new ones may have come -/
structure Mk (B T : Nat) (w w' : World) : Prop where
  below : ∀ n w0, n ≤ B → Below n w0 w → Below n w0 w'
  block : ∀ k, k < w.heap.size → ¬ (B ≤ k ∧ k < T) → w'.heap[k]? = w.heap[k]?
  size : w.heap.size ≤ w'.heap.size
theorem Mk.refl (B T : Nat) (w : World) : Mk B T w w := ⟨fun _ _ _ h => h, fun _ _ _ => rfl, Nat.le_refl _⟩
theorem Mk.wide {B T B' T' : Nat} {w w' : World} (h : Mk B T w w') (hB : B' ≤ B) (hT : T ≤ T') : Mk B' T' w w' :=
  ⟨fun n w0 hn hb => h.below n w0 (by omega) hb, fun k hk hn => h.block k hk (by omega), h.size⟩
theorem mk_only {g : Nat} {w w' : World} (h : Only g w w') : Mk g (g + 1) w w' :=
  ⟨fun n w0 hn hb => hb.trans ⟨h.os, h.tape, h.output, by rw [h.size]; exact Nat.le_refl _, fun k hk => h.block k (by omega)⟩, fun k _ hk => h.block k (by omega), by rw [h.size]; exact Nat.le_refl _⟩
theorem BxV.mkd {w wr w1 : World} {cs : Array Value} {T0 : TypeId} {B T : Nat} (h : BxV w wr cs T0) (m : Mk B T wr w1) (hB : w.heap.size < B ∨ T ≤ w.heap.size) : BxV w w1 cs T0 :=
  ⟨(m.block _ h.lt (by omega)).trans h.row⟩
/-- a list of one's own among the blocks from B to T, or an empty one -/
def OwnLs (B T : Nat) (w : World) (a : Option Addr) (n : Nat) (l : List Int) : Prop := l.length = n ∧ (l = [] ∨ ∃ g, a = some ⟨g, 0, none⟩ ∧ g < T ∧ OwnS B w g l)
theorem OwnLs.rowAt {B T : Nat} {w : World} {a : Option Addr} {n : Nat} {l : List Int} (h : OwnLs B T w a n l) : RowAt w a l := by
  rcases h.2 with h | ⟨g, ha, _, os⟩
  · exact .inl h
  · rw [ha]; exact os.rowAt
theorem OwnLs.blocks {B T : Nat} {w w1 : World} {a : Option Addr} {n : Nat} {l : List Int} (h : OwnLs B T w a n l) (hb : ∀ k, B ≤ k → k < T → k < w.heap.size → w1.heap[k]? = w.heap[k]?) : OwnLs B T w1 a n l := by
  refine ⟨h.1, ?_⟩
  rcases h.2 with h | ⟨g, ha, ht, os⟩
  · exact .inl h
  · exact .inr ⟨g, ha, ht, os.of_block (hb g os.lo ht os.lt)⟩
theorem OwnLs.keep {B T : Nat} {w w1 : World} {a : Option Addr} {n : Nat} {l : List Int} (h : OwnLs B T w a n l) (hb : Below w.heap.size w w1) : OwnLs B T w1 a n l := h.blocks (fun k _ _ hk => hb.block k hk)
theorem OwnLs.mkd {B T B' T' : Nat} {w w1 : World} {a : Option Addr} {n : Nat} {l : List Int} (h : OwnLs B T w a n l) (m : Mk B' T' w w1) (hd : T ≤ B' ∨ T' ≤ B) : OwnLs B T w1 a n l := h.blocks (fun k h1 h2 hk => m.block k hk (by omega))
theorem toIntS_own (a : Option Addr) (cap : Nat) (zs : List Int) (w : World) (hm : zs.length ≤ 1048576) (hr : RowAt w a zs) :
    Calls Try.prog 27 #[.slice a zs.length cap] w fun e w' => ∃ a', e = .returned (.slice a' zs.length zs.length) ∧ OwnLs w.heap.size w'.heap.size w' a' zs.length zs ∧ Below w.heap.size w w' := by
  refine (toIntS_any a cap zs w hm hr).mono ?_
  rintro e w1 ⟨rfl, ow⟩
  exact ⟨_, rfl, ⟨rfl, .inr ⟨_, rfl, ow.lt, ow.owns⟩⟩, ow.bel⟩
theorem markIntS_own (B T cap : Nat) (a : Option Addr) (n : Nat) (zs : List Int) (k0 : Int) (w : World) (hm : n ≤ 1048576) (k1 : 0 ≤ k0) (k2 : k0 ≤ 1099511627776) (ho : OwnLs B T w a n zs) :
    Calls Try.prog 30 #[.slice a n cap, .int .i64 k0] w fun e w' => e = .returned (.int .i64 (k0 + (n : Int))) ∧ Mk B T w w' ∧ OwnLs B T w' a n (mrk k0 zs n) := by
  obtain ⟨rfl, ho⟩ := ho
  rcases ho with rfl | ⟨g, rfl, ht, os⟩
  · refine (markIntS_empty a cap k0 w).mono ?_
    rintro e w1 ⟨rfl, rfl⟩
    exact ⟨by simp, Mk.refl _ _ _, rfl, .inl rfl⟩
  · refine (markOwn_any B g cap zs k0 w hm k1 k2 os).mono ?_
    rintro e w1 ⟨rfl, os1, on⟩
    exact ⟨rfl, (mk_only on).wide os.lo (by omega), mrk_len (Nat.le_refl _), .inr ⟨g, rfl, ht, os1⟩⟩
theorem heldIntS_own (B T cap : Nat) (a : Option Addr) (n : Nat) (zs : List Int) (k0 : Int) (w : World) (hm : n ≤ 1048576) (hz : zs.length = n) (k1 : 0 ≤ k0) (k2 : k0 ≤ 1099511627776) (ho : OwnLs B T w a n (mrk k0 zs n)) :
    Calls Try.prog 39 #[.slice a n cap, .int .i64 k0] w fun e w' => e = .returned (.int .i64 (k0 + (n : Int))) ∧ Below w.heap.size w w' := by
  obtain ⟨h1, h2⟩ := mrk_at' (k0 := k0) hz
  have := heldIntS_any a cap (mrk k0 zs n) k0 w (by rw [h1]; exact hm) k1 k2 ho.rowAt h2
  rw [h1] at this
  refine this.mono ?_
  rintro e w1 ⟨rfl, rfl⟩
  exact ⟨rfl, Below.refl _ _⟩
theorem eqIntS_own (a a' : Option Addr) (cap cap' n : Nat) (l : List Int) (w : World) (hn : l.length = n) (hm : n ≤ 1048576) (hx : RowAt w a l) (hy : RowAt w a' l) :
    Calls Try.prog 29 #[.slice a n cap, .slice a' n cap'] w fun e w' => e = .returned (.bool true) ∧ Below w.heap.size w w' := by
  subst hn
  have := eqIntS_any a a' cap cap' l l w (by unfold maxLen; omega) hx hy
  have hs : sameB l l = true := decide_eq_true rfl
  rwa [hs] at this
/-- peers of one's own among the blocks from B to T, or none -/
def OwnPs (B T : Nat) (w : World) (a : Option Addr) (n : Nat) (ps : List Pr) : Prop := ps.length = n ∧ (ps = [] ∨ ∃ g L, a = some ⟨g, 0, none⟩ ∧ L.map (·.1) = ps ∧ OwnP B T w g L)
theorem OwnPs.peersAt {B T : Nat} {w : World} {a : Option Addr} {n : Nat} {ps : List Pr} (h : OwnPs B T w a n ps) : PeersAt w a ps := by
  rcases h.2 with h | ⟨g, L, ha, hL, os⟩
  · exact .inl h
  · rw [ha, ← hL]; exact os.peersAt
theorem OwnPs.blocks {B T : Nat} {w w1 : World} {a : Option Addr} {n : Nat} {ps : List Pr} (h : OwnPs B T w a n ps) (hb : ∀ k, B ≤ k → k < T → k < w.heap.size → w1.heap[k]? = w.heap[k]?) : OwnPs B T w1 a n ps := by
  refine ⟨h.1, ?_⟩
  rcases h.2 with h | ⟨g, L, ha, hL, os⟩
  · exact .inl h
  · exact .inr ⟨g, L, ha, hL, os.blocks hb⟩
theorem OwnPs.keep {B T : Nat} {w w1 : World} {a : Option Addr} {n : Nat} {ps : List Pr} (h : OwnPs B T w a n ps) (hb : Below w.heap.size w w1) : OwnPs B T w1 a n ps := h.blocks (fun k _ _ hk => hb.block k hk)
theorem OwnPs.mkd {B T B' T' : Nat} {w w1 : World} {a : Option Addr} {n : Nat} {ps : List Pr} (h : OwnPs B T w a n ps) (m : Mk B' T' w w1) (hd : T ≤ B' ∨ T' ≤ B) : OwnPs B T w1 a n ps := h.blocks (fun k h1 h2 hk => m.block k hk (by omega))
theorem toPeers_own (b d : Int) (a : Option Addr) (cap : Nat) (ps : List Pr) (w : World) (hb : ps.length + bsum ps ≤ 1048576) (hr : PeersAt w a ps) :
    Calls Try.prog 23 #[.agg #[.int .i64 b, .int .i64 d, .slice a ps.length cap]] w fun e w' => ∃ a', e = .returned (.agg #[.int .i64 b, .int .i64 d, .slice a' ps.length ps.length]) ∧ OwnPs w.heap.size w'.heap.size w' a' ps.length ps ∧ Below w.heap.size w w' := by
  refine (toPeers_any b d a cap ps w hb hr).mono ?_
  rintro e w1 ⟨g, rfl, ⟨L, hL, ow⟩, hw⟩
  exact ⟨_, rfl, ⟨rfl, .inr ⟨g, L, rfl, hL, ow⟩⟩, hw⟩
theorem markPeerS_empty (a : Option Addr) (cap : Nat) (k0 : Int) (w : World) :
    Calls Try.prog 82 #[.slice a 0 cap, .int .i64 k0] w fun e w' => e = .returned (.int .i64 k0) ∧ w' = w := by
  go_enter Try.func82, Try.ntmps82
  go_wp2
  go_loop [1, 5] (fun k i => i = .int .i64 0 ∧ k = .int .i64 k0) (fun _ i => 0)
  case atStart => exact ⟨rfl, rfl⟩
  case round =>
    obtain ⟨rfl, rfl⟩ := hrel
    go_wp2
    go_ret
    exact ⟨rfl, rfl⟩
theorem markPeers_empty (b d : Int) (a : Option Addr) (cap : Nat) (k0 : Int) (w : World) :
    Calls Try.prog 31 #[.agg #[.int .i64 b, .int .i64 d, .slice a 0 cap], .int .i64 k0] w fun e w' => e = .returned (.int .i64 k0) ∧ Below w.heap.size w w' := by
  go_enter Try.func31, Try.ntmps31
  go_wp2_with fail
  refine (markPeerS_empty a cap k0 _).mono ?_
  rintro e w1 ⟨rfl, rfl⟩
  go_wp2
  go_ret
  exact ⟨rfl, belA _ _⟩
theorem mk_below {B T : Nat} {w w' : World} (h : Below w.heap.size w w') (hB : B ≤ w.heap.size) : Mk B T w w' :=
  ⟨fun n w0 hn hb => hb.trans (h.mono (by omega)), fun k hk _ => h.block k hk, h.size⟩
theorem markPeers_own (b d : Int) (B T cap : Nat) (a : Option Addr) (n : Nat) (ps : List Pr) (k0 : Int) (w : World) (hb : ps.length + bsum ps ≤ 1048576) (k1 : 0 ≤ k0) (k2 : k0 ≤ 1000000000000) (hB : B ≤ w.heap.size) (hT : T ≤ w.heap.size) (h : OwnPs B T w a n ps) :
    Calls Try.prog 31 #[.agg #[.int .i64 b, .int .i64 d, .slice a n cap], .int .i64 k0] w fun e w' => e = .returned (.int .i64 (kAt k0 ps n)) ∧ Mk B T w w' ∧ OwnPs B T w' a n (mrkP k0 ps) := by
  obtain ⟨rfl, ho⟩ := h
  rcases ho with rfl | ⟨g, L, rfl, hL, os⟩
  · refine (markPeers_empty b d a cap k0 w).mono ?_
    rintro e w1 ⟨rfl, hw⟩
    exact ⟨by simp [kAt, bsum], mk_below hw hB, rfl, .inl rfl⟩
  · have hl : L.length = ps.length := map_len hL
    have C := markPeers_any b d B T g cap L k0 w (by rw [hL, hl]; exact hb) k1 k2 hT os
    rw [hL, hl] at C
    refine C.mono ?_
    rintro e w1 ⟨rfl, h1, h2, h3, L', hL', os'⟩
    exact ⟨rfl, ⟨h1, h2, h3⟩, mrkP_len _ _, .inr ⟨g, L', rfl, hL', os'⟩⟩
theorem heldPeers_own (b d : Int) (B T cap : Nat) (a : Option Addr) (n : Nat) (ps : List Pr) (k0 : Int) (w : World) (hb : ps.length + bsum ps ≤ 1048576) (hn : ps.length = n) (k1 : 0 ≤ k0) (k2 : k0 ≤ 1000000000000) (h : OwnPs B T w a n (mrkP k0 ps)) :
    Calls Try.prog 32 #[.agg #[.int .i64 b, .int .i64 d, .slice a n cap], .int .i64 k0] w fun e w' => e = .returned (.int .i64 (kAt k0 ps n)) ∧ Below w.heap.size w w' := by
  subst hn
  exact heldPeers_any b d a cap ps k0 w hb k1 k2 h.peersAt
theorem eqPeers_own (b d : Int) (a a' : Option Addr) (cap cap' n : Nat) (ps : List Pr) (w : World) (hn : ps.length = n) (hm : n ≤ 1048576) (hx : PeersAt w a ps) (hy : PeersAt w a' ps) :
    Calls Try.prog 24 #[.agg #[.int .i64 b, .int .i64 d, .slice a n cap], .agg #[.int .i64 b, .int .i64 d, .slice a' n cap']] w fun e w' => e = .returned (.bool true) ∧ Below w.heap.size w w' := by
  subst hn
  exact eqPeers_same b d a a' cap cap' ps w hm hx hy
theorem bne_self_bool (b : Bool) : (b != b) = false := by cases b <;> rfl
/-- a list that a call has answered in memory of its own -/
theorem ownLs_of {B T : Nat} {w : World} {g n : Nat} {l : List Int} (h : OwnS B w g l) (ht : w.heap.size ≤ T) (hn : l.length = n) : OwnLs B T w (some ⟨g, 0, none⟩) n l := ⟨hn, .inr ⟨g, rfl, Nat.lt_of_lt_of_le h.lt ht, h⟩⟩
theorem ownLs_nil (B T : Nat) (w : World) (a : Option Addr) : OwnLs B T w a 0 [] := ⟨rfl, .inl rfl⟩
theorem ownPs_nil (B T : Nat) (w : World) (a : Option Addr) : OwnPs B T w a 0 [] := ⟨rfl, .inl rfl⟩
end Go.Proofs.Ytgmdbihdnacpjaa
namespace Go.Proofs.Ytgmdbihdnacpjaa
open Go.RowKit
set_option linter.unusedVariables false

set_option maxHeartbeats 800000 in
theorem makeRoom_any (b d x : Int) (w : World) (hx : numB b d x = true) :
    Calls Try.prog 66 #[.agg #[.int .i64 b, .int .i64 d], .int .i64 x] w fun e w' => e = .returned (.int .i64 (shf b d x 0)) ∧ Below w.heap.size w w' := by
  obtain ⟨hg, _, _⟩ := numB_true hx
  obtain ⟨hb1, hb2, hd1, hd2, _⟩ := gsB_true hg
  obtain ⟨hs3, hs4⟩ := sz_bd hd1 (by omega)
  have hok : sOk b d x 0 = true := by unfold sOk; rw [hx, digB_yes hg (by omega) (by omega)]; rfl
  have hv : sVal b d x 0 = shf b d x 0 := by unfold sVal; rw [if_pos hok]
  have C := ShiftIn_any b d x 0 (w.alloc (.cells #[.int .i64 b, .int .i64 d] 25))
  rw [hok, hv] at C
  clear hok hv hx
  generalize shf b d x 0 = s at C
  go_enter Try.func66, Try.ntmps66
  go_wp2_with fail
  refine C.mono ?_
  rintro e w1 ⟨rfl, hw1⟩
  go_wp2
  go_ret
  exact ⟨rfl, bel1 hw1 (by simp)⟩

theorem upt_back {b d : Int} {zs : List Int} (R : Ring b d zs) (x : Int) : zs.getD ((uptI zs x + zs.length - 1) % zs.length) 0 = dwnI zs x := by
  unfold dwnI uptI
  rw [← mem_has R]
  cases hm : memI zs x
  · rw [if_neg (by simp)]; rfl
  · rw [if_pos rfl]
    have h := of_decide_eq_true hm
    have e : blw zs x + Bool.toNat true + zs.length - 1 = blw zs x + zs.length := by simp
    rw [e, Nat.add_mod_right, Nat.mod_eq_of_lt h.1]
    exact h.2

set_option maxHeartbeats 800000 in
theorem pointIn_any (b d : Int) (a : Option Addr) (cap : Nat) (zs : List Int) (x : Int) (w : World) (R : Ring b d zs) (hr : RowAt w a zs) (x1 : 0 ≤ x) (x2 : x < sz b) :
    Calls Try.prog 80 #[.agg #[.int .i64 b, .int .i64 d], .slice a zs.length cap, .int .i64 x] w fun e w' => e = .returned (.int .i64 (pntI b d zs x)) ∧ Below w.heap.size w w' := by
  have l1 := R.l1
  have l2 := R.l2
  have HV : Hid (zs.getD ((uptI zs (shf b d x 0) + zs.length - 1) % zs.length) 0 = pntI b d zs x) := upt_back R _
  have hm : zs.length ≤ maxLen := by unfold maxLen; omega
  have hnum : numB b d x = true := numB_yes R.gs x1 x2
  have hle := upt_le zs (shf b d x 0)
  have hlt : (uptI zs (shf b d x 0) + zs.length - 1) % zs.length < zs.length := Nat.mod_lt _ (by omega)
  obtain ⟨bk, off, rfl⟩ := rowAt_form hr (by omega)
  have CU : ∀ w1, Below w.heap.size w w1 → Calls Try.prog 93 #[.slice (some ⟨bk, off, none⟩) zs.length cap, .int .i64 (shf b d x 0)] w1 fun e w' => e = .returned (.int .i64 (uptI zs (shf b d x 0))) ∧ w' = w1 := fun w1 h => upTo_any _ cap zs _ w1 hm (hr.keep h)
  have hcl : Hid (∀ w1, Below w.heap.size w w1 → w1.cell? ⟨bk, off + (uptI zs (shf b d x 0) + zs.length - 1) % zs.length, none⟩ = some (.int .i64 (zs.getD ((uptI zs (shf b d x 0) + zs.length - 1) % zs.length) 0))) := fun w1 h => (rowAt_cell (hr.keep h) (by omega)).2 _ hlt
  have CM := makeRoom_any b d x (w.alloc (.cells #[.int .i64 b, .int .i64 d] 25)) hnum
  clear hr R
  have e0 : (((uptI zs (shf b d x 0) + zs.length - 1 : Nat)) : Int) = (uptI zs (shf b d x 0) : Int) + (zs.length : Int) - 1 := by omega
  have hq := natmod (uptI zs (shf b d x 0) + zs.length - 1) zs.length
  have hq' := nattmod (uptI zs (shf b d x 0) + zs.length - 1) zs.length
  rw [e0] at hq hq'
  clear e0
  generalize zs.getD ((uptI zs (shf b d x 0) + zs.length - 1) % zs.length) 0 = z at hcl HV
  generalize (uptI zs (shf b d x 0) + zs.length - 1) % zs.length = q at *
  generalize uptI zs (shf b d x 0) = p at *
  generalize shf b d x 0 = s at *
  go_enter Try.func80, Try.ntmps80
  go_wp2_with fail
  refine CM.mono ?_
  rintro e w1 ⟨rfl, hw1⟩
  have HB : Hid (Below w.heap.size w w1) := bel1 hw1 (by simp)
  have C2 := CU w1 HB.out
  have hc1 := hcl.out w1 HB.out
  clear CM CU hw1
  go_wp2_with fail
  refine C2.mono ?_
  rintro e w2 ⟨rfl, he2⟩
  subst he2
  go_wp2
  go_ret
  exact ⟨ret_int HV.out, HB.out⟩

set_option maxHeartbeats 1600000 in
theorem PointOf_any (b d : Int) (a : Option Addr) (cap : Nat) (zs : List Int) (x : Int) (w : World) (hm : zs.length ≤ maxLen) (hr : RowAt w a zs) :
    Calls Try.prog 34 #[.agg #[.int .i64 b, .int .i64 d], .slice a zs.length cap, .int .i64 x] w fun e w' => e = .returned (.tuple #[.int .i64 (oVal b d zs x (pntI b d zs x)), .bool (askB b d zs x)]) ∧ Below w.heap.size w w' := by
  have hr1 := hr.alloc (.cells #[.int .i64 b, .int .i64 d] 25)
  unfold oVal askB
  cases hg : ringB b d zs
  · go_enter Try.func34, Try.ntmps34
    go_wp2_with fail
    refine (GoodRing_any b d a cap zs _ hm hr1).mono ?_
    rintro e w1 ⟨rfl, hw1⟩
    go_wp2
    go_ret2
    exact ⟨rfl, bel1 hw1 (by simp)⟩
  · cases hx : numB b d x
    · go_enter Try.func34, Try.ntmps34
      go_wp2_with fail
      refine (GoodRing_any b d a cap zs _ hm hr1).mono ?_
      rintro e w1 ⟨rfl, hw1⟩
      obtain ⟨k10, k11, z1⟩ := keep2 (bk := w.heap.size) (u := .int .i64 b) (v := .int .i64 d) hw1 (by simp; try omega) (by simp) (by simp)
      go_wp2_with fail
      refine (isNumber_any _ _ _ _).mono ?_
      rintro e w2 ⟨rfl, hw2⟩
      go_wp2
      go_ret2
      exact ⟨rfl, belt (bel1 hw1 (by simp)) hw2⟩
    · have R := ringB_true hg
      obtain ⟨_, x1, x2⟩ := numB_true hx
      go_enter Try.func34, Try.ntmps34
      go_wp2_with fail
      refine (GoodRing_any b d a cap zs _ hm hr1).mono ?_
      rintro e w1 ⟨rfl, hw1⟩
      obtain ⟨k10, k11, z1⟩ := keep2 (bk := w.heap.size) (u := .int .i64 b) (v := .int .i64 d) hw1 (by simp; try omega) (by simp) (by simp)
      go_wp2_with fail
      refine (isNumber_any _ _ _ _).mono ?_
      rintro e w2 ⟨rfl, hw2⟩
      obtain ⟨k20, k21, z2⟩ := keep2 hw2 z1 k10 k11
      go_wp2_with fail
      refine (pointIn_any b d a cap zs x _ R (hr.keep (belt (bel1 hw1 (by simp)) hw2)) x1 x2).mono ?_
      rintro e w3 ⟨rfl, hw3⟩
      go_wp2
      go_ret2
      exact ⟨rfl, belt (belt (bel1 hw1 (by simp)) hw2) hw3⟩

set_option maxHeartbeats 1600000 in
theorem lPointOf_any (b d : Int) (a : Option Addr) (cap : Nat) (zs : List Int) (x : Int) (w : World) (hm : zs.length ≤ maxLen) (hr : RowAt w a zs) :
    Calls Try.prog 33 #[.agg #[.int .i64 b, .int .i64 d], .slice a zs.length cap, .int .i64 x] w fun e w' => e = .returned (.tuple #[.int .i64 (oVal b d zs x (pntI b d zs x)), .bool (askB b d zs x)]) ∧ Below w.heap.size w w' := by
  have hr1 := hr.alloc (.cells #[.int .i64 b, .int .i64 d] 25)
  have C := lasked_any b d a cap zs x _ hm hr1
  unfold oVal
  cases hg : askB b d zs x
  · rw [hg] at C
    go_enter Try.func33, Try.ntmps33
    go_wp2_with fail
    refine C.mono ?_
    rintro e w1 ⟨rfl, hw1⟩
    go_wp2
    go_ret2
    exact ⟨rfl, bel1 hw1 (by simp)⟩
  · rw [hg] at C
    have hg2 := hg
    unfold askB at hg2
    rw [Bool.and_eq_true] at hg2
    have R := ringB_true hg2.1
    obtain ⟨_, x1, x2⟩ := numB_true hg2.2
    go_enter Try.func33, Try.ntmps33
    go_wp2_with fail
    refine C.mono ?_
    rintro e w1 ⟨rfl, hw1⟩
    obtain ⟨k10, k11, z1⟩ := keep2 (bk := w.heap.size) (u := .int .i64 b) (v := .int .i64 d) hw1 (by simp; try omega) (by simp) (by simp)
    go_wp2_with fail
    refine (lpoint_any b d a cap zs x _ R (hr.keep (bel1 hw1 (by simp))) x1 x2).mono ?_
    rintro e w2 ⟨rfl, hw2⟩
    go_wp2
    go_ret2
    exact ⟨rfl, belt (bel1 hw1 (by simp)) hw2⟩
end Go.Proofs.Ytgmdbihdnacpjaa
namespace Go.Proofs.Ytgmdbihdnacpjaa
open Go.RowKit
set_option linter.unusedVariables false
theorem bckL_get {zs : List Int} {p : Int} {n k : Nat} (hk : k < n) : (bckL zs p n).getD k 0 = prvI zs (prvN zs p k) := by
  simp [bckL, List.getD_eq_getElem?_getD, hk, prvN]
set_option maxHeartbeats 1600000 in
theorem backsOf_any (a : Option Addr) (cap : Nat) (zs : List Int) (p : Int) (n : Nat) (w : World) (l1 : 1 ≤ zs.length) (l2 : zs.length ≤ 16) (hn : n ≤ 3) (hr : RowAt w a zs) :
    Calls Try.prog 81 #[.slice a zs.length cap, .int .i64 p, .int .i64 (n : Int)] w fun e w' => e = .returned (.slice (some ⟨w.heap.size, 0, none⟩) n n) ∧ OwnZ w w' w.heap.size (bckL zs p n) := by
  have hmk := make_ints n (by omega)
  have hbl := bckL_len zs p n
  have HR : Hid (RowAt w a zs) := hr
  clear hr
  go_enter Try.func81, Try.ntmps81
  go_wp2_with fail
  clear hmk
  have st0 : OwnZ w (w.alloc (.cells (zv (List.replicate n 0)) 3)) w.heap.size (cop (bckL zs p n) 0) :=
    ⟨(Below.refl _ _).alloc (Nat.le_refl _) _, Nat.le_refl _, by rw [cop_none, hbl]; exact heap_alloc_new _ _⟩
  go_loopw [1, 13] (fun v1 vi wr => ∃ k : Nat, k ≤ n ∧ vi = .int .i64 k ∧ v1 = .int .i64 (prvN zs p k) ∧ OwnZ w wr w.heap.size (cop (bckL zs p n) k)) (fun _ vi _ => n - (intOf vi).toNat)
  case atStart => exact ⟨0, Nat.zero_le _, rfl, rfl, st0⟩
  case round =>
    obtain ⟨k, hk, rfl, rfl, st⟩ := hrel
    clear st0
    by_cases hlt : k < n
    · have C := prevIn_any a cap zs (prvN zs p k) wr l1 l2 (HR.out.keep st.bel)
      have HPS : Hid (prvI zs (prvN zs p k) = prvN zs p (k + 1)) := rfl
      obtain ⟨r0, r1⟩ := st.at k (by rw [cop_len (by omega)]; omega)
      have st2 := st.put k ((bckL zs p n).getD k 0)
      rw [cop_set (by omega), bckL_get hlt] at st2
      clear st
      generalize (cop (bckL zs p n) k).getD k 0 = y at r0
      generalize prvI zs (prvN zs p k) = pv at *
      go_wp2_with fail
      refine C.mono ?_
      rintro e w1 ⟨rfl, he1⟩
      subst he1
      go_wp2
      go_roundw
      case rel => exact ⟨k + 1, by omega, by go_num, by rw [HPS.out], st2⟩
      case measure => simp [intOf]; omega
    · have hkl : k = (bckL zs p n).length := by omega
      rw [hkl, cop_all] at st
      go_wp2
      go_ret
      exact ⟨rfl, st⟩

/-- the argument's box, the answer's box, the box of peers at X, their list at G -/
structure IPS (w wr : World) (b d : Int) (X G n : Nat) (L : List (Pr × Value)) : Prop where
  rb : RB w wr #[.int .i64 b, .int .i64 d] 25
  lo : w.heap.size + 2 ≤ X
  p : wr.heap[X]? = some (.cells #[.int .i64 b, .int .i64 d, .slice (some ⟨G, 0, none⟩) n n] 28 (0, 0))
  ow : OwnP (w.heap.size + 2) wr.heap.size wr G L
theorem IPS.hi {w wr : World} {b d : Int} {X G n : Nat} {L : List (Pr × Value)} (h : IPS w wr b d X G n L) : X < wr.heap.size := (Array.getElem?_eq_some_iff.1 h.p).1
theorem IPS.ne {w wr : World} {b d : Int} {X G n : Nat} {L : List (Pr × Value)} (h : IPS w wr b d X G n L) : ¬ X = G := fun he => by
  obtain ⟨cur, hc⟩ := h.ow.blk
  have hp := h.p
  rw [he, hc] at hp
  simp at hp
theorem IPS.keep {w wr w1 : World} {b d : Int} {X G n : Nat} {L : List (Pr × Value)} (h : IPS w wr b d X G n L) (hb : Below wr.heap.size wr w1) : IPS w w1 b d X G n L :=
  ⟨h.rb.keep hb, h.lo, (hb.block X h.hi).trans h.p, (h.ow.keep hb).wide hb.size⟩
theorem IPS.put {w wr : World} {b d : Int} {X G n : Nat} {L L' : List (Pr × Value)} {j : Nat} {v : Value} (h : IPS w wr b d X G n L) (ho : OwnP (w.heap.size + 2) wr.heap.size (wr.setCell ⟨G, j, none⟩ v) G L') : IPS w (wr.setCell ⟨G, j, none⟩ v) b d X G n L' := by
  have hlo := h.ow.lo
  refine ⟨h.rb.blocks (h.rb.bel.setCell (p := ⟨G, j, none⟩) (by simp; omega) _) (by simp [World.setCell]) (fun k hk => heap_setCell_other _ _ _ _ (by simp; omega)), h.lo, (heap_setCell_other _ _ _ _ (by simpa using h.ne)).trans h.p, ?_⟩
  have e : (wr.setCell ⟨G, j, none⟩ v).heap.size = wr.heap.size := by simp [World.setCell]
  rw [e]
  exact ho
theorem IPS.num {w wr : World} {b d : Int} {X G n : Nat} {L : List (Pr × Value)} (h : IPS w wr b d X G n L) {i : Nat} (hi : i < L.length) (f : Nat) (hf : f < 3) (z : Int) :
    IPS w (wr.setCell ⟨G, i * 4 + f, none⟩ (.int .i64 z)) b d X G n (L.set i (setF f (L.getD i d0).1 z, (L.getD i d0).2)) := h.put (h.ow.num hi f hf z)
theorem IPS.backs {w wr w1 : World} {b d : Int} {X G n : Nat} {L : List (Pr × Value)} (h : IPS w wr b d X G n L) (hb : Below wr.heap.size wr w1) {i : Nat} (hi : i < L.length) {bs : List Int} {gb cb : Nat} (hm : bs.length ≤ 1048576) (hcb : bs.length ≤ cb) (os : OwnS wr.heap.size w1 gb bs) :
    IPS w (w1.setCell ⟨G, i * 4 + 3, none⟩ (.slice (some ⟨gb, 0, none⟩) bs.length cb)) b d X G n (L.set i (⟨(L.getD i d0).1.id, (L.getD i d0).1.succ, (L.getD i d0).1.point, bs⟩, .slice (some ⟨gb, 0, none⟩) bs.length cb)) :=
  (h.keep hb).put (h.ow.backs rfl hb hi hm hcb os)
theorem IPS.cell {w wr : World} {b d : Int} {X G n : Nat} {L : List (Pr × Value)} (h : IPS w wr b d X G n L) : wr.cell? ⟨X, 0, none⟩ = some (.int .i64 b) ∧ wr.cell? ⟨X, 1, none⟩ = some (.int .i64 d) ∧ wr.cell? ⟨X, 2, none⟩ = some (.slice (some ⟨G, 0, none⟩) n n) :=
  ⟨(cell_of_row wr _ _ _ _ _ h.p).trans rfl, (cell_of_row wr _ _ _ _ _ h.p).trans rfl, (cell_of_row wr _ _ _ _ _ h.p).trans rfl⟩
theorem IPS.at {w wr : World} {b d : Int} {X G n : Nat} {L : List (Pr × Value)} (h : IPS w wr b d X G n L) (j : Nat) : wr.frozen? ⟨G, j, none⟩ = false := by
  obtain ⟨cur, hc⟩ := h.ow.blk
  exact frozen_of_row wr _ _ _ _ hc
theorem ips1 (w wa : World) (b d : Int) (n : Nat) (h : RB w wa #[.int .i64 b, .int .i64 d] 25) :
    IPS w ((wa.alloc (.cells (madeCells #[.int .i64 0, .int .i64 0, .int .i64 0, .slice none 0 0] (n * 4)) 37)).alloc (.cells #[.int .i64 b, .int .i64 d, .slice (some ⟨wa.heap.size, 0, none⟩) n n] 28)) b d (wa.heap.size + 1) wa.heap.size n (List.replicate n d0) := by
  have hlt := h.lt
  have hb1 := belA wa (.cells (madeCells #[.int .i64 0, .int .i64 0, .int .i64 0, .slice none 0 0] (n * 4)) 37)
  have hb2 := belA (wa.alloc (.cells (madeCells #[.int .i64 0, .int .i64 0, .int .i64 0, .slice none 0 0] (n * 4)) 37)) (.cells #[.int .i64 b, .int .i64 d, .slice (some ⟨wa.heap.size, 0, none⟩) n n] 28)
  refine ⟨(h.keep hb1).keep hb2, by omega, ?_, ?_⟩
  · have := heap_alloc_new (wa.alloc (.cells (madeCells #[.int .i64 0, .int .i64 0, .int .i64 0, .slice none 0 0] (n * 4)) 37)) (.cells #[.int .i64 b, .int .i64 d, .slice (some ⟨wa.heap.size, 0, none⟩) n n] 28)
    simpa using this
  · have := ((made_peers wa n).keep hb2).wide (T' := ((wa.alloc (.cells (madeCells #[.int .i64 0, .int .i64 0, .int .i64 0, .slice none 0 0] (n * 4)) 37)).alloc (.cells #[.int .i64 b, .int .i64 d, .slice (some ⟨wa.heap.size, 0, none⟩) n n] 28)).heap.size) (by simp)
    exact this.mono (by omega)
end Go.Proofs.Ytgmdbihdnacpjaa
namespace Go.Proofs.Ytgmdbihdnacpjaa
open Go.RowKit
set_option linter.unusedVariables false
theorem ips2 (w wa : World) (b d : Int) (n : Nat) (h : RB w wa #[.int .i64 b, .int .i64 d] 25) :
    IPS w ((wa.alloc (.cells #[.int .i64 b, .int .i64 d, .slice (some ⟨wa.heap.size + 1, 0, none⟩) n n] 28)).alloc (.cells (madeCells #[.int .i64 0, .int .i64 0, .int .i64 0, .slice none 0 0] (n * 4)) 37)) b d wa.heap.size (wa.heap.size + 1) n (List.replicate n d0) := by
  have hlt := h.lt
  have hb1 := belA wa (.cells #[.int .i64 b, .int .i64 d, .slice (some ⟨wa.heap.size + 1, 0, none⟩) n n] 28)
  have hb2 := belA (wa.alloc (.cells #[.int .i64 b, .int .i64 d, .slice (some ⟨wa.heap.size + 1, 0, none⟩) n n] 28)) (.cells (madeCells #[.int .i64 0, .int .i64 0, .int .i64 0, .slice none 0 0] (n * 4)) 37)
  have hm := made_peers (wa.alloc (.cells #[.int .i64 b, .int .i64 d, .slice (some ⟨wa.heap.size + 1, 0, none⟩) n n] 28)) n
  simp only [World.size_alloc] at hm
  refine ⟨(h.keep hb1).keep hb2, by omega, ?_, ?_⟩
  · rw [heap_alloc_old _ _ (by simp)]
    exact heap_alloc_new _ _
  · simp only [World.size_alloc]
    exact hm.mono (by omega)
theorem heap_size_setCell (w : World) (a : Addr) (v : Value) : (w.setCell a v).heap.size = w.heap.size := by simp [World.setCell]
theorem map_getD {L : List (Pr × Value)} {ps : List Pr} (hl : L.length = ps.length) (h : ∀ j, j < ps.length → (L.getD j d0).1 = ps.getD j pr0) : L.map (·.1) = ps := map_fst hl h
set_option maxHeartbeats 6400000 in
theorem IdealPeers_any (b d n : Int) (a : Option Addr) (cap : Nat) (zs : List Int) (w : World) (hm : zs.length ≤ maxLen) (hr : RowAt w a zs) :
    Calls Try.prog 28 #[.agg #[.int .i64 b, .int .i64 d], .slice a zs.length cap, .int .i64 n] w fun e w' => ∃ v, e = .returned v ∧ Below w.heap.size w w' ∧
      ((idlOk b d zs n = false ∧ v = .tuple #[.agg #[.int .i64 0, .int .i64 0, .slice none 0 0], .bool false]) ∨ (idlOk b d zs n = true ∧ ∃ g L, v = .tuple #[.agg #[.int .i64 b, .int .i64 d, .slice (some ⟨g, 0, none⟩) zs.length zs.length], .bool true] ∧ L.map (·.1) = idealL b d zs n.toNat ∧ OwnP w.heap.size w'.heap.size w' g L)) := by
  have rb := rb0 w #[.int .i64 b, .int .i64 d] 25
  have CR := GoodRing_any b d a cap zs _ hm (hr.keep rb.bel)
  have HR : Hid (RowAt w a zs) := hr
  have RB0 : Hid _ := rb
  clear hr rb
  cases hg : ringB b d zs
  · have hv : Hid (idlOk b d zs n = false) := by unfold Hid idlOk; rw [hg]; rfl
    rw [hg] at CR
    go_enter Try.func28, Try.ntmps28
    go_wp2_with fail
    refine CR.mono ?_
    rintro e w1 ⟨rfl, hw1⟩
    have RB1 : Hid (RB w w1 #[.int .i64 b, .int .i64 d] 25) := RB0.out.keep hw1
    obtain ⟨r0, r1, r2, q0, q1, q2⟩ := RB1.out.cells
    clear CR hw1
    go_wp2
    refine bodyPost_ret (results_cell_tmp Try.results28 _ _ (w.heap.size + 1) _ _ _ _ _ rfl rfl (set3_row RB1.out.r) Try.underlying28 rfl (by kernel_rfl)) rfl ⟨_, rfl, set3_below RB1.out.bel (by omega), .inl ⟨hv.out, rfl⟩⟩
  · rw [hg] at CR
    by_cases hn : inB n 0 3 = true
    · obtain ⟨n1, n2⟩ := inB_true hn
      have hv : Hid (idlOk b d zs n = true) := by unfold Hid idlOk; rw [hg, hn]; rfl
      obtain ⟨m, rfl⟩ : ∃ m : Nat, n = (m : Int) := ⟨n.toNat, by omega⟩
      have R := ringB_true hg
      have l1 := R.l1
      have l2 := R.l2
      have RR : Hid (Ring b d zs) := R
      have hmk := make_peers zs.length (by omega)
      have hm3 : m ≤ 3 := by omega
      clear hg hn n1 R
      go_enter Try.func28, Try.ntmps28
      go_wp2_with fail
      refine CR.mono ?_
      rintro e w1 ⟨rfl, hw1⟩
      have RB1 : Hid (RB w w1 #[.int .i64 b, .int .i64 d] 25) := RB0.out.keep hw1
      obtain ⟨s0, s1⟩ := RB1.out.arg2
      clear CR hw1
      go_upto_region 3 with (fail)
      go_cut [8] (fun v8 wc => ∃ X G, v8 = .pointer (some ⟨X, 0, none⟩) ∧ Hid (IPS w wc b d X G zs.length (List.replicate zs.length d0)))
      case first =>
        have hlt1 := RB1.out.lt
        have g0 : ∀ o, (w1.alloc o).cell? ⟨w.heap.size, 0, none⟩ = some (.int .i64 b) := fun o => ((belA w1 o).cell (p := ⟨w.heap.size, 0, none⟩) (show w.heap.size < w1.heap.size by omega)).trans s0
        have g1 : ∀ o, (w1.alloc o).cell? ⟨w.heap.size, 1, none⟩ = some (.int .i64 d) := fun o => ((belA w1 o).cell (p := ⟨w.heap.size, 1, none⟩) (show w.heap.size < w1.heap.size by omega)).trans s1
        have e0 : ∀ o o', ((w1.alloc o).alloc o').cell? ⟨w.heap.size, 0, none⟩ = some (.int .i64 b) := fun o o' => ((belA (w1.alloc o) o').cell (p := ⟨w.heap.size, 0, none⟩) (by simp; omega)).trans (g0 o)
        have e1 : ∀ o o', ((w1.alloc o).alloc o').cell? ⟨w.heap.size, 1, none⟩ = some (.int .i64 d) := fun o o' => ((belA (w1.alloc o) o').cell (p := ⟨w.heap.size, 1, none⟩) (by simp; omega)).trans (g1 o)
        go_region
        all_goals (go_wp2_with fail; go_meet; clear g0 g1 e0 e1 hmk s0 s1 RB0 HR RR; first | exact ⟨_, _, rfl, (ips1 w w1 b d zs.length RB1.out).keep (Below.refl _ _).drew⟩ | exact ⟨_, _, rfl, (ips2 w w1 b d zs.length RB1.out).keep (Below.refl _ _).drew⟩)
      case rest =>
        obtain ⟨X, G, rfl, IP0⟩ := hcut
        clear hmk s0 s1 RB0 RB1
        go_wp2_with fail
        go_loopw [32] (fun vi wr => ∃ (k : Nat) (L : List (Pr × Value)), k ≤ zs.length ∧ vi = .int .i64 k ∧ Hid (IPS w wr b d X G zs.length L) ∧ Hid (L.length = zs.length) ∧ Hid (∀ j, j < k → (L.getD j d0).1 = idlP b d zs m (zs.getD j 0))) (fun vi _ => zs.length - (intOf vi).toNat)
        case atStart => exact ⟨0, _, Nat.zero_le _, rfl, IP0, by unfold Hid; simp, fun j hj => by omega⟩
        case round =>
          obtain ⟨k, L, hk, rfl, IP, HL, HS⟩ := hrel
          clear IP0
          by_cases hlt : k < zs.length
          · obtain ⟨bk, off, rfl⟩ := rowAt_form HR.out (by omega)
            have hc1 := (rowAt_cell (HR.out.keep IP.out.rb.bel) (by omega)).2 k hlt
            obtain ⟨x1, x2⟩ := RR.out.rng k hlt
            have HX : Hid (idlP b d zs m (zs.getD k 0) = ⟨zs.getD k 0, nxtI zs (zs.getD k 0), pntI b d zs (zs.getD k 0), bckL zs (pntI b d zs (zs.getD k 0)) m⟩) := rfl
            obtain ⟨x, hx⟩ : ∃ x, x = zs.getD k 0 := ⟨_, rfl⟩
            rw [← hx] at hc1 x1 x2 HX
            have HXE : Hid (zs.getD k 0 = x) := hx.symm
            clear hx
            have hkL : k < L.length := by rw [HL.out]; exact hlt
            obtain ⟨p0, p1, p2⟩ := IP.out.cell
            obtain ⟨c0, c1, c2, c3⟩ := IP.out.ow.cel k hkL
            have f0 := IP.out.at (k * 4)
            have IP1 : Hid _ := IP.out.num hkL 0 (by omega) x
            have hG := IP.out.ow.lo
            rw [Nat.add_zero] at IP1
            generalize (L.getD k d0).1.id = o0 at c0
            clear p0 p1 c1 c2 c3
            go_wp2_with fail
            refine (nextIn_any _ cap zs x _ l1 l2 (HR.out.keep IP1.out.rb.bel)).mono ?_
            rintro e wb ⟨rfl, hwb⟩
            have IB : Hid (IPS w wb b d X G zs.length (L.set k (setF 0 (L.getD k d0).1 x, (L.getD k d0).2))) := by unfold Hid; rw [hwb]; exact IP1.out
            have hkb : k < (L.set k (setF 0 (L.getD k d0).1 x, (L.getD k d0).2)).length := by rw [List.length_set]; exact hkL
            clear IP1 hwb p2 c0 f0 hc1
            obtain ⟨_, c1, _, _⟩ := IB.out.ow.cel k hkb
            have f1 := IB.out.at (k * 4 + 1)
            have IB1 := IB.out.num hkb 1 (by omega) (nxtI zs x)
            rw [getD_same hkL, List.set_set] at IB1
            have IB2 : Hid _ := IB1
            obtain ⟨s0, s1⟩ := IB.out.rb.arg2
            obtain ⟨s2, s3⟩ := IB2.out.rb.arg2
            generalize ((L.set k (setF 0 (L.getD k d0).1 x, (L.getD k d0).2)).getD k d0).1.succ = o1 at c1
            clear IB1
            go_wp2_with fail
            refine (pointIn_any b d _ cap zs x _ RR.out (HR.out.keep IB2.out.rb.bel) x1 x2).mono ?_
            rintro e wc ⟨rfl, hwc⟩
            have IC : Hid (IPS w wc b d X G zs.length (L.set k (setF 1 (setF 0 (L.getD k d0).1 x) (nxtI zs x), (L.getD k d0).2))) := IB2.out.keep hwc
            have hkc : k < (L.set k (setF 1 (setF 0 (L.getD k d0).1 x) (nxtI zs x), (L.getD k d0).2)).length := by rw [List.length_set]; exact hkL
            clear IB IB2 hwc c1 f1 s0 s1 s2 s3 hkb
            obtain ⟨_, _, c2, _⟩ := IC.out.ow.cel k hkc
            have f2 := IC.out.at (k * 4 + 2)
            have IC1 := IC.out.num hkc 2 (by omega) (pntI b d zs x)
            rw [getD_same hkL, List.set_set] at IC1
            have IC2 : Hid _ := IC1
            generalize ((L.set k (setF 1 (setF 0 (L.getD k d0).1 x) (nxtI zs x), (L.getD k d0).2)).getD k d0).1.point = o2 at c2
            clear IC1
            go_wp2_with fail
            refine (backsOf_any _ cap zs (pntI b d zs x) m _ l1 l2 hm3 (HR.out.keep IC2.out.rb.bel)).mono ?_
            rintro e wd ⟨rfl, owd⟩
            have hke : k < (L.set k (setF 2 (setF 1 (setF 0 (L.getD k d0).1 x) (nxtI zs x)) (pntI b d zs x), (L.getD k d0).2)).length := by rw [List.length_set]; exact hkL
            have hbl := bckL_len zs (pntI b d zs x) m
            have ID1 := IC2.out.backs owd.bel hke (cb := m) (by omega) (by omega) owd.owns
            have ID0 := IC2.out.keep owd.bel
            rw [getD_same hkL, List.set_set, hbl] at ID1
            have e4 : (⟨(setF 2 (setF 1 (setF 0 (L.getD k d0).1 x) (nxtI zs x)) (pntI b d zs x)).id, (setF 2 (setF 1 (setF 0 (L.getD k d0).1 x) (nxtI zs x)) (pntI b d zs x)).succ, (setF 2 (setF 1 (setF 0 (L.getD k d0).1 x) (nxtI zs x)) (pntI b d zs x)).point, bckL zs (pntI b d zs x) m⟩ : Pr) = idlP b d zs m x := rfl
            rw [e4] at ID1
            have ID2 : Hid _ := ID1
            obtain ⟨_, _, _, c3⟩ := ID0.ow.cel k hke
            have f3 := ID0.at (k * 4 + 3)
            simp only [heap_size_setCell] at ID2 c3 f3
            generalize ((L.set k (setF 2 (setF 1 (setF 0 (L.getD k d0).1 x) (nxtI zs x)) (pntI b d zs x), (L.getD k d0).2)).getD k d0).2 = o3 at c3
            clear IC IC2 ID0 ID1 owd c2 f2 hkc hke e4 hbl
            go_wp2_with fail
            go_roundw
            case rel => exact ⟨k + 1, _, by omega, by go_num, ID2, by unfold Hid; rw [List.length_set]; exact HL.out, fun j hj => by
              rw [getD_set (by have := HL.out; omega)]
              by_cases hij : k = j
              · subst hij; rw [if_pos rfl, HXE.out]
              · rw [if_neg hij]; exact HS.out j (by omega)⟩
            case measure => simp [intOf]; omega
          · obtain rfl : k = zs.length := by omega
            obtain ⟨r0, r1, r2, q0, q1, q2⟩ := IP.out.rb.cells
            obtain ⟨p0, p1, p2⟩ := IP.out.cell
            have hlo := IP.out.lo
            have hG := IP.out.ow.lo
            have HF : Hid (L.map (·.1) = idealL b d zs m) := map_getD (by rw [HL.out, idealL_len]) (fun j hj => by
              rw [idealL_len] at hj
              rw [HS.out j hj]
              unfold idealL
              simp [List.getD_eq_getElem?_getD, hj])
            have OW : Hid (OwnP w.heap.size (set3 wr (w.heap.size + 1) (.int .i64 b) (.int .i64 d) (.slice (some ⟨G, 0, none⟩) zs.length zs.length)).heap.size (set3 wr (w.heap.size + 1) (.int .i64 b) (.int .i64 d) (.slice (some ⟨G, 0, none⟩) zs.length zs.length)) G L) := by
              unfold Hid
              rw [set3_size]
              exact (IP.out.ow.blocks (fun k hk _ _ => set3_block (by omega))).mono (by omega)
            go_wp2
            refine bodyPost_ret (results_cell_tmp Try.results28 _ _ (w.heap.size + 1) _ _ _ _ _ rfl rfl (set3_row IP.out.rb.r) Try.underlying28 rfl (by kernel_rfl)) rfl ⟨_, rfl, set3_below IP.out.rb.bel (by omega), .inr ⟨hv.out, G, L, rfl, HF.out, OW.out⟩⟩
    · have hv : Hid (idlOk b d zs n = false) := by unfold Hid idlOk; rw [hg]; simpa using hn
      have hn' : n < 0 ∨ 3 < n := by unfold inB at hn; simp at hn; omega
      clear hg hn
      by_cases hneg : n < 0
      · clear hn'
        go_enter Try.func28, Try.ntmps28
        go_wp2_with fail
        refine CR.mono ?_
        rintro e w1 ⟨rfl, hw1⟩
        have RB1 : Hid (RB w w1 #[.int .i64 b, .int .i64 d] 25) := RB0.out.keep hw1
        obtain ⟨r0, r1, r2, q0, q1, q2⟩ := RB1.out.cells
        clear CR hw1
        go_wp2
        refine bodyPost_ret (results_cell_tmp Try.results28 _ _ (w.heap.size + 1) _ _ _ _ _ rfl rfl (set3_row RB1.out.r) Try.underlying28 rfl (by kernel_rfl)) rfl ⟨_, rfl, set3_below RB1.out.bel (by omega), .inl ⟨hv.out, rfl⟩⟩
      · have hbig : 3 < n := by omega
        clear hn'
        go_enter Try.func28, Try.ntmps28
        go_wp2_with fail
        refine CR.mono ?_
        rintro e w1 ⟨rfl, hw1⟩
        have RB1 : Hid (RB w w1 #[.int .i64 b, .int .i64 d] 25) := RB0.out.keep hw1
        obtain ⟨r0, r1, r2, q0, q1, q2⟩ := RB1.out.cells
        clear CR hw1
        go_wp2
        refine bodyPost_ret (results_cell_tmp Try.results28 _ _ (w.heap.size + 1) _ _ _ _ _ rfl rfl (set3_row RB1.out.r) Try.underlying28 rfl (by kernel_rfl)) rfl ⟨_, rfl, set3_below RB1.out.bel (by omega), .inl ⟨hv.out, rfl⟩⟩
end Go.Proofs.Ytgmdbihdnacpjaa
namespace Go.Proofs.Ytgmdbihdnacpjaa
open Go.RowKit
set_option linter.unusedVariables false
def memL (b d : Int) (ps : List Pr) : List Int := if goodP b d ps = true then idsP ps else []
theorem memL_big (b d : Int) (ps : List Pr) : (memL b d ps).length ≤ 1048576 := by
  unfold memL
  split
  · rename_i h
    have := (goodP_true h).1.l2
    omega
  · simp
theorem MembersOf_own (b d : Int) (a : Option Addr) (cap : Nat) (ps : List Pr) (w : World) (hm : ps.length ≤ 1048576) (hr : PeersAt w a ps) :
    Calls Try.prog 38 #[.agg #[.int .i64 b, .int .i64 d, .slice a ps.length cap]] w fun e w' => ∃ a' n c, e = .returned (.tuple #[.slice a' n c, .bool (goodP b d ps)]) ∧ (memL b d ps).length = n ∧ OwnLs w.heap.size w'.heap.size w' a' n (memL b d ps) ∧ Below w.heap.size w w' := by
  refine (MembersOf_any b d a cap ps w hm hr).mono ?_
  rintro e w1 ⟨v, rfl, hw, ⟨hg, rfl⟩ | ⟨hg, g, rfl, os⟩⟩
  · rw [hg]
    have e0 : memL b d ps = [] := by unfold memL; rw [hg]; rfl
    rw [e0]
    exact ⟨_, _, _, rfl, rfl, ownLs_nil _ _ _ _, hw⟩
  · rw [hg]
    have e0 : memL b d ps = idsP ps := by unfold memL; rw [hg]; rfl
    rw [e0]
    exact ⟨_, _, _, rfl, idsP_len ps, ownLs_of os (Nat.le_refl _) (idsP_len ps), hw⟩
theorem lMembersOf_own (b d : Int) (a : Option Addr) (cap : Nat) (ps : List Pr) (w : World) (hm : ps.length ≤ 1048576) (hr : PeersAt w a ps) :
    Calls Try.prog 37 #[.agg #[.int .i64 b, .int .i64 d, .slice a ps.length cap]] w fun e w' => ∃ a' n c, e = .returned (.tuple #[.slice a' n c, .bool (goodP b d ps)]) ∧ (memL b d ps).length = n ∧ RowAt w' a' (memL b d ps) ∧ Below w.heap.size w w' := by
  refine (lMembersOf_any b d a cap ps w hm hr).mono ?_
  rintro e w1 ⟨v, rfl, hw, ⟨hg, rfl⟩ | ⟨hg, a0, cp, rfl, os⟩⟩
  · rw [hg]
    have e0 : memL b d ps = [] := by unfold memL; rw [hg]; rfl
    rw [e0]
    exact ⟨_, _, _, rfl, rfl, .inl rfl, hw⟩
  · rw [hg]
    have e0 : memL b d ps = idsP ps := by unfold memL; rw [hg]; rfl
    rw [e0]
    exact ⟨_, _, _, rfl, idsP_len ps, os, hw⟩
theorem OwnLs.lower {B B' T : Nat} {w : World} {a : Option Addr} {n : Nat} {l : List Int} (h : OwnLs B T w a n l) (hb : B' ≤ B) : OwnLs B' T w a n l := by
  refine ⟨h.1, ?_⟩
  rcases h.2 with h | ⟨g, ha, ht, os⟩
  · exact .inl h
  · exact .inr ⟨g, ha, ht, os.mono hb⟩
theorem OwnPs.lower {B B' T : Nat} {w : World} {a : Option Addr} {n : Nat} {ps : List Pr} (h : OwnPs B T w a n ps) (hb : B' ≤ B) : OwnPs B' T w a n ps := by
  refine ⟨h.1, ?_⟩
  rcases h.2 with h | ⟨g, L, ha, hL, os⟩
  · exact .inl h
  · exact .inr ⟨g, L, ha, hL, os.mono hb⟩
def spcOf (ok : Bool) (b d : Int) : Int × Int := if ok = true then (b, d) else (0, 0)
def idlL (b d : Int) (zs : List Int) (n : Int) : List Pr := if idlOk b d zs n = true then idealL b d zs n.toNat else []
theorem bsum_le {c : Nat} : ∀ {ps : List Pr}, (∀ p ∈ ps, p.backs.length ≤ c) → bsum ps ≤ ps.length * c
  | [], _ => by simp [bsum]
  | p :: ps, h => by
    have h1 := h p (by simp)
    have h2 := bsum_le (ps := ps) (fun q hq => h q (by simp [hq]))
    simp only [bsum, List.length_cons, Nat.succ_mul]
    omega
theorem idlL_big (b d : Int) (zs : List Int) (n : Int) : (idlL b d zs n).length + bsum (idlL b d zs n) ≤ 1048576 := by
  unfold idlL
  split
  · rename_i h
    unfold idlOk at h
    rw [Bool.and_eq_true] at h
    have l2 := (ringB_true h.1).l2
    obtain ⟨n1, n2⟩ := inB_true h.2
    have hb := bsum_le (c := 3) (ps := idealL b d zs n.toNat) (fun p hp => by
      unfold idealL at hp
      simp only [List.mem_map] at hp
      obtain ⟨x, _, rfl⟩ := hp
      show (bckL zs (pntI b d zs x) n.toNat).length ≤ 3
      rw [bckL_len]
      omega)
    rw [idealL_len] at hb ⊢
    omega
  · simp [bsum]
theorem IdealPeers_own (b d : Int) (a : Option Addr) (cap : Nat) (zs : List Int) (n : Int) (w : World) (hm : zs.length ≤ 1048576) (hr : RowAt w a zs) :
    Calls Try.prog 28 #[.agg #[.int .i64 b, .int .i64 d], .slice a zs.length cap, .int .i64 n] w fun e w' => ∃ b' d' a' n' c, e = .returned (.tuple #[.agg #[.int .i64 b', .int .i64 d', .slice a' n' c], .bool (idlOk b d zs n)]) ∧ (idlL b d zs n).length = n' ∧ (b', d') = spcOf (idlOk b d zs n) b d ∧ OwnPs w.heap.size w'.heap.size w' a' n' (idlL b d zs n) ∧ Below w.heap.size w w' := by
  refine (IdealPeers_any b d n a cap zs w (by unfold maxLen; omega) hr).mono ?_
  rintro e w1 ⟨v, rfl, hw, ⟨hg, rfl⟩ | ⟨hg, g, L, rfl, hL, os⟩⟩
  · rw [hg]
    have e0 : idlL b d zs n = [] := by unfold idlL; rw [hg]; rfl
    rw [e0]
    exact ⟨_, _, _, _, _, rfl, rfl, rfl, ownPs_nil _ _ _ _, hw⟩
  · rw [hg]
    have e0 : idlL b d zs n = idealL b d zs n.toNat := by unfold idlL; rw [hg]; rfl
    rw [e0]
    exact ⟨_, _, _, _, _, rfl, idealL_len _ _ _ _, rfl, ⟨idealL_len _ _ _ _, .inr ⟨g, L, rfl, hL, os⟩⟩, hw⟩
theorem lIdealPeers_own (b d : Int) (a : Option Addr) (cap : Nat) (zs : List Int) (n : Int) (w : World) (hm : zs.length ≤ 1048576) (hr : RowAt w a zs) :
    Calls Try.prog 25 #[.agg #[.int .i64 b, .int .i64 d], .slice a zs.length cap, .int .i64 n] w fun e w' => ∃ b' d' a' n' c, e = .returned (.tuple #[.agg #[.int .i64 b', .int .i64 d', .slice a' n' c], .bool (idlOk b d zs n)]) ∧ (idlL b d zs n).length = n' ∧ (b', d') = spcOf (idlOk b d zs n) b d ∧ PeersAt w' a' (idlL b d zs n) ∧ Below w.heap.size w w' := by
  refine (lIdealPeers_any b d n a cap zs w (by unfold maxLen; omega) hr).mono ?_
  rintro e w1 ⟨v, rfl, hw, ⟨hg, rfl⟩ | ⟨hg, a0, cp, rfl, os⟩⟩
  · rw [hg]
    have e0 : idlL b d zs n = [] := by unfold idlL; rw [hg]; rfl
    rw [e0]
    exact ⟨_, _, _, _, _, rfl, rfl, rfl, .inl rfl, hw⟩
  · rw [hg]
    have e0 : idlL b d zs n = idealL b d zs n.toNat := by unfold idlL; rw [hg]; rfl
    rw [e0]
    exact ⟨_, _, _, _, _, rfl, idealL_len _ _ _ _, rfl, os, hw⟩
end Go.Proofs.Ytgmdbihdnacpjaa
