/- The specification's copy of peers. What the laws over peers share: the specification's GoodPeers; two boxes read. Peers of one's own: a pointer is set; backs are set. A struct and a bool are answered; one number of a peer is written; the specification's IdealPeers. The program's good peers. GoodPeers, in the program. MembersOf, on both sides; what the laws over peers keep when peers are marked. What the walks of exact laws share: boxes, marks, lists and peers of one's own that may be empty. Messages and replies as elements of slices: what reads as them, what owns them, what their marks are; slices of one's own, generally. What the laws of messages share: lists of ints of one's own, boxes, marks, and lists held against each other. Structs in blocks of their own; messages opened, copied, weighed and compared. SameMsg on both sides, and two messages that are the same held against each other. The size of messages and replies; two that read the same; marks that were laid. Messages and replies copied whole, into memory of their own. Messages copied whole. -/
import Derived.Laws.AppendOwnNone
import Derived.ArgAppend
import Derived.Lib.SmallJoins
import Derived.Laws.OwnMore
import Derived.Deep.Slices
import Derived.Test.YtioiacmaijgdoaaZ0
import Derived.Test.YtioiacmaijgdoaaZ1
namespace Go.Proofs.Ytioiacmaijgdoaa
open Go.RowKit
set_option linter.unusedVariables false
theorem rowAt_reads {w : World} {ad : Addr} {zs : List Int} (h : RowAt w (some ad) zs) : ∀ (j : Nat) (u : Value), (zs.map (Value.int .i64))[j]? = some u → w.cell? (ad.add j) = some u := by
  intro j u hj
  have hl : j < zs.length := by
    rcases Nat.lt_or_ge j zs.length with h' | h'
    · exact h'
    · rw [List.getElem?_eq_none (by simpa using h')] at hj; cases hj
  obtain ⟨bk, off, ha⟩ := rowAt_form h (by omega)
  simp at ha
  subst ha
  rw [add_none', (rowAt_cell h (by omega)).2 j hl]
  rw [List.getElem?_map, List.getElem?_eq_getElem hl] at hj
  simp at hj
  rw [← hj]
  simp [List.getD_eq_getElem?_getD, hl]
set_option maxHeartbeats 800000 in
theorem lownG_any (a : Option Addr) (cap : Nat) (zs : List Int) (w : World) (h2 : zs.length ≤ 1048576) (hr : RowAt w a zs) (hn : a = none → cap = 0) :
    Calls Try.prog 62 #[.slice a zs.length cap] w fun e w' => ∃ g cp, e = .returned (.slice (some ⟨g, 0, none⟩) zs.length cp) ∧ zs.length ≤ cp ∧ OwnS w.heap.size w' g zs ∧ Below w.heap.size w w' := by
  obtain ⟨i0, hi, hz0, hz1, hz2⟩ := info_parts'
  have own0 : Hid ((w.alloc (.cells #[] 3)).ownsRow w.heap.size 3 1 (.slice (some ⟨w.heap.size, 0, none⟩) 0 0) 0 []) := own_lit0 w
  cases a with
  | none =>
    have hc := hn rfl
    subst hc
    have hz : zs = [] := by
      rcases hr with h | ⟨_, _, h, _⟩
      · exact h
      · cases h
    subst hz
    go_enter Try.func62, Try.ntmps62
    go_wp2_with (at_builtin; refine wpList_append_own_none rfl (.tmp 3) (.tmp 4) 33 rfl w.heap.size 3 i0 1 Try.underlying33 hi _ _ _ rfl own0.out rfl ?_)
    go_ret
    have hos : OwnS w.heap.size (w.alloc (.cells #[] 3)) w.heap.size [] := ⟨Nat.le_refl _, #[], heap_alloc_new _ _, rfl⟩
    first | exact ⟨w.heap.size, 0, rfl, Nat.le_refl _, hos, belA _ _⟩ | exact ⟨w.heap.size, ⟨0, rfl⟩, hos, belA _ _⟩
  | some ad =>
    have s1 : Hid ((zs.map (Value.int .i64)).length = zs.length * 1) := by simp [Hid]
    have c1 : Hid (∀ (j : Nat) (u : Value), (zs.map (Value.int .i64))[j]? = some u → (w.alloc (.cells #[] 3)).cell? (ad.add j) = some u) := rowAt_reads (hr.alloc (.cells #[] 3))
    go_enter Try.func62, Try.ntmps62
    go_wp2_with (at_builtin; refine wpList_append_own _ rfl (.tmp 3) (.tmp 4) 33 rfl w.heap.size 3 i0 (.int .i64 0) 1 8 Try.underlying33 hi hz0 hz1 hz2 rfl (by decide) _ _ _ rfl own0.out ad _ _ (zs.map (Value.int .i64)) rfl s1.out c1.out (ints_oneCell _ _) (by unfold maxLen; omega) (by omega) (by simp) ?_; intro v6 w6 hown6 hgrow6 hnil6; rw [Nat.zero_add, List.nil_append] at hown6; obtain ⟨g6, cp6, rfl⟩ := own_form hown6 (fun he => by have := (hnil6.1 he).1; cases this); obtain ⟨os6, len6, hcp6⟩ := OwnS.of_owns hown6; have HB6 : Hid (Below w.heap.size w w6) := grown_bel ((Below.refl _ _).alloc (Nat.le_refl _) _) hgrow6 (by simp) (fun k hk => (own0.out.lt k hk).1); clear hown6 hgrow6 hnil6)
    go_ret
    exact ⟨g6, cp6, rfl, hcp6, os6, HB6.out⟩

set_option maxHeartbeats 6400000 in
theorem lownP_any (b d : Int) (a : Option Addr) (cap : Nat) (ps : List Pr) (w : World) (hm : ps.length ≤ 1048576) (h3 : ∀ i, i < ps.length → (ps.getD i pr0).backs.length ≤ 1048576) (hr : PeersAt w a ps) :
    Calls Try.prog 27 #[.agg #[.int .i64 b, .int .i64 d, .slice a ps.length cap]] w fun e w' => ∃ vl L, e = .returned (.agg #[.int .i64 b, .int .i64 d, vl]) ∧ L.map (·.1) = ps ∧ ListP w.heap.size w' vl L ∧ Below w.heap.size w w' := by
  obtain ⟨i1, hi1, hy0, hy1, hy2⟩ := info_peer'
  have HR : Hid (PeersAt w a ps) := hr
  have H3 : Hid (∀ i, i < ps.length → (ps.getD i pr0).backs.length ≤ 1048576) := h3
  clear hr h3
  go_enter Try.func27, Try.ntmps27
  go_wp2_with fail
  go_loopw [12] (fun vi wr => ∃ (k : Nat) (vl : Value) (L : List (Pr × Value)), k ≤ ps.length ∧ vi = .int .i64 k ∧ Hid (IdSt w wr #[.int .i64 b, .int .i64 d, .slice a ps.length cap] 31 b d vl L) ∧ Hid (L.map (·.1) = ps.take k)) (fun vi _ => ps.length - (intOf vi).toNat)
  case atStart => exact ⟨0, _, [], Nat.zero_le _, rfl, idSt0 w _ _ b d, by simp [Hid]⟩
  case round =>
    obtain ⟨k, vl, L, hk, rfl, ST, HL⟩ := hrel
    obtain ⟨al, cl, rfl, _⟩ := ST.out.l.form
    by_cases hlt : k < ps.length
    · obtain ⟨bk, off, rfl⟩ := peersAt_form HR.out (by omega)
      have hLk : L.length = k := by have := congrArg List.length HL.out; simp at this; omega
      have HLK : Hid (L.length = k) := hLk
      clear hLk
      obtain ⟨c0, c1, c2, ab, cb, c3, hrb, _, _, hnil⟩ := (peersAt_cell (HR.out.keep ST.out.bel) (by omega)).2 k hlt
      have HT : Hid (ps.take (k + 1) = ps.take k ++ [ps.getD k pr0]) := by
        unfold Hid
        rw [List.take_succ_eq_append_getElem hlt]
        simp [List.getD_eq_getElem?_getD, hlt]
      have hn := H3.out k hlt
      generalize ps.getD k pr0 = p at c0 c1 c2 c3 hrb HT hn
      obtain ⟨x0, x1, x2, bs⟩ := p
      simp only at c0 c1 c2 c3 hrb hn
      have hsw : w.heap.size + 3 ≤ wr.heap.size := ST.out.lt
      have CO := lownG_any ab cb bs (wr.alloc (.cells #[.int .i64 x0, .int .i64 x1, .int .i64 x2, .slice ab bs.length cb] 94)) hn (hrb.alloc _) hnil
      go_wp2_with fail
      refine CO.mono ?_
      rintro e w2 ⟨g, cp, rfl, hcp, os, hw2⟩
      have HST : Hid (IdSt w (wr.alloc (.cells #[.int .i64 x0, .int .i64 x1, .int .i64 x2, .slice ab bs.length cb] 94)) #[.int .i64 b, .int .i64 d, .slice (some ⟨bk, off, none⟩) ps.length cap] 31 b d (.slice al L.length cl) L) := ST.out.keep (belA _ _)
      have hs2 : wr.heap.size < w2.heap.size := by have := hw2.size; simp at this; omega
      have HX2 : Hid (w2.heap[wr.heap.size]? = some (.cells #[.int .i64 x0, .int .i64 x1, .int .i64 x2, .slice ab bs.length cb] 94 (0, 0))) := (hw2.block _ (by simp)).trans (heap_alloc_new _ _)
      have hg := os.lo
      simp only [World.size_alloc] at hg
      have HA : ∀ v : Value, Hid (Away wr.heap.size (wr.alloc (.cells #[.int .i64 x0, .int .i64 x1, .int .i64 x2, .slice ab bs.length cb] 94)) (w2.setCell ⟨wr.heap.size, 3, none⟩ v)) := fun v => ((Away.refl _ _).keep hw2).set 3 v
      have x3 : w2.cell? ⟨wr.heap.size, 3, none⟩ = some (.slice ab bs.length cb) := (cell_of_row w2 _ _ _ _ _ HX2.out).trans rfl
      have f3 : w2.frozen? ⟨wr.heap.size, 3, none⟩ = false := frozen_of_row w2 _ _ _ _ HX2.out
      have HOS : Hid (OwnS (wr.heap.size + 1) w2 g bs) := by unfold Hid; simpa using os
      clear CO hw2 os c0 c1 c2 c3 hrb
      have HX3 : Hid ((w2.setCell ⟨wr.heap.size, 3, none⟩ (.slice (some ⟨g, 0, none⟩) bs.length cp)).heap[wr.heap.size]? = some (.cells #[.int .i64 x0, .int .i64 x1, .int .i64 x2, .slice (some ⟨g, 0, none⟩) bs.length cp] 94 (0, 0))) := heap_setCell_same _ _ 3 _ _ _ HX2.out
      have HI : Hid (IdSt w (w2.setCell ⟨wr.heap.size, 3, none⟩ (.slice (some ⟨g, 0, none⟩) bs.length cp)) #[.int .i64 b, .int .i64 d, .slice (some ⟨bk, off, none⟩) ps.length cap] 31 b d (.slice al L.length cl) L) := HST.out.away (HA _).out hsw ⟨_, heap_alloc_new _ _⟩ (fun he => by have := (ST.out.l.own.lt _ he).2; omega)
      have HO3 : Hid (OwnS (wr.heap.size + 1) (w2.setCell ⟨wr.heap.size, 3, none⟩ (.slice (some ⟨g, 0, none⟩) bs.length cp)) g bs) := HOS.out.of_block (heap_setCell_other _ _ _ _ (by simp; omega))
      have hs3 : (w2.setCell ⟨wr.heap.size, 3, none⟩ (.slice (some ⟨g, 0, none⟩) bs.length cp)).heap.size = w2.heap.size := by simp [World.setCell]
      have HS3 : Hid ((w2.setCell ⟨wr.heap.size, 3, none⟩ (.slice (some ⟨g, 0, none⟩) bs.length cp)).heap.size = w2.heap.size) := hs3
      clear hs3
      have z0 : w2.cell? ⟨wr.heap.size, 0, none⟩ = some (.int .i64 x0) := (cell_of_row w2 _ _ _ _ _ HX2.out).trans rfl
      have z1 : w2.cell? ⟨wr.heap.size, 1, none⟩ = some (.int .i64 x1) := (cell_of_row w2 _ _ _ _ _ HX2.out).trans rfl
      have z2 : w2.cell? ⟨wr.heap.size, 2, none⟩ = some (.int .i64 x2) := (cell_of_row w2 _ _ _ _ _ HX2.out).trans rfl
      have p2 : (w2.setCell ⟨wr.heap.size, 3, none⟩ (.slice (some ⟨g, 0, none⟩) bs.length cp)).cell? ⟨w.heap.size + 1 + 1, 2, none⟩ = some (.slice al L.length cl) := (cell_of_row (w2.setCell ⟨wr.heap.size, 3, none⟩ (.slice (some ⟨g, 0, none⟩) bs.length cp)) _ _ _ _ _ HI.out.p).trans rfl
      have p2' : w2.cell? ⟨w.heap.size + 1 + 1, 2, none⟩ = some (.slice al L.length cl) := by
        have h0 : ¬ w.heap.size + 1 + 1 = wr.heap.size := by omega
        rw [cell_far h0] at p2
        exact p2
      clear p2
      have hLl : L.length ≤ 1048576 := by have := HLK.out; omega
      have HV : Hid (ValOk (wr.alloc (.cells #[.int .i64 x0, .int .i64 x1, .int .i64 x2, .slice ab bs.length cb] 94)).heap.size ((w2.setCell ⟨wr.heap.size, 3, none⟩ (.slice (some ⟨g, 0, none⟩) bs.length cp)).alloc (.cells #[.int .i64 x0, .int .i64 x1, .int .i64 x2, .slice (some ⟨g, 0, none⟩) bs.length cp] 94)).heap.size ((w2.setCell ⟨wr.heap.size, 3, none⟩ (.slice (some ⟨g, 0, none⟩) bs.length cp)).alloc (.cells #[.int .i64 x0, .int .i64 x1, .int .i64 x2, .slice (some ⟨g, 0, none⟩) bs.length cp] 94)) (⟨x0, x1, x2, bs⟩, .slice (some ⟨g, 0, none⟩) bs.length cp)) :=
        ⟨_, cp, rfl, ⟨hcp, fun h => by cases h⟩, hn, .inr ⟨g, rfl, by have := HO3.out.lt; simp only [World.size_alloc]; omega, by have := HO3.out.keep (belA _ (.cells #[.int .i64 x0, .int .i64 x1, .int .i64 x2, .slice (some ⟨g, 0, none⟩) bs.length cp] 94)); simpa only [World.size_alloc] using this⟩⟩
      have HOW : Hid (((w2.setCell ⟨wr.heap.size, 3, none⟩ (.slice (some ⟨g, 0, none⟩) bs.length cp)).alloc (.cells #[.int .i64 x0, .int .i64 x1, .int .i64 x2, .slice (some ⟨g, 0, none⟩) bs.length cp] 94)).ownsRow (w.heap.size + 3) 94 4 (.slice al L.length cl) L.length (flatP L)) := HI.out.l.own.alloc _
      have HPP : Hid ((w2.setCell ⟨wr.heap.size, 3, none⟩ (.slice (some ⟨g, 0, none⟩) bs.length cp)).heap[w.heap.size + 1 + 1]? = some (.cells #[.int .i64 b, .int .i64 d, .slice al L.length cl] 31 (0, 0))) := HI.out.p
      have HZ : Hid (w.heap.size + 3 ≤ (w2.setCell ⟨wr.heap.size, 3, none⟩ (.slice (some ⟨g, 0, none⟩) bs.length cp)).heap.size ∧ w.heap.size + 3 ≤ ((w2.setCell ⟨wr.heap.size, 3, none⟩ (.slice (some ⟨g, 0, none⟩) bs.length cp)).alloc (.cells #[.int .i64 x0, .int .i64 x1, .int .i64 x2, .slice (some ⟨g, 0, none⟩) bs.length cp] 94)).heap.size ∧ w.heap.size + 1 + 1 < ((w2.setCell ⟨wr.heap.size, 3, none⟩ (.slice (some ⟨g, 0, none⟩) bs.length cp)).alloc (.cells #[.int .i64 x0, .int .i64 x1, .int .i64 x2, .slice (some ⟨g, 0, none⟩) bs.length cp] 94)).heap.size) := by
        have := HS3.out
        refine ⟨by omega, ?_, ?_⟩ <;> (simp only [World.size_alloc]; omega)
      have HNW : Hid (∀ (j : Nat) (u : Value), [Value.int .i64 x0, .int .i64 x1, .int .i64 x2, .slice (some ⟨g, 0, none⟩) bs.length cp][j]? = some u → ((w2.setCell ⟨wr.heap.size, 3, none⟩ (.slice (some ⟨g, 0, none⟩) bs.length cp)).alloc (.cells #[.int .i64 x0, .int .i64 x1, .int .i64 x2, .slice (some ⟨g, 0, none⟩) bs.length cp] 94)).cell? ((⟨w2.heap.size, 0, none⟩ : Addr).add j) = some u) := by
        have := cell_four_new (w2.setCell ⟨wr.heap.size, 3, none⟩ (.slice (some ⟨g, 0, none⟩) bs.length cp)) (.int .i64 x0) (.int .i64 x1) (.int .i64 x2) (.slice (some ⟨g, 0, none⟩) bs.length cp) 94
        rw [HS3.out] at this
        exact this
      clear HA
      go_wp2_with (at_builtin; refine wpList_append_own _ rfl (.tmp 21) (.tmp 23) 29 rfl (w.heap.size + 3) 94 i1 _ 4 48 Try.underlying29 hi1 hy0 hy1 hy2 rfl (by decide) _ _ _ rfl HOW.out ⟨w2.heap.size, 0, none⟩ 1 1 [.int .i64 x0, .int .i64 x1, .int .i64 x2, .slice (some ⟨g, 0, none⟩) bs.length cp] rfl rfl HNW.out (by simp [Value.oneCell']) (by unfold maxLen; omega) (by omega) HZ.out.2.1 ?_; intro v6 w6 hown6 hgrow6 _; obtain ⟨g6, cp6, rfl⟩ := Joins.ownsRow_form hown6 (by omega); have ST6 : Hid (IdSt w (w6.setCell ⟨w.heap.size + 1 + 1, 2, none⟩ (.slice (some ⟨g6, 0, none⟩) (L.length + 1) cp6)) #[.int .i64 b, .int .i64 d, .slice (some ⟨bk, off, none⟩) ps.length cap] 31 b d (.slice (some ⟨g6, 0, none⟩) (L.length + 1) cp6) (L ++ [(⟨x0, x1, x2, bs⟩, .slice (some ⟨g, 0, none⟩) bs.length cp)])) := IdSt.grow2 (e := (⟨x0, x1, x2, bs⟩, .slice (some ⟨g, 0, none⟩) bs.length cp)) HST.out (HI.out.keep (belA _ _)) hgrow6 hown6 HV.out; have HP6 : Hid (w6.heap[w.heap.size + 1 + 1]? = some (.cells #[.int .i64 b, .int .i64 d, .slice al L.length cl] 31 (0, 0))) := (hgrow6.block _ HZ.out.2.2 (fun he => by have := (HOW.out.lt _ he.symm).1; omega)).trans ((heap_alloc_old _ _ (by have := HZ.out.1; omega)).trans HPP.out); have p26 : w6.cell? ⟨w.heap.size + 1 + 1, 2, none⟩ = some (.slice al L.length cl) := (cell_of_row w6 _ _ _ _ _ HP6.out).trans rfl; have f26 : w6.frozen? ⟨w.heap.size + 1 + 1, 2, none⟩ = false := frozen_of_row w6 _ _ _ _ HP6.out; clear hown6 hgrow6)
      go_roundw
      case rel => exact ⟨k + 1, _, _, by omega, by go_num, ST6, by unfold Hid; rw [List.map_append, HL.out, HT.out]; rfl⟩
      case measure => simp [intOf]; omega
    · have p0 : wr.cell? ⟨w.heap.size + 1 + 1, 0, none⟩ = some (.int .i64 b) := (cell_of_row wr _ _ _ _ _ ST.out.p).trans rfl
      have p1 : wr.cell? ⟨w.heap.size + 1 + 1, 1, none⟩ = some (.int .i64 d) := (cell_of_row wr _ _ _ _ _ ST.out.p).trans rfl
      have p2 : wr.cell? ⟨w.heap.size + 1 + 1, 2, none⟩ = some (.slice al L.length cl) := (cell_of_row wr _ _ _ _ _ ST.out.p).trans rfl
      have r0 : wr.cell? ⟨w.heap.size + 1, 0, none⟩ = some (.int .i64 0) := (cell_of_row wr _ _ _ _ _ ST.out.r).trans rfl
      have r1 : wr.cell? ⟨w.heap.size + 1, 1, none⟩ = some (.int .i64 0) := (cell_of_row wr _ _ _ _ _ ST.out.r).trans rfl
      have r2 : wr.cell? ⟨w.heap.size + 1, 2, none⟩ = some (.slice none 0 0) := (cell_of_row wr _ _ _ _ _ ST.out.r).trans rfl
      have q0 : wr.frozen? ⟨w.heap.size + 1, 0, none⟩ = false := frozen_of_row wr _ _ _ _ ST.out.r
      have q1 : wr.frozen? ⟨w.heap.size + 1, 1, none⟩ = false := frozen_of_row wr _ _ _ _ ST.out.r
      have q2 : wr.frozen? ⟨w.heap.size + 1, 2, none⟩ = false := frozen_of_row wr _ _ _ _ ST.out.r
      go_wp2
      have HE : ∀ v : Value, Hid ((((wr.setCell ⟨w.heap.size + 1, 0, none⟩ (.int .i64 b)).setCell ⟨w.heap.size + 1, 1, none⟩ (.int .i64 d)).setCell ⟨w.heap.size + 1, 2, none⟩ v).heap[w.heap.size + 1]? = some (.cells #[.int .i64 b, .int .i64 d, v] 31 (0, 0))) := fun v =>
        heap_setCell_same _ _ 2 _ _ _ (heap_setCell_same _ _ 1 _ _ _ (heap_setCell_same _ _ 0 _ _ _ ST.out.r))
      refine bodyPost_ret (results_cell_row Try.results27 _ _ (w.heap.size + 1) _ _ _ _ rfl (HE _).out Try.underlying31 rfl (by kernel_rfl)) rfl ⟨_, L, rfl, ?_, ?_, ?_⟩
      · have := HL.out
        rwa [List.take_of_length_le (by omega)] at this
      · refine (ListP.lower (B' := w.heap.size) (ST.out.l.blocks (w1 := (((wr.setCell ⟨w.heap.size + 1, 0, none⟩ (.int .i64 b)).setCell ⟨w.heap.size + 1, 1, none⟩ (.int .i64 d)).setCell ⟨w.heap.size + 1, 2, none⟩ (.slice al L.length cl))) (by simp [World.setCell]) (fun k hk _ => ?_)) (by omega))
        rw [heap_setCell_other _ _ _ _ (by simp; omega), heap_setCell_other _ _ _ _ (by simp; omega), heap_setCell_other _ _ _ _ (by simp; omega)]
      · exact ((ST.out.bel.setCell (p := ⟨w.heap.size + 1, 0, none⟩) (by simp) _).setCell (p := ⟨w.heap.size + 1, 1, none⟩) (by simp) _).setCell (p := ⟨w.heap.size + 1, 2, none⟩) (by simp) _
end Go.Proofs.Ytioiacmaijgdoaa
namespace Go.Proofs.Ytioiacmaijgdoaa
open Go.RowKit
set_option linter.unusedVariables false
theorem qq6 {w w4 wr : World} {b d b' d' : Int} {v v' : Value} (h : BxP w wr b d v) (x : BxP w4 wr b' d' v') : wr.cell? ⟨w.heap.size, 0, none⟩ = some (.int .i64 b) ∧ wr.cell? ⟨w.heap.size, 1, none⟩ = some (.int .i64 d) ∧ wr.cell? ⟨w.heap.size, 2, none⟩ = some v ∧ wr.cell? ⟨w4.heap.size, 0, none⟩ = some (.int .i64 b') ∧ wr.cell? ⟨w4.heap.size, 1, none⟩ = some (.int .i64 d') ∧ wr.cell? ⟨w4.heap.size, 2, none⟩ = some v' := ⟨h.c0, h.c1, h.c2, x.c0, x.c1, x.c2⟩
end Go.Proofs.Ytioiacmaijgdoaa
namespace Go.Proofs.Ytioiacmaijgdoaa
open Go.RowKit
set_option linter.unusedVariables false
theorem OwnP.point {B T : Nat} {w : World} {g : Nat} {L : List (Pr × Value)} (h : OwnP B T w g L) {i : Nat} (hi : i < L.length) (z : Int) :
    OwnP B T (w.setCell ⟨g, i * 4 + 2, none⟩ (.int .i64 z)) g (L.set i (⟨(L.getD i d0).1.id, (L.getD i d0).1.succ, z, (L.getD i d0).1.backs⟩, (L.getD i d0).2)) := by
  obtain ⟨cur, hc⟩ := h.blk
  have hb4 : ∀ k, ¬ k = g → (w.setCell ⟨g, i * 4 + 2, none⟩ (.int .i64 z)).heap[k]? = w.heap[k]? := fun k hk => heap_setCell_other _ _ _ _ (by simpa using hk)
  have hcell : ∀ j u, w.cell? ⟨g, j, none⟩ = some u → (w.setCell ⟨g, i * 4 + 2, none⟩ (.int .i64 z)).cell? ⟨g, j, none⟩ = some (if j = i * 4 + 2 then .int .i64 z else u) := fun j u hu => cell_set hu
  refine ⟨h.lo, h.hi, ⟨_, heap_setCell_same _ _ _ _ _ _ hc⟩, fun j hj => ?_, fun j hj => ?_, fun j k hjk hk => ?_⟩
  · rw [List.length_set] at hj
    rw [getD_set hj]
    have hcj := h.cel j hj
    have k0 := hcell _ _ hcj.c0
    have k1 := hcell _ _ hcj.c1
    have k2 := hcell _ _ hcj.c2
    have k3 := hcell _ _ hcj.c3
    rw [if_neg (by omega)] at k0 k1 k3
    by_cases hij : i = j
    · subst hij
      rw [if_pos rfl] at k2 ⊢
      exact ⟨k0, k1, k2, k3⟩
    · rw [if_neg (by omega)] at k2
      rw [if_neg hij]
      exact ⟨k0, k1, k2, k3⟩
  · rw [List.length_set] at hj
    rw [getD_set hj]
    have old : ∀ q, q < L.length → ValOk B T (w.setCell ⟨g, i * 4 + 2, none⟩ (.int .i64 z)) (L.getD q d0) := fun q hq => by
      obtain ⟨ab, cb, hv, hcb, hm, ho⟩ := h.val q hq
      refine ⟨ab, cb, hv, hcb, hm, ?_⟩
      rcases ho with ho | ⟨gb, ha, ht, os⟩
      · exact .inl ho
      · exact .inr ⟨gb, ha, ht, os.of_block (hb4 gb (os.ne_peer hc))⟩
    by_cases hij : i = j
    · rw [if_pos hij]; exact old i hi
    · rw [if_neg hij]; exact old j hj
  · rw [List.length_set] at hk
    rw [getD_set (by omega), getD_set hk]
    by_cases hij : i = j
    · rw [if_pos hij, if_neg (by omega)]
      subst hij
      exact h.sep i k hjk hk
    · rw [if_neg hij]
      by_cases hik : i = k
      · rw [if_pos hik]
        subst hik
        exact h.sep j i hjk hk
      · rw [if_neg hik]
        exact h.sep j k hjk hk
theorem OwnP.backs {B T : Nat} {w w1 : World} {g : Nat} {L : List (Pr × Value)} (h : OwnP B T w g L) (hT : T = w.heap.size) (hb : Below w.heap.size w w1) {i : Nat} (hi : i < L.length) {bs : List Int} {gb cb : Nat} (hm : bs.length ≤ 1048576) (hcb : bs.length ≤ cb) (os : OwnS w.heap.size w1 gb bs) :
    OwnP B w1.heap.size (w1.setCell ⟨g, i * 4 + 3, none⟩ (.slice (some ⟨gb, 0, none⟩) bs.length cb)) g (L.set i (⟨(L.getD i d0).1.id, (L.getD i d0).1.succ, (L.getD i d0).1.point, bs⟩, .slice (some ⟨gb, 0, none⟩) bs.length cb)) := by
  have hlt := h.lt
  have hslo := os.lo
  have h1 := (h.keep hb).wide (T' := w1.heap.size) (by have := hb.size; omega)
  obtain ⟨cur, hc⟩ := h1.blk
  have hBw : B ≤ w.heap.size := by have := h.lo; omega
  have hb4 : ∀ k, ¬ k = g → (w1.setCell ⟨g, i * 4 + 3, none⟩ (.slice (some ⟨gb, 0, none⟩) bs.length cb)).heap[k]? = w1.heap[k]? := fun k hk => heap_setCell_other _ _ _ _ (by simpa using hk)
  have hcell : ∀ j u, w1.cell? ⟨g, j, none⟩ = some u → (w1.setCell ⟨g, i * 4 + 3, none⟩ (.slice (some ⟨gb, 0, none⟩) bs.length cb)).cell? ⟨g, j, none⟩ = some (if j = i * 4 + 3 then .slice (some ⟨gb, 0, none⟩) bs.length cb else u) := fun j u hu => cell_set hu
  refine ⟨h.lo, h1.hi, ⟨_, heap_setCell_same _ _ _ _ _ _ hc⟩, fun j hj => ?_, fun j hj => ?_, fun j k hjk hk => ?_⟩
  · rw [List.length_set] at hj
    rw [getD_set hj]
    have hcj := h1.cel j hj
    have k0 := hcell _ _ hcj.c0
    have k1 := hcell _ _ hcj.c1
    have k2 := hcell _ _ hcj.c2
    have k3 := hcell _ _ hcj.c3
    rw [if_neg (by omega)] at k0 k1 k2
    by_cases hij : i = j
    · subst hij
      rw [if_pos rfl] at k3 ⊢
      exact ⟨k0, k1, k2, k3⟩
    · rw [if_neg (by omega)] at k3
      rw [if_neg hij]
      exact ⟨k0, k1, k2, k3⟩
  · rw [List.length_set] at hj
    rw [getD_set hj]
    by_cases hij : i = j
    · rw [if_pos hij]
      exact ⟨_, cb, rfl, ⟨hcb, fun h => by cases h⟩, hm, .inr ⟨gb, rfl, os.lt, (os.mono hBw).of_block (hb4 gb (by omega))⟩⟩
    · rw [if_neg hij]
      obtain ⟨ab, cb', hv, hc', hm', ho⟩ := h1.val j hj
      refine ⟨ab, cb', hv, hc', hm', ?_⟩
      rcases ho with ho | ⟨gj, ha, ht, osj⟩
      · exact .inl ho
      · exact .inr ⟨gj, ha, ht, osj.of_block (hb4 gj (osj.ne_peer hc))⟩
  · rw [List.length_set] at hk
    rw [getD_set (by omega), getD_set hk]
    have old : ∀ q, q < L.length → ¬ (L.getD q d0).1.backs = [] → ¬ (L.getD q d0).2.ownBlock = some gb := fun q hq hn he => by
      obtain ⟨ab, cb', hv, _, _, ho⟩ := h.val q hq
      rcases ho with ho | ⟨gq, ha, ht, _⟩
      · exact hn ho
      · rw [hv, ha] at he
        simp [Value.ownBlock] at he
        omega
    by_cases hij : i = j
    · rw [if_pos hij, if_neg (by omega)]
      intro _ hn he
      exact old k hk hn (by rw [← he]; rfl)
    · rw [if_neg hij]
      by_cases hik : i = k
      · rw [if_pos hik]
        intro hn _ he
        exact old j (by omega) hn (by rw [he]; rfl)
      · rw [if_neg hik]
        exact h.sep j k hjk hk
end Go.Proofs.Ytioiacmaijgdoaa
namespace Go.Proofs.Ytioiacmaijgdoaa
open Go.RowKit
set_option linter.unusedVariables false
def isRowD (d : TypeDesc) : Bool := match d with | .struct _ | .array _ _ => true | _ => false
theorem results_cell_tmp {fn : Func} {p q : Tmp} {ty : TypeId} (h : fn.results = #[.cell p ty, .tmp q]) (tmps : Array Value) (w : World) (g : Nat) (t : TypeId) (cs : Array Value) (fr : Nat × Nat) (d : TypeDesc) (u : Value)
    (hp : tmps.getD p undef = .pointer (some ⟨g, 0, none⟩)) (hq : tmps.getD q undef = u) (hg : w.heap[g]? = some (.cells cs t fr))
    (hu : Try.prog.underlying ty = some d) (hd : isRowD d = true) (hi : (Try.prog.info? ty).map (·.size) = some cs.size) :
    (results fn tmps).run Try.prog w = .ok (.tuple #[.agg cs, u]) w := by
  have hp' : tmps[p]?.getD undef = .pointer (some ⟨g, 0, none⟩) := by simpa using hp
  have hq' : tmps[q]?.getD undef = u := by simpa using hq
  have hl := run_loadVar_row w g t ty cs fr d hg hu (by cases d <;> first | rfl | (simp [isRowD] at hd)) hi
  simp [results, h, hp', hq', asAddr, hl]
def setF (f : Nat) (p : Pr) (z : Int) : Pr := if f = 0 then ⟨z, p.succ, p.point, p.backs⟩ else if f = 1 then ⟨p.id, z, p.point, p.backs⟩ else ⟨p.id, p.succ, z, p.backs⟩
theorem setF_backs (f : Nat) (p : Pr) (z : Int) : (setF f p z).backs = p.backs := by unfold setF; split <;> (try split) <;> rfl
/-- one number of a peer of one's own is written -/
theorem OwnP.num {B T : Nat} {w : World} {g : Nat} {L : List (Pr × Value)} (h : OwnP B T w g L) {i : Nat} (hi : i < L.length) (f : Nat) (hf : f < 3) (z : Int) :
    OwnP B T (w.setCell ⟨g, i * 4 + f, none⟩ (.int .i64 z)) g (L.set i (setF f (L.getD i d0).1 z, (L.getD i d0).2)) := by
  obtain ⟨cur, hc⟩ := h.blk
  have hb4 : ∀ k, ¬ k = g → (w.setCell ⟨g, i * 4 + f, none⟩ (.int .i64 z)).heap[k]? = w.heap[k]? := fun k hk => heap_setCell_other _ _ _ _ (by simpa using hk)
  have hcell : ∀ j u, w.cell? ⟨g, j, none⟩ = some u → (w.setCell ⟨g, i * 4 + f, none⟩ (.int .i64 z)).cell? ⟨g, j, none⟩ = some (if j = i * 4 + f then .int .i64 z else u) := fun j u hu => cell_set hu
  refine ⟨h.lo, h.hi, ⟨_, heap_setCell_same _ _ _ _ _ _ hc⟩, fun j hj => ?_, fun j hj => ?_, fun j k hjk hk => ?_⟩
  · rw [List.length_set] at hj
    rw [getD_set hj]
    have hcj := h.cel j hj
    have k0 := hcell _ _ hcj.c0
    have k1 := hcell _ _ hcj.c1
    have k2 := hcell _ _ hcj.c2
    have k3 := hcell _ _ hcj.c3
    rw [if_neg (by omega)] at k3
    by_cases hij : i = j
    · subst hij
      rw [if_pos rfl]
      unfold setF
      by_cases f0 : f = 0
      · subst f0
        rw [if_pos (by omega)] at k0
        rw [if_neg (by omega)] at k1 k2
        exact ⟨k0, k1, k2, k3⟩
      · by_cases f1 : f = 1
        · subst f1
          rw [if_pos (by omega)] at k1
          rw [if_neg (by omega)] at k0 k2
          exact ⟨k0, k1, k2, k3⟩
        · have f2 : f = 2 := by omega
          subst f2
          rw [if_pos (by omega)] at k2
          rw [if_neg (by omega)] at k0 k1
          exact ⟨k0, k1, k2, k3⟩
    · rw [if_neg hij]
      rw [if_neg (by omega)] at k0 k1 k2
      exact ⟨k0, k1, k2, k3⟩
  · rw [List.length_set] at hj
    rw [getD_set hj]
    have old : ∀ q, q < L.length → ValOk B T (w.setCell ⟨g, i * 4 + f, none⟩ (.int .i64 z)) (L.getD q d0) := fun q hq => by
      obtain ⟨ab, cb, hv, hcb, hm, ho⟩ := h.val q hq
      refine ⟨ab, cb, hv, hcb, hm, ?_⟩
      rcases ho with ho | ⟨gb, ha, ht, os⟩
      · exact .inl ho
      · exact .inr ⟨gb, ha, ht, os.of_block (hb4 gb (os.ne_peer hc))⟩
    by_cases hij : i = j
    · rw [if_pos hij]
      have := old i hi
      unfold ValOk at this ⊢
      simp only [setF_backs]
      exact this
    · rw [if_neg hij]; exact old j hj
  · rw [List.length_set] at hk
    rw [getD_set (by omega), getD_set hk]
    by_cases hij : i = j
    · rw [if_pos hij, if_neg (by omega)]
      subst hij
      simp only [setF_backs]
      exact h.sep i k hjk hk
    · rw [if_neg hij]
      by_cases hik : i = k
      · rw [if_pos hik]
        subst hik
        simp only [setF_backs]
        exact h.sep j i hjk hk
      · rw [if_neg hik]
        exact h.sep j k hjk hk
theorem getD_same {L : List (Pr × Value)} {k : Nat} {e : Pr × Value} (hk : k < L.length) : (L.set k e).getD k d0 = e := by rw [getD_set hk, if_pos rfl]
/-- three cells of a struct are written -/
def set3 (w : World) (g : Nat) (x y v : Value) : World := ((w.setCell ⟨g, 0, none⟩ x).setCell ⟨g, 1, none⟩ y).setCell ⟨g, 2, none⟩ v
theorem set3_row {w : World} {g : Nat} {a b c x y v : Value} {t : TypeId} (h : w.heap[g]? = some (.cells #[a, b, c] t (0, 0))) : (set3 w g x y v).heap[g]? = some (.cells #[x, y, v] t (0, 0)) :=
  heap_setCell_same _ _ 2 _ _ _ (heap_setCell_same _ _ 1 _ _ _ (heap_setCell_same _ _ 0 _ _ _ h))
theorem set3_block {w : World} {g k : Nat} {x y v : Value} (h : ¬ k = g) : (set3 w g x y v).heap[k]? = w.heap[k]? := by
  unfold set3
  rw [heap_setCell_other _ _ _ _ (by simpa using h), heap_setCell_other _ _ _ _ (by simpa using h), heap_setCell_other _ _ _ _ (by simpa using h)]
theorem set3_size {w : World} {g : Nat} {x y v : Value} : (set3 w g x y v).heap.size = w.heap.size := by simp [set3, World.setCell]
theorem set3_below {n : Nat} {w0 w : World} {g : Nat} {x y v : Value} (h : Below n w0 w) (hg : n ≤ g) : Below n w0 (set3 w g x y v) :=
  ((h.setCell (p := ⟨g, 0, none⟩) hg _).setCell (p := ⟨g, 1, none⟩) hg _).setCell (p := ⟨g, 2, none⟩) hg _
/-- the argument's box and the answer's box, of peers -/
structure RB (w wr : World) (S0 : Array Value) (T0 : TypeId) : Prop where
  bel : Below w.heap.size w wr
  lt : w.heap.size + 1 < wr.heap.size
  s : wr.heap[w.heap.size]? = some (.cells S0 T0 (0, 0))
  r : wr.heap[w.heap.size + 1]? = some (.cells #[.int .i64 0, .int .i64 0, .slice none 0 0] 31 (0, 0))
theorem RB.blocks {w wr w1 : World} {S0 : Array Value} {T0 : TypeId} (h : RB w wr S0 T0) (hb : Below w.heap.size w w1) (hs : wr.heap.size ≤ w1.heap.size) (hk : ∀ k, k ≤ w.heap.size + 1 → w1.heap[k]? = wr.heap[k]?) : RB w w1 S0 T0 :=
  ⟨hb, Nat.lt_of_lt_of_le h.lt hs, (hk _ (by omega)).trans h.s, (hk _ (by omega)).trans h.r⟩
theorem RB.keep {w wr w1 : World} {S0 : Array Value} {T0 : TypeId} (h : RB w wr S0 T0) (hb : Below wr.heap.size wr w1) : RB w w1 S0 T0 :=
  h.blocks (belt h.bel hb) hb.size (fun k hk => hb.block k (by have := h.lt; omega))
theorem rb0 (w : World) (S0 : Array Value) (T0 : TypeId) : RB w ((w.alloc (.cells S0 T0)).alloc (.cells #[.int .i64 0, .int .i64 0, .slice none 0 0] 31)) S0 T0 := by
  refine ⟨((Below.refl _ _).alloc (Nat.le_refl _) _).alloc (by simp) _, by simp, ?_, ?_⟩
  · rw [heap_alloc_old _ _ (by simp)]
    exact heap_alloc_new _ _
  · have := heap_alloc_new (w.alloc (.cells S0 T0)) (.cells #[.int .i64 0, .int .i64 0, .slice none 0 0] 31)
    simpa using this
theorem RB.cells {w wr : World} {S0 : Array Value} {T0 : TypeId} (h : RB w wr S0 T0) : wr.cell? ⟨w.heap.size + 1, 0, none⟩ = some (.int .i64 0) ∧ wr.cell? ⟨w.heap.size + 1, 1, none⟩ = some (.int .i64 0) ∧ wr.cell? ⟨w.heap.size + 1, 2, none⟩ = some (.slice none 0 0) ∧
    wr.frozen? ⟨w.heap.size + 1, 0, none⟩ = false ∧ wr.frozen? ⟨w.heap.size + 1, 1, none⟩ = false ∧ wr.frozen? ⟨w.heap.size + 1, 2, none⟩ = false :=
  ⟨(cell_of_row wr _ _ _ _ _ h.r).trans rfl, (cell_of_row wr _ _ _ _ _ h.r).trans rfl, (cell_of_row wr _ _ _ _ _ h.r).trans rfl, frozen_of_row wr _ _ _ _ h.r, frozen_of_row wr _ _ _ _ h.r, frozen_of_row wr _ _ _ _ h.r⟩
theorem RB.arg2 {w wr : World} {x y : Value} {T0 : TypeId} (h : RB w wr #[x, y] T0) : wr.cell? ⟨w.heap.size, 0, none⟩ = some x ∧ wr.cell? ⟨w.heap.size, 1, none⟩ = some y :=
  ⟨(cell_of_row wr _ _ _ _ _ h.s).trans rfl, (cell_of_row wr _ _ _ _ _ h.s).trans rfl⟩
theorem RB.arg3 {w wr : World} {x y z : Value} {T0 : TypeId} (h : RB w wr #[x, y, z] T0) : wr.cell? ⟨w.heap.size, 0, none⟩ = some x ∧ wr.cell? ⟨w.heap.size, 1, none⟩ = some y ∧ wr.cell? ⟨w.heap.size, 2, none⟩ = some z :=
  ⟨(cell_of_row wr _ _ _ _ _ h.s).trans rfl, (cell_of_row wr _ _ _ _ _ h.s).trans rfl, (cell_of_row wr _ _ _ _ _ h.s).trans rfl⟩

def idlOk (b d : Int) (zs : List Int) (n : Int) : Bool := ringB b d zs && inB n 0 3
theorem idealL_len (b d : Int) (zs : List Int) (n : Nat) : (idealL b d zs n).length = zs.length := by simp [idealL]
end Go.Proofs.Ytioiacmaijgdoaa
namespace Go.Proofs.Ytioiacmaijgdoaa
open Go.RowKit
set_option linter.unusedVariables false

set_option maxHeartbeats 1600000 in
theorem idsOf_any (q : Nat) (a : Option Addr) (cap : Nat) (ps : List Pr) (w : World) (hm : ps.length ≤ 1048576) (hq : q < w.heap.size) (c2 : w.cell? ⟨q, 2, none⟩ = some (.slice a ps.length cap)) (hr : PeersAt w a ps) :
    Calls Try.prog 64 #[.pointer (some ⟨q, 0, none⟩)] w fun e w' => e = .returned (.slice (some ⟨w.heap.size, 0, none⟩) ps.length ps.length) ∧ OwnZ w w' w.heap.size (idsP ps) := by
  have hmk := make_ints ps.length hm
  have hil := idsP_len ps
  have HR : Hid (PeersAt w a ps) := hr
  clear hr
  have hc20 : (w.alloc (.cells (zv (List.replicate ps.length 0)) 3)).cell? ⟨q, 2, none⟩ = some (.slice a ps.length cap) := (cell_alloc_old' _ hq trivial).trans c2
  go_enter Try.func64, Try.ntmps64
  go_wp2_with fail
  clear hmk
  have st0 : OwnZ w (w.alloc (.cells (zv (List.replicate ps.length 0)) 3)) w.heap.size (cop (idsP ps) 0) :=
    ⟨(Below.refl _ _).alloc (Nat.le_refl _) _, Nat.le_refl _, by rw [cop_none, hil]; exact heap_alloc_new _ _⟩
  go_loopw [16] (fun vi wr => ∃ k : Nat, k ≤ ps.length ∧ vi = .int .i64 k ∧ OwnZ w wr w.heap.size (cop (idsP ps) k)) (fun vi _ => ps.length - (intOf vi).toNat)
  case atStart => exact ⟨0, Nat.zero_le _, rfl, st0⟩
  case round =>
    obtain ⟨k, hk, rfl, st⟩ := hrel
    clear st0 hc20
    have hc2 : wr.cell? ⟨q, 2, none⟩ = some (.slice a ps.length cap) := (st.bel.cell (p := ⟨q, 2, none⟩) hq).trans c2
    by_cases hlt : k < ps.length
    · obtain ⟨bk, off, rfl⟩ := peersAt_form HR.out (by omega)
      obtain ⟨c0, _, _, _⟩ := (peersAt_cell (HR.out.keep st.bel) (by omega)).2 k hlt
      obtain ⟨r0, r1⟩ := st.at k (by rw [cop_len (by omega)]; omega)
      have st2 := st.put k ((idsP ps).getD k 0)
      rw [cop_set (by omega)] at st2
      rw [← idsP_get] at c0
      clear st
      generalize (idsP ps).getD k 0 = x0 at c0 st2
      generalize (cop (idsP ps) k).getD k 0 = y at r0
      go_wp2
      go_roundw
      case rel => exact ⟨k + 1, by omega, by go_num, st2⟩
      case measure => simp [intOf]; omega
    · have hkl : k = (idsP ps).length := by omega
      rw [hkl, cop_all] at st
      go_wp2
      go_ret
      exact ⟨rfl, st⟩

def bokB (zs bs : List Int) : Bool := decide (bs.length ≤ 3) && decide (∀ i, i < bs.length → memI zs (bs.getD i 0) = true)
theorem bokB_yes {zs bs : List Int} (h3 : bs.length ≤ 3) (h : ∀ i, i < bs.length → memI zs (bs.getD i 0) = true) : bokB zs bs = true := by
  unfold bokB; rw [decide_eq_true h3, decide_eq_true h]; rfl
theorem bokB_no {zs bs : List Int} {k : Nat} (hk : k < bs.length) (h : memI zs (bs.getD k 0) = false) : bokB zs bs = false := by
  unfold bokB
  rw [decide_eq_false (p := ∀ i, i < bs.length → memI zs (bs.getD i 0) = true) (fun g => by rw [g k hk] at h; cases h), Bool.and_false]
set_option maxHeartbeats 1600000 in
theorem areBacks_any (a ab : Option Addr) (cap cb : Nat) (zs bs : List Int) (w : World) (hm : zs.length ≤ maxLen) (hmb : bs.length ≤ maxLen) (hr : RowAt w a zs) (hrb : RowAt w ab bs) :
    Calls Try.prog 88 #[.slice a zs.length cap, .slice ab bs.length cb] w fun e w' => e = .returned (.bool (bokB zs bs)) ∧ w' = w := by
  have HR : Hid (RowAt w a zs) := hr
  have HRB : Hid (RowAt w ab bs) := hrb
  have HM : Hid (zs.length ≤ maxLen) := hm
  clear hr hrb hm
  unfold maxLen at hmb
  by_cases h3 : bs.length ≤ 3
  · go_enter Try.func88, Try.ntmps88
    go_wp2_with fail
    go_loop [12] (fun v => ∃ j : Nat, j ≤ bs.length ∧ v = .int .i64 j ∧ Hid (∀ i, i < j → memI zs (bs.getD i 0) = true)) (fun v => bs.length - (intOf v).toNat)
    case atStart => exact ⟨0, Nat.zero_le _, rfl, fun i hi => by omega⟩
    case round =>
      obtain ⟨j, hj, rfl, HT⟩ := hrel
      by_cases hjl : j < bs.length
      · obtain ⟨bb, ob, rfl⟩ := rowAt_form HRB.out (by omega)
        have hcb := (rowAt_cell HRB.out (by omega)).2 j hjl
        have CB := isMember_any a cap zs (bs.getD j 0) w HM.out HR.out
        cases h5 : memI zs (bs.getD j 0)
        · rw [h5] at CB
          have hv : Hid (bokB zs bs = false) := bokB_no hjl h5
          clear h5
          generalize bs.getD j 0 = z at hcb CB
          go_wp2_with fail
          refine CB.mono ?_
          rintro e w7 ⟨rfl, hw7⟩
          subst hw7
          go_wp2
          go_ret
          exact ⟨ret_bool hv.out.symm, rfl⟩
        · rw [h5] at CB
          have HT2 : Hid (∀ i, i < j + 1 → memI zs (bs.getD i 0) = true) := fun i hi => by
            by_cases he : i = j
            · subst he; exact h5
            · exact HT.out i (by omega)
          clear h5
          generalize bs.getD j 0 = z at hcb CB
          go_wp2_with fail
          refine CB.mono ?_
          rintro e w7 ⟨rfl, hw7⟩
          subst hw7
          go_wp2
          go_round
          case rel => exact ⟨j + 1, by omega, by go_num, HT2⟩
          case measure => simp [intOf]; omega
      · have hv : Hid (bokB zs bs = true) := bokB_yes h3 (fun i hi => HT.out i (by omega))
        go_wp2
        go_ret
        exact ⟨ret_bool hv.out.symm, rfl⟩
  · have hv : bokB zs bs = false := by unfold bokB; rw [decide_eq_false h3]; rfl
    rw [hv]
    go_enter Try.func88, Try.ntmps88
    go_wp2
    go_ret
    exact ⟨rfl, rfl⟩

def prI (zs : List Int) (p : Pr) : Bool := decide (p.succ = nxtI zs p.id) && memI zs p.point && bokB zs p.backs
theorem prI_eq {b d : Int} {zs : List Int} (R : Ring b d zs) (p : Pr) : prI zs p = prB zs p := by
  unfold prI prB bokB
  rw [mem_has R, Bool.and_assoc, Bool.and_assoc, Bool.and_assoc]
  have e : decide (∀ i, i < p.backs.length → memI zs (p.backs.getD i 0) = true) = decide (∀ i, i < p.backs.length → hasB zs (p.backs.getD i 0) = true) := by
    congr 1
    simp only [mem_has R]
  rw [e]

set_option maxHeartbeats 3200000 in
theorem isPeer_any (a : Option Addr) (cap : Nat) (zs : List Int) (q o : Nat) (p : Pr) (w : World) (l1 : 1 ≤ zs.length) (l2 : zs.length ≤ 16) (hr : RowAt w a zs) (hq : q < w.heap.size) (hp : PeerAt w q o p) :
    Calls Try.prog 66 #[.slice a zs.length cap, .pointer (some ⟨q, o, none⟩)] w fun e w' => e = .returned (.bool (prI zs p)) ∧ Below w.heap.size w w' := by
  obtain ⟨c0, c1, c2, ab, cb, c3, hrb, hmb, _⟩ := hp
  have hmx : zs.length ≤ maxLen := by unfold maxLen; omega
  obtain ⟨x0, x1, x2, bs⟩ := p
  have z0 : ∀ k : Kin w.heap.size w, k.v.cell? ⟨q, o, none⟩ = some (.int .i64 x0) := kin_cell hq c0
  have z1 : ∀ k : Kin w.heap.size w, k.v.cell? ⟨q, o + 1, none⟩ = some (.int .i64 x1) := kin_cell hq c1
  have z2 : ∀ k : Kin w.heap.size w, k.v.cell? ⟨q, o + 2, none⟩ = some (.int .i64 x2) := kin_cell hq c2
  have z3 : ∀ k : Kin w.heap.size w, k.v.cell? ⟨q, o + 3, none⟩ = some (.slice ab bs.length cb) := kin_cell hq c3
  have CN : ∀ w1, Below w.heap.size w w1 → Calls Try.prog 87 #[.slice a zs.length cap, .int .i64 x0] w1 fun e w' => e = .returned (.int .i64 (nxtI zs x0)) ∧ w' = w1 := fun w1 h => nextIn_any a cap zs x0 w1 l1 l2 (hr.keep h)
  have CH : ∀ w1, Below w.heap.size w w1 → Calls Try.prog 80 #[.slice a zs.length cap, .int .i64 x2] w1 fun e w' => e = .returned (.bool (memI zs x2)) ∧ w' = w1 := fun w1 h => isMember_any a cap zs x2 w1 hmx (hr.keep h)
  have CB : ∀ w1, Below w.heap.size w w1 → Calls Try.prog 88 #[.slice a zs.length cap, .slice ab bs.length cb] w1 fun e w' => e = .returned (.bool (bokB zs bs)) ∧ w' = w1 := fun w1 h => areBacks_any a ab cap cb zs bs w1 hmx hmb (hr.keep h) (hrb.keep h)
  have hv : prI zs ⟨x0, x1, x2, bs⟩ = (decide (x1 = nxtI zs x0) && memI zs x2 && bokB zs bs) := rfl
  rw [hv]
  clear hv c0 c1 c2 c3 hrb hmb hr hmx
  generalize nxtI zs x0 = nx at *
  generalize memI zs x2 = mx at *
  generalize bokB zs bs = bx at *
  by_cases h1 : x1 = nx
  · have e1 : (x1 == nx) = true := beq_iff_eq.2 h1
    rw [decide_eq_true h1]
    clear h1
    cases mx
    · go_enter Try.func66, Try.ntmps66
      go_wp2
      refine region_kin w.heap.size (by kernel_rfl) (by kernel_rfl) (fun hne => ?_)
      repeat (go_big_quiet_step (first | (go_at_call 87; exact kin_same (CN _ (Kin.bel _))) | (go_at_call 80; exact kin_same (CH _ (Kin.bel _))) | (go_at_call 88; exact kin_same (CB _ (Kin.bel _)))))
      refine wpQuiet_nil ?_
      intro w5 hw'
      obtain ⟨⟨w6, hw5⟩, hw''⟩ := hw'
      obtain rfl : w5 = w6 := hw''
      clear z0 z1 z2 z3 hne
      go_wp2
      go_ret
      exact ⟨rfl, hw5⟩
    · go_enter Try.func66, Try.ntmps66
      go_wp2
      refine region_kin w.heap.size (by kernel_rfl) (by kernel_rfl) (fun hne => ?_)
      repeat (go_big_quiet_step (first | (go_at_call 87; exact kin_same (CN _ (Kin.bel _))) | (go_at_call 80; exact kin_same (CH _ (Kin.bel _))) | (go_at_call 88; exact kin_same (CB _ (Kin.bel _)))))
      refine wpQuiet_nil ?_
      intro w5 hw'
      obtain ⟨⟨w6, hw5⟩, hw''⟩ := hw'
      obtain rfl : w5 = w6 := hw''
      clear z0 z1 z2 z3 hne
      go_wp2
      go_ret
      exact ⟨ret_bool (by simp), hw5⟩
  · have e1 : (x1 == nx) = false := by simp only [beq_eq_false_iff_ne, ne_eq]; exact h1
    rw [decide_eq_false h1]
    clear h1
    go_enter Try.func66, Try.ntmps66
    go_wp2
    refine region_kin w.heap.size (by kernel_rfl) (by kernel_rfl) (fun hne => ?_)
    repeat (go_big_quiet_step (first | (go_at_call 87; exact kin_same (CN _ (Kin.bel _))) | (go_at_call 80; exact kin_same (CH _ (Kin.bel _))) | (go_at_call 88; exact kin_same (CB _ (Kin.bel _)))))
    refine wpQuiet_nil ?_
    intro w5 hw'
    obtain ⟨⟨w6, hw5⟩, hw''⟩ := hw'
    obtain rfl : w5 = w6 := hw''
    clear z0 z1 z2 z3 hne
    go_wp2
    go_ret
    exact ⟨ret_bool (by simp), hw5⟩
end Go.Proofs.Ytioiacmaijgdoaa
namespace Go.Proofs.Ytioiacmaijgdoaa
open Go.RowKit
set_option linter.unusedVariables false

set_option maxHeartbeats 3200000 in
theorem GoodPeers_any (b d : Int) (a : Option Addr) (cap : Nat) (ps : List Pr) (w : World) (hm : ps.length ≤ 1048576) (hr : PeersAt w a ps) :
    Calls Try.prog 30 #[.agg #[.int .i64 b, .int .i64 d, .slice a ps.length cap]] w fun e w' => e = .returned (.bool (goodP b d ps)) ∧ Below w.heap.size w w' := by
  have hil := idsP_len ps
  have hr1 := hr.alloc (.cells #[.int .i64 b, .int .i64 d, .slice a ps.length cap] 31)
  by_cases hbig : 16 < ps.length
  · have hv : goodP b d ps = false := by unfold goodP; rw [ringB_len (by omega)]; rfl
    rw [hv]
    go_enter Try.func30, Try.ntmps30
    go_wp2
    go_ret
    exact ⟨rfl, (Below.refl _ _).alloc (Nat.le_refl _) _⟩
  · have l16 : ps.length ≤ 16 := by omega
    have CI := idsOf_any w.heap.size a cap ps (w.alloc (.cells #[.int .i64 b, .int .i64 d, .slice a ps.length cap] 31)) hm (by simp) (by go_simp) hr1
    have HR : Hid (PeersAt w a ps) := hr
    clear hr hr1
    cases hg : ringB b d (idsP ps)
    · have hv : Hid (goodP b d ps = false) := by unfold Hid goodP; rw [hg]; rfl
      go_enter Try.func30, Try.ntmps30
      go_wp2_with fail
      refine CI.mono ?_
      rintro e w1 ⟨rfl, ow1⟩
      clear CI
      have BX1 : Hid (BxP w w1 b d (.slice a ps.length cap)) := bxP1 ow1.bel (by simp)
      have HI1 : Hid (RowAt w1 (some ⟨w.heap.size + 1, 0, none⟩) (idsP ps)) := by have := rowAt_of_row ow1.row; simp only [World.size_alloc] at this; exact this
      have CR := GoodRing_any b d (some ⟨w.heap.size + 1, 0, none⟩) ps.length (idsP ps) w1 (by unfold maxLen; omega) HI1.out
      rw [hg, hil] at CR
      obtain ⟨_, _, q0, q1, q2⟩ := BX1.out
      clear ow1
      go_wp2_with fail
      refine CR.mono ?_
      rintro e w2 ⟨rfl, hw2⟩
      go_wp2
      go_ret
      exact ⟨ret_bool hv.out.symm, belt BX1.out.bel hw2⟩
    · have R := ringB_true hg
      have l1 := R.l1
      rw [hil] at l1
      have RR : Hid (Ring b d (idsP ps)) := R
      have HG : Hid (ringB b d (idsP ps) = true) := hg
      have hg1 := hg
      clear R hg
      go_enter Try.func30, Try.ntmps30
      go_wp2_with fail
      refine CI.mono ?_
      rintro e w1 ⟨rfl, ow1⟩
      clear CI
      have BX1 : Hid (BxP w w1 b d (.slice a ps.length cap)) := bxP1 ow1.bel (by simp)
      have HI1 : Hid (RowAt w1 (some ⟨w.heap.size + 1, 0, none⟩) (idsP ps)) := by have := rowAt_of_row ow1.row; simp only [World.size_alloc] at this; exact this
      have CR := GoodRing_any b d (some ⟨w.heap.size + 1, 0, none⟩) ps.length (idsP ps) w1 (by unfold maxLen; omega) HI1.out
      rw [hg1, hil] at CR
      obtain ⟨_, _, q0, q1, q2⟩ := BX1.out
      clear ow1 hg1
      go_wp2_with fail
      refine CR.mono ?_
      rintro e w2 ⟨rfl, hw2⟩
      clear CR q0 q1 q2
      have BX2 : Hid (BxP w w2 b d (.slice a ps.length cap)) := BX1.out.keep hw2
      have HI2 : Hid (RowAt w2 (some ⟨w.heap.size + 1, 0, none⟩) (idsP ps)) := HI1.out.keep hw2
      clear BX1 HI1 hw2
      obtain ⟨_, _, _, _, q2⟩ := BX2.out
      go_wp2_with fail
      go_loopw [18] (fun vi wr => ∃ (k : Nat), k ≤ ps.length ∧ vi = .int .i64 k ∧ Hid (BxP w wr b d (.slice a ps.length cap)) ∧ Hid (RowAt wr (some ⟨w.heap.size + 1, 0, none⟩) (idsP ps)) ∧ Hid (∀ i, i < k → prB (idsP ps) (ps.getD i pr0) = true)) (fun vi _ => ps.length - (intOf vi).toNat)
      case atStart => exact ⟨0, Nat.zero_le _, rfl, BX2, HI2, fun i hi => by omega⟩
      case round =>
        obtain ⟨k, hk, rfl, BX, HI, HS⟩ := hrel
        clear BX2 HI2 q2
        obtain ⟨_, qlt, _, _, q2⟩ := BX.out
        have HB : Hid (Below w.heap.size w wr) := BX.out.bel
        by_cases hlt : k < ps.length
        · obtain ⟨bk, off, rfl⟩ := peersAt_form HR.out (by omega)
          obtain ⟨hbk, hpk⟩ := peersAt_cell (HR.out.keep HB.out) (by omega)
          have C := isPeer_any (some ⟨w.heap.size + 1, 0, none⟩) ps.length (idsP ps) bk (off + k * 4) (ps.getD k pr0) wr (by omega) (by omega) HI.out hbk (hpk k hlt)
          rw [prI_eq RR.out, hil] at C
          clear hpk
          cases hp : prB (idsP ps) (ps.getD k pr0)
          · rw [hp] at C
            have hv : Hid (goodP b d ps = false) := goodP_no hlt (by rw [hp]; simp)
            clear hp
            go_wp2_with fail
            refine C.mono ?_
            rintro e w3 ⟨rfl, hw3⟩
            go_wp2
            go_ret
            exact ⟨ret_bool hv.out.symm, belt HB.out hw3⟩
          · rw [hp] at C
            have HS2 : Hid (∀ i, i < k + 1 → prB (idsP ps) (ps.getD i pr0) = true) := fun i hi => by
              by_cases he : i = k
              · subst he; exact hp
              · exact HS.out i (by omega)
            clear hp
            go_wp2_with fail
            refine C.mono ?_
            rintro e w3 ⟨rfl, hw3⟩
            have BX3 : Hid (BxP w w3 b d (.slice (some ⟨bk, off, none⟩) ps.length cap)) := BX.out.keep hw3
            have HI3 : Hid (RowAt w3 (some ⟨w.heap.size + 1, 0, none⟩) (idsP ps)) := HI.out.keep hw3
            go_wp2
            go_roundw
            case rel => exact ⟨k + 1, by omega, by go_num, BX3, HI3, HS2⟩
            case measure => simp [intOf]; omega
        · have hv : Hid (goodP b d ps = true) := goodP_yes HG.out (fun i hi => HS.out i (by omega))
          go_wp2
          go_ret
          exact ⟨ret_bool hv.out.symm, HB.out⟩
end Go.Proofs.Ytioiacmaijgdoaa
namespace Go.Proofs.Ytioiacmaijgdoaa
open Go.RowKit
set_option linter.unusedVariables false

/-- the box of peers that came in, where blocks beyond it turn -/
theorem BxP.away {w wr w1 : World} {b d : Int} {v : Value} (h : BxP w wr b d v) (hb : Below w.heap.size w w1) (hs : wr.heap.size ≤ w1.heap.size) (hk : w1.heap[w.heap.size]? = wr.heap[w.heap.size]?) : BxP w w1 b d v :=
  ⟨hb, Nat.lt_of_lt_of_le h.lt hs, (World.cell?_of_block (a := ⟨w.heap.size, 0, none⟩) hk).trans h.c0, (World.cell?_of_block (a := ⟨w.heap.size, 1, none⟩) hk).trans h.c1, (World.cell?_of_block (a := ⟨w.heap.size, 2, none⟩) hk).trans h.c2⟩
theorem BxP.only {w wr w1 : World} {b d : Int} {v : Value} {g : Nat} (h : BxP w wr b d v) (ho : Only g wr w1) (hg : w.heap.size < g) : BxP w w1 b d v :=
  h.away (ho.below h.bel (by omega)) (by rw [ho.size]; exact Nat.le_refl _) (ho.block _ (by omega))
theorem map_len {L : List (Pr × Value)} {ps : List Pr} (h : L.map (·.1) = ps) : L.length = ps.length := by rw [← h, List.length_map]
end Go.Proofs.Ytioiacmaijgdoaa
namespace Go.Proofs.Ytioiacmaijgdoaa
open Go.RowKit
set_option linter.unusedVariables false
/-- a box that was laid in the world w is as it was -/
structure BxV (w wr : World) (cs : Array Value) (T : TypeId) : Prop where
  row : wr.heap[w.heap.size]? = some (.cells cs T (0, 0))
theorem BxV.lt {w wr : World} {cs : Array Value} {T : TypeId} (h : BxV w wr cs T) : w.heap.size < wr.heap.size := (Array.getElem?_eq_some_iff.1 h.row).1
theorem BxV.keep {w wr w1 : World} {cs : Array Value} {T : TypeId} (h : BxV w wr cs T) (hb : Below wr.heap.size wr w1) : BxV w w1 cs T :=
  ⟨(hb.block _ h.lt).trans h.row⟩
theorem bxV1 {w w1 : World} {cs : Array Value} {T : TypeId} (hb : Below (w.alloc (.cells cs T)).heap.size (w.alloc (.cells cs T)) w1) : BxV w w1 cs T := by
  have h0 : BxV w (w.alloc (.cells cs T)) cs T := ⟨heap_alloc_new _ _⟩
  exact h0.keep hb
theorem BxV.c2 {w wr : World} {x y : Value} {T : TypeId} (h : BxV w wr #[x, y] T) : wr.cell? ⟨w.heap.size, 0, none⟩ = some x ∧ wr.cell? ⟨w.heap.size, 1, none⟩ = some y :=
  ⟨(cell_of_row wr _ _ _ _ _ h.row).trans rfl, (cell_of_row wr _ _ _ _ _ h.row).trans rfl⟩
theorem BxV.c3 {w wr : World} {x y z : Value} {T : TypeId} (h : BxV w wr #[x, y, z] T) : wr.cell? ⟨w.heap.size, 0, none⟩ = some x ∧ wr.cell? ⟨w.heap.size, 1, none⟩ = some y ∧ wr.cell? ⟨w.heap.size, 2, none⟩ = some z :=
  ⟨(cell_of_row wr _ _ _ _ _ h.row).trans rfl, (cell_of_row wr _ _ _ _ _ h.row).trans rfl, (cell_of_row wr _ _ _ _ _ h.row).trans rfl⟩
theorem bxv6 {w w4 wr : World} {x y z x' y' z' : Value} {T T' : TypeId} (h : BxV w wr #[x, y, z] T) (k : BxV w4 wr #[x', y', z'] T') : wr.cell? ⟨w.heap.size, 0, none⟩ = some x ∧ wr.cell? ⟨w.heap.size, 1, none⟩ = some y ∧ wr.cell? ⟨w.heap.size, 2, none⟩ = some z ∧ wr.cell? ⟨w4.heap.size, 0, none⟩ = some x' ∧ wr.cell? ⟨w4.heap.size, 1, none⟩ = some y' ∧ wr.cell? ⟨w4.heap.size, 2, none⟩ = some z' :=
  ⟨h.c3.1, h.c3.2.1, h.c3.2.2, k.c3.1, k.c3.2.1, k.c3.2.2⟩
/-- nothing was changed but blocks from B to T; new ones may have come -/
structure Mk (B T : Nat) (w w' : World) : Prop where
  below : ∀ n w0, n ≤ B → Below n w0 w → Below n w0 w'
  block : ∀ k, k < w.heap.size → ¬ (B ≤ k ∧ k < T) → w'.heap[k]? = w.heap[k]?
  size : w.heap.size ≤ w'.heap.size
theorem Mk.refl (B T : Nat) (w : World) : Mk B T w w := ⟨fun _ _ _ h => h, fun _ _ _ => rfl, Nat.le_refl _⟩
theorem Mk.wide {B T B' T' : Nat} {w w' : World} (h : Mk B T w w') (hB : B' ≤ B) (hT : T ≤ T') : Mk B' T' w w' :=
  ⟨fun n w0 hn hb => h.below n w0 (by omega) hb, fun k hk hn => h.block k hk (by omega), h.size⟩
theorem mk_only {g : Nat} {w w' : World} (h : Only g w w') : Mk g (g + 1) w w' :=
  ⟨fun n w0 hn hb => hb.trans ⟨h.os, h.tape, h.output, by rw [h.size]; exact Nat.le_refl _, fun k hk => h.block k (by omega)⟩, fun k _ hk => h.block k (by omega), by rw [h.size]; exact Nat.le_refl _⟩
theorem BxV.mkd {w wr w1 : World} {cs : Array Value} {T0 : TypeId} {B T : Nat} (h : BxV w wr cs T0) (m : Mk B T wr w1) (hB : w.heap.size < B ∨ T ≤ w.heap.size) : BxV w w1 cs T0 :=
  ⟨(m.block _ h.lt (by omega)).trans h.row⟩
/-- a list of one's own among the blocks from B to T, or an empty one -/
def OwnLs (B T : Nat) (w : World) (a : Option Addr) (n : Nat) (l : List Int) : Prop := l.length = n ∧ (l = [] ∨ ∃ g, a = some ⟨g, 0, none⟩ ∧ g < T ∧ OwnS B w g l)
theorem OwnLs.rowAt {B T : Nat} {w : World} {a : Option Addr} {n : Nat} {l : List Int} (h : OwnLs B T w a n l) : RowAt w a l := by
  rcases h.2 with h | ⟨g, ha, _, os⟩
  · exact .inl h
  · rw [ha]; exact os.rowAt
theorem OwnLs.blocks {B T : Nat} {w w1 : World} {a : Option Addr} {n : Nat} {l : List Int} (h : OwnLs B T w a n l) (hb : ∀ k, B ≤ k → k < T → k < w.heap.size → w1.heap[k]? = w.heap[k]?) : OwnLs B T w1 a n l := by
  refine ⟨h.1, ?_⟩
  rcases h.2 with h | ⟨g, ha, ht, os⟩
  · exact .inl h
  · exact .inr ⟨g, ha, ht, os.of_block (hb g os.lo ht os.lt)⟩
theorem OwnLs.keep {B T : Nat} {w w1 : World} {a : Option Addr} {n : Nat} {l : List Int} (h : OwnLs B T w a n l) (hb : Below w.heap.size w w1) : OwnLs B T w1 a n l := h.blocks (fun k _ _ hk => hb.block k hk)
theorem OwnLs.mkd {B T B' T' : Nat} {w w1 : World} {a : Option Addr} {n : Nat} {l : List Int} (h : OwnLs B T w a n l) (m : Mk B' T' w w1) (hd : T ≤ B' ∨ T' ≤ B) : OwnLs B T w1 a n l := h.blocks (fun k h1 h2 hk => m.block k hk (by omega))
theorem toIntS_own (a : Option Addr) (cap : Nat) (zs : List Int) (w : World) (hm : zs.length ≤ 1048576) (hr : RowAt w a zs) :
    Calls Try.prog 48 #[.slice a zs.length cap] w fun e w' => ∃ a', e = .returned (.slice a' zs.length zs.length) ∧ OwnLs w.heap.size w'.heap.size w' a' zs.length zs ∧ Below w.heap.size w w' := by
  refine (toIntS_any a cap zs w hm hr).mono ?_
  rintro e w1 ⟨rfl, ow⟩
  exact ⟨_, rfl, ⟨rfl, .inr ⟨_, rfl, ow.lt, ow.owns⟩⟩, ow.bel⟩
theorem markIntS_own (B T cap : Nat) (a : Option Addr) (n : Nat) (zs : List Int) (k0 : Int) (w : World) (hm : n ≤ 1048576) (k1 : 0 ≤ k0) (k2 : k0 ≤ 1099511627776) (ho : OwnLs B T w a n zs) :
    Calls Try.prog 22 #[.slice a n cap, .int .i64 k0] w fun e w' => e = .returned (.int .i64 (k0 + (n : Int))) ∧ Mk B T w w' ∧ OwnLs B T w' a n (mrk k0 zs n) := by
  obtain ⟨rfl, ho⟩ := ho
  rcases ho with rfl | ⟨g, rfl, ht, os⟩
  · refine (markIntS_empty a cap k0 w).mono ?_
    rintro e w1 ⟨rfl, rfl⟩
    exact ⟨by simp, Mk.refl _ _ _, rfl, .inl rfl⟩
  · refine (markOwn_any B g cap zs k0 w hm k1 k2 os).mono ?_
    rintro e w1 ⟨rfl, os1, on⟩
    exact ⟨rfl, (mk_only on).wide os.lo (by omega), mrk_len (Nat.le_refl _), .inr ⟨g, rfl, ht, os1⟩⟩
theorem heldIntS_own (B T cap : Nat) (a : Option Addr) (n : Nat) (zs : List Int) (k0 : Int) (w : World) (hm : n ≤ 1048576) (hz : zs.length = n) (k1 : 0 ≤ k0) (k2 : k0 ≤ 1099511627776) (ho : OwnLs B T w a n (mrk k0 zs n)) :
    Calls Try.prog 23 #[.slice a n cap, .int .i64 k0] w fun e w' => e = .returned (.int .i64 (k0 + (n : Int))) ∧ Below w.heap.size w w' := by
  obtain ⟨h1, h2⟩ := mrk_at' (k0 := k0) hz
  have := heldIntS_any a cap (mrk k0 zs n) k0 w (by rw [h1]; exact hm) k1 k2 ho.rowAt h2
  rw [h1] at this
  refine this.mono ?_
  rintro e w1 ⟨rfl, rfl⟩
  exact ⟨rfl, Below.refl _ _⟩
theorem eqIntS_own (a a' : Option Addr) (cap cap' n : Nat) (l : List Int) (w : World) (hn : l.length = n) (hm : n ≤ 1048576) (hx : RowAt w a l) (hy : RowAt w a' l) :
    Calls Try.prog 21 #[.slice a n cap, .slice a' n cap'] w fun e w' => e = .returned (.bool true) ∧ Below w.heap.size w w' := by
  subst hn
  have := eqIntS_any a a' cap cap' l l w (by unfold maxLen; omega) hx hy
  have hs : sameB l l = true := decide_eq_true rfl
  rwa [hs] at this
/-- peers of one's own among the blocks from B to T, or none -/
def OwnPs (B T : Nat) (w : World) (a : Option Addr) (n : Nat) (ps : List Pr) : Prop := ps.length = n ∧ (ps = [] ∨ ∃ g L, a = some ⟨g, 0, none⟩ ∧ L.map (·.1) = ps ∧ OwnP B T w g L)
theorem OwnPs.peersAt {B T : Nat} {w : World} {a : Option Addr} {n : Nat} {ps : List Pr} (h : OwnPs B T w a n ps) : PeersAt w a ps := by
  rcases h.2 with h | ⟨g, L, ha, hL, os⟩
  · exact .inl h
  · rw [ha, ← hL]; exact os.peersAt
theorem OwnPs.blocks {B T : Nat} {w w1 : World} {a : Option Addr} {n : Nat} {ps : List Pr} (h : OwnPs B T w a n ps) (hb : ∀ k, B ≤ k → k < T → k < w.heap.size → w1.heap[k]? = w.heap[k]?) : OwnPs B T w1 a n ps := by
  refine ⟨h.1, ?_⟩
  rcases h.2 with h | ⟨g, L, ha, hL, os⟩
  · exact .inl h
  · exact .inr ⟨g, L, ha, hL, os.blocks hb⟩
theorem OwnPs.keep {B T : Nat} {w w1 : World} {a : Option Addr} {n : Nat} {ps : List Pr} (h : OwnPs B T w a n ps) (hb : Below w.heap.size w w1) : OwnPs B T w1 a n ps := h.blocks (fun k _ _ hk => hb.block k hk)
theorem OwnPs.mkd {B T B' T' : Nat} {w w1 : World} {a : Option Addr} {n : Nat} {ps : List Pr} (h : OwnPs B T w a n ps) (m : Mk B' T' w w1) (hd : T ≤ B' ∨ T' ≤ B) : OwnPs B T w1 a n ps := h.blocks (fun k h1 h2 hk => m.block k hk (by omega))
theorem toPeers_own (b d : Int) (a : Option Addr) (cap : Nat) (ps : List Pr) (w : World) (hb : ps.length + bsum ps ≤ 1048576) (hr : PeersAt w a ps) :
    Calls Try.prog 8 #[.agg #[.int .i64 b, .int .i64 d, .slice a ps.length cap]] w fun e w' => ∃ a', e = .returned (.agg #[.int .i64 b, .int .i64 d, .slice a' ps.length ps.length]) ∧ OwnPs w.heap.size w'.heap.size w' a' ps.length ps ∧ Below w.heap.size w w' := by
  refine (toPeers_any b d a cap ps w hb hr).mono ?_
  rintro e w1 ⟨g, rfl, ⟨L, hL, ow⟩, hw⟩
  exact ⟨_, rfl, ⟨rfl, .inr ⟨g, L, rfl, hL, ow⟩⟩, hw⟩
theorem markPeerS_empty (a : Option Addr) (cap : Nat) (k0 : Int) (w : World) :
    Calls Try.prog 37 #[.slice a 0 cap, .int .i64 k0] w fun e w' => e = .returned (.int .i64 k0) ∧ w' = w := by
  go_enter Try.func37, Try.ntmps37
  go_wp2
  go_loop [1, 5] (fun k i => i = .int .i64 0 ∧ k = .int .i64 k0) (fun _ i => 0)
  case atStart => exact ⟨rfl, rfl⟩
  case round =>
    obtain ⟨rfl, rfl⟩ := hrel
    go_wp2
    go_ret
    exact ⟨rfl, rfl⟩
theorem markPeers_empty (b d : Int) (a : Option Addr) (cap : Nat) (k0 : Int) (w : World) :
    Calls Try.prog 12 #[.agg #[.int .i64 b, .int .i64 d, .slice a 0 cap], .int .i64 k0] w fun e w' => e = .returned (.int .i64 k0) ∧ Below w.heap.size w w' := by
  go_enter Try.func12, Try.ntmps12
  go_wp2_with fail
  refine (markPeerS_empty a cap k0 _).mono ?_
  rintro e w1 ⟨rfl, rfl⟩
  go_wp2
  go_ret
  exact ⟨rfl, belA _ _⟩
theorem mk_below {B T : Nat} {w w' : World} (h : Below w.heap.size w w') (hB : B ≤ w.heap.size) : Mk B T w w' :=
  ⟨fun n w0 hn hb => hb.trans (h.mono (by omega)), fun k hk _ => h.block k hk, h.size⟩
theorem markPeers_own (b d : Int) (B T cap : Nat) (a : Option Addr) (n : Nat) (ps : List Pr) (k0 : Int) (w : World) (hb : ps.length + bsum ps ≤ 1048576) (k1 : 0 ≤ k0) (k2 : k0 ≤ 1000000000000) (hB : B ≤ w.heap.size) (hT : T ≤ w.heap.size) (h : OwnPs B T w a n ps) :
    Calls Try.prog 12 #[.agg #[.int .i64 b, .int .i64 d, .slice a n cap], .int .i64 k0] w fun e w' => e = .returned (.int .i64 (kAt k0 ps n)) ∧ Mk B T w w' ∧ OwnPs B T w' a n (mrkP k0 ps) := by
  obtain ⟨rfl, ho⟩ := h
  rcases ho with rfl | ⟨g, L, rfl, hL, os⟩
  · refine (markPeers_empty b d a cap k0 w).mono ?_
    rintro e w1 ⟨rfl, hw⟩
    exact ⟨by simp [kAt, bsum], mk_below hw hB, rfl, .inl rfl⟩
  · have hl : L.length = ps.length := map_len hL
    have C := markPeers_any b d B T g cap L k0 w (by rw [hL, hl]; exact hb) k1 k2 hT os
    rw [hL, hl] at C
    refine C.mono ?_
    rintro e w1 ⟨rfl, h1, h2, h3, L', hL', os'⟩
    exact ⟨rfl, ⟨h1, h2, h3⟩, mrkP_len _ _, .inr ⟨g, L', rfl, hL', os'⟩⟩
theorem heldPeers_own (b d : Int) (B T cap : Nat) (a : Option Addr) (n : Nat) (ps : List Pr) (k0 : Int) (w : World) (hb : ps.length + bsum ps ≤ 1048576) (hn : ps.length = n) (k1 : 0 ≤ k0) (k2 : k0 ≤ 1000000000000) (h : OwnPs B T w a n (mrkP k0 ps)) :
    Calls Try.prog 40 #[.agg #[.int .i64 b, .int .i64 d, .slice a n cap], .int .i64 k0] w fun e w' => e = .returned (.int .i64 (kAt k0 ps n)) ∧ Below w.heap.size w w' := by
  subst hn
  exact heldPeers_any b d a cap ps k0 w hb k1 k2 h.peersAt
theorem eqPeers_own (b d : Int) (a a' : Option Addr) (cap cap' n : Nat) (ps : List Pr) (w : World) (hn : ps.length = n) (hm : n ≤ 1048576) (hx : PeersAt w a ps) (hy : PeersAt w a' ps) :
    Calls Try.prog 11 #[.agg #[.int .i64 b, .int .i64 d, .slice a n cap], .agg #[.int .i64 b, .int .i64 d, .slice a' n cap']] w fun e w' => e = .returned (.bool true) ∧ Below w.heap.size w w' := by
  subst hn
  exact eqPeers_same b d a a' cap cap' ps w hm hx hy
theorem bne_self_bool (b : Bool) : (b != b) = false := by cases b <;> rfl
/-- a list that a call has answered in memory of its own -/
theorem ownLs_of {B T : Nat} {w : World} {g n : Nat} {l : List Int} (h : OwnS B w g l) (ht : w.heap.size ≤ T) (hn : l.length = n) : OwnLs B T w (some ⟨g, 0, none⟩) n l := ⟨hn, .inr ⟨g, rfl, Nat.lt_of_lt_of_le h.lt ht, h⟩⟩
theorem ownLs_nil (B T : Nat) (w : World) (a : Option Addr) : OwnLs B T w a 0 [] := ⟨rfl, .inl rfl⟩
theorem ownPs_nil (B T : Nat) (w : World) (a : Option Addr) : OwnPs B T w a 0 [] := ⟨rfl, .inl rfl⟩
end Go.Proofs.Ytioiacmaijgdoaa
namespace Go.Proofs.Ytioiacmaijgdoaa
open Go.RowKit
set_option linter.unusedVariables false
structure Mg where
  x0 : Int
  x1 : Int
  x2 : Int
  x3 : Int
  x4 : Int
  x5 : Int
  x6 : Int
  x7 : Int
  l : List Int
def mg0 : Mg := ⟨0, 0, 0, 0, 0, 0, 0, 0, []⟩
def mgV (m : Mg) (s : Value) : List Value := [.int .i64 m.x0, .int .i64 m.x1, .int .i64 m.x2, .int .i64 m.x3, .int .i64 m.x4, .int .i64 m.x5, .int .i64 m.x6, .int .i64 m.x7, s]
def mgK (k : Int) (m : Mg) : Mg := ⟨k, k + 1, k + 2, k + 3, k + 4, k + 5, k + 6, k + 7, mrk (k + 8) m.l m.l.length⟩
def tyMg : TyI where
  den := Mg
  wide := 9
  dflt := mg0
  rep := fun w cs m => ∃ a c, cs = mgV m (.slice a m.l.length c) ∧ RowAt w a m.l ∧ m.l.length ≤ maxLen ∧ m.l.length ≤ c ∧ (a = none → c = 0)
  own := fun B T w cs m F => ∃ a c, cs = mgV m (.slice a m.l.length c) ∧ m.l.length ≤ 1048576 ∧ m.l.length ≤ c ∧ (a = none → c = 0) ∧ ((m.l = [] ∧ F = []) ∨ ∃ g, a = some ⟨g, 0, none⟩ ∧ F = [g] ∧ g < T ∧ OwnS B w g m.l)
  mrk := fun k m => (mgK k m, k + 8 + (m.l.length : Int))
  cnt := fun m => 8 + m.l.length
  tot := fun m => m.l.length
  leaf := 8
  rep_len := fun h => by
    obtain ⟨a, c, rfl, _⟩ := h
    rfl
  rep_keep := fun h hb => by
    obtain ⟨a, c, e, hr, h2⟩ := h
    exact ⟨a, c, e, hr.keep hb, h2⟩
  own_len := fun h => by
    obtain ⟨a, c, rfl, _⟩ := h
    rfl
  own_blocks := fun h hb => by
    obtain ⟨a, c, e, h1, h2, h3, h4⟩ := h
    refine ⟨a, c, e, h1, h2, h3, ?_⟩
    rcases h4 with h4 | ⟨g, ha, hF, hT, os⟩
    · exact .inl h4
    · exact .inr ⟨g, ha, hF, hT, os.of_block (hb g (by rw [hF]; simp))⟩
  own_bd := fun h k hk => by
    obtain ⟨a, c, e, h1, h2, h3, h4⟩ := h
    rcases h4 with ⟨_, hF⟩ | ⟨g, ha, hF, hT, os⟩
    · rw [hF] at hk; simp at hk
    · rw [hF] at hk
      simp at hk
      subst hk
      exact ⟨os.lo, hT, os.lt⟩
  own_wide := fun h h1 h2 => by
    obtain ⟨a, c, e, k1, k2, k3, h4⟩ := h
    refine ⟨a, c, e, k1, k2, k3, ?_⟩
    rcases h4 with h4 | ⟨g, ha, hF, hT, os⟩
    · exact .inl h4
    · exact .inr ⟨g, ha, hF, by omega, os.mono h1⟩
  own_rep := fun h => by
    obtain ⟨a, c, e, h1, h2, h3, h4⟩ := h
    refine ⟨a, c, e, ?_, by unfold maxLen; omega, h2, h3⟩
    rcases h4 with ⟨h4, _⟩ | ⟨g, ha, hF, hT, os⟩
    · exact .inl h4
    · rw [ha]; exact os.rowAt
  mrk_end := fun k m => by
    show k + 8 + (m.l.length : Int) = k + ((8 + m.l.length : Nat) : Int)
    omega
  cnt_tot := fun m => by omega
structure Rp where
  x0 : Int
  x1 : Int
  x2 : Int
  x3 : Int
  b : Bool
def rp0 : Rp := ⟨0, 0, 0, 0, false⟩
def rpV (m : Rp) : List Value := [.int .i64 m.x0, .int .i64 m.x1, .int .i64 m.x2, .int .i64 m.x3, .bool m.b]
def rpK (k : Int) : Rp := ⟨k, k + 1, k + 2, k + 3, decide ((k + 4) % 3 = 0)⟩
def tyRp : TyI where
  den := Rp
  wide := 5
  dflt := rp0
  rep := fun _ cs m => cs = rpV m
  own := fun _ _ _ cs m F => cs = rpV m ∧ F = []
  mrk := fun k _ => (rpK k, k + 5)
  cnt := fun _ => 5
  tot := fun _ => 0
  leaf := 5
  rep_len := fun h => by rw [h]; rfl
  rep_keep := fun h _ => h
  own_len := fun h => by rw [h.1]; rfl
  own_blocks := fun h _ => h
  own_bd := fun h k hk => by rw [h.2] at hk; simp at hk
  own_wide := fun h _ _ => h
  own_rep := fun h => h.1
  mrk_end := fun _ _ => rfl
  cnt_tot := fun _ => by simp
/-- cells of one block that are written one behind the other -/
def setO (w : World) (g : Nat) : Nat → List Value → World
  | _, [] => w
  | o, v :: vs => setO (w.setCell ⟨g, o, none⟩ v) g (o + 1) vs
theorem setO_oth {g k : Nat} (hk : ¬ k = g) : ∀ (vs : List Value) (w : World) (o : Nat), (setO w g o vs).heap[k]? = w.heap[k]?
  | [], w, o => rfl
  | v :: vs, w, o => (setO_oth hk vs _ (o + 1)).trans (heap_setCell_other _ _ _ _ (by simpa using hk))
theorem setO_size {g : Nat} : ∀ (vs : List Value) (w : World) (o : Nat), (setO w g o vs).heap.size = w.heap.size
  | [], w, o => rfl
  | v :: vs, w, o => (setO_size vs _ (o + 1)).trans (by simp [World.setCell])
theorem setO_below {g n : Nat} {w0 : World} (hg : n ≤ g) : ∀ (vs : List Value) {w : World} (o : Nat), Below n w0 w → Below n w0 (setO w g o vs)
  | [], w, o, h => h
  | v :: vs, w, o, h => setO_below hg vs (o + 1) (h.setCell (p := ⟨g, o, none⟩) hg v)
theorem setO_row {g : Nat} {t : TypeId} : ∀ (vs : List Value) {w : World} (o : Nat), (∃ cur, w.heap[g]? = some (.cells cur t (0, 0))) → ∃ cur, (setO w g o vs).heap[g]? = some (.cells cur t (0, 0))
  | [], w, o, h => h
  | v :: vs, w, o, ⟨cur, h⟩ => setO_row vs (o + 1) ⟨_, heap_setCell_same _ _ _ _ _ _ h⟩
theorem setO_out {g j : Nat} {u : Value} : ∀ (vs : List Value) {w : World} (o : Nat), (j < o ∨ o + vs.length ≤ j) → w.cell? ⟨g, j, none⟩ = some u → (setO w g o vs).cell? ⟨g, j, none⟩ = some u
  | [], w, o, _, h => h
  | v :: vs, w, o, hj, h => by
    refine setO_out vs (o + 1) (by simp only [List.length_cons] at hj; omega) ?_
    rw [cell_set (j := o) (v := v) h, if_neg (by simp only [List.length_cons] at hj; omega)]
theorem setO_in {g : Nat} : ∀ (vs : List Value) {w : World} (o : Nat), (∀ j, j < vs.length → ∃ u, w.cell? ⟨g, o + j, none⟩ = some u) → CellsAt (setO w g o vs) g o vs
  | [], w, o, _ => fun j v h => by simp at h
  | v :: vs, w, o, hc => fun j u hj => by
    cases j with
    | zero =>
      simp at hj
      subst hj
      obtain ⟨u0, hu⟩ := hc 0 (by simp)
      have h1 := cell_set (j := o) (v := v) hu
      rw [Nat.add_zero, if_pos rfl] at h1
      exact setO_out vs (o + 1) (.inl (by omega)) h1
    | succ j =>
      have := setO_in vs (w := w.setCell ⟨g, o, none⟩ v) (o + 1) (fun q hq => by
        obtain ⟨u1, hu⟩ := hc (q + 1) (by simpa using hq)
        have h1 := cell_set (j := o) (v := v) hu
        rw [if_neg (by omega)] at h1
        exact ⟨u1, by rw [show o + 1 + q = o + (q + 1) from by omega]; exact h1⟩) j u (by simpa using hj)
      rw [show o + (j + 1) = o + 1 + j from by omega]
      exact this
/-- a slice of structs that reads as ms -/
def LsAt (e : TyI) (w : World) (a : Option Addr) (ms : List e.den) : Prop :=
  ms = [] ∨ ∃ bk off, a = some ⟨bk, off, none⟩ ∧ bk < w.heap.size ∧ ∀ i, i < ms.length → ∃ ci, CellsAt w bk (off + i * e.wide) ci ∧ e.rep w ci (ms.getD i e.dflt)
theorem LsAt.keep {e : TyI} {w w1 : World} {a : Option Addr} {ms : List e.den} (h : LsAt e w a ms) (hb : Below w.heap.size w w1) : LsAt e w1 a ms := by
  rcases h with h | ⟨bk, off, ha, hl, hc⟩
  · exact .inl h
  · refine .inr ⟨bk, off, ha, Nat.lt_of_lt_of_le hl hb.size, fun i hi => ?_⟩
    obtain ⟨ci, c1, c2⟩ := hc i hi
    exact ⟨ci, c1.block (hb.block bk hl), e.rep_keep c2 hb⟩
theorem LsAt.keepB {e : TyI} {w w1 : World} {a : Option Addr} {ms : List e.den} {B : Nat} (h : LsAt e w a ms) (hb : Below B w w1) (hB : w.heap.size ≤ B) : LsAt e w1 a ms := h.keep (hb.mono hB)
theorem lsAt_form {e : TyI} {w : World} {a : Option Addr} {ms : List e.den} (h : LsAt e w a ms) (hz : 0 < ms.length) : ∃ bk off, a = some ⟨bk, off, none⟩ := by
  rcases h with rfl | ⟨b', o', h, _⟩
  · simp at hz
  · exact ⟨b', o', h⟩
theorem lsAt_cell {e : TyI} {w : World} {bk off : Nat} {ms : List e.den} (h : LsAt e w (some ⟨bk, off, none⟩) ms) {i : Nat} (hi : i < ms.length) : bk < w.heap.size ∧ ∃ ci, CellsAt w bk (off + i * e.wide) ci ∧ e.rep w ci (ms.getD i e.dflt) := by
  rcases h with rfl | ⟨b', o', h, hl, hc⟩
  · simp at hi
  · simp at h; obtain ⟨rfl, rfl⟩ := h; exact ⟨hl, hc i hi⟩
/-- the nine cells of a message -/
theorem CellsAt.m9 {w : World} {b o : Nat} {m : Mg} {s : Value} (h : CellsAt w b o (mgV m s)) : w.cell? ⟨b, o, none⟩ = some (.int .i64 m.x0) ∧ w.cell? ⟨b, o + 1, none⟩ = some (.int .i64 m.x1) ∧ w.cell? ⟨b, o + 2, none⟩ = some (.int .i64 m.x2) ∧ w.cell? ⟨b, o + 3, none⟩ = some (.int .i64 m.x3) ∧ w.cell? ⟨b, o + 4, none⟩ = some (.int .i64 m.x4) ∧ w.cell? ⟨b, o + 5, none⟩ = some (.int .i64 m.x5) ∧ w.cell? ⟨b, o + 6, none⟩ = some (.int .i64 m.x6) ∧ w.cell? ⟨b, o + 7, none⟩ = some (.int .i64 m.x7) ∧ w.cell? ⟨b, o + 8, none⟩ = some s :=
  ⟨h 0 _ rfl, h 1 _ rfl, h 2 _ rfl, h 3 _ rfl, h 4 _ rfl, h 5 _ rfl, h 6 _ rfl, h 7 _ rfl, h 8 _ rfl⟩
theorem CellsAt.r5 {w : World} {b o : Nat} {m : Rp} (h : CellsAt w b o (rpV m)) : w.cell? ⟨b, o, none⟩ = some (.int .i64 m.x0) ∧ w.cell? ⟨b, o + 1, none⟩ = some (.int .i64 m.x1) ∧ w.cell? ⟨b, o + 2, none⟩ = some (.int .i64 m.x2) ∧ w.cell? ⟨b, o + 3, none⟩ = some (.int .i64 m.x3) ∧ w.cell? ⟨b, o + 4, none⟩ = some (.bool m.b) :=
  ⟨h 0 _ rfl, h 1 _ rfl, h 2 _ rfl, h 3 _ rfl, h 4 _ rfl⟩
/-- a slice of structs of one's own, or an empty one -/
def OwnEs (e : TyI) (t : TypeId) (B T : Nat) (w : World) (a : Option Addr) (n : Nat) (ms : List e.den) : Prop :=
  ms.length = n ∧ n ≤ 1048576 ∧ (ms = [] ∨ ∃ g F cap, a = some ⟨g, 0, none⟩ ∧ F.Nodup ∧ (tySlice t e).own B T w [.slice (some ⟨g, 0, none⟩) ms.length cap] ms F)
theorem OwnEs.at {e : TyI} {t : TypeId} {B T : Nat} {w : World} {a : Option Addr} {n : Nat} {ms : List e.den} (h : OwnEs e t B T w a n ms) : LsAt e w a ms := by
  obtain ⟨h1, h2, h3 | ⟨g, F, cap, ha, hn, ho⟩⟩ := h
  · exact .inl h3
  · obtain ⟨ad, cap', k0, k1, k2, k3, k4⟩ := (tySlice t e).own_rep ho
    simp at k0
    obtain ⟨rfl, rfl⟩ := k0
    rcases k4 with k4 | k4
    · exact .inl k4
    · rw [ha]; exact .inr k4
theorem OwnEs.blocks {e : TyI} {t : TypeId} {B T : Nat} {w w1 : World} {a : Option Addr} {n : Nat} {ms : List e.den} (h : OwnEs e t B T w a n ms) (hb : ∀ k, B ≤ k → k < T → k < w.heap.size → w1.heap[k]? = w.heap[k]?) : OwnEs e t B T w1 a n ms := by
  obtain ⟨h1, h2, h3 | ⟨g, F, cap, ha, hn, ho⟩⟩ := h
  · exact ⟨h1, h2, .inl h3⟩
  · exact ⟨h1, h2, .inr ⟨g, F, cap, ha, hn, (tySlice t e).own_blocks ho (fun k hk => by
      obtain ⟨q1, q2, q3⟩ := (tySlice t e).own_bd ho k hk
      exact hb k q1 q2 q3)⟩⟩
theorem OwnEs.keep {e : TyI} {t : TypeId} {B T : Nat} {w w1 : World} {a : Option Addr} {n : Nat} {ms : List e.den} (h : OwnEs e t B T w a n ms) (hb : Below w.heap.size w w1) : OwnEs e t B T w1 a n ms := h.blocks (fun k _ _ hk => hb.block k hk)
theorem OwnEs.mkd {e : TyI} {t : TypeId} {B T B' T' : Nat} {w w1 : World} {a : Option Addr} {n : Nat} {ms : List e.den} (h : OwnEs e t B T w a n ms) (m : Mk B' T' w w1) (hd : T ≤ B' ∨ T' ≤ B) : OwnEs e t B T w1 a n ms := h.blocks (fun k h1 h2 hk => m.block k hk (by omega))
theorem OwnEs.wide {e : TyI} {t : TypeId} {B T B' T' : Nat} {w : World} {a : Option Addr} {n : Nat} {ms : List e.den} (h : OwnEs e t B T w a n ms) (hB : B' ≤ B) (hT : T ≤ T') : OwnEs e t B' T' w a n ms := by
  obtain ⟨h1, h2, h3 | ⟨g, F, cap, ha, hn, ho⟩⟩ := h
  · exact ⟨h1, h2, .inl h3⟩
  · exact ⟨h1, h2, .inr ⟨g, F, cap, ha, hn, (tySlice t e).own_wide ho hB hT⟩⟩
theorem ownEs_nil (e : TyI) (t : TypeId) (B T : Nat) (w : World) (a : Option Addr) : OwnEs e t B T w a 0 [] := ⟨rfl, by omega, .inl rfl⟩
/-- one element is stored anew, with what it owns in blocks that are new -/
theorem own_put {t : TypeId} {e : TyI} {B : Nat} {w w1 : World} {g cap : Nat} {m : List e.den} {F : List Nat} (h : (tySlice t e).own B w.heap.size w [.slice (some ⟨g, 0, none⟩) m.length cap] m F) (hn : F.Nodup) (hb : Below w.heap.size w w1) {i : Nat} (hi : i < m.length)
    {c1 : List Value} {m1 : e.den} {F1 : List Nat} (ho : e.own w.heap.size w1.heap.size w1 c1 m1 F1) (hn1 : F1.Nodup) :
    ∃ F2, (tySlice t e).own B (setO w1 g (i * e.wide) c1).heap.size (setO w1 g (i * e.wide) c1) [.slice (some ⟨g, 0, none⟩) m.length cap] (List.set m i m1) F2 ∧ F2.Nodup := by
  have hk := (tySlice t e).own_keep h hb
  obtain ⟨ad, cap', h0, h1, h2, h3, h4⟩ := h
  simp at h0
  obtain ⟨rfl, rfl⟩ := h0
  rcases h4 with ⟨h4, _⟩ | ⟨g', cur, Fs, ha, hB, hT, hg, hl, hF, hc⟩
  · rw [h4] at hi; simp at hi
  · simp at ha
    subst ha
    subst hF
    have hiF : i < Fs.length := by omega
    have hnd := List.nodup_cons.1 hn
    have hpw := List.pairwise_flatten.1 hnd.2
    have hBT : B ≤ w.heap.size := by omega
    have hsz := hb.size
    have bd1 := fun k hk => e.own_bd ho k hk
    have hold : ∀ j, j < Fs.length → ∀ k ∈ Fs.getD j [], k < w.heap.size := fun j hj k hkj => by
      obtain ⟨cj, q1, q2⟩ := hc j (by omega)
      exact (e.own_bd q2 k hkj).2.1
    have hsl : (List.set m i m1).length = m.length := List.length_set
    have hgw1 : w1.heap[g]? = some (.cells cur t (0, 0)) := (hb.block g hT).trans hg
    obtain ⟨cur2, hcur2⟩ := setO_row c1 (i * e.wide) (w := w1) ⟨cur, hgw1⟩
    have hlen1 := e.own_len ho
    have exF : ∀ j, j < Fs.length → (Fs.set i F1).getD j [] = if i = j then F1 else Fs.getD j [] := fun j hj => by
      rw [List.getD_eq_getElem?_getD, List.getElem?_set]
      by_cases hij : i = j
      · subst hij; simp [hj]
      · rw [if_neg hij, if_neg hij, List.getD_eq_getElem?_getD]
    have exM : ∀ j, j < m.length → (List.set m i m1).getD j e.dflt = if i = j then m1 else m.getD j e.dflt := fun j hj => by
      rw [List.getD_eq_getElem?_getD, List.getElem?_set]
      by_cases hij : i = j
      · subst hij; simp [hj]
      · rw [if_neg hij, if_neg hij, List.getD_eq_getElem?_getD]
    have gE : ∀ j (hj : j < Fs.length), Fs.getD j [] = Fs[j] := fun j hj => by rw [List.getD_eq_getElem?_getD, List.getElem?_eq_getElem hj]; rfl
    have gS : ∀ j (hj : j < (Fs.set i F1).length), (Fs.set i F1)[j] = if i = j then F1 else Fs.getD j [] := fun j hj => by
      have := exF j (by simpa using hj)
      rw [List.getD_eq_getElem?_getD, List.getElem?_eq_getElem hj] at this
      exact this
    refine ⟨g :: (Fs.set i F1).flatten, ⟨_, cap, by rw [hsl], by rw [hsl]; exact h1, by rw [hsl]; exact h2, h3, .inr ⟨g, cur2, Fs.set i F1, rfl, hB, by rw [setO_size]; omega, hcur2, by rw [List.length_set, hsl]; exact hl, rfl, fun j hj => ?_⟩⟩, ?_⟩
    · rw [hsl] at hj
      rw [exF j (by omega), exM j hj]
      by_cases hij : i = j
      · subst hij
        rw [if_pos rfl, if_pos rfl]
        refine ⟨c1, setO_in c1 (i * e.wide) (fun q hq => ?_), ?_⟩
        · obtain ⟨ci, p1, p2⟩ := hc i hi
          have hci := e.own_len p2
          have hq2 : q < ci.length := by omega
          exact ⟨_, (World.cell?_of_block (w := w) (a := ⟨g, i * e.wide + q, none⟩) (hb.block g hT)).trans (p1 q ci[q] (List.getElem?_eq_getElem hq2))⟩
        · refine e.own_wide (e.own_blocks ho (fun k hk2 => setO_oth ?_ _ _ _)) hBT (by rw [setO_size]; exact Nat.le_refl _)
          have := (bd1 k hk2).1
          omega
      · rw [if_neg hij, if_neg hij]
        obtain ⟨cj, q1, q2⟩ := hc j hj
        have hlenj := e.own_len q2
        refine ⟨cj, fun r v hr => ?_, ?_⟩
        · have hrl : r < e.wide := by have := (List.getElem?_eq_some_iff.1 hr).1; omega
          refine setO_out c1 (i * e.wide) ?_ ((World.cell?_of_block (w := w) (a := ⟨g, j * e.wide + r, none⟩) (hb.block g hT)).trans (q1 r v hr))
          rw [hlen1]
          by_cases hlt : j < i
          · left
            have : (j + 1) * e.wide ≤ i * e.wide := Nat.mul_le_mul_right _ hlt
            rw [Nat.add_mul, Nat.one_mul] at this
            omega
          · right
            have : (i + 1) * e.wide ≤ j * e.wide := Nat.mul_le_mul_right _ (by omega)
            rw [Nat.add_mul, Nat.one_mul] at this
            omega
        · refine e.own_wide (e.own_blocks q2 (fun k hk2 => ?_)) (Nat.le_refl _) (by rw [setO_size]; exact hsz)
          have hkT := (e.own_bd q2 k hk2).2.1
          have hkg : ¬ k = g := fun he => hnd.1 (by rw [← he]; exact flat_mem (by omega) hk2)
          exact (setO_oth hkg _ _ _).trans (hb.block k hkT)
    · refine List.nodup_cons.2 ⟨fun hh => ?_, List.pairwise_flatten.2 ⟨fun l hl2 => ?_, List.pairwise_iff_getElem.2 (fun p q hp hq hpq x hx y hy hxy => ?_)⟩⟩
      · obtain ⟨l, hl1, hl2⟩ := List.mem_flatten.1 hh
        obtain ⟨j, hj, rfl⟩ := List.getElem_of_mem hl1
        rw [gS j hj] at hl2
        by_cases hij : i = j
        · rw [if_pos hij] at hl2
          have := (bd1 g hl2).1
          omega
        · rw [if_neg hij] at hl2
          exact hnd.1 (flat_mem (by simpa using hj) hl2)
      · obtain ⟨j, hj, rfl⟩ := List.getElem_of_mem hl2
        rw [gS j hj]
        by_cases hij : i = j
        · rw [if_pos hij]; exact hn1
        · rw [if_neg hij, gE j (by simpa using hj)]
          exact hpw.1 _ (List.getElem_mem (by simpa using hj))
      · subst hxy
        have hp' : p < Fs.length := by simpa using hp
        have hq' : q < Fs.length := by simpa using hq
        rw [gS p hp] at hx
        rw [gS q hq] at hy
        by_cases hip : i = p
        · rw [if_pos hip] at hx
          rw [if_neg (by omega)] at hy
          have := (bd1 x hx).1
          have := hold q hq' x hy
          omega
        · rw [if_neg hip] at hx
          by_cases hiq : i = q
          · rw [if_pos hiq] at hy
            have := (bd1 x hy).1
            have := hold p hp' x hx
            omega
          · rw [if_neg hiq] at hy
            rw [gE p hp'] at hx
            rw [gE q hq'] at hy
            exact List.pairwise_iff_getElem.1 hpw.2 p q hp' hq' hpq x hx x hy rfl
end Go.Proofs.Ytioiacmaijgdoaa
namespace Go.Proofs.Ytioiacmaijgdoaa.Wire
open Go.RowKit
set_option linter.unusedVariables false
/-- block g holds the list l at its head, and it lies at or beyond B -/
structure OwnS (B : Nat) (w : World) (g : Nat) (l : List Int) : Prop where
  lo : B ≤ g
  row : ∃ cur, w.heap[g]? = some (.cells cur 3 (0, 0)) ∧ cur.toList.take l.length = l.map (Value.int .i64)
theorem OwnS.lt {B : Nat} {w : World} {g : Nat} {l : List Int} (h : OwnS B w g l) : g < w.heap.size := by
  obtain ⟨cur, hc, _⟩ := h.row
  exact (Array.getElem?_eq_some_iff.1 hc).1
theorem OwnS.keep {B : Nat} {w w1 : World} {g : Nat} {l : List Int} (h : OwnS B w g l) (hb : Below w.heap.size w w1) : OwnS B w1 g l := by
  obtain ⟨cur, hc, ht⟩ := h.row
  exact ⟨h.lo, cur, (hb.block _ h.lt).trans hc, ht⟩
theorem OwnS.only {B : Nat} {w w1 : World} {g q : Nat} {l : List Int} (h : OwnS B w g l) (hb : Only q w w1) (hq : ¬ g = q) : OwnS B w1 g l := by
  obtain ⟨cur, hc, ht⟩ := h.row
  exact ⟨h.lo, cur, (hb.block _ hq).trans hc, ht⟩
theorem OwnS.size {B : Nat} {w : World} {g : Nat} {l : List Int} (h : OwnS B w g l) : ∃ cur, w.heap[g]? = some (.cells cur 3 (0, 0)) ∧ l.length ≤ cur.size ∧ ∀ i, i < l.length → cur[i]? = some (.int .i64 (l.getD i 0)) := by
  obtain ⟨cur, hc, ht⟩ := h.row
  have hl := congrArg List.length ht
  have hl2 : l.length ≤ cur.size := by
    simp only [List.length_take, List.length_map] at hl
    have : cur.toList.length = cur.size := Array.length_toList
    omega
  refine ⟨cur, hc, hl2, fun i hi => ?_⟩
  have := congrArg (·[i]?) ht
  simp only [List.getElem?_map] at this
  rw [List.getElem?_take_of_lt hi, Array.getElem?_toList] at this
  rw [this, List.getD_eq_getElem?_getD, List.getElem?_eq_getElem hi]
  rfl
theorem OwnS.at {B : Nat} {w : World} {g : Nat} {l : List Int} (h : OwnS B w g l) (i : Nat) (hi : i < l.length) : w.cell? ⟨g, i, none⟩ = some (.int .i64 (l.getD i 0)) ∧ w.frozen? ⟨g, i, none⟩ = false := by
  obtain ⟨cur, hc, hl, ht⟩ := h.size
  exact ⟨(cell_of_row w _ _ _ _ _ hc).trans (ht i hi), frozen_of_row w _ _ _ _ hc⟩
theorem OwnS.rowAt {B : Nat} {w : World} {g : Nat} {l : List Int} (h : OwnS B w g l) : RowAt w (some ⟨g, 0, none⟩) l :=
  .inr ⟨g, 0, rfl, h.lt, fun i hi => by rw [Nat.zero_add]; exact (h.at i hi).1⟩
theorem OwnS.put {B : Nat} {w : World} {g : Nat} {l : List Int} (h : OwnS B w g l) (i : Nat) (hi : i < l.length) (v : Int) : OwnS B (w.setCell ⟨g, i, none⟩ (.int .i64 v)) g (l.set i v) := by
  obtain ⟨cur, hc, ht⟩ := h.row
  refine ⟨h.lo, _, heap_setCell_same _ _ _ _ _ _ hc, ?_⟩
  rw [Array.toList_setIfInBounds, List.length_set, List.take_set, ht, List.map_set]
theorem OwnS.of_owns {B : Nat} {w : World} {g cap : Nat} {l : List Int} {n : Nat} (h : w.ownsRow B 3 1 (.slice (some ⟨g, 0, none⟩) n cap) n (l.map (Value.int .i64))) : OwnS B w g l ∧ l.length = n ∧ n ≤ cap := by
  obtain ⟨hl, h2⟩ := h
  rcases h2 with ⟨h2, _⟩ | ⟨g', cap', cur, hv, hb, hc, hn, _, _, ht⟩
  · cases h2
  · simp at hv
    obtain ⟨rfl, rfl⟩ := hv
    simp at hl
    exact ⟨⟨hb, cur, hc, by rw [hl]; simpa using ht⟩, hl, hn⟩
theorem OwnS.mono {B B' : Nat} {w : World} {g : Nat} {l : List Int} (h : OwnS B w g l) (hb : B' ≤ B) : OwnS B' w g l := ⟨Nat.le_trans hb h.lo, h.row⟩
theorem OwnZ.owns {w wr : World} {g : Nat} {l : List Int} (h : OwnZ w wr g l) : OwnS w.heap.size wr g l :=
  ⟨h.lo, _, h.row, by rw [List.take_of_length_le (by simp [zv])]; simp [zv]⟩

set_option maxHeartbeats 800000 in
theorem markOwn_any (B g cap : Nat) (zs : List Int) (k0 : Int) (w : World) (hm : zs.length ≤ 1048576) (k1 : 0 ≤ k0) (k2 : k0 ≤ 1099511627776) (ho : OwnS B w g zs) :
    Calls Try.prog 22 #[.slice (some ⟨g, 0, none⟩) zs.length cap, .int .i64 k0] w fun e w' => e = .returned (.int .i64 (k0 + (zs.length : Int))) ∧ OwnS B w' g (mrk k0 zs zs.length) ∧ Only g w w' := by
  go_enter Try.func22, Try.ntmps22
  go_wp2_with fail
  go_loopw [1, 5] (fun vk vi wr => ∃ i : Nat, i ≤ zs.length ∧ vi = .int .i64 i ∧ vk = .int .i64 (k0 + (i : Int)) ∧ OwnS B wr g (mrk k0 zs i) ∧ Only g w wr) (fun _ vi _ => zs.length - (intOf vi).toNat)
  case atStart => exact ⟨0, Nat.zero_le _, rfl, by simp, by simpa [mrk] using ho, Only.refl _ _⟩
  case round =>
    obtain ⟨i, hi, rfl, rfl, st, on⟩ := hrel
    clear ho
    by_cases hlt : i < zs.length
    · obtain ⟨r0, r1⟩ := st.at i (by rw [mrk_len hi]; exact hlt)
      have st2 := st.put i (by rw [mrk_len hi]; exact hlt) (k0 + (i : Int))
      rw [mrk_set hlt] at st2
      have on2 := on.put i (.int .i64 (k0 + (i : Int)))
      clear st on
      generalize (mrk k0 zs i).getD i 0 = y at r0
      go_wp2
      go_roundw
      case rel => exact ⟨i + 1, by omega, by go_num, by go_num, st2, on2⟩
      case measure => simp [intOf]; omega
    · have hkl : i = zs.length := by omega
      subst hkl
      go_wp2
      go_ret
      exact ⟨rfl, st, on⟩
theorem OwnS.of_block {B : Nat} {w w1 : World} {g : Nat} {l : List Int} (h : OwnS B w g l) (hb : w1.heap[g]? = w.heap[g]?) : OwnS B w1 g l := by
  obtain ⟨cur, hc, ht⟩ := h.row
  exact ⟨h.lo, cur, hb.trans hc, ht⟩
theorem markIntS_empty (a : Option Addr) (cap : Nat) (k0 : Int) (w : World) :
    Calls Try.prog 22 #[.slice a 0 cap, .int .i64 k0] w fun e w' => e = .returned (.int .i64 k0) ∧ w' = w := by
  go_enter Try.func22, Try.ntmps22
  go_wp2
  go_loop [1, 5] (fun k i => i = .int .i64 0 ∧ k = .int .i64 k0) (fun _ i => 0)
  case atStart => exact ⟨rfl, rfl⟩
  case round =>
    obtain ⟨rfl, rfl⟩ := hrel
    go_wp2
    go_ret
    exact ⟨rfl, rfl⟩
theorem mrk_at' {k0 : Int} {zs : List Int} {n : Nat} (h : zs.length = n) : (mrk k0 zs n).length = n ∧ ∀ i, i < (mrk k0 zs n).length → (mrk k0 zs n).getD i 0 = k0 + (i : Int) := by
  subst h
  exact ⟨mrk_len (Nat.le_refl _), fun i hi => mrk_get (by rwa [mrk_len (Nat.le_refl _)] at hi)⟩
/-- a box that was laid in the world w is as it was -/
structure BxV (w wr : World) (cs : Array Value) (T : TypeId) : Prop where
  row : wr.heap[w.heap.size]? = some (.cells cs T (0, 0))
theorem BxV.lt {w wr : World} {cs : Array Value} {T : TypeId} (h : BxV w wr cs T) : w.heap.size < wr.heap.size := (Array.getElem?_eq_some_iff.1 h.row).1
theorem BxV.keep {w wr w1 : World} {cs : Array Value} {T : TypeId} (h : BxV w wr cs T) (hb : Below wr.heap.size wr w1) : BxV w w1 cs T :=
  ⟨(hb.block _ h.lt).trans h.row⟩
theorem bxV1 {w w1 : World} {cs : Array Value} {T : TypeId} (hb : Below (w.alloc (.cells cs T)).heap.size (w.alloc (.cells cs T)) w1) : BxV w w1 cs T := by
  have h0 : BxV w (w.alloc (.cells cs T)) cs T := ⟨heap_alloc_new _ _⟩
  exact h0.keep hb
theorem BxV.c2 {w wr : World} {x y : Value} {T : TypeId} (h : BxV w wr #[x, y] T) : wr.cell? ⟨w.heap.size, 0, none⟩ = some x ∧ wr.cell? ⟨w.heap.size, 1, none⟩ = some y :=
  ⟨(cell_of_row wr _ _ _ _ _ h.row).trans rfl, (cell_of_row wr _ _ _ _ _ h.row).trans rfl⟩
theorem BxV.c3 {w wr : World} {x y z : Value} {T : TypeId} (h : BxV w wr #[x, y, z] T) : wr.cell? ⟨w.heap.size, 0, none⟩ = some x ∧ wr.cell? ⟨w.heap.size, 1, none⟩ = some y ∧ wr.cell? ⟨w.heap.size, 2, none⟩ = some z :=
  ⟨(cell_of_row wr _ _ _ _ _ h.row).trans rfl, (cell_of_row wr _ _ _ _ _ h.row).trans rfl, (cell_of_row wr _ _ _ _ _ h.row).trans rfl⟩
theorem bxv6 {w w4 wr : World} {x y z x' y' z' : Value} {T T' : TypeId} (h : BxV w wr #[x, y, z] T) (k : BxV w4 wr #[x', y', z'] T') : wr.cell? ⟨w.heap.size, 0, none⟩ = some x ∧ wr.cell? ⟨w.heap.size, 1, none⟩ = some y ∧ wr.cell? ⟨w.heap.size, 2, none⟩ = some z ∧ wr.cell? ⟨w4.heap.size, 0, none⟩ = some x' ∧ wr.cell? ⟨w4.heap.size, 1, none⟩ = some y' ∧ wr.cell? ⟨w4.heap.size, 2, none⟩ = some z' :=
  ⟨h.c3.1, h.c3.2.1, h.c3.2.2, k.c3.1, k.c3.2.1, k.c3.2.2⟩
/-- nothing was changed but blocks from B to T; new ones may have come -/
structure Mk (B T : Nat) (w w' : World) : Prop where
  below : ∀ n w0, n ≤ B → Below n w0 w → Below n w0 w'
  block : ∀ k, k < w.heap.size → ¬ (B ≤ k ∧ k < T) → w'.heap[k]? = w.heap[k]?
  size : w.heap.size ≤ w'.heap.size
theorem Mk.refl (B T : Nat) (w : World) : Mk B T w w := ⟨fun _ _ _ h => h, fun _ _ _ => rfl, Nat.le_refl _⟩
theorem Mk.wide {B T B' T' : Nat} {w w' : World} (h : Mk B T w w') (hB : B' ≤ B) (hT : T ≤ T') : Mk B' T' w w' :=
  ⟨fun n w0 hn hb => h.below n w0 (by omega) hb, fun k hk hn => h.block k hk (by omega), h.size⟩
theorem mk_only {g : Nat} {w w' : World} (h : Only g w w') : Mk g (g + 1) w w' :=
  ⟨fun n w0 hn hb => hb.trans ⟨h.os, h.tape, h.output, by rw [h.size]; exact Nat.le_refl _, fun k hk => h.block k (by omega)⟩, fun k _ hk => h.block k (by omega), by rw [h.size]; exact Nat.le_refl _⟩
theorem BxV.mkd {w wr w1 : World} {cs : Array Value} {T0 : TypeId} {B T : Nat} (h : BxV w wr cs T0) (m : Mk B T wr w1) (hB : w.heap.size < B ∨ T ≤ w.heap.size) : BxV w w1 cs T0 :=
  ⟨(m.block _ h.lt (by omega)).trans h.row⟩
/-- a list of one's own among the blocks from B to T, or an empty one -/
def OwnLs (B T : Nat) (w : World) (a : Option Addr) (n : Nat) (l : List Int) : Prop := l.length = n ∧ (l = [] ∨ ∃ g, a = some ⟨g, 0, none⟩ ∧ g < T ∧ OwnS B w g l)
theorem OwnLs.rowAt {B T : Nat} {w : World} {a : Option Addr} {n : Nat} {l : List Int} (h : OwnLs B T w a n l) : RowAt w a l := by
  rcases h.2 with h | ⟨g, ha, _, os⟩
  · exact .inl h
  · rw [ha]; exact os.rowAt
theorem OwnLs.blocks {B T : Nat} {w w1 : World} {a : Option Addr} {n : Nat} {l : List Int} (h : OwnLs B T w a n l) (hb : ∀ k, B ≤ k → k < T → k < w.heap.size → w1.heap[k]? = w.heap[k]?) : OwnLs B T w1 a n l := by
  refine ⟨h.1, ?_⟩
  rcases h.2 with h | ⟨g, ha, ht, os⟩
  · exact .inl h
  · exact .inr ⟨g, ha, ht, os.of_block (hb g os.lo ht os.lt)⟩
theorem OwnLs.keep {B T : Nat} {w w1 : World} {a : Option Addr} {n : Nat} {l : List Int} (h : OwnLs B T w a n l) (hb : Below w.heap.size w w1) : OwnLs B T w1 a n l := h.blocks (fun k _ _ hk => hb.block k hk)
theorem OwnLs.mkd {B T B' T' : Nat} {w w1 : World} {a : Option Addr} {n : Nat} {l : List Int} (h : OwnLs B T w a n l) (m : Mk B' T' w w1) (hd : T ≤ B' ∨ T' ≤ B) : OwnLs B T w1 a n l := h.blocks (fun k h1 h2 hk => m.block k hk (by omega))
theorem toIntS_own (a : Option Addr) (cap : Nat) (zs : List Int) (w : World) (hm : zs.length ≤ 1048576) (hr : RowAt w a zs) :
    Calls Try.prog 48 #[.slice a zs.length cap] w fun e w' => ∃ a', e = .returned (.slice a' zs.length zs.length) ∧ OwnLs w.heap.size w'.heap.size w' a' zs.length zs ∧ Below w.heap.size w w' := by
  refine (toIntS_any a cap zs w hm hr).mono ?_
  rintro e w1 ⟨rfl, ow⟩
  exact ⟨_, rfl, ⟨rfl, .inr ⟨_, rfl, ow.lt, (OwnZ.owns ow)⟩⟩, ow.bel⟩
theorem markIntS_own (B T cap : Nat) (a : Option Addr) (n : Nat) (zs : List Int) (k0 : Int) (w : World) (hm : n ≤ 1048576) (k1 : 0 ≤ k0) (k2 : k0 ≤ 1099511627776) (ho : OwnLs B T w a n zs) :
    Calls Try.prog 22 #[.slice a n cap, .int .i64 k0] w fun e w' => e = .returned (.int .i64 (k0 + (n : Int))) ∧ Mk B T w w' ∧ OwnLs B T w' a n (mrk k0 zs n) := by
  obtain ⟨rfl, ho⟩ := ho
  rcases ho with rfl | ⟨g, rfl, ht, os⟩
  · refine (markIntS_empty a cap k0 w).mono ?_
    rintro e w1 ⟨rfl, rfl⟩
    exact ⟨by simp, Mk.refl _ _ _, rfl, .inl rfl⟩
  · refine (markOwn_any B g cap zs k0 w hm k1 k2 os).mono ?_
    rintro e w1 ⟨rfl, os1, on⟩
    exact ⟨rfl, (mk_only on).wide os.lo (by omega), mrk_len (Nat.le_refl _), .inr ⟨g, rfl, ht, os1⟩⟩
theorem heldIntS_own (B T cap : Nat) (a : Option Addr) (n : Nat) (zs : List Int) (k0 : Int) (w : World) (hm : n ≤ 1048576) (hz : zs.length = n) (k1 : 0 ≤ k0) (k2 : k0 ≤ 1099511627776) (ho : OwnLs B T w a n (mrk k0 zs n)) :
    Calls Try.prog 23 #[.slice a n cap, .int .i64 k0] w fun e w' => e = .returned (.int .i64 (k0 + (n : Int))) ∧ Below w.heap.size w w' := by
  obtain ⟨h1, h2⟩ := mrk_at' (k0 := k0) hz
  have := heldIntS_any a cap (mrk k0 zs n) k0 w (by rw [h1]; exact hm) k1 k2 ho.rowAt h2
  rw [h1] at this
  refine this.mono ?_
  rintro e w1 ⟨rfl, rfl⟩
  exact ⟨rfl, Below.refl _ _⟩
theorem eqIntS_own (a a' : Option Addr) (cap cap' n : Nat) (l : List Int) (w : World) (hn : l.length = n) (hm : n ≤ 1048576) (hx : RowAt w a l) (hy : RowAt w a' l) :
    Calls Try.prog 21 #[.slice a n cap, .slice a' n cap'] w fun e w' => e = .returned (.bool true) ∧ Below w.heap.size w w' := by
  subst hn
  have := eqIntS_any a a' cap cap' l l w (by unfold maxLen; omega) hx hy
  have hs : sameB l l = true := decide_eq_true rfl
  rwa [hs] at this
theorem mk_below {B T : Nat} {w w' : World} (h : Below w.heap.size w w') (hB : B ≤ w.heap.size) : Mk B T w w' :=
  ⟨fun n w0 hn hb => hb.trans (h.mono (by omega)), fun k hk _ => h.block k hk, h.size⟩
theorem bne_self_bool (b : Bool) : (b != b) = false := by cases b <;> rfl
/-- a list that a call has answered in memory of its own -/
theorem ownLs_of {B T : Nat} {w : World} {g n : Nat} {l : List Int} (h : OwnS B w g l) (ht : w.heap.size ≤ T) (hn : l.length = n) : OwnLs B T w (some ⟨g, 0, none⟩) n l := ⟨hn, .inr ⟨g, rfl, Nat.lt_of_lt_of_le h.lt ht, h⟩⟩
theorem ownLs_nil (B T : Nat) (w : World) (a : Option Addr) : OwnLs B T w a 0 [] := ⟨rfl, .inl rfl⟩
set_option maxHeartbeats 800000 in
theorem equal_any (a a' : Option Addr) (cap cap' : Nat) (xs ys : List Int) (w : World) (hm : xs.length ≤ maxLen) (hx : RowAt w a xs) (hy : RowAt w a' ys) :
    Calls Try.prog 107 #[.slice a xs.length cap, .slice a' ys.length cap'] w fun e w' => e = .returned (.bool (sameB xs ys)) ∧ Below w.heap.size w w' := by
  unfold maxLen at hm
  have HX : Hid (RowAt w a xs) := hx
  have HY : Hid (RowAt w a' ys) := hy
  clear hx hy
  by_cases hl : xs.length = ys.length
  · have HL : Hid (xs.length = ys.length) := hl
    have hle : ((xs.length : Int) != (ys.length : Int)) = false := by simp [hl]
    clear hl
    go_enter Try.func107, Try.ntmps107
    go_wp2_with fail
    go_loopw [13] (fun vi wr => ∃ k : Nat, k ≤ xs.length ∧ vi = .int .i64 k ∧ xs.take k = ys.take k ∧ ∃ n, wr = w.drewN n) (fun vi _ => xs.length - (intOf vi).toNat)
    case atStart => exact ⟨0, Nat.zero_le _, rfl, rfl, 0, rfl⟩
    case round =>
      obtain ⟨k, hk, rfl, hs, n, rfl⟩ := hrel
      have HS : Hid (xs.take k = ys.take k) := hs
      clear hs
      by_cases hlt : k < xs.length
      · have hlt2 : k < ys.length := by have := HL.out; omega
        obtain ⟨bk, off, rfl⟩ := rowAt_form HX.out (by omega)
        obtain ⟨bk2, off2, rfl⟩ := rowAt_form HY.out (by omega)
        have hc1 := (rowAt_cell HX.out (by omega)).2 k hlt
        have hc2 := (rowAt_cell HY.out (by omega)).2 k hlt2
        by_cases he : xs.getD k 0 = ys.getD k 0
        · have ht : Hid (xs.take (k + 1) = ys.take (k + 1)) := same_take hlt hlt2 HS.out he
          have he' : (xs.getD k 0 != ys.getD k 0) = false := by rw [he]; simp
          generalize xs.getD k 0 = x at hc1 he'
          generalize ys.getD k 0 = y at hc2 he'
          clear he
          go_wp2
          go_quiet (fail)
          go_wp2
          go_roundw
          case rel => exact ⟨k + 1, by omega, by go_num, ht.out, _, rfl⟩
          case measure => simp [intOf]; omega
        · have hv : Hid (sameB xs ys = false) := sameB_no he
          have he' : (xs.getD k 0 != ys.getD k 0) = true := by simpa using he
          generalize xs.getD k 0 = x at hc1 he'
          generalize ys.getD k 0 = y at hc2 he'
          clear he
          go_wp2
          go_quiet (fail)
          go_wp2
          go_ret
          exact ⟨ret_bool hv.out.symm, by first | exact below_drewN (below_drewN (Below.refl _ _) _) _ | exact below_drewN (Below.refl _ _) _⟩
      · have hv : Hid (sameB xs ys = true) := sameB_yes HL.out hlt HS.out
        go_wp2
        go_ret
        exact ⟨ret_bool hv.out.symm, below_drewN (Below.refl _ _) _⟩
  · have hv : sameB xs ys = false := decide_eq_false (fun h => hl (by rw [h]))
    rw [hv]
    have hle : ((xs.length : Int) != (ys.length : Int)) = true := by simp; omega
    clear hl hv
    go_enter Try.func107, Try.ntmps107
    go_wp2
    go_ret
    exact ⟨rfl, Below.refl _ _⟩

/-- a slice of ints or bytes that came in: nil, or a row of 'cap' cells of which the first 'len' are its elements -/
def IsRow (k : IntKind) (w : World) (a : Option Addr) (len cap : Nat) (zs : List Int) : Prop :=
  (a = none ∧ len = 0 ∧ cap = 0 ∧ zs = []) ∨
  ∃ x, a = some x ∧ len ≤ cap ∧ cap ≤ maxLen ∧ zs.length = cap ∧ (∀ i, i < zs.length → w.cell? (x.add i) = some (.int k (zs.getD i 0))) ∧ ∀ n ∈ zs, (Lit.int k n).wf = true
theorem add_none' (b o j : Nat) : (⟨b, o, none⟩ : Addr).add j = ⟨b, o + j, none⟩ := by unfold Addr.add; split <;> simp_all
theorem isRow_rowAt {w : World} {a : Option Addr} {len cap : Nat} {zs : List Int} (h : IsRow .i64 w a len cap zs) : ∃ ys : List Int, ys.length = len ∧ len ≤ maxLen ∧ RowAt w a ys := by
  rcases h with ⟨rfl, rfl, rfl, rfl⟩ | ⟨⟨b, off, spot⟩, rfl, hl, hm, hz, hc, _⟩
  · exact ⟨[], rfl, Nat.zero_le _, .inl rfl⟩
  · by_cases h0 : len = 0
    · subst h0; exact ⟨[], rfl, Nat.zero_le _, .inl rfl⟩
    · have hc0 := hc 0 (by omega)
      have hs : spot = none := by simpa [Addr.add] using World.cell?_spot hc0
      subst hs
      refine ⟨zs.take len, by simp; omega, by omega, .inr ⟨b, off, rfl, by simpa [add_none'] using block_lt_of_cell hc0, fun i hi => ?_⟩⟩
      have hi' : i < len := by simp at hi; omega
      have := hc i (by omega)
      rw [add_none'] at this
      rw [this]
      simp [List.getD_eq_getElem?_getD, hi']
end Go.Proofs.Ytioiacmaijgdoaa.Wire
namespace Go.Proofs.Ytioiacmaijgdoaa.Wire
open Go.RowKit Go.ChangeShapes Go.WideShapes Go.Deep
set_option linter.unusedVariables false
/-- block g holds these cells -/
def Bk (w : World) (g : Nat) (C : Array Value) (T : TypeId) : Prop := w.heap[g]? = some (.cells C T (0, 0))
theorem Bk.lt {w : World} {g : Nat} {C : Array Value} {T : TypeId} (h : Bk w g C T) : g < w.heap.size := (Array.getElem?_eq_some_iff.1 h).1
theorem Bk.keepN {w w1 : World} {g n : Nat} {C : Array Value} {T : TypeId} (h : Bk w g C T) (hb : Below n w w1) (hg : g < n) : Bk w1 g C T := (hb.block g hg).trans h
theorem Bk.keep {w w1 : World} {g : Nat} {C : Array Value} {T : TypeId} (h : Bk w g C T) (hb : Below w.heap.size w w1) : Bk w1 g C T := h.keepN hb h.lt
theorem Bk.new (w : World) (C : Array Value) (T : TypeId) : Bk (w.alloc (.cells C T)) w.heap.size C T := heap_alloc_new _ _
theorem Bk.alloc {w : World} {g : Nat} {C : Array Value} {T : TypeId} (h : Bk w g C T) (o : Obj) : Bk (w.alloc o) g C T := h.keep ((Below.refl _ _).alloc (Nat.le_refl _) o)
theorem Bk.cell {w : World} {g : Nat} {C : Array Value} {T : TypeId} (h : Bk w g C T) (i : Nat) : w.cell? ⟨g, i, none⟩ = C[i]? := cell_of_row w _ _ _ _ _ h
theorem Bk.fr {w : World} {g : Nat} {C : Array Value} {T : TypeId} (h : Bk w g C T) (i : Nat) : w.frozen? ⟨g, i, none⟩ = false := frozen_of_row w _ _ _ _ h
theorem Bk.set {w : World} {g : Nat} {C : Array Value} {T : TypeId} (h : Bk w g C T) (i : Nat) (v : Value) : Bk (w.setCell ⟨g, i, none⟩ v) g (C.setIfInBounds i v) T := heap_setCell_same _ _ _ _ _ _ h
theorem Bk.oth {w : World} {g k : Nat} {C : Array Value} {T : TypeId} (h : Bk w g C T) (hk : ¬ g = k) (i : Nat) (v : Value) : Bk (w.setCell ⟨k, i, none⟩ v) g C T := (heap_setCell_other _ _ _ _ (by simpa using hk)).trans h
theorem Bk.c3 {w : World} {g : Nat} {a b c : Value} {T : TypeId} (h : Bk w g #[a, b, c] T) : w.cell? ⟨g, 0, none⟩ = some a ∧ w.cell? ⟨g, 1, none⟩ = some b ∧ w.cell? ⟨g, 2, none⟩ = some c := ⟨h.cell 0, h.cell 1, h.cell 2⟩
theorem Bk.c2 {w : World} {g : Nat} {a b : Value} {T : TypeId} (h : Bk w g #[a, b] T) : w.cell? ⟨g, 0, none⟩ = some a ∧ w.cell? ⟨g, 1, none⟩ = some b := ⟨h.cell 0, h.cell 1⟩
theorem Bk.c4 {w : World} {g : Nat} {a b c d : Value} {T : TypeId} (h : Bk w g #[a, b, c, d] T) : w.cell? ⟨g, 0, none⟩ = some a ∧ w.cell? ⟨g, 1, none⟩ = some b ∧ w.cell? ⟨g, 2, none⟩ = some c ∧ w.cell? ⟨g, 3, none⟩ = some d := ⟨h.cell 0, h.cell 1, h.cell 2, h.cell 3⟩
theorem Bk.f4 {w : World} {g : Nat} {C : Array Value} {T : TypeId} (h : Bk w g C T) : w.frozen? ⟨g, 0, none⟩ = false ∧ w.frozen? ⟨g, 1, none⟩ = false ∧ w.frozen? ⟨g, 2, none⟩ = false ∧ w.frozen? ⟨g, 3, none⟩ = false := ⟨h.fr 0, h.fr 1, h.fr 2, h.fr 3⟩
theorem Bk.c7 {w : World} {g : Nat} {a b c d e f k : Value} {T : TypeId} (h : Bk w g #[a, b, c, d, e, f, k] T) : w.cell? ⟨g, 0, none⟩ = some a ∧ w.cell? ⟨g, 1, none⟩ = some b ∧ w.cell? ⟨g, 2, none⟩ = some c ∧ w.cell? ⟨g, 3, none⟩ = some d ∧ w.cell? ⟨g, 4, none⟩ = some e ∧ w.cell? ⟨g, 5, none⟩ = some f ∧ w.cell? ⟨g, 6, none⟩ = some k := ⟨h.cell 0, h.cell 1, h.cell 2, h.cell 3, h.cell 4, h.cell 5, h.cell 6⟩
theorem Bk.f7 {w : World} {g : Nat} {C : Array Value} {T : TypeId} (h : Bk w g C T) : w.frozen? ⟨g, 0, none⟩ = false ∧ w.frozen? ⟨g, 1, none⟩ = false ∧ w.frozen? ⟨g, 2, none⟩ = false ∧ w.frozen? ⟨g, 3, none⟩ = false ∧ w.frozen? ⟨g, 4, none⟩ = false ∧ w.frozen? ⟨g, 5, none⟩ = false ∧ w.frozen? ⟨g, 6, none⟩ = false := ⟨h.fr 0, h.fr 1, h.fr 2, h.fr 3, h.fr 4, h.fr 5, h.fr 6⟩
theorem Bk.drew {w : World} {g : Nat} {C : Array Value} {T : TypeId} (h : Bk w g C T) : Bk w.drew g C T := h
/-- cells from i on are written, one by one -/
def setL (w : World) (g : Nat) : Nat → List Value → World
  | _, [] => w
  | i, v :: vs => setL (w.setCell ⟨g, i, none⟩ v) g (i + 1) vs
def ovr (C : Array Value) : Nat → List Value → Array Value
  | _, [] => C
  | i, v :: vs => ovr (C.setIfInBounds i v) (i + 1) vs
theorem Bk.setL {g : Nat} {T : TypeId} : ∀ (vs : List Value) {w : World} {C : Array Value} (i : Nat), Bk w g C T → Bk (setL w g i vs) g (ovr C i vs) T
  | [], _, _, _, h => h
  | v :: vs, _, _, i, h => Bk.setL vs (i + 1) (h.set i v)
theorem setL_oth {g k : Nat} (hk : ¬ k = g) : ∀ (vs : List Value) (w : World) (i : Nat), (setL w g i vs).heap[k]? = w.heap[k]?
  | [], _, _ => rfl
  | v :: vs, w, i => by
    unfold setL
    rw [setL_oth hk vs _ (i + 1), heap_setCell_other _ _ _ _ (by simpa using hk)]
theorem setL_size {g : Nat} : ∀ (vs : List Value) (w : World) (i : Nat), (setL w g i vs).heap.size = w.heap.size
  | [], _, _ => rfl
  | v :: vs, w, i => by
    unfold setL
    rw [setL_size vs _ (i + 1)]
    simp [World.setCell]
theorem setL_below {g n : Nat} {w0 : World} (hg : n ≤ g) : ∀ (vs : List Value) {w : World} (i : Nat), Below n w0 w → Below n w0 (setL w g i vs)
  | [], _, _, h => h
  | v :: vs, _, i, h => setL_below hg vs (i + 1) (h.setCell (p := ⟨g, i, none⟩) hg v)
theorem Bk.c9 {w : World} {g : Nat} {e0 e1 e2 e3 e4 e5 e6 e7 e8 : Value} {T : TypeId} (h : Bk w g #[e0, e1, e2, e3, e4, e5, e6, e7, e8] T) : w.cell? ⟨g, 0, none⟩ = some e0 ∧ w.cell? ⟨g, 1, none⟩ = some e1 ∧ w.cell? ⟨g, 2, none⟩ = some e2 ∧ w.cell? ⟨g, 3, none⟩ = some e3 ∧ w.cell? ⟨g, 4, none⟩ = some e4 ∧ w.cell? ⟨g, 5, none⟩ = some e5 ∧ w.cell? ⟨g, 6, none⟩ = some e6 ∧ w.cell? ⟨g, 7, none⟩ = some e7 ∧ w.cell? ⟨g, 8, none⟩ = some e8 := ⟨h.cell 0, h.cell 1, h.cell 2, h.cell 3, h.cell 4, h.cell 5, h.cell 6, h.cell 7, h.cell 8⟩
theorem Bk.f9 {w : World} {g : Nat} {C : Array Value} {T : TypeId} (h : Bk w g C T) : w.frozen? ⟨g, 0, none⟩ = false ∧ w.frozen? ⟨g, 1, none⟩ = false ∧ w.frozen? ⟨g, 2, none⟩ = false ∧ w.frozen? ⟨g, 3, none⟩ = false ∧ w.frozen? ⟨g, 4, none⟩ = false ∧ w.frozen? ⟨g, 5, none⟩ = false ∧ w.frozen? ⟨g, 6, none⟩ = false ∧ w.frozen? ⟨g, 7, none⟩ = false ∧ w.frozen? ⟨g, 8, none⟩ = false := ⟨h.fr 0, h.fr 1, h.fr 2, h.fr 3, h.fr 4, h.fr 5, h.fr 6, h.fr 7, h.fr 8⟩
theorem array9 {α : Type} {cs : Array α} (h : cs.size = 9) : ∃ c0 c1 c2 c3 c4 c5 c6 c7 c8, cs = #[c0, c1, c2, c3, c4, c5, c6, c7, c8] := by
  obtain ⟨l⟩ := cs
  match l, h with
  | [c0, c1, c2, c3, c4, c5, c6, c7, c8], _ => exact ⟨c0, c1, c2, c3, c4, c5, c6, c7, c8, rfl⟩
theorem list9 {α : Type} {l : List α} (h : l.length = 9) : ∃ c0 c1 c2 c3 c4 c5 c6 c7 c8, l = [c0, c1, c2, c3, c4, c5, c6, c7, c8] := by
  match l, h with
  | [c0, c1, c2, c3, c4, c5, c6, c7, c8], _ => exact ⟨c0, c1, c2, c3, c4, c5, c6, c7, c8, rfl⟩
theorem cellsM : Try.prog.cellsOf 104 = 9 := by kernel_rfl
section
variable {H : Type} {enc : TypeId × Value → H} {W : World} {base : Nat} {held : Bool}
theorem ints_row {fuel : Nat} {a : Option Addr} {n cap : Nat} {x : DataW H × List MemPlace} (h : DataW.trod enc Try.prog W base (fun _ => true) held fuel 33 [.slice a n cap] = some x) :
    ∃ ys : List Int, ys.length = n ∧ n ≤ maxLen ∧ (n ≤ cap ∧ (a = none → cap = 0)) ∧ RowAt W a ys := by
  rcases open_ints Try.underlying33 Try.underlying3 (by kernel_rfl) h with ⟨hcs, _⟩ | ⟨x, l, c, zs, hcs, _, hl, hm, hz, _, hcell, hwz⟩
  · simp at hcs
    obtain ⟨rfl, rfl, rfl⟩ := hcs
    exact ⟨[], rfl, Nat.zero_le _, ⟨Nat.zero_le _, fun _ => rfl⟩, .inl rfl⟩
  · simp at hcs
    obtain ⟨rfl, rfl, rfl⟩ := hcs
    obtain ⟨ys, h1, h2, h3⟩ := isRow_rowAt (w := W) (a := some x) (len := n) (cap := cap) (zs := zs) (.inr ⟨_, rfl, hl, hm, by simpa using hz, hcell, hwz⟩)
    exact ⟨ys, h1, h2, ⟨hl, fun h => by cases h⟩, h3⟩
theorem slice_of_trod {t e : TypeId} {fuel : Nat} {v : Value} {x : DataW H × List MemPlace} (ht : Try.prog.underlying t = some (.slice e)) (h : DataW.trod enc Try.prog W base (fun _ => true) held fuel t [v] = some x) : ∃ a n cap, v = .slice a n cap := by
  rcases open_slice ht h with ⟨hcs, _⟩ | ⟨a, l, c, _, _, _, _, hcs, _⟩
  · simp at hcs; exact ⟨_, _, _, hcs⟩
  · simp at hcs; exact ⟨_, _, _, hcs⟩
theorem cellsI : Try.prog.cellsOf 3 = 1 := by kernel_rfl
theorem cellsIs : Try.prog.cellsOf 33 = 1 := by kernel_rfl
set_option maxRecDepth 100000 in
/-- a message that came in: eight numbers and a list -/
theorem open_msg {b0 : Nat} {v : Value} {d : DataW H} {p : List MemPlace} (hv : Value.okWide Try.prog W .any b0 104 v) (h : DataW.Trod enc Try.prog W base (fun _ => true) held 104 v d p) :
    ∃ y0 y1 y2 y3 y4 y5 y6 y7 : Int, ∃ (a : Option Addr) (cap : Nat) (zs : List Int), v = .agg #[.int .i64 y0, .int .i64 y1, .int .i64 y2, .int .i64 y3, .int .i64 y4, .int .i64 y5, .int .i64 y6, .int .i64 y7, .slice a zs.length cap] ∧ zs.length ≤ maxLen ∧ RowAt W a zs := by
  obtain ⟨cs, rfl, hsz⟩ := okWide_struct Try.underlying104 hv
  obtain ⟨c0, c1, c2, c3, c4, c5, c6, c7, c8, rfl⟩ := array9 (hsz.trans cellsM)
  obtain ⟨fuel, hf⟩ := h
  obtain ⟨xs, n, _, _, hl, hlen, hf⟩ := DataW.trod_struct Try.underlying104 hf
  obtain ⟨x0, x1, x2, x3, x4, x5, x6, x7, x8, rfl⟩ := list9 (l := xs) hlen
  have g0 := hf 0 _ rfl
  have g1 := hf 1 _ rfl
  have g2 := hf 2 _ rfl
  have g3 := hf 3 _ rfl
  have g4 := hf 4 _ rfl
  have g5 := hf 5 _ rfl
  have g6 := hf 6 _ rfl
  have g7 := hf 7 _ rfl
  have g8 := hf 8 _ rfl
  simp [Value.cells, cellsI, cellsIs] at g0 g1 g2 g3 g4 g5 g6 g7 g8
  obtain ⟨a0, e0, _, _⟩ := DataW.trod_int Try.underlying3 g0
  obtain ⟨a1, e1, _, _⟩ := DataW.trod_int Try.underlying3 g1
  obtain ⟨a2, e2, _, _⟩ := DataW.trod_int Try.underlying3 g2
  obtain ⟨a3, e3, _, _⟩ := DataW.trod_int Try.underlying3 g3
  obtain ⟨a4, e4, _, _⟩ := DataW.trod_int Try.underlying3 g4
  obtain ⟨a5, e5, _, _⟩ := DataW.trod_int Try.underlying3 g5
  obtain ⟨a6, e6, _, _⟩ := DataW.trod_int Try.underlying3 g6
  obtain ⟨a7, e7, _, _⟩ := DataW.trod_int Try.underlying3 g7
  simp at e0 e1 e2 e3 e4 e5 e6 e7
  subst e0 e1 e2 e3 e4 e5 e6 e7
  obtain ⟨ab, nb, cb, rfl⟩ := slice_of_trod Try.underlying33 g8
  obtain ⟨ys, rfl, hm, hc, hr⟩ := ints_row g8
  exact ⟨a0, a1, a2, a3, a4, a5, a6, a7, ab, cb, ys, rfl, hm, hr⟩
end
theorem OwnLs.wide {B T B' T' : Nat} {w : World} {a : Option Addr} {n : Nat} {l : List Int} (h : OwnLs B T w a n l) (hB : B' ≤ B) (hT : T ≤ T') : OwnLs B' T' w a n l := by
  refine ⟨h.1, ?_⟩
  rcases h.2 with h | ⟨g, ha, ht, os⟩
  · exact .inl h
  · exact .inr ⟨g, ha, by omega, os.mono hB⟩
theorem ovr9 (z0 z1 z2 z3 z4 z5 z6 z7 z8 v0 v1 v2 v3 v4 v5 v6 v7 v8 : Value) : ovr #[z0, z1, z2, z3, z4, z5, z6, z7, z8] 0 [v0, v1, v2, v3, v4, v5, v6, v7, v8] = #[v0, v1, v2, v3, v4, v5, v6, v7, v8] := by simp [ovr]
def szl (k : Int) (n : Nat) : Int := if k < n then -1 else k - n
theorem szl_lo {k : Int} {n : Nat} (h : k < n) : szl k n = -1 := if_pos h
theorem szl_hi {k : Int} {n : Nat} (h : ¬ k < n) : szl k n = k - n := if_neg h
theorem szIntS_any (a : Option Addr) (cap n : Nat) (k : Int) (w : World) (hm : n ≤ maxLen) (h1 : 0 ≤ k) (h2 : k ≤ 1048576) :
    Calls Try.prog 44 #[.slice a n cap, .int .i64 k] w fun e w' => e = .returned (.int .i64 (szl k n)) ∧ w' = w := by
  unfold maxLen at hm
  by_cases h : k < n
  · have h3 : k - n < 0 := by omega
    go_enter Try.func44, Try.ntmps44
    go_wp2
    go_ret
    exact ⟨ret_int (szl_lo h).symm, rfl⟩
  · have h3 : ¬ k - n < 0 := by omega
    go_enter Try.func44, Try.ntmps44
    go_wp2
    go_ret
    exact ⟨ret_int (szl_hi (by omega)).symm, rfl⟩
theorem szMsg_any (x0 x1 x2 x3 x4 x5 x6 x7 : Int) (a : Option Addr) (cap n : Nat) (k : Int) (w : World) (hm : n ≤ maxLen) (h1 : 0 ≤ k) (h2 : k ≤ 1048576) :
    Calls Try.prog 72 #[.agg #[.int .i64 x0, .int .i64 x1, .int .i64 x2, .int .i64 x3, .int .i64 x4, .int .i64 x5, .int .i64 x6, .int .i64 x7, .slice a n cap], .int .i64 k] w fun e w' => e = .returned (.int .i64 (szl k n)) ∧ Below w.heap.size w w' := by
  by_cases h : k < n
  · have h3 : Hid (szl k n = -1) := szl_lo h
    clear h
    go_enter Try.func72, Try.ntmps72
    go_wp2_with (go_at_call 44; refine (szIntS_any _ _ _ _ _ hm h1 h2).mono ?_; rintro e w' ⟨rfl, rfl⟩; rw [h3.out])
    go_ret
    exact ⟨ret_int h3.out.symm, (Below.refl _ _).alloc (Nat.le_refl _) _⟩
  · have h3 : Hid (szl k n = k - n) := szl_hi h
    have h4 : ¬ k - n < 0 := by omega
    clear h
    go_enter Try.func72, Try.ntmps72
    go_wp2_with (go_at_call 44; refine (szIntS_any _ _ _ _ _ hm h1 h2).mono ?_; rintro e w' ⟨rfl, rfl⟩; rw [h3.out])
    go_ret
    exact ⟨ret_int h3.out.symm, (Below.refl _ _).alloc (Nat.le_refl _) _⟩
theorem bk3 {w w1 : World} {A B C : Array Value} {S T U : TypeId} (hb : Below (((w.alloc (.cells A S)).alloc (.cells B T)).alloc (.cells C U)).heap.size (((w.alloc (.cells A S)).alloc (.cells B T)).alloc (.cells C U)) w1) :
    Bk w1 w.heap.size A S ∧ Bk w1 (w.heap.size + 1) B T ∧ Bk w1 (w.heap.size + 1 + 1) C U ∧ Below w.heap.size w w1 := by
  have h1 := (((Bk.new w A S).alloc (.cells B T)).alloc (.cells C U)).keep hb
  have h2 := ((Bk.new (w.alloc (.cells A S)) B T).alloc (.cells C U)).keep hb
  have h3 := (Bk.new ((w.alloc (.cells A S)).alloc (.cells B T)) C U).keep hb
  simp only [World.size_alloc] at h2 h3
  exact ⟨h1, h2, h3, (((( Below.refl _ _).alloc (Nat.le_refl _) _).alloc (by simp) _).alloc (by simp; try omega) _).trans (hb.mono (by simp; try omega))⟩
theorem bkAB {w w1 : World} {A B : Array Value} {S T : TypeId} (hb : Below ((w.alloc (.cells A S)).alloc (.cells B T)).heap.size ((w.alloc (.cells A S)).alloc (.cells B T)) w1) :
    Bk w1 w.heap.size A S ∧ Bk w1 (w.heap.size + 1) B T ∧ Below w.heap.size w w1 := by
  have h1 := ((Bk.new w A S).alloc (.cells B T)).keep hb
  have h2 := (Bk.new (w.alloc (.cells A S)) B T).keep hb
  simp only [World.size_alloc] at h2
  exact ⟨h1, h2, ((( Below.refl _ _).alloc (Nat.le_refl _) _).alloc (by simp) _).trans (hb.mono (by simp; try omega))⟩
theorem to_end {w w1 : World} {a : Option Addr} {n : Nat} {l : List Int} {R : Array Value} {T : TypeId} (h : Bk w1 (w.heap.size + 1) R T) (hb : Below w.heap.size w w1) (o : OwnLs (w.heap.size + 1 + 1 + 1) w1.heap.size w1 a n l) (v : Value) (vs : List Value) (i : Nat) :
    Bk (setL (w1.setCell ⟨w.heap.size + 1 + 1, i, none⟩ v) (w.heap.size + 1) 0 vs) (w.heap.size + 1) (ovr R 0 vs) T ∧
    OwnLs w.heap.size (setL (w1.setCell ⟨w.heap.size + 1 + 1, i, none⟩ v) (w.heap.size + 1) 0 vs).heap.size (setL (w1.setCell ⟨w.heap.size + 1 + 1, i, none⟩ v) (w.heap.size + 1) 0 vs) a n l ∧
    Below w.heap.size w (setL (w1.setCell ⟨w.heap.size + 1 + 1, i, none⟩ v) (w.heap.size + 1) 0 vs) := by
  refine ⟨(h.oth (by omega) i v).setL vs 0, ?_, setL_below (by omega) vs 0 (hb.setCell (p := ⟨w.heap.size + 1 + 1, i, none⟩) (by simp; try omega) v)⟩
  have hs : (setL (w1.setCell ⟨w.heap.size + 1 + 1, i, none⟩ v) (w.heap.size + 1) 0 vs).heap.size = w1.heap.size := by rw [setL_size]; simp [World.setCell]
  rw [hs]
  refine (o.blocks (fun k h1 h2 h3 => ?_)).wide (by omega) (Nat.le_refl _)
  rw [setL_oth (by omega), heap_setCell_other _ _ _ _ (by simp; omega)]
set_option maxRecDepth 100000 in
set_option maxHeartbeats 1600000 in
theorem toMsg_any (x0 x1 x2 x3 x4 x5 x6 x7 : Int) (a : Option Addr) (cap n : Nat) (zs : List Int) (w : World) (hn : zs.length = n) (hm : n ≤ 1048576) (hr : RowAt w a zs) :
    Calls Try.prog 75 #[.agg #[.int .i64 x0, .int .i64 x1, .int .i64 x2, .int .i64 x3, .int .i64 x4, .int .i64 x5, .int .i64 x6, .int .i64 x7, .slice a n cap]] w fun e w' => ∃ a', e = .returned (.agg #[.int .i64 x0, .int .i64 x1, .int .i64 x2, .int .i64 x3, .int .i64 x4, .int .i64 x5, .int .i64 x6, .int .i64 x7, .slice a' n n]) ∧ OwnLs w.heap.size w'.heap.size w' a' n zs ∧ Below w.heap.size w w' := by
  subst hn
  have HR : Hid (RowAt w a zs) := hr
  clear hr
  go_enter Try.func75, Try.ntmps75
  go_wp2_with fail
  refine (toIntS_own a cap zs _ hm (HR.out.keep (((( Below.refl _ _).alloc (Nat.le_refl _) _).alloc (by simp) _).alloc (by simp; try omega) _))).mono ?_
  rintro e w1 ⟨a', rfl, ow, hw⟩
  obtain ⟨RB, RR, RO, HB⟩ := bk3 hw
  have OW : Hid (OwnLs (w.heap.size + 1 + 1 + 1) w1.heap.size w1 a' zs.length zs) := ow.wide (by simp) (Nat.le_refl _)
  have l2 := RO.lt
  obtain ⟨q0, q1, q2, q3, q4, q5, q6, q7, q8⟩ := RO.c9
  obtain ⟨p0, p1, p2, p3, p4, p5, p6, p7, p8⟩ := RO.f9
  obtain ⟨t0, t1, t2, t3, t4, t5, t6, t7, t8⟩ := RR.f9
  obtain ⟨r0, r1, r2, r3, r4, r5, r6, r7, r8⟩ := RR.c9
  have HRO : Hid (Bk w1 (w.heap.size + 1 + 1) _ _) := RO
  have HRR : Hid (Bk w1 (w.heap.size + 1) _ _) := RR
  have HBB : Hid (Below w.heap.size w w1) := HB
  clear RB RR RO HB hw ow
  go_wp2
  obtain ⟨E1, E2, E3⟩ := to_end HRR.out HBB.out OW.out (.slice a' zs.length zs.length) [.int .i64 x0, .int .i64 x1, .int .i64 x2, .int .i64 x3, .int .i64 x4, .int .i64 x5, .int .i64 x6, .int .i64 x7, .slice a' zs.length zs.length] 8
  rw [ovr9] at E1
  refine bodyPost_ret (results_cell_row Try.results75 _ _ (w.heap.size + 1) _ _ _ _ rfl E1 Try.underlying82 rfl (by kernel_rfl)) rfl ⟨a', rfl, E2, E3⟩
end Go.Proofs.Ytioiacmaijgdoaa.Wire
namespace Go.Proofs.Ytioiacmaijgdoaa.Wire
open Go.RowKit
set_option linter.unusedVariables false
def hdB (x0 x1 x2 x3 x4 x5 x6 x7 y0 y1 y2 y3 y4 y5 y6 y7 : Int) : Bool := decide (x0 = y0 ∧ x1 = y1 ∧ x2 = y2 ∧ x3 = y3 ∧ x4 = y4 ∧ x5 = y5 ∧ x6 = y6 ∧ x7 = y7)
theorem hdB_yes (x0 x1 x2 x3 x4 x5 x6 x7 : Int) : hdB x0 x1 x2 x3 x4 x5 x6 x7 x0 x1 x2 x3 x4 x5 x6 x7 = true := decide_eq_true ⟨rfl, rfl, rfl, rfl, rfl, rfl, rfl, rfl⟩
theorem hdB_true {x0 x1 x2 x3 x4 x5 x6 x7 y0 y1 y2 y3 y4 y5 y6 y7 : Int} (h : hdB x0 x1 x2 x3 x4 x5 x6 x7 y0 y1 y2 y3 y4 y5 y6 y7 = true) : x0 = y0 ∧ x1 = y1 ∧ x2 = y2 ∧ x3 = y3 ∧ x4 = y4 ∧ x5 = y5 ∧ x6 = y6 ∧ x7 = y7 := of_decide_eq_true h
theorem hdB_no0 {x0 x1 x2 x3 x4 x5 x6 x7 y0 y1 y2 y3 y4 y5 y6 y7 : Int} (b : Bool) (h : ¬ x0 = y0) : (hdB x0 x1 x2 x3 x4 x5 x6 x7 y0 y1 y2 y3 y4 y5 y6 y7 && b) = false := by rw [show hdB x0 x1 x2 x3 x4 x5 x6 x7 y0 y1 y2 y3 y4 y5 y6 y7 = false from decide_eq_false (fun k => h k.1)]; rfl
theorem hdB_no1 {x0 x1 x2 x3 x4 x5 x6 x7 y0 y1 y2 y3 y4 y5 y6 y7 : Int} (b : Bool) (h : ¬ x1 = y1) : (hdB x0 x1 x2 x3 x4 x5 x6 x7 y0 y1 y2 y3 y4 y5 y6 y7 && b) = false := by rw [show hdB x0 x1 x2 x3 x4 x5 x6 x7 y0 y1 y2 y3 y4 y5 y6 y7 = false from decide_eq_false (fun k => h k.2.1)]; rfl
theorem hdB_no2 {x0 x1 x2 x3 x4 x5 x6 x7 y0 y1 y2 y3 y4 y5 y6 y7 : Int} (b : Bool) (h : ¬ x2 = y2) : (hdB x0 x1 x2 x3 x4 x5 x6 x7 y0 y1 y2 y3 y4 y5 y6 y7 && b) = false := by rw [show hdB x0 x1 x2 x3 x4 x5 x6 x7 y0 y1 y2 y3 y4 y5 y6 y7 = false from decide_eq_false (fun k => h k.2.2.1)]; rfl
theorem hdB_no3 {x0 x1 x2 x3 x4 x5 x6 x7 y0 y1 y2 y3 y4 y5 y6 y7 : Int} (b : Bool) (h : ¬ x3 = y3) : (hdB x0 x1 x2 x3 x4 x5 x6 x7 y0 y1 y2 y3 y4 y5 y6 y7 && b) = false := by rw [show hdB x0 x1 x2 x3 x4 x5 x6 x7 y0 y1 y2 y3 y4 y5 y6 y7 = false from decide_eq_false (fun k => h k.2.2.2.1)]; rfl
theorem hdB_no4 {x0 x1 x2 x3 x4 x5 x6 x7 y0 y1 y2 y3 y4 y5 y6 y7 : Int} (b : Bool) (h : ¬ x4 = y4) : (hdB x0 x1 x2 x3 x4 x5 x6 x7 y0 y1 y2 y3 y4 y5 y6 y7 && b) = false := by rw [show hdB x0 x1 x2 x3 x4 x5 x6 x7 y0 y1 y2 y3 y4 y5 y6 y7 = false from decide_eq_false (fun k => h k.2.2.2.2.1)]; rfl
theorem hdB_no5 {x0 x1 x2 x3 x4 x5 x6 x7 y0 y1 y2 y3 y4 y5 y6 y7 : Int} (b : Bool) (h : ¬ x5 = y5) : (hdB x0 x1 x2 x3 x4 x5 x6 x7 y0 y1 y2 y3 y4 y5 y6 y7 && b) = false := by rw [show hdB x0 x1 x2 x3 x4 x5 x6 x7 y0 y1 y2 y3 y4 y5 y6 y7 = false from decide_eq_false (fun k => h k.2.2.2.2.2.1)]; rfl
theorem hdB_no6 {x0 x1 x2 x3 x4 x5 x6 x7 y0 y1 y2 y3 y4 y5 y6 y7 : Int} (b : Bool) (h : ¬ x6 = y6) : (hdB x0 x1 x2 x3 x4 x5 x6 x7 y0 y1 y2 y3 y4 y5 y6 y7 && b) = false := by rw [show hdB x0 x1 x2 x3 x4 x5 x6 x7 y0 y1 y2 y3 y4 y5 y6 y7 = false from decide_eq_false (fun k => h k.2.2.2.2.2.2.1)]; rfl
theorem hdB_no7 {x0 x1 x2 x3 x4 x5 x6 x7 y0 y1 y2 y3 y4 y5 y6 y7 : Int} (b : Bool) (h : ¬ x7 = y7) : (hdB x0 x1 x2 x3 x4 x5 x6 x7 y0 y1 y2 y3 y4 y5 y6 y7 && b) = false := by rw [show hdB x0 x1 x2 x3 x4 x5 x6 x7 y0 y1 y2 y3 y4 y5 y6 y7 = false from decide_eq_false (fun k => h k.2.2.2.2.2.2.2)]; rfl
set_option maxHeartbeats 1600000 in
theorem SameMsg_any (x0 x1 x2 x3 x4 x5 x6 x7 y0 y1 y2 y3 y4 y5 y6 y7 : Int) (a a' : Option Addr) (cap cap' n n' : Nat) (l l' : List Int) (w : World) (hn : l.length = n) (hn' : l'.length = n') (hm : n ≤ maxLen) (hx : RowAt w a l) (hy : RowAt w a' l') :
    Calls Try.prog 99 #[.agg #[.int .i64 x0, .int .i64 x1, .int .i64 x2, .int .i64 x3, .int .i64 x4, .int .i64 x5, .int .i64 x6, .int .i64 x7, .slice a n cap], .agg #[.int .i64 y0, .int .i64 y1, .int .i64 y2, .int .i64 y3, .int .i64 y4, .int .i64 y5, .int .i64 y6, .int .i64 y7, .slice a' n' cap']] w fun e w' => e = .returned (.bool (hdB x0 x1 x2 x3 x4 x5 x6 x7 y0 y1 y2 y3 y4 y5 y6 y7 && sameB l l')) ∧ Below w.heap.size w w' := by
  subst hn hn'
  have HX : Hid (RowAt w a l) := hx
  have HY : Hid (RowAt w a' l') := hy
  clear hx hy
  by_cases h0 : x0 = y0
  · subst h0
    by_cases h1 : x1 = y1
    · subst h1
      by_cases h2 : x2 = y2
      · subst h2
        by_cases h3 : x3 = y3
        · subst h3
          by_cases h4 : x4 = y4
          · subst h4
            by_cases h5 : x5 = y5
            · subst h5
              by_cases h6 : x6 = y6
              · subst h6
                by_cases h7 : x7 = y7
                · subst h7
                  obtain ⟨sb, hsb⟩ : ∃ z, Hid (sameB l l' = z) := ⟨_, rfl⟩
                  have HV : Hid ((hdB x0 x1 x2 x3 x4 x5 x6 x7 x0 x1 x2 x3 x4 x5 x6 x7 && sameB l l') = sb) := by unfold Hid; rw [hdB_yes, hsb.out]; rfl
                  go_enter Try.func99, Try.ntmps99
                  go_wp2_with (go_at_call 107; refine (equal_any a a' cap cap' l l' _ hm (HX.out.keep (((Below.refl _ _).alloc (Nat.le_refl _) _).alloc (by simp) _)) (HY.out.keep (((Below.refl _ _).alloc (Nat.le_refl _) _).alloc (by simp) _))).mono ?_; rintro e w1 ⟨rfl, hw⟩; rw [hsb.out])
                  all_goals go_ret
                  all_goals exact ⟨ret_bool HV.out.symm, bel2 hw (by simp; try omega)⟩
                · have HV : Hid ((hdB x0 x1 x2 x3 x4 x5 x6 x7 x0 x1 x2 x3 x4 x5 x6 y7 && sameB l l') = false) := hdB_no7 _ h7
                  have g : (x7 == y7) = false := beq_eq_false_iff_ne.2 h7
                  clear h7
                  go_enter Try.func99, Try.ntmps99
                  go_wp2
                  go_ret
                  exact ⟨ret_bool HV.out.symm, ((Below.refl _ _).alloc (Nat.le_refl _) _).alloc (by simp) _⟩
              · have HV : Hid ((hdB x0 x1 x2 x3 x4 x5 x6 x7 x0 x1 x2 x3 x4 x5 y6 y7 && sameB l l') = false) := hdB_no6 _ h6
                have g : (x6 == y6) = false := beq_eq_false_iff_ne.2 h6
                clear h6
                go_enter Try.func99, Try.ntmps99
                go_wp2
                go_ret
                exact ⟨ret_bool HV.out.symm, ((Below.refl _ _).alloc (Nat.le_refl _) _).alloc (by simp) _⟩
            · have HV : Hid ((hdB x0 x1 x2 x3 x4 x5 x6 x7 x0 x1 x2 x3 x4 y5 y6 y7 && sameB l l') = false) := hdB_no5 _ h5
              have g : (x5 == y5) = false := beq_eq_false_iff_ne.2 h5
              clear h5
              go_enter Try.func99, Try.ntmps99
              go_wp2
              go_ret
              exact ⟨ret_bool HV.out.symm, ((Below.refl _ _).alloc (Nat.le_refl _) _).alloc (by simp) _⟩
          · have HV : Hid ((hdB x0 x1 x2 x3 x4 x5 x6 x7 x0 x1 x2 x3 y4 y5 y6 y7 && sameB l l') = false) := hdB_no4 _ h4
            have g : (x4 == y4) = false := beq_eq_false_iff_ne.2 h4
            clear h4
            go_enter Try.func99, Try.ntmps99
            go_wp2
            go_ret
            exact ⟨ret_bool HV.out.symm, ((Below.refl _ _).alloc (Nat.le_refl _) _).alloc (by simp) _⟩
        · have HV : Hid ((hdB x0 x1 x2 x3 x4 x5 x6 x7 x0 x1 x2 y3 y4 y5 y6 y7 && sameB l l') = false) := hdB_no3 _ h3
          have g : (x3 == y3) = false := beq_eq_false_iff_ne.2 h3
          clear h3
          go_enter Try.func99, Try.ntmps99
          go_wp2
          go_ret
          exact ⟨ret_bool HV.out.symm, ((Below.refl _ _).alloc (Nat.le_refl _) _).alloc (by simp) _⟩
      · have HV : Hid ((hdB x0 x1 x2 x3 x4 x5 x6 x7 x0 x1 y2 y3 y4 y5 y6 y7 && sameB l l') = false) := hdB_no2 _ h2
        have g : (x2 == y2) = false := beq_eq_false_iff_ne.2 h2
        clear h2
        go_enter Try.func99, Try.ntmps99
        go_wp2
        go_ret
        exact ⟨ret_bool HV.out.symm, ((Below.refl _ _).alloc (Nat.le_refl _) _).alloc (by simp) _⟩
    · have HV : Hid ((hdB x0 x1 x2 x3 x4 x5 x6 x7 x0 y1 y2 y3 y4 y5 y6 y7 && sameB l l') = false) := hdB_no1 _ h1
      have g : (x1 == y1) = false := beq_eq_false_iff_ne.2 h1
      clear h1
      go_enter Try.func99, Try.ntmps99
      go_wp2
      go_ret
      exact ⟨ret_bool HV.out.symm, ((Below.refl _ _).alloc (Nat.le_refl _) _).alloc (by simp) _⟩
  · have HV : Hid ((hdB x0 x1 x2 x3 x4 x5 x6 x7 y0 y1 y2 y3 y4 y5 y6 y7 && sameB l l') = false) := hdB_no0 _ h0
    have g : (x0 == y0) = false := beq_eq_false_iff_ne.2 h0
    clear h0
    go_enter Try.func99, Try.ntmps99
    go_wp2
    go_ret
    exact ⟨ret_bool HV.out.symm, ((Below.refl _ _).alloc (Nat.le_refl _) _).alloc (by simp) _⟩
set_option maxHeartbeats 1600000 in
theorem eqMsg_own (x0 x1 x2 x3 x4 x5 x6 x7 : Int) (a a' : Option Addr) (cap cap' n : Nat) (l : List Int) (w : World) (hn : l.length = n) (hm : n ≤ 1048576) (hx : RowAt w a l) (hy : RowAt w a' l) :
    Calls Try.prog 68 #[.agg #[.int .i64 x0, .int .i64 x1, .int .i64 x2, .int .i64 x3, .int .i64 x4, .int .i64 x5, .int .i64 x6, .int .i64 x7, .slice a n cap], .agg #[.int .i64 x0, .int .i64 x1, .int .i64 x2, .int .i64 x3, .int .i64 x4, .int .i64 x5, .int .i64 x6, .int .i64 x7, .slice a' n cap']] w fun e w' => e = .returned (.bool true) ∧ Below w.heap.size w w' := by
  have HX : Hid (RowAt w a l) := hx
  have HY : Hid (RowAt w a' l) := hy
  clear hx hy
  go_enter Try.func68, Try.ntmps68
  go_wp2_with (go_at_call 21; refine (eqIntS_own a a' cap cap' n l _ hn hm (HX.out.keep (((Below.refl _ _).alloc (Nat.le_refl _) _).alloc (by simp) _)) (HY.out.keep (((Below.refl _ _).alloc (Nat.le_refl _) _).alloc (by simp) _))).mono ?_; rintro e w1 ⟨rfl, hw⟩)
  go_ret
  exact ⟨rfl, bel2 hw (by simp; try omega)⟩
end Go.Proofs.Ytioiacmaijgdoaa.Wire
namespace Go.Proofs.Ytioiacmaijgdoaa
open Go.RowKit
set_option linter.unusedVariables false
set_option linter.unusedSimpArgs false
/-- one message, from a cell on -/
theorem msAt_cell {w : World} {bk off : Nat} {ms : List Mg} (h : LsAt tyMg w (some ⟨bk, off, none⟩) ms) {i : Nat} (hi : i < ms.length) : bk < w.heap.size ∧ ∃ a c, CellsAt w bk (off + i * 9) (mgV (ms.getD i mg0) (.slice a (ms.getD i mg0).l.length c)) ∧ RowAt w a (ms.getD i mg0).l ∧ (ms.getD i mg0).l.length ≤ maxLen ∧ (ms.getD i mg0).l.length ≤ c ∧ (a = none → c = 0) := by
  obtain ⟨h1, ci, h2, a, c, rfl, h3⟩ := lsAt_cell h hi
  exact ⟨h1, a, c, h2, h3⟩
theorem rsAt_cell {w : World} {bk off : Nat} {ms : List Rp} (h : LsAt tyRp w (some ⟨bk, off, none⟩) ms) {i : Nat} (hi : i < ms.length) : bk < w.heap.size ∧ CellsAt w bk (off + i * 5) (rpV (ms.getD i rp0)) := by
  obtain ⟨h1, ci, h2, rfl⟩ := lsAt_cell h hi
  exact ⟨h1, h2⟩
def lsum (ms : List Mg) : Nat := sumL (fun m => m.l.length) ms
theorem lsum_take {ms : List Mg} {k : Nat} (h : k < ms.length) : lsum (ms.take (k + 1)) = lsum (ms.take k) + (ms.getD k mg0).l.length := sumL_take _ mg0 h
theorem lsum_mem {ms : List Mg} {k : Nat} (h : k < ms.length) : (ms.getD k mg0).l.length ≤ lsum ms := sumL_mem (fun m : Mg => m.l.length) mg0 h
theorem lsum_le (ms : List Mg) (i : Nat) : lsum (ms.take i) ≤ lsum ms := sumL_le _ ms i
theorem szMsg_if (x0 x1 x2 x3 x4 x5 x6 x7 : Int) (a : Option Addr) (n cap : Nat) (k : Int) (w : World) (hm : n ≤ maxLen) (h1 : 0 ≤ k) (h2 : k ≤ 1048576) :
    Calls Try.prog 72 #[.agg #[.int .i64 x0, .int .i64 x1, .int .i64 x2, .int .i64 x3, .int .i64 x4, .int .i64 x5, .int .i64 x6, .int .i64 x7, .slice a n cap], .int .i64 k] w fun e w' => e = .returned (.int .i64 (if k - (n : Int) < 0 then -1 else k - (n : Int))) ∧ Below w.heap.size w w' := by
  refine (Wire.szMsg_any x0 x1 x2 x3 x4 x5 x6 x7 a cap n k w hm h1 h2).mono ?_
  rintro e w1 ⟨rfl, hw⟩
  refine ⟨?_, hw⟩
  unfold Wire.szl
  by_cases h : k < (n : Int)
  · rw [if_pos h, if_pos (by omega)]
  · rw [if_neg h, if_neg (by omega)]
set_option maxHeartbeats 1600000 in
theorem szMsgS_any (a : Option Addr) (cap : Nat) (ms : List Mg) (l0 : Int) (w : World) (hm : ms.length ≤ maxLen) (p1 : 0 ≤ l0) (p2 : l0 ≤ 1048576) (hr : LsAt tyMg w a ms) :
    Calls Try.prog 43 #[.slice a ms.length cap, .int .i64 l0] w fun e w' => ∃ v : Int, e = .returned (.int .i64 v) ∧ (v < 0 ∨ (0 ≤ v ∧ ms.length + lsum ms ≤ 1048576)) ∧ -1 ≤ v ∧ v ≤ 1048576 ∧ Below w.heap.size w w' := by
  unfold maxLen at hm
  have HR : Hid (LsAt tyMg w a ms) := hr
  clear hr
  by_cases hbig : l0 - (ms.length : Int) < 0
  · go_enter Try.func43, Try.ntmps43
    go_wp2
    go_ret
    exact ⟨-1, rfl, .inl (by omega), by omega, by omega, Below.refl _ _⟩
  · have hz : ms.length ≤ 1048576 := by omega
    go_enter Try.func43, Try.ntmps43
    go_wp2_with fail
    go_loopw [1, 5] (fun vl vi wr => ∃ (k : Nat) (l : Int), k ≤ ms.length ∧ vi = .int .i64 k ∧ vl = .int .i64 l ∧ 0 ≤ l ∧ l = l0 - (ms.length : Int) - (lsum (ms.take k) : Int) ∧ Below w.heap.size w wr) (fun _ vi _ => ms.length - (intOf vi).toNat)
    case atStart => exact ⟨0, _, Nat.zero_le _, rfl, rfl, by omega, by simp [lsum, sumL], Below.refl _ _⟩
    case round =>
      obtain ⟨k, l, hk, rfl, rfl, l1, hl, hbel⟩ := hrel
      have HL : Hid (l = l0 - (ms.length : Int) - (lsum (ms.take k) : Int)) := hl
      have l2 : l ≤ 1048576 := by omega
      clear hl
      by_cases hlt : k < ms.length
      · obtain ⟨bk, off, rfl⟩ := lsAt_form HR.out (by show 0 < ms.length; omega)
        obtain ⟨_, ab, cb, hc, _, hn, _⟩ := msAt_cell (HR.out.keep hbel) hlt
        obtain ⟨c0, c1, c2, c3, c4, c5, c6, c7, c8⟩ := hc.m9
        clear hc
        have HBT : Hid (lsum (ms.take (k + 1)) = lsum (ms.take k) + (ms.getD k mg0).l.length) := lsum_take hlt
        obtain ⟨nb, hnb⟩ : ∃ nb, nb = (ms.getD k mg0).l.length := ⟨_, rfl⟩
        rw [← hnb] at c8 hn HBT
        clear hnb
        generalize (ms.getD k mg0).x0 = x0 at c0
        generalize (ms.getD k mg0).x1 = x1 at c1
        generalize (ms.getD k mg0).x2 = x2 at c2
        generalize (ms.getD k mg0).x3 = x3 at c3
        generalize (ms.getD k mg0).x4 = x4 at c4
        generalize (ms.getD k mg0).x5 = x5 at c5
        generalize (ms.getD k mg0).x6 = x6 at c6
        generalize (ms.getD k mg0).x7 = x7 at c7
        have C := szMsg_if x0 x1 x2 x3 x4 x5 x6 x7 ab nb cb l wr hn l1 l2
        by_cases hneg : l - (nb : Int) < 0
        · rw [if_pos hneg] at C
          go_wp2_with fail
          refine C.mono ?_
          rintro e w1 ⟨rfl, hw1⟩
          go_wp2
          go_ret
          exact ⟨-1, rfl, .inl (by omega), by omega, by omega, belt hbel hw1⟩
        · rw [if_neg hneg] at C
          go_wp2_with fail
          refine C.mono ?_
          rintro e w1 ⟨rfl, hw1⟩
          have hbel1 := belt hbel hw1
          go_wp2_with fail
          go_roundw
          case rel => exact ⟨k + 1, _, by omega, by go_num, rfl, by omega, by rw [HBT.out]; have := HL.out; omega, hbel1⟩
          case measure => simp [intOf]; omega
      · have hh := HL.out
        rw [List.take_of_length_le (by omega)] at hh
        have HH : Hid (ms.length + lsum ms ≤ 1048576) := by unfold Hid; omega
        clear hh
        go_wp2
        go_ret
        exact ⟨l, rfl, .inr ⟨l1, HH.out⟩, by omega, by omega, hbel⟩
theorem szReplyS_any (a : Option Addr) (cap n : Nat) (l : Int) (w : World) (hn : n ≤ maxLen) (l1 : 0 ≤ l) (l2 : l ≤ 1048576) :
    Calls Try.prog 45 #[.slice a n cap, .int .i64 l] w fun e w' => e = .returned (.int .i64 (if l - (n : Int) < 0 then -1 else l - (n : Int))) ∧ w' = w := by
  unfold maxLen at hn
  by_cases h : l - (n : Int) < 0
  · rw [if_pos h]
    go_enter Try.func45, Try.ntmps45
    go_wp2
    go_ret
    exact ⟨rfl, rfl⟩
  · rw [if_neg h]
    go_enter Try.func45, Try.ntmps45
    go_wp2
    go_ret
    exact ⟨rfl, rfl⟩
end Go.Proofs.Ytioiacmaijgdoaa
namespace Go.Proofs.Ytioiacmaijgdoaa
open Go.RowKit
set_option linter.unusedVariables false
set_option linter.unusedSimpArgs false
theorem made_at (z : Array Value) (n i j : Nat) (hj : j < z.size) (hi : i * z.size + j < n) : (madeCells z n)[i * z.size + j]? = z[j]? := by
  unfold madeCells
  rw [Array.getElem?_map, Array.getElem?_range, if_pos hi]
  have e : (i * z.size + j) % z.size = j := by rw [Nat.mul_comm, Nat.mul_add_mod, Nat.mod_eq_of_lt hj]
  simp [e, hj]
theorem made_own (t : TypeId) (e : TyI) (z : Array Value) (n : Nat) (w : World) (hz : z.size = e.wide) (ho : ∀ w' : World, e.own w.heap.size (w.heap.size + 1) w' z.toList e.dflt []) (hn : n ≤ 1048576) :
    (tySlice t e).own w.heap.size (w.alloc (.cells (madeCells z (n * e.wide)) t)).heap.size (w.alloc (.cells (madeCells z (n * e.wide)) t)) [.slice (some ⟨w.heap.size, 0, none⟩) (List.replicate n e.dflt).length n] (List.replicate n e.dflt) (w.heap.size :: (List.replicate n ([] : List Nat)).flatten) := by
  have hrow := heap_alloc_new w (.cells (madeCells z (n * e.wide)) t)
  refine ⟨_, n, rfl, by rw [List.length_replicate]; exact hn, by rw [List.length_replicate]; exact Nat.le_refl _, fun h => (by cases h), .inr ⟨w.heap.size, _, List.replicate n [], rfl, Nat.le_refl _, by simp, hrow, by rw [List.length_replicate, List.length_replicate], rfl, fun i hi => ?_⟩⟩
  rw [List.length_replicate] at hi
  have e1 : (List.replicate n e.dflt).getD i e.dflt = e.dflt := by simp [List.getD_eq_getElem?_getD, hi]
  have e2 : (List.replicate n ([] : List Nat)).getD i [] = [] := by simp [List.getD_eq_getElem?_getD, hi]
  rw [e1, e2]
  refine ⟨z.toList, fun j v hj => ?_, by rw [World.size_alloc]; exact ho _⟩
  have hjl : j < z.size := by have := (List.getElem?_eq_some_iff.1 hj).1; simpa using this
  refine (cell_of_row _ _ _ _ _ _ hrow).trans ?_
  rw [← hz]
  have hlt : i * z.size + j < n * z.size := by
    have : (i + 1) * z.size ≤ n * z.size := Nat.mul_le_mul_right _ hi
    rw [Nat.add_mul, Nat.one_mul] at this
    omega
  rw [made_at z _ i j hjl hlt]
  simpa using hj
theorem info_msg : (Try.prog.info? 82).map (fun i => (i.zero, i.size, i.bytes)) = some (some (.agg #[.int .i64 0, .int .i64 0, .int .i64 0, .int .i64 0, .int .i64 0, .int .i64 0, .int .i64 0, .int .i64 0, .slice none 0 0]), 9, 88) := by kernel_rfl
theorem make_msgs (n : Nat) (hn : n ≤ 1048576) (w : World) :
    (Instr.makeSlice 32 (.int .i64 (n : Int)) (.int .i64 (n : Int))).run Try.prog w = .ok (.slice (some ⟨w.heap.size, 0, none⟩) n n) (w.alloc (.cells (madeCells #[.int .i64 0, .int .i64 0, .int .i64 0, .int .i64 0, .int .i64 0, .int .i64 0, .int .i64 0, .int .i64 0, .slice none 0 0] (n * 9)) 82)) := by
  obtain ⟨i0, hi, hz0, hz1, hz2⟩ := info_parts info_msg
  have := run_make (P := Try.prog) w 32 82 i0 _ Try.underlying32 hi hz0 .i64 .i64 (n : Int) (n : Int) (by omega) (by omega) (by rw [hz2]; omega) (by omega)
  rw [hz1] at this
  rw [this]
  simp
  rfl
theorem info_reply : (Try.prog.info? 86).map (fun i => (i.zero, i.size, i.bytes)) = some (some (.agg #[.int .i64 0, .int .i64 0, .int .i64 0, .int .i64 0, .bool false]), 5, 40) := by kernel_rfl
theorem make_replies (n : Nat) (hn : n ≤ 1048576) (w : World) :
    (Instr.makeSlice 34 (.int .i64 (n : Int)) (.int .i64 (n : Int))).run Try.prog w = .ok (.slice (some ⟨w.heap.size, 0, none⟩) n n) (w.alloc (.cells (madeCells #[.int .i64 0, .int .i64 0, .int .i64 0, .int .i64 0, .bool false] (n * 5)) 86)) := by
  obtain ⟨i0, hi, hz0, hz1, hz2⟩ := info_parts info_reply
  have := run_make (P := Try.prog) w 34 86 i0 _ Try.underlying34 hi hz0 .i64 .i64 (n : Int) (n : Int) (by omega) (by omega) (by rw [hz2]; omega) (by omega)
  rw [hz1] at this
  rw [this]
  simp
  rfl
theorem own9 (B T : Nat) (w : World) : tyMg.own B T w (#[.int .i64 0, .int .i64 0, .int .i64 0, .int .i64 0, .int .i64 0, .int .i64 0, .int .i64 0, .int .i64 0, .slice none 0 0] : Array Value).toList mg0 [] := ⟨none, 0, rfl, by simp [mg0], by simp [mg0], fun _ => rfl, .inl ⟨rfl, rfl⟩⟩
theorem own5 (B T : Nat) (w : World) : tyRp.own B T w (#[.int .i64 0, .int .i64 0, .int .i64 0, .int .i64 0, .bool false] : Array Value).toList rp0 [] := ⟨rfl, rfl⟩
theorem wireS {B : Nat} {w : World} {g : Nat} {l : List Int} (h : Wire.OwnS B w g l) : OwnS B w g l := ⟨h.lo, h.row⟩
theorem toMsg_own (x0 x1 x2 x3 x4 x5 x6 x7 : Int) (a : Option Addr) (cap : Nat) (zs : List Int) (w : World) (hm : zs.length ≤ 1048576) (hr : RowAt w a zs) :
    Calls Try.prog 75 #[.agg #[.int .i64 x0, .int .i64 x1, .int .i64 x2, .int .i64 x3, .int .i64 x4, .int .i64 x5, .int .i64 x6, .int .i64 x7, .slice a zs.length cap]] w fun e w' => ∃ a' F, e = .returned (.agg #[.int .i64 x0, .int .i64 x1, .int .i64 x2, .int .i64 x3, .int .i64 x4, .int .i64 x5, .int .i64 x6, .int .i64 x7, .slice a' zs.length zs.length]) ∧ tyMg.own w.heap.size w'.heap.size w' (mgV ⟨x0, x1, x2, x3, x4, x5, x6, x7, zs⟩ (.slice a' zs.length zs.length)) ⟨x0, x1, x2, x3, x4, x5, x6, x7, zs⟩ F ∧ F.Nodup ∧ Below w.heap.size w w' := by
  refine (Wire.toMsg_any x0 x1 x2 x3 x4 x5 x6 x7 a cap zs.length zs w rfl hm hr).mono ?_
  rintro e w1 ⟨a', rfl, ⟨_, ho⟩, hw⟩
  rcases ho with h | ⟨g, ha, ht, os⟩
  · subst h
    exact ⟨a', [], rfl, ⟨a', 0, rfl, by simp, by simp, fun _ => rfl, .inl ⟨rfl, rfl⟩⟩, by simp, hw⟩
  · exact ⟨a', [g], rfl, ⟨a', zs.length, rfl, hm, Nat.le_refl _, fun h => (by rw [ha] at h; cases h), .inr ⟨g, ha, rfl, ht, wireS os⟩⟩, by simp, hw⟩
def set9 (w : World) (q o : Nat) (v0 v1 v2 v3 v4 v5 v6 v7 v8 : Value) : World := ((((((((w.setCell ⟨q, o, none⟩ v0).setCell ⟨q, o + 1, none⟩ v1).setCell ⟨q, o + 2, none⟩ v2).setCell ⟨q, o + 3, none⟩ v3).setCell ⟨q, o + 4, none⟩ v4).setCell ⟨q, o + 5, none⟩ v5).setCell ⟨q, o + 6, none⟩ v6).setCell ⟨q, o + 7, none⟩ v7).setCell ⟨q, o + 8, none⟩ v8
theorem set9_eq (w : World) (q o : Nat) (v0 v1 v2 v3 v4 v5 v6 v7 v8 : Value) : set9 w q o v0 v1 v2 v3 v4 v5 v6 v7 v8 = setO w q o [v0, v1, v2, v3, v4, v5, v6, v7, v8] := rfl
def set5 (w : World) (q o : Nat) (v0 v1 v2 v3 v4 : Value) : World := ((((w.setCell ⟨q, o, none⟩ v0).setCell ⟨q, o + 1, none⟩ v1).setCell ⟨q, o + 2, none⟩ v2).setCell ⟨q, o + 3, none⟩ v3).setCell ⟨q, o + 4, none⟩ v4
theorem set5_eq (w : World) (q o : Nat) (v0 v1 v2 v3 v4 : Value) : set5 w q o v0 v1 v2 v3 v4 = setO w q o [v0, v1, v2, v3, v4] := rfl
theorem own_slot9 {t : TypeId} {B T : Nat} {w : World} {g cap : Nat} {M : List Mg} {F : List Nat} (h : (tySlice t tyMg).own B T w [.slice (some ⟨g, 0, none⟩) M.length cap] M F) {i : Nat} (hi : i < M.length) : (∃ cur, w.heap[g]? = some (.cells cur t (0, 0))) ∧ ∃ m s, CellsAt w g (i * 9) (mgV m s) := by
  obtain ⟨ad, cap', h0, h1, h2, h3, h4⟩ := h
  simp at h0
  obtain ⟨rfl, h0⟩ := h0
  have hcc : cap = cap' := by first | exact h0 | exact h0.2
  subst hcc
  rcases h4 with ⟨h4, _⟩ | ⟨g', cur, Fs, ha, hB, hT, hg, hl, hF, hc⟩
  · have hl0 : M.length = 0 := by rw [h4]; rfl
    omega
  · simp at ha
    subst ha
    obtain ⟨ci, p1, a, c, rfl, _⟩ := hc i hi
    exact ⟨⟨cur, hg⟩, _, _, p1⟩
theorem own_slot5 {t : TypeId} {B T : Nat} {w : World} {g cap : Nat} {M : List Rp} {F : List Nat} (h : (tySlice t tyRp).own B T w [.slice (some ⟨g, 0, none⟩) M.length cap] M F) {i : Nat} (hi : i < M.length) : (∃ cur, w.heap[g]? = some (.cells cur t (0, 0))) ∧ ∃ m, CellsAt w g (i * 5) (rpV m) := by
  obtain ⟨ad, cap', h0, h1, h2, h3, h4⟩ := h
  simp at h0
  obtain ⟨rfl, h0⟩ := h0
  have hcc : cap = cap' := by first | exact h0 | exact h0.2
  subst hcc
  rcases h4 with ⟨h4, _⟩ | ⟨g', cur, Fs, ha, hB, hT, hg, hl, hF, hc⟩
  · have hl0 : M.length = 0 := by rw [h4]; rfl
    omega
  · simp at ha
    subst ha
    obtain ⟨ci, p1, rfl, _⟩ := hc i hi
    exact ⟨⟨cur, hg⟩, _, p1⟩
theorem getD_seq {α : Type} {L M : List α} {x0 : α} (hl : L.length = M.length) (h : ∀ i, i < M.length → L.getD i x0 = M.getD i x0) : L = M := by
  refine List.ext_getElem hl (fun i h1 h2 => ?_)
  have := h i h2
  simp [List.getD_eq_getElem?_getD, List.getElem?_eq_getElem h1, List.getElem?_eq_getElem h2] at this
  exact this
theorem getD_set' {α : Type} {L : List α} {x0 : α} {i j : Nat} {e : α} (hj : j < L.length) : (L.set i e).getD j x0 = if i = j then e else L.getD j x0 := by
  rw [List.getD_eq_getElem?_getD, List.getElem?_set]
  by_cases hij : i = j
  · subst hij; simp [hj]
  · rw [if_neg hij, if_neg hij, List.getD_eq_getElem?_getD]
theorem set9_below {n : Nat} {w0 w : World} {q o : Nat} (v0 v1 v2 v3 v4 v5 v6 v7 v8 : Value) (h : Below n w0 w) (hq : n ≤ q) : Below n w0 (set9 w q o v0 v1 v2 v3 v4 v5 v6 v7 v8) := by
  rw [set9_eq]
  exact setO_below hq _ _ h
theorem set5_below {n : Nat} {w0 w : World} {q o : Nat} (v0 v1 v2 v3 v4 : Value) (h : Below n w0 w) (hq : n ≤ q) : Below n w0 (set5 w q o v0 v1 v2 v3 v4) := by
  rw [set5_eq]
  exact setO_below hq _ _ h
theorem own_put9 {t : TypeId} {B : Nat} {w w1 : World} {g cap n : Nat} {M : List Mg} {F : List Nat} (h : (tySlice t tyMg).own B w.heap.size w [.slice (some ⟨g, 0, none⟩) M.length cap] M F) (hn : F.Nodup) (hb : Below w.heap.size w w1) {i : Nat} (hi : i < M.length) (hM : M.length = n)
    (m : Mg) (s : Value) {F1 : List Nat} (ho : tyMg.own w.heap.size w1.heap.size w1 (mgV m s) m F1) (hn1 : F1.Nodup) :
    ∃ F2, (tySlice t tyMg).own B (set9 w1 g (i * 9) (.int .i64 m.x0) (.int .i64 m.x1) (.int .i64 m.x2) (.int .i64 m.x3) (.int .i64 m.x4) (.int .i64 m.x5) (.int .i64 m.x6) (.int .i64 m.x7) s).heap.size (set9 w1 g (i * 9) (.int .i64 m.x0) (.int .i64 m.x1) (.int .i64 m.x2) (.int .i64 m.x3) (.int .i64 m.x4) (.int .i64 m.x5) (.int .i64 m.x6) (.int .i64 m.x7) s) [.slice (some ⟨g, 0, none⟩) (M.set i m).length cap] (M.set i m) F2 ∧ F2.Nodup ∧ (M.set i m).length = n := by
  obtain ⟨F2, q1, q2⟩ := own_put h hn hb hi ho hn1
  have hsl : (M.set i m).length = M.length := List.length_set
  refine ⟨F2, ?_, q2, by rw [hsl]; exact hM⟩
  rw [hsl, set9_eq]
  exact q1
theorem own_put5 {t : TypeId} {B : Nat} {w w1 : World} {g cap n : Nat} {M : List Rp} {F : List Nat} (h : (tySlice t tyRp).own B w.heap.size w [.slice (some ⟨g, 0, none⟩) M.length cap] M F) (hn : F.Nodup) (hb : Below w.heap.size w w1) {i : Nat} (hi : i < M.length) (hM : M.length = n) (m : Rp) :
    ∃ F2, (tySlice t tyRp).own B (set5 w1 g (i * 5) (.int .i64 m.x0) (.int .i64 m.x1) (.int .i64 m.x2) (.int .i64 m.x3) (.bool m.b)).heap.size (set5 w1 g (i * 5) (.int .i64 m.x0) (.int .i64 m.x1) (.int .i64 m.x2) (.int .i64 m.x3) (.bool m.b)) [.slice (some ⟨g, 0, none⟩) (M.set i m).length cap] (M.set i m) F2 ∧ F2.Nodup ∧ (M.set i m).length = n := by
  obtain ⟨F2, q1, q2⟩ := own_put (e := tyRp) (m1 := m) (F1 := []) (c1 := rpV m) h hn hb hi ⟨rfl, rfl⟩ (by simp)
  have hsl : (M.set i m).length = M.length := List.length_set
  refine ⟨F2, ?_, q2, by rw [hsl]; exact hM⟩
  rw [hsl, set5_eq]
  exact q1
end Go.Proofs.Ytioiacmaijgdoaa
namespace Go.Proofs.Ytioiacmaijgdoaa
open Go.RowKit
set_option linter.unusedVariables false
set_option linter.unusedSimpArgs false
set_option maxRecDepth 100000 in
set_option maxHeartbeats 6400000 in
theorem toMsgS_any (a : Option Addr) (cap : Nat) (ms : List Mg) (w : World) (hb : ms.length + lsum ms ≤ 1048576) (hr : LsAt tyMg w a ms) :
    Calls Try.prog 47 #[.slice a ms.length cap] w fun e w' => ∃ a', e = .returned (.slice a' ms.length ms.length) ∧ OwnEs tyMg 82 w.heap.size w'.heap.size w' a' ms.length ms ∧ Below w.heap.size w w' := by
  have HR : Hid (LsAt tyMg w a ms) := hr
  have HBB : Hid (ms.length + lsum ms ≤ 1048576) := hb
  have hz : ms.length ≤ 1048576 := by omega
  clear hr hb
  have hmk := make_msgs ms.length hz
  have OW0 : Hid (∃ F : List Nat, F.Nodup ∧ (tySlice 82 tyMg).own w.heap.size (w.alloc (.cells (madeCells #[.int .i64 0, .int .i64 0, .int .i64 0, .int .i64 0, .int .i64 0, .int .i64 0, .int .i64 0, .int .i64 0, .slice none 0 0] (ms.length * 9)) 82)).heap.size (w.alloc (.cells (madeCells #[.int .i64 0, .int .i64 0, .int .i64 0, .int .i64 0, .int .i64 0, .int .i64 0, .int .i64 0, .int .i64 0, .slice none 0 0] (ms.length * 9)) 82)) [.slice (some ⟨w.heap.size, 0, none⟩) (List.replicate ms.length mg0).length ms.length] (List.replicate ms.length mg0) F) :=
    ⟨_, by simp, made_own 82 tyMg #[.int .i64 0, .int .i64 0, .int .i64 0, .int .i64 0, .int .i64 0, .int .i64 0, .int .i64 0, .int .i64 0, .slice none 0 0] ms.length w rfl (fun w' => own9 _ _ _) hz⟩
  go_enter Try.func47, Try.ntmps47
  go_wp2_with fail
  clear hmk
  go_loopw [4] (fun vi wr => ∃ (k : Nat) (M : List Mg) (F : List Nat), k ≤ ms.length ∧ vi = .int .i64 k ∧ M.length = ms.length ∧ Hid (∀ i, i < k → M.getD i mg0 = ms.getD i mg0) ∧ Hid (F.Nodup) ∧ (tySlice 82 tyMg).own w.heap.size wr.heap.size wr [.slice (some ⟨w.heap.size, 0, none⟩) M.length ms.length] M F ∧ Below w.heap.size w wr) (fun vi _ => ms.length - (intOf vi).toNat)
  case atStart =>
    obtain ⟨F0, hF0, ho0⟩ := OW0.out
    exact ⟨0, List.replicate ms.length mg0, F0, Nat.zero_le _, rfl, List.length_replicate, fun i hi => by omega, hF0, ho0, (Below.refl _ _).alloc (Nat.le_refl _) _⟩
  case round =>
    obtain ⟨k, M, F, hk, rfl, hM, hs, HF, ow, hbel⟩ := hrel
    have HOW : Hid ((tySlice 82 tyMg).own w.heap.size wr.heap.size wr [.slice (some ⟨w.heap.size, 0, none⟩) M.length ms.length] M F) := ow
    have HB : Hid (Below w.heap.size w wr) := hbel
    have HM : Hid (M.length = ms.length) := hM
    clear ow hbel hM OW0
    by_cases hlt : k < ms.length
    · obtain ⟨bk, off, rfl⟩ := lsAt_form HR.out (by show 0 < ms.length; omega)
      obtain ⟨hb1, ab, cb, hc, hrb, hn, hcb⟩ := msAt_cell (HR.out.keep HB.out) hlt
      obtain ⟨c0, c1, c2, c3, c4, c5, c6, c7, c8⟩ := hc.m9
      have hzs : (ms.getD k mg0).l.length ≤ 1048576 := by have := lsum_mem hlt; have := HBB.out; omega
      obtain ⟨p, hp⟩ : ∃ p, p = ms.getD k mg0 := ⟨_, rfl⟩
      have HP : Hid (p = ms.getD k mg0) := hp
      rw [← hp] at c0 c1 c2 c3 c4 c5 c6 c7 c8 hrb hzs
      clear hp hn hcb hc
      obtain ⟨x0, x1, x2, x3, x4, x5, x6, x7, zs⟩ := p
      have HRB : Hid (RowAt wr ab zs) := hrb
      have hzs' : zs.length ≤ 1048576 := hzs
      clear hrb hzs
      go_wp2_with fail
      refine (toMsg_own x0 x1 x2 x3 x4 x5 x6 x7 ab cb zs _ hzs' HRB.out).mono ?_
      rintro e w1 ⟨a', F1, rfl, os1, hF1, hw1⟩
      have hkM : k < M.length := by rw [HM.out]; exact hlt
      have ow1 := (tySlice 82 tyMg).own_keep HOW.out hw1
      obtain ⟨⟨cur, hcur⟩, mo, so, hco⟩ := own_slot9 ow1 hkM
      obtain ⟨e0, e1, e2, e3, e4, e5, e6, e7, e8⟩ := hco.m9
      have f0 : w1.frozen? ⟨w.heap.size, k * 9, none⟩ = false := frozen_of_row w1 _ _ _ _ hcur
      have f1 : w1.frozen? ⟨w.heap.size, k * 9 + 1, none⟩ = false := frozen_of_row w1 _ _ _ _ hcur
      have f2 : w1.frozen? ⟨w.heap.size, k * 9 + 2, none⟩ = false := frozen_of_row w1 _ _ _ _ hcur
      have f3 : w1.frozen? ⟨w.heap.size, k * 9 + 3, none⟩ = false := frozen_of_row w1 _ _ _ _ hcur
      have f4 : w1.frozen? ⟨w.heap.size, k * 9 + 4, none⟩ = false := frozen_of_row w1 _ _ _ _ hcur
      have f5 : w1.frozen? ⟨w.heap.size, k * 9 + 5, none⟩ = false := frozen_of_row w1 _ _ _ _ hcur
      have f6 : w1.frozen? ⟨w.heap.size, k * 9 + 6, none⟩ = false := frozen_of_row w1 _ _ _ _ hcur
      have f7 : w1.frozen? ⟨w.heap.size, k * 9 + 7, none⟩ = false := frozen_of_row w1 _ _ _ _ hcur
      have f8 : w1.frozen? ⟨w.heap.size, k * 9 + 8, none⟩ = false := frozen_of_row w1 _ _ _ _ hcur
      obtain ⟨F2, ho2, hf2, hl2⟩ := own_put9 HOW.out HF.out hw1 hkM HM.out (⟨x0, x1, x2, x3, x4, x5, x6, x7, zs⟩ : Mg) (.slice a' zs.length zs.length) os1 hF1
      have HO2 : Hid ((tySlice 82 tyMg).own w.heap.size (set9 w1 w.heap.size (k * 9) (.int .i64 x0) (.int .i64 x1) (.int .i64 x2) (.int .i64 x3) (.int .i64 x4) (.int .i64 x5) (.int .i64 x6) (.int .i64 x7) (.slice a' zs.length zs.length)).heap.size (set9 w1 w.heap.size (k * 9) (.int .i64 x0) (.int .i64 x1) (.int .i64 x2) (.int .i64 x3) (.int .i64 x4) (.int .i64 x5) (.int .i64 x6) (.int .i64 x7) (.slice a' zs.length zs.length)) [.slice (some ⟨w.heap.size, 0, none⟩) (M.set k (⟨x0, x1, x2, x3, x4, x5, x6, x7, zs⟩ : Mg)).length ms.length] (M.set k (⟨x0, x1, x2, x3, x4, x5, x6, x7, zs⟩ : Mg)) F2) := ho2
      have HF2 : Hid (F2.Nodup) := hf2
      have HML : Hid ((M.set k (⟨x0, x1, x2, x3, x4, x5, x6, x7, zs⟩ : Mg)).length = ms.length) := hl2
      clear ho2 hf2 hl2
      have HB1 : Hid (Below w.heap.size w (set9 w1 w.heap.size (k * 9) (.int .i64 x0) (.int .i64 x1) (.int .i64 x2) (.int .i64 x3) (.int .i64 x4) (.int .i64 x5) (.int .i64 x6) (.int .i64 x7) (.slice a' zs.length zs.length))) := set9_below _ _ _ _ _ _ _ _ _ (belt HB.out hw1) (Nat.le_refl _)
      have HS1 : Hid (∀ i, i < k + 1 → (M.set k (⟨x0, x1, x2, x3, x4, x5, x6, x7, zs⟩ : Mg)).getD i mg0 = ms.getD i mg0) := fun i hi => by
        rw [getD_set' (by have := HM.out; omega)]
        by_cases hik : k = i
        · subst hik; rw [if_pos rfl]; exact HP.out
        · rw [if_neg hik]; exact hs.out i (by omega)
      generalize mo.x0 = y0 at e0
      generalize mo.x1 = y1 at e1
      generalize mo.x2 = y2 at e2
      generalize mo.x3 = y3 at e3
      generalize mo.x4 = y4 at e4
      generalize mo.x5 = y5 at e5
      generalize mo.x6 = y6 at e6
      generalize mo.x7 = y7 at e7
      clear os1 hcur ow1 hco
      go_wp2
      go_roundw
      case rel => exact ⟨k + 1, _, F2, by omega, by go_num, HML.out, HS1, HF2, HO2.out, HB1.out⟩
      case measure => simp [intOf]; omega
    · have hke : k = ms.length := by omega
      subst hke
      have HME : Hid (M = ms) := getD_seq HM.out hs.out
      go_wp2
      go_ret
      refine ⟨_, rfl, ⟨rfl, hz, .inr ⟨w.heap.size, F, ms.length, rfl, HF.out, ?_⟩⟩, HB.out⟩
      have := HOW.out
      rw [HME.out] at this
      exact this
end Go.Proofs.Ytioiacmaijgdoaa
