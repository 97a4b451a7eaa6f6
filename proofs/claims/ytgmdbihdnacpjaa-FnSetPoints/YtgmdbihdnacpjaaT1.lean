/- The ring that is drawn: some space and some list. -/
import Derived.Test.YtgmdbihdnacpjaaT0
import Derived.Test.YtgmdbihdnacpjaaC3
namespace Go.Proofs.Ytgmdbihdnacpjaa
open Go.RowKit
set_option linter.unusedVariables false

theorem SpSt.keepB {w wr w1 : World} {g n q : Nat} {a : Option Addr} {cap : Nat} {zs : List Int} {b d : Int} (h : SpSt w wr g n q a cap zs b d) (hb : Below wr.heap.size wr w1) : SpSt w w1 g n q a cap zs b d := h.step (Mv.of_below hb) (h.cur.keep hb)
theorem SpSt.more {w wr : World} {g n m q : Nat} {a : Option Addr} {cap : Nat} {zs : List Int} {b d : Int} (h : SpSt w wr g n q a cap zs b d) (hm : n ≤ m) : SpSt w wr g m q a cap zs b d :=
  ⟨h.mv, h.cur.more hm, h.q0, h.q1, h.f0, h.f1, h.r, h.lo, h.hi, h.row, h.gl⟩
theorem spSt_ring {w w1 : World} {g n : Nat} {a : Option Addr} {cap : Nat} {zs : List Int} {b d : Int} (mv1 : Mv g (w.alloc (.cells #[.int .i64 0, .int .i64 0] 25)) w1) (hc1 : CurAt w1 g n a cap zs) (hlt : g < w.heap.size) (hr : RowU w g a zs) :
    SpSt w (w1.alloc (.cells #[.int .i64 b, .int .i64 d] 25)) g n w1.heap.size a cap zs b d := by
  have hs := mv1.size
  simp at hs
  refine ⟨(((Mv.refl g w).alloc _).trans mv1).alloc _, hc1.new _, by simp, by simp, frozen_of_row _ _ _ _ _ (heap_alloc_new _ _), frozen_of_row _ _ _ _ _ (heap_alloc_new _ _), ?_, by omega, by simp, hr, hlt⟩
  rw [heap_alloc_old _ _ (by omega), mv1.block _ (by simp) (by omega)]
  exact heap_alloc_new _ _
/-- the world behind the result's store -/
theorem SpSt.fin {w wr : World} {g n q : Nat} {a : Option Addr} {cap : Nat} {zs : List Int} {b d : Int} (h : SpSt w wr g n q a cap zs b d) (u v : Value) :
    ((wr.setCell ⟨w.heap.size, 0, none⟩ u).setCell ⟨w.heap.size, 1, none⟩ v).heap[w.heap.size]? = some (.cells #[u, v] 25 (0, 0)) ∧ Mv g w ((wr.setCell ⟨w.heap.size, 0, none⟩ u).setCell ⟨w.heap.size, 1, none⟩ v) ∧ CurAt ((wr.setCell ⟨w.heap.size, 0, none⟩ u).setCell ⟨w.heap.size, 1, none⟩ v) g n a cap zs ∧
      ∀ k, k < wr.heap.size → w.heap.size + 1 ≤ k → ((wr.setCell ⟨w.heap.size, 0, none⟩ u).setCell ⟨w.heap.size, 1, none⟩ v).heap[k]? = wr.heap[k]? := by
  have hgq : ¬ g = w.heap.size := by have := h.gl; omega
  have mv1 := h.mv.put (Nat.le_refl _) 0 u
  refine ⟨heap_setCell_same _ _ 1 _ _ v (heap_setCell_same _ _ 0 _ _ u h.r), mv1.put (Nat.le_refl _) 1 v, (h.cur.put h.row h.mv (Nat.le_refl _) hgq 0 u).put h.row mv1 (Nat.le_refl _) hgq 1 v, fun k hk hb => ?_⟩
  rw [heap_setCell_other _ _ _ _ (by simp; omega), heap_setCell_other _ _ _ _ (by simp; omega)]
theorem OwnM.mv {B g : Nat} {w w1 : World} {v : Value} {l : List Int} (h : OwnM B w v l) (hm : Mv g w w1) (hg : g < B) : OwnM B w1 v l := h.block (fun k hk hb => hm.block k hk (by omega))
/-- some list that is read in this world -/
def SomeR (B : Nat) (w : World) (v : Value) : Prop := ∃ (a0 : Option Addr) (cp : Nat) (ms : List Int), v = .slice a0 ms.length cp ∧ ms.length ≤ cp ∧ ms.length ≤ 9 ∧ RowAt w a0 ms ∧ (ms = [] ∨ ∃ bk off, a0 = some ⟨bk, off, none⟩ ∧ B ≤ bk)
theorem OwnM.someR {B : Nat} {w : World} {v : Value} {l : List Int} (h : OwnM B w v l) (hl : l.length ≤ 9) {B' : Nat} (hB : B' ≤ B) : SomeR B' w v := by
  rcases h.form with ⟨rfl, rfl⟩ | ⟨g, cap, rfl, hc, os⟩
  · exact ⟨none, 0, [], rfl, Nat.le_refl _, by simp, .inl rfl, .inl rfl⟩
  · exact ⟨_, cap, l, rfl, hc, hl, os.rowAt, .inr ⟨g, 0, rfl, Nat.le_trans hB os.lo⟩⟩
theorem SomeR.block {B : Nat} {w w1 : World} {v : Value} (h : SomeR B w v) (hb : ∀ k, k < w.heap.size → B ≤ k → w1.heap[k]? = w.heap[k]?) (hs : w.heap.size ≤ w1.heap.size) : SomeR B w1 v := by
  obtain ⟨a0, cp, ms, hv, hc, hl, hr, hB⟩ := h
  refine ⟨a0, cp, ms, hv, hc, hl, ?_, hB⟩
  rcases hr with rfl | ⟨bk, off, ha, hlt, hcell⟩
  · exact .inl rfl
  · rcases hB with rfl | ⟨bk2, off2, ha2, hB⟩
    · exact .inl rfl
    · rw [ha] at ha2
      simp at ha2
      obtain ⟨rfl, rfl⟩ := ha2
      exact .inr ⟨bk, off, ha, Nat.lt_of_lt_of_le hlt hs, fun i hi => (World.cell?_of_block (w := w) (a := ⟨bk, off + i, none⟩) (hb bk hlt hB)).trans (hcell i hi)⟩
theorem SomeR.keep {B : Nat} {w w1 : World} {v : Value} (h : SomeR B w v) (hb : Below w.heap.size w w1) : SomeR B w1 v := h.block (fun k hk _ => hb.block k hk) hb.size
theorem SomeR.mv {B g : Nat} {w w1 : World} {v : Value} (h : SomeR B w v) (hm : Mv g w w1) (hg : g < B) : SomeR B w1 v := h.block (fun k hk hb => hm.block k hk (by omega)) hm.size
theorem SomeR.mono {B B' : Nat} {w : World} {v : Value} (h : SomeR B w v) (hb : B' ≤ B) : SomeR B' w v := by
  obtain ⟨a0, cp, ms, hv, hc, hl, hr, hB⟩ := h
  refine ⟨a0, cp, ms, hv, hc, hl, hr, ?_⟩
  rcases hB with h | ⟨bk, off, ha, h⟩
  · exact .inl h
  · exact .inr ⟨bk, off, ha, Nat.le_trans hb h⟩
theorem OwnM.snoc {B : Nat} {w : World} {v : Value} {l : List Int} {z : Int} (h : w.ownsRow B 3 1 v (l.length + 1) (l.map (Value.int .i64) ++ [Value.int .i64 z])) : OwnM B w v (l ++ [z]) := own_snoc rfl h
theorem OwnM.stored {B : Nat} {w : World} {g cap : Nat} {l : List Int} (h : OwnM B w (.slice (some ⟨g, 0, none⟩) l.length cap) l) (j : Nat) (z : Int) : OwnM B (w.setCell ⟨g, j, none⟩ (.int .i64 z)) (.slice (some ⟨g, 0, none⟩) l.length cap) (l.set j z) := by
  have := (World.ownsRow.stored h j (.int .i64 z)).1
  unfold OwnM
  rw [List.length_set, List.map_set]
  exact this

theorem SpSt.grown {w wr w1 : World} {g n q : Nat} {a : Option Addr} {cap : Nat} {zs : List Int} {b d : Int} {r : Option Nat} (h : SpSt w wr g n q a cap zs b d) (hg : wr.grownBy w1 r) (hr : ∀ k, r = some k → q + 1 ≤ k) : SpSt w w1 g n q a cap zs b d := by
  have e : ∀ k, k < wr.heap.size → k ≤ q → w1.heap[k]? = wr.heap[k]? := fun k hk hq => hg.block k hk (fun he => by have := hr k he.symm; omega)
  have hlo := h.lo
  have hhi := h.hi
  have hgl := h.gl
  have hsz := h.mv.size
  have mv : Mv g w w1 := ⟨hg.os.trans h.mv.os, hg.tape.trans h.mv.tape, hg.output.trans h.mv.output, Nat.le_trans h.mv.size hg.size, fun k hk hk2 => (e k (by omega) (by omega)).trans (h.mv.block k hk hk2)⟩
  have eq := e q hhi (Nat.le_refl _)
  obtain ⟨⟨k, sd, hbk, h2⟩, hrow, hl⟩ := h.cur
  exact ⟨mv, ⟨⟨k, sd, (e g (by omega) (by omega)).trans hbk, h2⟩, h.row.keep mv, hl⟩, (World.cell?_of_block (w := wr) (a := ⟨q, 0, none⟩) eq).trans h.q0, (World.cell?_of_block (w := wr) (a := ⟨q, 1, none⟩) eq).trans h.q1, (World.frozen?_of_block (w := wr) (a := ⟨q, 0, none⟩) eq).trans h.f0, (World.frozen?_of_block (w := wr) (a := ⟨q, 1, none⟩) eq).trans h.f1, (e _ (by omega) (by omega)).trans h.r, hlo, Nat.lt_of_lt_of_le hhi hg.size, h.row, hgl⟩

set_option maxRecDepth 100000 in
set_option maxHeartbeats 6400000 in
theorem ring_any (w : World) (g n : Nat) (a : Option Addr) (cap : Nat) (zs : List Int) (hc : CurAt w g n a cap zs) (hn : n ≤ 1000) :
    Calls Try.prog 57 #[.pointer (some ⟨g, 0, none⟩)] w fun e w' => ∃ (b d : Int) (v : Value), e = .returned (.tuple #[.agg #[.int .i64 b, .int .i64 d], v]) ∧ SomeR w.heap.size w' v ∧ Mv g w w' ∧ CurAt w' g (n + 60) a cap zs := by
  have hlt := hc.lt
  have HR0 : Hid (RowU w g a zs) := hc.row
  obtain ⟨i0, hi, hz0, hz1, hz2⟩ := info_parts'
  go_enter Try.func57, Try.ntmps57
  go_wp2_with fail
  refine (space_any _ _ _ _ _ _ (hc.new _) (by omega)).mono ?_
  rintro e w1 ⟨b, d, rfl, b1, b2, d1, d2, mv1, hc1⟩
  have st1 : SpSt w (w1.alloc (.cells #[.int .i64 b, .int .i64 d] 25)) g (n + 12) w1.heap.size a cap zs b d := spSt_ring mv1 hc1 hlt HR0.out
  have k0 := st1.q0
  have k1 := st1.q1
  go_wp2_with fail
  refine (lspace_any _ _ _).mono ?_
  rintro e w2 ⟨rfl, hw2⟩
  have st2 := st1.keepB hw2
  have hlo := st2.lo
  have hhi := st2.hi
  clear k0 k1 st1
  cases hg : gsB b d
  · have st3 := st2.new (.cells #[.int .i64 0] 3)
    have k0 := st2.q0
    have k1 := st2.q1
    obtain ⟨r0, r1, r2, r3⟩ := st3.res
    go_wp2
    obtain ⟨f1, f2, f3, f4⟩ := st3.fin (.int .i64 b) (.int .i64 d)
    have e0 := (cell_of_row _ _ 0 _ _ _ f1).trans rfl
    have e1 := (cell_of_row _ _ 1 _ _ _ f1).trans rfl
    refine bodyPost_ret (by simp [results, Try.results57, go_sem, e0, e1] <;> rfl) rfl ⟨b, d, _, rfl, ?_, f2, f3.more (by omega)⟩
    refine ⟨some ⟨w2.heap.size, 0, none⟩, 1, [0], rfl, Nat.le_refl _, by simp, .inr ⟨w2.heap.size, 0, rfl, by simp [World.setCell], fun i hi => ?_⟩, .inr ⟨w2.heap.size, 0, rfl, by omega⟩⟩
    have hi0 : i = 0 := by simp at hi; omega
    subst hi0
    have := f4 w2.heap.size (by simp) (by omega)
    exact (World.cell?_of_block (a := ⟨w2.heap.size, 0 + 0, none⟩) this).trans (by simp)
  · obtain ⟨hb1, hb2, _, _, _⟩ := gsB_true hg
    obtain ⟨hs1, hs2⟩ := sz_bd hb1 hb2
    go_wp2_with fail
    refine (pick_any _ _ _ _ _ _ _ st2.cur (by omega) (by omega) (by omega)).mono ?_
    rintro e w3 ⟨v3, rfl, p1, p2, mv3, hc3⟩
    have st3 := st2.step mv3 hc3
    have hs3 := mv3.size
    obtain ⟨t3, rfl⟩ := Int.eq_ofNat_of_zero_le p1
    generalize w1.heap.size = q at *
    go_wp2_with fail
    go_loopw [5, 6] (fun vm vn wr => ∃ (v0 : Value) (ms : List Int) (j : Nat), vm = v0 ∧ vn = .int .i64 (j : Int) ∧ j ≤ t3 + 1 ∧ ms.length + j ≤ t3 + 1 ∧ Hid (ms = [] → v0 = .slice none 0 0 ∧ j = t3 + 1) ∧ OwnM (q + 1) wr v0 ms ∧ SpSt w wr g (n + 16 + 2 * (t3 + 1 - j)) q a cap zs b d) (fun _ vn _ => (intOf vn).toNat)
    case atStart => exact ⟨_, [], t3 + 1, rfl, by go_num, Nat.le_refl _, by simp, fun _ => ⟨rfl, rfl⟩, World.ownsRow_nil _ _ _ _, st3.more (by omega)⟩
    case round =>
      obtain ⟨v0, ms, j, hv0, rfl, hj, hms, hnil, hown, st⟩ := hrel
      have hv0 := hv0.symm
      subst hv0
      have HO : Hid (OwnM (q + 1) wr v0 ms) := hown
      have HST : Hid (SpSt w wr g (n + 16 + 2 * (t3 + 1 - j)) q a cap zs b d) := st
      clear hown st st3 st2 hc3 mv3
      by_cases hlt : 0 < j
      · have sta := HST.out.keepB ((Below.refl _ _).drew)
        have oma := HO.out.keep ((Below.refl _ _).drew)
        have hszw := HST.out.mv.size
        have hj8 : t3 + 1 - j ≤ 8 := by omega
        go_wp2_with fail
        go_region_held (fun w' => w'.cell? ⟨q, 0, none⟩ = some (.int .i64 b) ∧ w'.cell? ⟨q, 1, none⟩ = some (.int .i64 d)) (first | exact ⟨sta.q0, sta.q1⟩ | exact ⟨stb.q0, stb.q1⟩ | exact ⟨stc.q0, stc.q1⟩ | exact ⟨std.q0, std.q1⟩ | exact ⟨ste.q0, ste.q1⟩) (first | (go_at_call 89; refine (next_any _ _ _ _ _ _ sta.cur (by omega)).mono ?_; rintro e wb ⟨xb, rfl, xb1, xb2, mvb, hcb⟩; have stb := sta.step mvb hcb; have omb := oma.mv mvb (by omega)) | (go_at_call 89; refine (next_any _ _ _ _ _ _ stb.cur (by omega)).mono ?_; rintro e wc ⟨xc, rfl, xc1, xc2, mvc, hcc⟩; have stc := stb.step mvc hcc; have omc := omb.mv mvc (by omega)) | (go_at_call 60; refine (lsize_any _ _ _ hb1 hb2).mono ?_; rintro e wd ⟨rfl, hwd⟩; have std := stc.keepB hwd; have omd := omc.keep hwd) | (go_at_call 92; refine (lputM_any (q + 1) v0 ms _ wd omd (fun h => (hnil.out h).1) (by omega) (by have := std.hi; omega)).mono ?_; rintro e we ⟨ve, me, rfl, ome, me1, me2, hwe⟩; have ste := std.keepB hwe))
        have HOE : Hid (OwnM (q + 1) we ve me) := ome
        have HSE : Hid (SpSt w we g (n + 16 + 2 * (t3 + 1 - j) + 1 + 1) q a cap zs b d) := ste
        clear sta stb stc std ste oma omb omc omd ome mvb mvc hcb hcc hwd hwe
        go_wp2_with fail
        go_roundw
        case rel => exact ⟨ve, me, j - 1, rfl, by go_num, by omega, by omega, fun h => by rw [h] at me1; simp at me1, HOE.out, HSE.out.more (by omega)⟩
        case measure => simp [intOf]; omega
      · have hj0 : j = 0 := by omega
        subst hj0
        have hne : 1 ≤ ms.length := by
          by_cases h : ms.length = 0
          · have := (hnil.out (List.length_eq_zero_iff.1 h)).2; omega
          · omega
        have hm8 : ms.length ≤ 8 := by omega
        go_wp2_with fail
        refine (pick_any _ _ _ _ _ _ _ HST.out.cur (by omega) (by omega) (by omega)).mono ?_
        rintro e w4 ⟨v4, rfl, u1, u2, mv4, hc4⟩
        have st4 : SpSt w w4 g (n + 40) q a cap zs b d := (HST.out.step mv4 hc4).more (by omega)
        have om4 := HO.out.mv mv4 (by have := HST.out.gl; omega)
        clear HST HO mv4 hc4
        by_cases e4 : v4 = 0
        · subst e4
          rcases om4.form with ⟨_, hnl⟩ | ⟨g5, cp5, rfl, hcp5, os5⟩
          · rw [hnl] at hne; simp at hne
          have hcell := (os5.at 0 (by omega)).1
          have HO4 : Hid (OwnM (q + 1) w4 (.slice (some ⟨g5, 0, none⟩) ms.length cp5) ms) := om4
          have HS4 : Hid (SpSt w w4 g (n + 40) q a cap zs b d) := st4
          clear om4 st4 os5
          generalize ms.getD 0 0 = z at hcell
          go_wp2_with (at_builtin; refine wpList_append_own _ rfl (.tmp 36) (.tmp 40) 29 rfl (q + 1) 3 i0 (.int .i64 0) 1 8 Try.underlying29 hi hz0 hz1 hz2 rfl (by decide) _ _ _ rfl (HO4.out.alloc _) ⟨w4.heap.size, 0, none⟩ 1 1 [.int .i64 z] rfl rfl (cell_one_new _ _ _) (by simp [Value.oneCell']) (by unfold maxLen; omega) (by omega) (by have := HS4.out.hi; simp; omega) ?_; intro v5 w5 hown5 hgrow5 _; have OM : Hid (OwnM (q + 1) w5 v5 (ms ++ [z])) := OwnM.snoc hown5; have ST : Hid (SpSt w w5 g (n + 40) q a cap zs b d) := (HS4.out.new _).grown hgrow5 (fun k hk => (HO4.out.lt k hk).1); clear hown5 hgrow5; have k0 := ST.out.q0; have k1 := ST.out.q1; obtain ⟨r0, r1, r2, r3⟩ := ST.out.res)
          obtain ⟨f1, f2, f3, f4⟩ := ST.out.fin (.int .i64 b) (.int .i64 d)
          have e0 := (cell_of_row _ _ 0 _ _ _ f1).trans rfl
          have e1 := (cell_of_row _ _ 1 _ _ _ f1).trans rfl
          exact bodyPost_ret (by simp [results, Try.results57, go_sem, e0, e1] <;> rfl) rfl ⟨b, d, _, rfl, (OM.out.block (fun k hk hb => f4 k hk (by omega))).someR (by simp; omega) (by omega), f2, f3.more (by omega)⟩
        · have n0 : (v4 == 0) = false := by simpa using e4
          clear e4
          by_cases e4 : v4 = 1
          · subst e4
            have OM : Hid (OwnM (q + 1) w4 (.slice none 0 0) []) := World.ownsRow_nil _ _ _ _
            have ST : Hid (SpSt w w4 g (n + 40) q a cap zs b d) := st4
            clear om4 st4
            have k0 := ST.out.q0
            have k1 := ST.out.q1
            obtain ⟨r0, r1, r2, r3⟩ := ST.out.res
            go_wp2
            obtain ⟨f1, f2, f3, f4⟩ := ST.out.fin (.int .i64 b) (.int .i64 d)
            have e0 := (cell_of_row _ _ 0 _ _ _ f1).trans rfl
            have e1 := (cell_of_row _ _ 1 _ _ _ f1).trans rfl
            exact bodyPost_ret (by simp [results, Try.results57, go_sem, e0, e1] <;> rfl) rfl ⟨b, d, _, rfl, (OM.out.block (fun k hk hb => f4 k hk (by omega))).someR (by simp) (by omega), f2, f3.more (by omega)⟩
          · have n1 : (v4 == 1) = false := by simpa using e4
            clear e4
            by_cases e4 : v4 = 2
            · subst e4
              rcases om4.form with ⟨_, hnl⟩ | ⟨g5, cp5, rfl, hcp5, os5⟩
              · rw [hnl] at hne; simp at hne
              have HO4 : Hid (OwnM (q + 1) w4 (.slice (some ⟨g5, 0, none⟩) ms.length cp5) ms) := om4
              have HS4 : Hid (SpSt w w4 g (n + 40) q a cap zs b d) := st4
              clear om4 st4 os5
              have k0 := HS4.out.q0
              have k1 := HS4.out.q1
              go_wp2_with fail
              refine (lsize_any _ _ _ hb1 hb2).mono ?_
              rintro e w5 ⟨rfl, hw5⟩
              have HO5 : Hid (OwnM (q + 1) w5 (.slice (some ⟨g5, 0, none⟩) ms.length cp5) ms) := HO4.out.keep hw5
              have HS5 : Hid (SpSt w w5 g (n + 40) q a cap zs b d) := HS4.out.keepB hw5
              clear k0 k1
              obtain ⟨os6, _, _⟩ := OwnS.of_owns HO5.out
              obtain ⟨y0, y1⟩ := os6.at (ms.length - 1) (by omega)
              generalize ms.getD (ms.length - 1) 0 = z at y0
              clear os6
              have OM : Hid (OwnM (q + 1) (w5.setCell ⟨g5, ms.length - 1, none⟩ (.int .i64 (sz b))) (.slice (some ⟨g5, 0, none⟩) ms.length cp5) (ms.set (ms.length - 1) (sz b))) := HO5.out.stored _ _
              have ST : Hid (SpSt w (w5.setCell ⟨g5, ms.length - 1, none⟩ (.int .i64 (sz b))) g (n + 40) q a cap zs b d) := HS5.out.grown (World.ownsRow.stored HO5.out _ _).2 (fun k hk => (HO5.out.lt k hk).1)
              have k0 := ST.out.q0
              have k1 := ST.out.q1
              obtain ⟨r0, r1, r2, r3⟩ := ST.out.res
              go_wp2
              obtain ⟨f1, f2, f3, f4⟩ := ST.out.fin (.int .i64 b) (.int .i64 d)
              have e0 := (cell_of_row _ _ 0 _ _ _ f1).trans rfl
              have e1 := (cell_of_row _ _ 1 _ _ _ f1).trans rfl
              exact bodyPost_ret (by simp [results, Try.results57, go_sem, e0, e1] <;> rfl) rfl ⟨b, d, _, rfl, (OM.out.block (fun k hk hb => f4 k hk (by omega))).someR (by simp; omega) (by omega), f2, f3.more (by omega)⟩
            · have n2 : (v4 == 2) = false := by simpa using e4
              clear e4
              have OM : Hid (OwnM (q + 1) w4 v0 ms) := om4
              have ST : Hid (SpSt w w4 g (n + 40) q a cap zs b d) := st4
              clear om4 st4
              have k0 := ST.out.q0
              have k1 := ST.out.q1
              obtain ⟨r0, r1, r2, r3⟩ := ST.out.res
              go_wp2
              obtain ⟨f1, f2, f3, f4⟩ := ST.out.fin (.int .i64 b) (.int .i64 d)
              have e0 := (cell_of_row _ _ 0 _ _ _ f1).trans rfl
              have e1 := (cell_of_row _ _ 1 _ _ _ f1).trans rfl
              exact bodyPost_ret (by simp [results, Try.results57, go_sem, e0, e1] <;> rfl) rfl ⟨b, d, _, rfl, (OM.out.block (fun k hk hb => f4 k hk (by omega))).someR (by omega) (by omega), f2, f3.more (by omega)⟩
end Go.Proofs.Ytgmdbihdnacpjaa
