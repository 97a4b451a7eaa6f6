/- What is drawn for CrowdOf. -/
import Derived.Test.YtgmdbihdnacpjaaY4
namespace Go.Proofs.Ytgmdbihdnacpjaa
open Go.RowKit Go.Deep
set_option linter.unusedVariables false
def SomeQ (B : Nat) (w : World) (v : Value) : Prop := ∃ (a0 : Option Addr) (cp : Nat) (ms : List Int), v = .slice a0 ms.length cp ∧ ms.length ≤ 16 ∧ RowAt w a0 ms ∧ (ms = [] ∨ ∃ bk off, a0 = some ⟨bk, off, none⟩ ∧ B ≤ bk)
theorem SomeQ.block {B : Nat} {w w1 : World} {v : Value} (h : SomeQ B w v) (hb : ∀ k, k < w.heap.size → B ≤ k → w1.heap[k]? = w.heap[k]?) (hs : w.heap.size ≤ w1.heap.size) : SomeQ B w1 v := by
  obtain ⟨a0, cp, ms, hv, hl, hr, hB⟩ := h
  refine ⟨a0, cp, ms, hv, hl, ?_, hB⟩
  rcases hB with hn | ⟨bk, off, ha, hbk⟩
  · exact .inl hn
  · rcases hr with hn | ⟨b', o', ha', hl', hc⟩
    · exact .inl hn
    · rw [ha] at ha'
      simp at ha'
      obtain ⟨rfl, rfl⟩ := ha'
      exact .inr ⟨bk, off, ha, by omega, fun i hi => (World.cell?_of_block (a := ⟨bk, off + i, none⟩) (hb bk hl' hbk)).trans (hc i hi)⟩
theorem SomeR.q {B B' : Nat} {w : World} {v : Value} (h : SomeR B w v) (hB : B' ≤ B) : SomeQ B' w v := by
  obtain ⟨a0, cp, ms, hv, _, hl, hr, hb⟩ := h
  refine ⟨a0, cp, ms, hv, by omega, hr, ?_⟩
  rcases hb with hn | ⟨bk, off, ha, hbk⟩
  · exact .inl hn
  · exact .inr ⟨bk, off, ha, by omega⟩
theorem OwnM.q {B B' : Nat} {w : World} {v : Value} {l : List Int} (h : OwnM B w v l) (hl : l.length ≤ 16) (hB : B' ≤ B) : SomeQ B' w v := by
  rcases h.form with ⟨rfl, rfl⟩ | ⟨g, cf, rfl, _, os⟩
  · exact ⟨none, 0, [], rfl, by simp, .inl rfl, .inl rfl⟩
  · exact ⟨_, cf, l, rfl, hl, os.rowAt, .inr ⟨g, 0, rfl, by have := os.lo; omega⟩⟩
section
variable {w wr : World} {n q : Nat} {a : Option Addr} {cap : Nat} {zs : List Int} {b d : Int}
theorem DrSt.more {m : Nat} (h : DrSt w wr n q a cap zs b d) (hm : n ≤ m) : DrSt w wr m q a cap zs b d := ⟨h.bel, h.cur.more hm, h.q0, h.q1, h.r, h.lo, h.hi⟩
theorem DrSt.grown {w1 : World} {r : Option Nat} (h : DrSt w wr n q a cap zs b d) (hR : RowB w a zs) (hg : wr.grownBy w1 r) (hr : ∀ k, r = some k → q + 1 ≤ k) : DrSt w w1 n q a cap zs b d := by
  have h1 := h.lo
  have h2 := h.hi
  have hblk : ∀ k, k ≤ q → w1.heap[k]? = wr.heap[k]? := fun k hk => hg.block k (by omega) (fun he => by have := hr k he.symm; omega)
  have hb : Below w.heap.size w w1 := h.bel.grown hg (by omega) (fun k hk => by have := hr k hk; omega)
  obtain ⟨k, sd, hB, hk, hw⟩ := h.cur.st
  exact ⟨hb, ⟨⟨k, sd, (hblk _ (by omega)).trans hB, hk, hw⟩, rowU_of hR hb, h.cur.len⟩, (World.cell?_of_block (a := ⟨q, 0, none⟩) (hblk q (Nat.le_refl _))).trans h.q0, (World.cell?_of_block (a := ⟨q, 1, none⟩) (hblk q (Nat.le_refl _))).trans h.q1, (hblk _ (by omega)).trans h.r, h.lo, by have := hg.size; omega⟩
end
set_option maxRecDepth 100000 in
set_option maxHeartbeats 25600000 in
theorem drawCrowd_any (a : Option Addr) (cap : Nat) (zs : List Int) (w : World) (hm : zs.length ≤ 1048576) (hr : RowB w a zs) :
    Calls Try.prog 18 #[.slice a zs.length cap] w fun e w' => ∃ (b d : Int) (v : Value), e = .returned (.tuple #[.agg #[.int .i64 b, .int .i64 d], v]) ∧ SomeQ w.heap.size w' v ∧ Below w.heap.size w w' := by
  have hc0 := cur_new (cap := cap) hr hm ((Below.refl _ _).alloc (Nat.le_refl _) (.cells #[.int .i64 0, .int .i64 0] 25))
  have HC0 : Hid (CurAt ((w.alloc (.cells #[.int .i64 0, .int .i64 0] 25)).alloc (.cells #[.slice a zs.length cap, .int .i64 0, .int .u64 0] 66)) (w.alloc (.cells #[.int .i64 0, .int .i64 0] 25)).heap.size 0 a cap zs) := hc0
  have HR : Hid (RowB w a zs) := hr
  obtain ⟨i0, hi, hz0, hz1, hz2⟩ := info_parts'
  clear hc0 hr
  go_enter Try.func18, Try.ntmps18
  go_wp2_with fail
  refine (ring_any _ _ _ _ _ _ (by simpa using HC0.out) (by omega)).mono ?_
  rintro e w1 ⟨b, d, v, rfl, sm1, mv1, hc1⟩
  have hs1 := mv1.size
  simp at hs1
  have D1 : Hid (DrSt w (w1.alloc (.cells #[.int .i64 b, .int .i64 d] 25)) 60 w1.heap.size a cap zs b d) := drSt_init mv1 (by simpa using hc1)
  have Q10 : SomeQ (w.heap.size + 2) w1 v := sm1.q (by simp)
  have Q1 : Hid (SomeQ (w.heap.size + 2) (w1.alloc (.cells #[.int .i64 b, .int .i64 d] 25)) v) := Q10.block (fun k hk _ => heap_alloc_old _ _ hk) (by simp)
  clear sm1 mv1 hc1 HC0 Q10
  obtain ⟨q0, q1⟩ : _ ∧ _ := ⟨D1.out.q0, D1.out.q1⟩
  have CS := lspace_any b d (w1.alloc (.cells #[.int .i64 b, .int .i64 d] 25))
  obtain ⟨a0, cp0, ms0, rfl, hml, hrm, hbm⟩ := Q1.out
  clear hrm hbm hml
  go_wp2_with fail
  refine CS.mono ?_
  rintro e w2 ⟨rfl, hw2⟩
  have D2 : Hid (DrSt w w2 60 w1.heap.size a cap zs b d) := D1.out.keep hw2
  have Q2 : Hid (SomeQ (w.heap.size + 2) w2 (.slice a0 ms0.length cp0)) := Q1.out.block (fun k hk _ => hw2.block k hk) hw2.size
  obtain ⟨q, hq⟩ : ∃ q, w1.heap.size = q := ⟨_, rfl⟩
  rw [hq] at D2
  clear D1 Q1 CS hw2 q0 q1
  have fin : ∀ (N : Nat) (wc : World) (vm : Value), DrSt w wc N q a cap zs b d → SomeQ (w.heap.size + 2) wc vm → SomeQ w.heap.size ((wc.setCell ⟨w.heap.size, 0, none⟩ (.int .i64 b)).setCell ⟨w.heap.size, 1, none⟩ (.int .i64 d)) vm := fun N wc vm D Q => by
    have := Q.block (w1 := (wc.setCell ⟨w.heap.size, 0, none⟩ (.int .i64 b)).setCell ⟨w.heap.size, 1, none⟩ (.int .i64 d)) (fun k hk hb => by
      rw [heap_setCell_other _ _ _ _ (by simp; omega), heap_setCell_other _ _ _ _ (by simp; omega)]) (by simp [World.setCell])
    obtain ⟨x1, x2, x3, x4, x5, x6, x7⟩ := this
    refine ⟨x1, x2, x3, x4, x5, x6, ?_⟩
    rcases x7 with h | ⟨bk, off, ha, hb⟩
    · exact .inl h
    · exact .inr ⟨bk, off, ha, by omega⟩
  have FIN : Hid _ := fin
  clear fin
  obtain ⟨q0, q1⟩ : _ ∧ _ := ⟨D2.out.q0, D2.out.q1⟩
  cases hg : gsB b d
  ·
    have hrow := D2.out.res_end (.int .i64 b) (.int .i64 d)
    obtain ⟨r0, r1, f0, f1⟩ := D2.out.res
    have hlo := D2.out.lo
    have HROW : Hid _ := hrow
    clear hrow
    go_wp2
    exact bodyPost_ret (results_cell_tmp Try.results18 _ _ w.heap.size _ _ _ _ _ rfl rfl HROW.out Try.underlying25 rfl (by kernel_rfl)) rfl ⟨b, d, _, rfl, FIN.out _ _ _ D2.out Q2.out, D2.out.bel_end _ _⟩
  · obtain ⟨hb1, hb2, _, _, _⟩ := gsB_true hg
    clear hg
    by_cases h2 : 2 ≤ b
    · go_wp2_with fail
      refine (one_any _ _ _ _ _ _ _ D2.out.cur (by omega) (by omega) (by omega)).mono ?_
      rintro e w3 ⟨v3, rfl, mv3, hc3⟩
      have D3 : Hid (DrSt w w3 62 q a cap zs b d) := D2.out.step mv3 hc3
      have Q3 : Hid (SomeQ (w.heap.size + 2) w3 (.slice a0 ms0.length cp0)) := by
        obtain ⟨x1, x2, x3, x4, x5, x6, x7⟩ := Q2.out
        refine ⟨x1, x2, x3, x4, x5, ?_, x7⟩
        rcases x7 with h | ⟨bk, off, ha, hb⟩
        · exact .inl h
        · rcases x6 with h | ⟨b', o', ha', hl', hc⟩
          · exact .inl h
          · exact .inr ⟨b', o', ha', Nat.lt_of_lt_of_le hl' mv3.size, fun i hi => keepM mv3 hl' (by rw [ha] at ha'; simp at ha'; have := D2.out.lo; omega) (hc i hi)⟩
      clear D2 Q2 mv3 hc3 q0 q1
      obtain ⟨q0, q1⟩ : _ ∧ _ := ⟨D3.out.q0, D3.out.q1⟩
      cases v3
      ·
        have hrow := D3.out.res_end (.int .i64 b) (.int .i64 d)
        obtain ⟨r0, r1, f0, f1⟩ := D3.out.res
        have hlo := D3.out.lo
        have HROW : Hid _ := hrow
        clear hrow
        go_wp2
        exact bodyPost_ret (results_cell_tmp Try.results18 _ _ w.heap.size _ _ _ _ _ rfl rfl HROW.out Try.underlying25 rfl (by kernel_rfl)) rfl ⟨b, d, _, rfl, FIN.out _ _ _ D3.out Q3.out, D3.out.bel_end _ _⟩
      · go_upto_region 5 with (fail)
        go_cut [7] (fun v7 wc => ∃ nn : Nat, v7 = .int .i64 (nn : Int) ∧ 1 ≤ nn ∧ nn ≤ 16 ∧ Hid (DrSt w wc 64 q a cap zs b d))
        case first =>
          go_wp2_with fail
          refine (least_any _ _ _).mono ?_
          rintro e w4 ⟨rfl, he4⟩
          have he4 := he4.symm
          subst he4
          have hmin1 : 1 ≤ min b 4 := by omega
          have hmin2 : min b 4 ≤ 4 := by omega
          generalize min b 4 = mb at hmin1 hmin2
          go_wp2_with fail
          refine (pick_any _ _ _ _ _ _ _ D3.out.cur (by omega) (by omega) (by omega)).mono ?_
          rintro e w5 ⟨x5, rfl, x51, x52, mv5, hc5⟩
          have D5 : Hid (DrSt w w5 64 q a cap zs b d) := D3.out.step mv5 hc5
          have hx : x5 = 0 ∨ x5 = 1 ∨ x5 = 2 ∨ x5 = 3 := by omega
          clear D3 Q3 mv5 hc5 q0 q1
          rcases hx with rfl | rfl | rfl | rfl
          · go_wp2_with fail
            go_meet
            exact ⟨2, rfl, by omega, by omega, D5⟩
          · go_wp2_with fail
            go_meet
            exact ⟨4, rfl, by omega, by omega, D5⟩
          · go_wp2_with fail
            go_meet
            exact ⟨8, rfl, by omega, by omega, D5⟩
          · go_wp2_with fail
            go_meet
            exact ⟨16, rfl, by omega, by omega, D5⟩
        case rest =>
          obtain ⟨nn, rfl, n1, n2, D6⟩ := hcut
          clear D3 Q3 q0 q1
          have hqq := D6.out.hi
          go_wp2_with fail
          go_loopw [6, 8] (fun vm vk wr => ∃ (v0 : Value) (ms : List Int) (k : Nat), vm = v0 ∧ vk = .int .i64 (k : Int) ∧ k ≤ nn ∧ ms.length = k ∧ OwnM (q + 1) wr v0 ms ∧ Hid (DrSt w wr 64 q a cap zs b d)) (fun _ vk _ => nn - (intOf vk).toNat)
          case atStart => exact ⟨_, [], 0, rfl, rfl, Nat.zero_le _, rfl, World.ownsRow_nil _ _ _ _, D6⟩
          case round =>
            obtain ⟨v0, ms, k, hv0, rfl, hk, hml, hown, DL⟩ := hrel
            have hv0 := hv0.symm
            subst hv0
            have HO : Hid (OwnM (q + 1) wr v0 ms) := hown
            clear hown D6
            obtain ⟨q0, q1⟩ : _ ∧ _ := ⟨DL.out.q0, DL.out.q1⟩
            by_cases hlt : k < nn
            · obtain ⟨s1, s2⟩ := sz_bd hb1 (by omega)
              go_wp2_with fail
              refine (lsize_any b d _ (by omega) (by omega)).mono ?_
              rintro e w7 ⟨rfl, hw7⟩
              have D7 : Hid (DrSt w w7 64 q a cap zs b d) := DL.out.keep hw7
              have O7 : Hid (OwnM (q + 1) w7 v0 ms) := HO.out.keep hw7
              have hq7 := D7.out.hi
              clear DL HO hw7 q0 q1
              generalize sz b = sb at s1 s2
              go_wp2_with (at_builtin; refine wpList_append_own _ rfl (.tmp 41) (.tmp 48) 29 rfl (q + 1) 3 i0 (.int .i64 0) 1 8 Try.underlying29 hi hz0 hz1 hz2 rfl (by decide) _ _ _ rfl (O7.out.alloc _) ⟨w7.heap.size, 0, none⟩ 1 1 [.int .i64 _] rfl rfl (cell_one_new _ _ _) (by simp [Value.oneCell']) (by unfold maxLen; omega) (by omega) (by simp; omega) ?_; intro v8 w8 hown8 hgrow8 _; have OM := OwnM.snoc hown8; have D8 : Hid (DrSt w w8 64 q a cap zs b d) := (D7.out.keep (belA _ _)).grown HR.out hgrow8 (fun k hk => (O7.out.lt k hk).1); clear hown8 hgrow8 D7 O7)
              go_roundw
              case rel => exact ⟨v8, _, k + 1, rfl, by go_num, by omega, by simp; omega, OM, D8⟩
              case measure => simp [intOf]; omega
            · have QE : SomeQ (w.heap.size + 2) wr v0 := HO.out.q (by omega) (by have := DL.out.lo; omega)
              have hrow := DL.out.res_end (.int .i64 b) (.int .i64 d)
              obtain ⟨r0, r1, f0, f1⟩ := DL.out.res
              have hlo := DL.out.lo
              have HROW : Hid _ := hrow
              clear hrow
              go_wp2
              exact bodyPost_ret (results_cell_tmp Try.results18 _ _ w.heap.size _ _ _ _ _ rfl rfl HROW.out Try.underlying25 rfl (by kernel_rfl)) rfl ⟨b, d, _, rfl, FIN.out _ _ _ DL.out QE, DL.out.bel_end _ _⟩
    ·
      have h2' : b < 2 := by omega
      have hrow := D2.out.res_end (.int .i64 b) (.int .i64 d)
      obtain ⟨r0, r1, f0, f1⟩ := D2.out.res
      have hlo := D2.out.lo
      have HROW : Hid _ := hrow
      clear hrow
      go_wp2
      exact bodyPost_ret (results_cell_tmp Try.results18 _ _ w.heap.size _ _ _ _ _ rfl rfl HROW.out Try.underlying25 rfl (by kernel_rfl)) rfl ⟨b, d, _, rfl, FIN.out _ _ _ D2.out Q2.out, D2.out.bel_end _ _⟩
end Go.Proofs.Ytgmdbihdnacpjaa
