/- The space that is drawn. -/
import Derived.Test.YtpgngfdhnoonjaaC1
namespace Go.Proofs.Ytpgngfdhnoonjaa
open Go.RowKit
set_option linter.unusedVariables false

theorem Mv.put {g : Nat} {w w' : World} (h : Mv g w w') {q : Nat} (hq : w.heap.size ≤ q) (i : Nat) (v : Value) : Mv g w (w'.setCell ⟨q, i, none⟩ v) :=
  ⟨h.os, h.tape, h.output, by simpa [World.setCell] using h.size, fun k hk hg => (heap_setCell_other _ _ _ _ (by simp; omega)).trans (h.block k hk hg)⟩
theorem Mv.alloc {g : Nat} {w w' : World} (h : Mv g w w') (o : Obj) : Mv g w (w'.alloc o) := h.trans (Mv.of_below ((Below.refl _ _).alloc (Nat.le_refl _) _))
theorem CurAt.put {w w' : World} {g n : Nat} {a : Option Addr} {cap : Nat} {zs : List Int} (h : CurAt w' g n a cap zs) (h0 : RowU w g a zs) (mv : Mv g w w') {q : Nat} (hq : w.heap.size ≤ q) (hg : ¬ g = q) (i : Nat) (v : Value) : CurAt (w'.setCell ⟨q, i, none⟩ v) g n a cap zs := by
  obtain ⟨⟨k, sd, hb, h2⟩, hr, hl⟩ := h
  exact ⟨⟨k, sd, (heap_setCell_other _ _ _ _ hg).trans hb, h2⟩, h0.keep (mv.put hq i v), hl⟩
theorem CurAt.new {w : World} {g n : Nat} {a : Option Addr} {cap : Nat} {zs : List Int} (h : CurAt w g n a cap zs) (o : Obj) : CurAt (w.alloc o) g n a cap zs := h.keep ((Below.refl _ _).alloc (Nat.le_refl _) _)

/-- what the drawing of a space keeps: its result's block, the variable's, the cursor -/
structure SpSt (w wr : World) (g n q : Nat) (a : Option Addr) (cap : Nat) (zs : List Int) (b d : Int) : Prop where
  mv : Mv g w wr
  cur : CurAt wr g n a cap zs
  q0 : wr.cell? ⟨q, 0, none⟩ = some (.int .i64 b)
  q1 : wr.cell? ⟨q, 1, none⟩ = some (.int .i64 d)
  f0 : wr.frozen? ⟨q, 0, none⟩ = false
  f1 : wr.frozen? ⟨q, 1, none⟩ = false
  r : wr.heap[w.heap.size]? = some (.cells #[.int .i64 0, .int .i64 0] 25 (0, 0))
  lo : w.heap.size < q
  hi : q < wr.heap.size
  row : RowU w g a zs
  gl : g < w.heap.size
theorem SpSt.res {w wr : World} {g n q : Nat} {a : Option Addr} {cap : Nat} {zs : List Int} {b d : Int} (h : SpSt w wr g n q a cap zs b d) :
    wr.cell? ⟨w.heap.size, 0, none⟩ = some (.int .i64 0) ∧ wr.cell? ⟨w.heap.size, 1, none⟩ = some (.int .i64 0) ∧ wr.frozen? ⟨w.heap.size, 0, none⟩ = false ∧ wr.frozen? ⟨w.heap.size, 1, none⟩ = false :=
  ⟨(cell_of_row wr _ _ _ _ _ h.r).trans rfl, (cell_of_row wr _ _ _ _ _ h.r).trans rfl, frozen_of_row wr _ _ _ _ h.r, frozen_of_row wr _ _ _ _ h.r⟩
theorem SpSt.new {w wr : World} {g n q : Nat} {a : Option Addr} {cap : Nat} {zs : List Int} {b d : Int} (h : SpSt w wr g n q a cap zs b d) (o : Obj) : SpSt w (wr.alloc o) g n q a cap zs b d := by
  have hb : Below wr.heap.size wr (wr.alloc o) := (Below.refl _ _).alloc (Nat.le_refl _) _
  exact ⟨h.mv.alloc o, h.cur.new o, (hb.cell (p := ⟨q, 0, none⟩) h.hi).trans h.q0, (hb.cell (p := ⟨q, 1, none⟩) h.hi).trans h.q1, (hb.frozen (p := ⟨q, 0, none⟩) h.hi).trans h.f0, (hb.frozen (p := ⟨q, 1, none⟩) h.hi).trans h.f1, (hb.block _ (by have := h.lo; have := h.hi; omega)).trans h.r, h.lo, Nat.lt_of_lt_of_le h.hi hb.size, h.row, h.gl⟩
theorem Mv.frozen {g : Nat} {w w' : World} (h : Mv g w w') {b o : Nat} (hb : b < w.heap.size) (hg : ¬ b = g) : w'.frozen? ⟨b, o, none⟩ = w.frozen? ⟨b, o, none⟩ := World.frozen?_of_block (w := w) (h.block b hb hg)
theorem SpSt.step {w wr w1 : World} {g n m q : Nat} {a : Option Addr} {cap : Nat} {zs : List Int} {b d : Int} (h : SpSt w wr g n q a cap zs b d) (mv : Mv g wr w1) (hc : CurAt w1 g m a cap zs) : SpSt w w1 g m q a cap zs b d := by
  have hq : ¬ q = g := by have := h.gl; have := h.lo; omega
  have hw : ¬ w.heap.size = g := by have := h.gl; omega
  exact ⟨h.mv.trans mv, hc, keepM mv h.hi hq h.q0, keepM mv h.hi hq h.q1, (mv.frozen h.hi hq).trans h.f0, (mv.frozen h.hi hq).trans h.f1, (mv.block _ (by have := h.lo; have := h.hi; omega) hw).trans h.r, h.lo, Nat.lt_of_lt_of_le h.hi mv.size, h.row, h.gl⟩
theorem cell_put {w : World} {q i j : Nat} {u v : Value} (h : w.cell? ⟨q, i, none⟩ = some u) : (w.setCell ⟨q, j, none⟩ v).cell? ⟨q, i, none⟩ = some (if i = j then v else u) := by
  by_cases e : i = j
  · subst e; rw [if_pos rfl]; exact World.cell?_setCell_same _ _ _ h
  · rw [if_neg e]
    rw [World.cell?_setCell_other]; exact h
    simp; try exact e
theorem SpSt.put {w wr : World} {g n q : Nat} {a : Option Addr} {cap : Nat} {zs : List Int} {b d : Int} (h : SpSt w wr g n q a cap zs b d) (b' d' : Int) : SpSt w ((wr.setCell ⟨q, 0, none⟩ (.int .i64 b')).setCell ⟨q, 1, none⟩ (.int .i64 d')) g n q a cap zs b' d' := by
  have hq : w.heap.size ≤ q := by have := h.lo; omega
  have hgq : ¬ g = q := by have := h.gl; omega
  have mv1 := h.mv.put hq 0 (.int .i64 b')
  refine ⟨mv1.put hq 1 _, (h.cur.put h.row h.mv hq hgq 0 _).put h.row mv1 hq hgq 1 _, ?_, ?_, ?_, ?_, ?_, h.lo, by simpa [World.setCell] using h.hi, h.row, h.gl⟩
  · have := cell_put (j := 1) (v := .int .i64 d') (cell_put (j := 0) (v := .int .i64 b') h.q0); simpa using this
  · have := cell_put (j := 1) (v := .int .i64 d') (cell_put (j := 0) (v := .int .i64 b') h.q1); simpa using this
  · rw [World.frozen?_setCell, World.frozen?_setCell]; exact h.f0
  · rw [World.frozen?_setCell, World.frozen?_setCell]; exact h.f1
  · rw [heap_setCell_other _ _ _ _ (by have := h.lo; simp; omega), heap_setCell_other _ _ _ _ (by have := h.lo; simp; omega)]; exact h.r
theorem spSt_init {w w1 : World} {g n : Nat} {a : Option Addr} {cap : Nat} {zs : List Int} {d1 : Int} {o : Obj} (mv1 : Mv g ((w.alloc (.cells #[.int .i64 0, .int .i64 0] 25)).alloc o) w1) (hc1 : CurAt w1 g n a cap zs) (hlt : g < w.heap.size) (hr : RowU w g a zs) :
    SpSt w (w1.alloc (.cells #[.int .i64 6, .int .i64 d1] 25)) g n w1.heap.size a cap zs 6 d1 := by
  have hs := mv1.size
  simp at hs
  refine ⟨(((Mv.refl g w).alloc _).alloc _ |>.trans mv1).alloc _, hc1.new _, by simp, by simp, frozen_of_row _ _ _ _ _ (heap_alloc_new _ _), frozen_of_row _ _ _ _ _ (heap_alloc_new _ _), ?_, by omega, by simp, hr, hlt⟩
  rw [heap_alloc_old _ _ (by omega), mv1.block _ (by simp; omega) (by omega)]
  exact heap_alloc2_old _ _ _
theorem SpSt.res_end {w wr : World} {g n q : Nat} {a : Option Addr} {cap : Nat} {zs : List Int} {b d : Int} (h : SpSt w wr g n q a cap zs b d) (u v : Value) : ((wr.setCell ⟨w.heap.size, 0, none⟩ u).setCell ⟨w.heap.size, 1, none⟩ v).heap[w.heap.size]? = some (.cells #[u, v] 25 (0, 0)) :=
  heap_setCell_same _ _ 1 _ _ v (heap_setCell_same _ _ 0 _ _ u h.r)
theorem SpSt.mv_end {w wr : World} {g n q : Nat} {a : Option Addr} {cap : Nat} {zs : List Int} {b d : Int} (h : SpSt w wr g n q a cap zs b d) (u v : Value) : Mv g w ((wr.setCell ⟨w.heap.size, 0, none⟩ u).setCell ⟨w.heap.size, 1, none⟩ v) :=
  (h.mv.put (Nat.le_refl _) 0 u).put (Nat.le_refl _) 1 v
theorem SpSt.cur_end {w wr : World} {g n q : Nat} {a : Option Addr} {cap : Nat} {zs : List Int} {b d : Int} (h : SpSt w wr g n q a cap zs b d) (u v : Value) : CurAt ((wr.setCell ⟨w.heap.size, 0, none⟩ u).setCell ⟨w.heap.size, 1, none⟩ v) g n a cap zs := by
  have hg : ¬ g = w.heap.size := by have := h.gl; omega
  exact (h.cur.put h.row h.mv (Nat.le_refl _) hg 0 u).put h.row (h.mv.put (Nat.le_refl _) 0 u) (Nat.le_refl _) hg 1 v

set_option maxHeartbeats 1600000 in
theorem space_any (w : World) (g n : Nat) (a : Option Addr) (cap : Nat) (zs : List Int) (hc : CurAt w g n a cap zs) (hn : n ≤ 100000000) :
    Calls Try.prog 43 #[.pointer (some ⟨g, 0, none⟩)] w fun e w' => ∃ b d : Int, e = .returned (.agg #[.int .i64 b, .int .i64 d]) ∧ 0 ≤ b ∧ b ≤ 13 ∧ 0 ≤ d ∧ d ≤ 12 ∧ Mv g w w' ∧ CurAt w' g (n + 12) a cap zs := by
  have hlt := hc.lt
  have HR0 : Hid _ := hc.row
  go_enter Try.func43, Try.ntmps43
  go_wp2_with fail
  refine (among_any [1, 2, 3] (w.heap.size + 1) 3 _ _ _ _ _ _ ((hc.new _).new _) (by omega) (by simp) (by simp) (by simp) (by omega) ?hy).mono ?_
  case hy =>
    intro i hi
    match i, hi with
    | 0, _ => simp
    | 1, _ => simp
    | 2, _ => simp
  rintro e w1 ⟨d1, rfl, hmem, mv1, hc1⟩
  simp at hmem
  have hd1 : 0 ≤ d1 ∧ d1 ≤ 12 := by omega
  clear hmem
  go_wp2_with fail
  have st1 : SpSt w (w1.alloc (.cells #[.int .i64 6, .int .i64 d1] 25)) g (n + 2) w1.heap.size a cap zs 6 d1 := spSt_init mv1 hc1 hlt HR0.out
  have hlo := st1.lo
  have k0 := st1.q0
  have k1 := st1.q1
  have k2 := st1.f0
  have k3 := st1.f1
  obtain ⟨r0, r1, r2, r3⟩ := st1.res
  refine (pick_any _ _ _ _ _ _ _ st1.cur (by omega) (by omega) (by omega)).mono ?_
  rintro e w2 ⟨v2, rfl, p1, p2, mv2, hc2⟩
  have st2 := st1.step mv2 hc2
  clear k0 k1 k2 k3 r0 r1 r2 r3
  have k0 := st2.q0
  have k1 := st2.q1
  have k2 := st2.f0
  have k3 := st2.f1
  obtain ⟨r0, r1, r2, r3⟩ := st2.res
  by_cases e0 : v2 = 0
  · subst e0
    go_wp2_with fail
    refine (among_any [1, 2, 4] _ 3 _ _ _ _ _ _ (st2.new _).cur (by omega) (by simp) (by simp) (by simp) (by have := st2.gl; have := st2.lo; have := st2.hi; omega) ?hy3).mono ?_
    case hy3 =>
      intro i hi
      match i, hi with
      | 0, _ => simp
      | 1, _ => simp
      | 2, _ => simp
    rintro e w3 ⟨d3, rfl, hmem3, mv3, hc3⟩
    simp at hmem3
    have st3 := (st2.new _).step mv3 hc3
    clear k0 k1 k2 k3 r0 r1 r2 r3
    have k0 := st3.q0
    have k1 := st3.q1
    have k2 := st3.f0
    have k3 := st3.f1
    obtain ⟨r0, r1, r2, r3⟩ := st3.res
    have hb3 : 0 ≤ d3 ∧ d3 ≤ 12 := by omega
    have st4 := st3.put 4 d3
    go_wp2_with fail
    refine (one_any _ _ _ _ _ _ _ st4.cur (by omega) (by omega) (by omega)).mono ?_
    rintro e w5 ⟨v5, rfl, mv5, hc5⟩
    have st5 := st4.step mv5 hc5
    clear k0 k1 k2 k3 r0 r1 r2 r3
    have k0 := st5.q0
    have k1 := st5.q1
    have k2 := st5.f0
    have k3 := st5.f1
    obtain ⟨r0, r1, r2, r3⟩ := st5.res
    cases v5
    ·
      go_wp2
      refine bodyPost_ret (v := .agg #[.int .i64 4, .int .i64 d3]) (results_cell_row Try.results43 _ _ w.heap.size _ _ _ _ rfl (st5.res_end _ _) Try.underlying25 rfl (by kernel_rfl)) rfl ⟨_, _, rfl, by omega, by omega, by omega, by omega, ?_, ?_⟩
      · exact st5.mv_end _ _
      · exact (st5.cur_end _ _).more (by omega)
    ·
      go_wp2_with fail
      refine (among_any [0, 5, 12, 13] _ 4 _ _ _ _ _ _ (st5.new _).cur (by omega) (by simp) (by simp) (by simp) (by have := st5.gl; have := st5.lo; have := st5.hi; omega) ?hy6).mono ?_
      case hy6 =>
        intro i hi
        match i, hi with
        | 0, _ => simp
        | 1, _ => simp
        | 2, _ => simp
        | 3, _ => simp
      rintro e w6 ⟨d6, rfl, hmem6, mv6, hc6⟩
      simp at hmem6
      have st6 := (st5.new _).step mv6 hc6
      clear k0 k1 k2 k3 r0 r1 r2 r3
      have k0 := st6.q0
      have k1 := st6.q1
      have k2 := st6.f0
      have k3 := st6.f1
      obtain ⟨r0, r1, r2, r3⟩ := st6.res
      go_wp2_with fail
      refine (among_any [0, 2, 3, 12] _ 4 _ _ _ _ _ _ (st6.new _).cur (by omega) (by simp) (by simp) (by simp) (by have := st6.gl; have := st6.lo; have := st6.hi; omega) ?hy7).mono ?_
      case hy7 =>
        intro i hi
        match i, hi with
        | 0, _ => simp
        | 1, _ => simp
        | 2, _ => simp
        | 3, _ => simp
      rintro e w7 ⟨d7, rfl, hmem7, mv7, hc7⟩
      simp at hmem7
      have st7 := (st6.new _).step mv7 hc7
      clear k0 k1 k2 k3 r0 r1 r2 r3
      have k0 := st7.q0
      have k1 := st7.q1
      have k2 := st7.f0
      have k3 := st7.f1
      obtain ⟨r0, r1, r2, r3⟩ := st7.res
      go_wp2
      refine bodyPost_ret (v := .agg #[.int .i64 d6, .int .i64 d7]) (results_cell_row Try.results43 _ _ w.heap.size _ _ _ _ rfl ((st7.put d6 d7).res_end _ _) Try.underlying25 rfl (by kernel_rfl)) rfl ⟨_, _, rfl, by omega, by omega, by omega, by omega, ?_, ?_⟩
      · exact (st7.put d6 d7).mv_end _ _
      · exact ((st7.put d6 d7).cur_end _ _).more (by omega)
  · have e0' : (v2 == 0) = false := by simpa using e0
    by_cases e1 : v2 = 1
    · subst e1
      clear e0 e0'
      go_wp2_with fail
      refine (pick_any _ _ _ _ _ _ _ st2.cur (by omega) (by omega) (by omega)).mono ?_
      rintro e w3 ⟨d3, rfl, y1, y2, mv3, hc3⟩
      have st3 := st2.step mv3 hc3
      clear k0 k1 k2 k3 r0 r1 r2 r3
      have k0 := st3.q0
      have k1 := st3.q1
      have k2 := st3.f0
      have k3 := st3.f1
      obtain ⟨r0, r1, r2, r3⟩ := st3.res
      have st4 := st3.put (1 + d3) 1
      go_wp2_with fail
      refine (one_any _ _ _ _ _ _ _ st4.cur (by omega) (by omega) (by omega)).mono ?_
      rintro e w5 ⟨v5, rfl, mv5, hc5⟩
      have st5 := st4.step mv5 hc5
      clear k0 k1 k2 k3 r0 r1 r2 r3
      have k0 := st5.q0
      have k1 := st5.q1
      have k2 := st5.f0
      have k3 := st5.f1
      obtain ⟨r0, r1, r2, r3⟩ := st5.res
      cases v5
      ·
        go_wp2
        refine bodyPost_ret (v := .agg #[.int .i64 (1 + d3), .int .i64 1]) (results_cell_row Try.results43 _ _ w.heap.size _ _ _ _ rfl (st5.res_end _ _) Try.underlying25 rfl (by kernel_rfl)) rfl ⟨_, _, rfl, by omega, by omega, by omega, by omega, ?_, ?_⟩
        · exact st5.mv_end _ _
        · exact (st5.cur_end _ _).more (by omega)
      ·
        go_wp2_with fail
        refine (among_any [0, 5, 12, 13] _ 4 _ _ _ _ _ _ (st5.new _).cur (by omega) (by simp) (by simp) (by simp) (by have := st5.gl; have := st5.lo; have := st5.hi; omega) ?hy6).mono ?_
        case hy6 =>
          intro i hi
          match i, hi with
          | 0, _ => simp
          | 1, _ => simp
          | 2, _ => simp
          | 3, _ => simp
        rintro e w6 ⟨d6, rfl, hmem6, mv6, hc6⟩
        simp at hmem6
        have st6 := (st5.new _).step mv6 hc6
        clear k0 k1 k2 k3 r0 r1 r2 r3
        have k0 := st6.q0
        have k1 := st6.q1
        have k2 := st6.f0
        have k3 := st6.f1
        obtain ⟨r0, r1, r2, r3⟩ := st6.res
        go_wp2_with fail
        refine (among_any [0, 2, 3, 12] _ 4 _ _ _ _ _ _ (st6.new _).cur (by omega) (by simp) (by simp) (by simp) (by have := st6.gl; have := st6.lo; have := st6.hi; omega) ?hy7).mono ?_
        case hy7 =>
          intro i hi
          match i, hi with
          | 0, _ => simp
          | 1, _ => simp
          | 2, _ => simp
          | 3, _ => simp
        rintro e w7 ⟨d7, rfl, hmem7, mv7, hc7⟩
        simp at hmem7
        have st7 := (st6.new _).step mv7 hc7
        clear k0 k1 k2 k3 r0 r1 r2 r3
        have k0 := st7.q0
        have k1 := st7.q1
        have k2 := st7.f0
        have k3 := st7.f1
        obtain ⟨r0, r1, r2, r3⟩ := st7.res
        go_wp2
        refine bodyPost_ret (v := .agg #[.int .i64 d6, .int .i64 d7]) (results_cell_row Try.results43 _ _ w.heap.size _ _ _ _ rfl ((st7.put d6 d7).res_end _ _) Try.underlying25 rfl (by kernel_rfl)) rfl ⟨_, _, rfl, by omega, by omega, by omega, by omega, ?_, ?_⟩
        · exact (st7.put d6 d7).mv_end _ _
        · exact ((st7.put d6 d7).cur_end _ _).more (by omega)
    · have e1' : (v2 == 1) = false := by simpa using e1
      clear e0 e1
      go_wp2_with fail
      refine (one_any _ _ _ _ _ _ _ st2.cur (by omega) (by omega) (by omega)).mono ?_
      rintro e w5 ⟨v5, rfl, mv5, hc5⟩
      have st5 := st2.step mv5 hc5
      clear k0 k1 k2 k3 r0 r1 r2 r3
      have k0 := st5.q0
      have k1 := st5.q1
      have k2 := st5.f0
      have k3 := st5.f1
      obtain ⟨r0, r1, r2, r3⟩ := st5.res
      cases v5
      ·
        go_wp2
        refine bodyPost_ret (v := .agg #[.int .i64 6, .int .i64 d1]) (results_cell_row Try.results43 _ _ w.heap.size _ _ _ _ rfl (st5.res_end _ _) Try.underlying25 rfl (by kernel_rfl)) rfl ⟨_, _, rfl, by omega, by omega, by omega, by omega, ?_, ?_⟩
        · exact st5.mv_end _ _
        · exact (st5.cur_end _ _).more (by omega)
      ·
        go_wp2_with fail
        refine (among_any [0, 5, 12, 13] _ 4 _ _ _ _ _ _ (st5.new _).cur (by omega) (by simp) (by simp) (by simp) (by have := st5.gl; have := st5.lo; have := st5.hi; omega) ?hy6).mono ?_
        case hy6 =>
          intro i hi
          match i, hi with
          | 0, _ => simp
          | 1, _ => simp
          | 2, _ => simp
          | 3, _ => simp
        rintro e w6 ⟨d6, rfl, hmem6, mv6, hc6⟩
        simp at hmem6
        have st6 := (st5.new _).step mv6 hc6
        clear k0 k1 k2 k3 r0 r1 r2 r3
        have k0 := st6.q0
        have k1 := st6.q1
        have k2 := st6.f0
        have k3 := st6.f1
        obtain ⟨r0, r1, r2, r3⟩ := st6.res
        go_wp2_with fail
        refine (among_any [0, 2, 3, 12] _ 4 _ _ _ _ _ _ (st6.new _).cur (by omega) (by simp) (by simp) (by simp) (by have := st6.gl; have := st6.lo; have := st6.hi; omega) ?hy7).mono ?_
        case hy7 =>
          intro i hi
          match i, hi with
          | 0, _ => simp
          | 1, _ => simp
          | 2, _ => simp
          | 3, _ => simp
        rintro e w7 ⟨d7, rfl, hmem7, mv7, hc7⟩
        simp at hmem7
        have st7 := (st6.new _).step mv7 hc7
        clear k0 k1 k2 k3 r0 r1 r2 r3
        have k0 := st7.q0
        have k1 := st7.q1
        have k2 := st7.f0
        have k3 := st7.f1
        obtain ⟨r0, r1, r2, r3⟩ := st7.res
        go_wp2
        refine bodyPost_ret (v := .agg #[.int .i64 d6, .int .i64 d7]) (results_cell_row Try.results43 _ _ w.heap.size _ _ _ _ rfl ((st7.put d6 d7).res_end _ _) Try.underlying25 rfl (by kernel_rfl)) rfl ⟨_, _, rfl, by omega, by omega, by omega, by omega, ?_, ?_⟩
        · exact (st7.put d6 d7).mv_end _ _
        · exact ((st7.put d6 d7).cur_end _ _).more (by omega)
end Go.Proofs.Ytpgngfdhnoonjaa
