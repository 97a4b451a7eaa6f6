/- The space that is drawn. What is drawn for DistOf and InArc: some space and some numbers. The ring that is drawn: some space and some list. A ring and a number that are drawn. Peers that are drawn: what is kept meanwhile. Peers that are drawn. Peers that are drawn: the walk. What is drawn for SetPoint: what is kept meanwhile; the specification's members as new memory. -/
import Derived.Deep.RegionHeld
import Derived.Test.YtgmdbihdnacpjaaZ0
import Derived.Test.YtgmdbihdnacpjaaZ1
import Derived.Test.YtgmdbihdnacpjaaZ2
import Derived.Test.YtgmdbihdnacpjaaZ3
import Derived.Test.YtgmdbihdnacpjaaZ4
namespace Go.Proofs.Ytgmdbihdnacpjaa
open Go.RowKit
set_option linter.unusedVariables false

theorem Mv.put {g : Nat} {w w' : World} (h : Mv g w w') {q : Nat} (hq : w.heap.size ≤ q) (i : Nat) (v : Value) : Mv g w (w'.setCell ⟨q, i, none⟩ v) :=
  ⟨h.os, h.tape, h.output, by simpa [World.setCell] using h.size, fun k hk hg => (heap_setCell_other _ _ _ _ (by simp; omega)).trans (h.block k hk hg)⟩
theorem Mv.alloc {g : Nat} {w w' : World} (h : Mv g w w') (o : Obj) : Mv g w (w'.alloc o) := h.trans (Mv.of_below ((Below.refl _ _).alloc (Nat.le_refl _) _))
theorem CurAt.put {w w' : World} {g n : Nat} {a : Option Addr} {cap : Nat} {zs : List Int} (h : CurAt w' g n a cap zs) (h0 : RowU w g a zs) (mv : Mv g w w') {q : Nat} (hq : w.heap.size ≤ q) (hg : ¬ g = q) (i : Nat) (v : Value) : CurAt (w'.setCell ⟨q, i, none⟩ v) g n a cap zs := by
  obtain ⟨⟨k, sd, hb, h2⟩, hr, hl⟩ := h
  exact ⟨⟨k, sd, (heap_setCell_other _ _ _ _ hg).trans hb, h2⟩, h0.keep (mv.put hq i v), hl⟩
theorem CurAt.new {w : World} {g n : Nat} {a : Option Addr} {cap : Nat} {zs : List Int} (h : CurAt w g n a cap zs) (o : Obj) : CurAt (w.alloc o) g n a cap zs := h.keep ((Below.refl _ _).alloc (Nat.le_refl _) _)

/-- what the drawing of a space keeps: its result's block, the variable's, the cursor -/
structure SpSt (w wr : World) (g n q : Nat) (a : Option Addr) (cap : Nat) (zs : List Int) (b d : Int) : Prop where
  mv : Mv g w wr
  cur : CurAt wr g n a cap zs
  q0 : wr.cell? ⟨q, 0, none⟩ = some (.int .i64 b)
  q1 : wr.cell? ⟨q, 1, none⟩ = some (.int .i64 d)
  f0 : wr.frozen? ⟨q, 0, none⟩ = false
  f1 : wr.frozen? ⟨q, 1, none⟩ = false
  r : wr.heap[w.heap.size]? = some (.cells #[.int .i64 0, .int .i64 0] 25 (0, 0))
  lo : w.heap.size < q
  hi : q < wr.heap.size
  row : RowU w g a zs
  gl : g < w.heap.size
theorem SpSt.res {w wr : World} {g n q : Nat} {a : Option Addr} {cap : Nat} {zs : List Int} {b d : Int} (h : SpSt w wr g n q a cap zs b d) :
    wr.cell? ⟨w.heap.size, 0, none⟩ = some (.int .i64 0) ∧ wr.cell? ⟨w.heap.size, 1, none⟩ = some (.int .i64 0) ∧ wr.frozen? ⟨w.heap.size, 0, none⟩ = false ∧ wr.frozen? ⟨w.heap.size, 1, none⟩ = false :=
  ⟨(cell_of_row wr _ _ _ _ _ h.r).trans rfl, (cell_of_row wr _ _ _ _ _ h.r).trans rfl, frozen_of_row wr _ _ _ _ h.r, frozen_of_row wr _ _ _ _ h.r⟩
theorem SpSt.new {w wr : World} {g n q : Nat} {a : Option Addr} {cap : Nat} {zs : List Int} {b d : Int} (h : SpSt w wr g n q a cap zs b d) (o : Obj) : SpSt w (wr.alloc o) g n q a cap zs b d := by
  have hb : Below wr.heap.size wr (wr.alloc o) := (Below.refl _ _).alloc (Nat.le_refl _) _
  exact ⟨h.mv.alloc o, h.cur.new o, (hb.cell (p := ⟨q, 0, none⟩) h.hi).trans h.q0, (hb.cell (p := ⟨q, 1, none⟩) h.hi).trans h.q1, (hb.frozen (p := ⟨q, 0, none⟩) h.hi).trans h.f0, (hb.frozen (p := ⟨q, 1, none⟩) h.hi).trans h.f1, (hb.block _ (by have := h.lo; have := h.hi; omega)).trans h.r, h.lo, Nat.lt_of_lt_of_le h.hi hb.size, h.row, h.gl⟩
theorem Mv.frozen {g : Nat} {w w' : World} (h : Mv g w w') {b o : Nat} (hb : b < w.heap.size) (hg : ¬ b = g) : w'.frozen? ⟨b, o, none⟩ = w.frozen? ⟨b, o, none⟩ := World.frozen?_of_block (w := w) (h.block b hb hg)
theorem SpSt.step {w wr w1 : World} {g n m q : Nat} {a : Option Addr} {cap : Nat} {zs : List Int} {b d : Int} (h : SpSt w wr g n q a cap zs b d) (mv : Mv g wr w1) (hc : CurAt w1 g m a cap zs) : SpSt w w1 g m q a cap zs b d := by
  have hq : ¬ q = g := by have := h.gl; have := h.lo; omega
  have hw : ¬ w.heap.size = g := by have := h.gl; omega
  exact ⟨h.mv.trans mv, hc, keepM mv h.hi hq h.q0, keepM mv h.hi hq h.q1, (mv.frozen h.hi hq).trans h.f0, (mv.frozen h.hi hq).trans h.f1, (mv.block _ (by have := h.lo; have := h.hi; omega) hw).trans h.r, h.lo, Nat.lt_of_lt_of_le h.hi mv.size, h.row, h.gl⟩
theorem cell_put {w : World} {q i j : Nat} {u v : Value} (h : w.cell? ⟨q, i, none⟩ = some u) : (w.setCell ⟨q, j, none⟩ v).cell? ⟨q, i, none⟩ = some (if i = j then v else u) := by
  by_cases e : i = j
  · subst e; rw [if_pos rfl]; exact World.cell?_setCell_same _ _ _ h
  · rw [if_neg e]
    rw [World.cell?_setCell_other]; exact h
    simp; try exact e
theorem SpSt.put {w wr : World} {g n q : Nat} {a : Option Addr} {cap : Nat} {zs : List Int} {b d : Int} (h : SpSt w wr g n q a cap zs b d) (b' d' : Int) : SpSt w ((wr.setCell ⟨q, 0, none⟩ (.int .i64 b')).setCell ⟨q, 1, none⟩ (.int .i64 d')) g n q a cap zs b' d' := by
  have hq : w.heap.size ≤ q := by have := h.lo; omega
  have hgq : ¬ g = q := by have := h.gl; omega
  have mv1 := h.mv.put hq 0 (.int .i64 b')
  refine ⟨mv1.put hq 1 _, (h.cur.put h.row h.mv hq hgq 0 _).put h.row mv1 hq hgq 1 _, ?_, ?_, ?_, ?_, ?_, h.lo, by simpa [World.setCell] using h.hi, h.row, h.gl⟩
  · have := cell_put (j := 1) (v := .int .i64 d') (cell_put (j := 0) (v := .int .i64 b') h.q0); simpa using this
  · have := cell_put (j := 1) (v := .int .i64 d') (cell_put (j := 0) (v := .int .i64 b') h.q1); simpa using this
  · rw [World.frozen?_setCell, World.frozen?_setCell]; exact h.f0
  · rw [World.frozen?_setCell, World.frozen?_setCell]; exact h.f1
  · rw [heap_setCell_other _ _ _ _ (by have := h.lo; simp; omega), heap_setCell_other _ _ _ _ (by have := h.lo; simp; omega)]; exact h.r
theorem spSt_init {w w1 : World} {g n : Nat} {a : Option Addr} {cap : Nat} {zs : List Int} {d1 : Int} {o : Obj} (mv1 : Mv g ((w.alloc (.cells #[.int .i64 0, .int .i64 0] 25)).alloc o) w1) (hc1 : CurAt w1 g n a cap zs) (hlt : g < w.heap.size) (hr : RowU w g a zs) :
    SpSt w (w1.alloc (.cells #[.int .i64 6, .int .i64 d1] 25)) g n w1.heap.size a cap zs 6 d1 := by
  have hs := mv1.size
  simp at hs
  refine ⟨(((Mv.refl g w).alloc _).alloc _ |>.trans mv1).alloc _, hc1.new _, by simp, by simp, frozen_of_row _ _ _ _ _ (heap_alloc_new _ _), frozen_of_row _ _ _ _ _ (heap_alloc_new _ _), ?_, by omega, by simp, hr, hlt⟩
  rw [heap_alloc_old _ _ (by omega), mv1.block _ (by simp; omega) (by omega)]
  exact heap_alloc2_old _ _ _
theorem SpSt.res_end {w wr : World} {g n q : Nat} {a : Option Addr} {cap : Nat} {zs : List Int} {b d : Int} (h : SpSt w wr g n q a cap zs b d) (u v : Value) : ((wr.setCell ⟨w.heap.size, 0, none⟩ u).setCell ⟨w.heap.size, 1, none⟩ v).heap[w.heap.size]? = some (.cells #[u, v] 25 (0, 0)) :=
  heap_setCell_same _ _ 1 _ _ v (heap_setCell_same _ _ 0 _ _ u h.r)
theorem SpSt.mv_end {w wr : World} {g n q : Nat} {a : Option Addr} {cap : Nat} {zs : List Int} {b d : Int} (h : SpSt w wr g n q a cap zs b d) (u v : Value) : Mv g w ((wr.setCell ⟨w.heap.size, 0, none⟩ u).setCell ⟨w.heap.size, 1, none⟩ v) :=
  (h.mv.put (Nat.le_refl _) 0 u).put (Nat.le_refl _) 1 v
theorem SpSt.cur_end {w wr : World} {g n q : Nat} {a : Option Addr} {cap : Nat} {zs : List Int} {b d : Int} (h : SpSt w wr g n q a cap zs b d) (u v : Value) : CurAt ((wr.setCell ⟨w.heap.size, 0, none⟩ u).setCell ⟨w.heap.size, 1, none⟩ v) g n a cap zs := by
  have hg : ¬ g = w.heap.size := by have := h.gl; omega
  exact (h.cur.put h.row h.mv (Nat.le_refl _) hg 0 u).put h.row (h.mv.put (Nat.le_refl _) 0 u) (Nat.le_refl _) hg 1 v

set_option maxHeartbeats 1600000 in
theorem space_any (w : World) (g n : Nat) (a : Option Addr) (cap : Nat) (zs : List Int) (hc : CurAt w g n a cap zs) (hn : n ≤ 100000000) :
    Calls Try.prog 91 #[.pointer (some ⟨g, 0, none⟩)] w fun e w' => ∃ b d : Int, e = .returned (.agg #[.int .i64 b, .int .i64 d]) ∧ 0 ≤ b ∧ b ≤ 13 ∧ 0 ≤ d ∧ d ≤ 12 ∧ Mv g w w' ∧ CurAt w' g (n + 12) a cap zs := by
  have hlt := hc.lt
  have HR0 : Hid _ := hc.row
  go_enter Try.func91, Try.ntmps91
  go_wp2_with fail
  refine (among_any [1, 2, 3] (w.heap.size + 1) 3 _ _ _ _ _ _ ((hc.new _).new _) (by omega) (by simp) (by simp) (by simp) (by omega) ?hy).mono ?_
  case hy =>
    intro i hi
    match i, hi with
    | 0, _ => simp
    | 1, _ => simp
    | 2, _ => simp
  rintro e w1 ⟨d1, rfl, hmem, mv1, hc1⟩
  simp at hmem
  have hd1 : 0 ≤ d1 ∧ d1 ≤ 12 := by omega
  clear hmem
  go_wp2_with fail
  have st1 : SpSt w (w1.alloc (.cells #[.int .i64 6, .int .i64 d1] 25)) g (n + 2) w1.heap.size a cap zs 6 d1 := spSt_init mv1 hc1 hlt HR0.out
  have hlo := st1.lo
  have k0 := st1.q0
  have k1 := st1.q1
  have k2 := st1.f0
  have k3 := st1.f1
  obtain ⟨r0, r1, r2, r3⟩ := st1.res
  refine (pick_any _ _ _ _ _ _ _ st1.cur (by omega) (by omega) (by omega)).mono ?_
  rintro e w2 ⟨v2, rfl, p1, p2, mv2, hc2⟩
  have st2 := st1.step mv2 hc2
  clear k0 k1 k2 k3 r0 r1 r2 r3
  have k0 := st2.q0
  have k1 := st2.q1
  have k2 := st2.f0
  have k3 := st2.f1
  obtain ⟨r0, r1, r2, r3⟩ := st2.res
  by_cases e0 : v2 = 0
  · subst e0
    go_wp2_with fail
    refine (among_any [1, 2, 4] _ 3 _ _ _ _ _ _ (st2.new _).cur (by omega) (by simp) (by simp) (by simp) (by have := st2.gl; have := st2.lo; have := st2.hi; omega) ?hy3).mono ?_
    case hy3 =>
      intro i hi
      match i, hi with
      | 0, _ => simp
      | 1, _ => simp
      | 2, _ => simp
    rintro e w3 ⟨d3, rfl, hmem3, mv3, hc3⟩
    simp at hmem3
    have st3 := (st2.new _).step mv3 hc3
    clear k0 k1 k2 k3 r0 r1 r2 r3
    have k0 := st3.q0
    have k1 := st3.q1
    have k2 := st3.f0
    have k3 := st3.f1
    obtain ⟨r0, r1, r2, r3⟩ := st3.res
    have hb3 : 0 ≤ d3 ∧ d3 ≤ 12 := by omega
    have st4 := st3.put 4 d3
    go_wp2_with fail
    refine (one_any _ _ _ _ _ _ _ st4.cur (by omega) (by omega) (by omega)).mono ?_
    rintro e w5 ⟨v5, rfl, mv5, hc5⟩
    have st5 := st4.step mv5 hc5
    clear k0 k1 k2 k3 r0 r1 r2 r3
    have k0 := st5.q0
    have k1 := st5.q1
    have k2 := st5.f0
    have k3 := st5.f1
    obtain ⟨r0, r1, r2, r3⟩ := st5.res
    cases v5
    ·
      go_wp2
      refine bodyPost_ret (v := .agg #[.int .i64 4, .int .i64 d3]) (results_cell_row Try.results91 _ _ w.heap.size _ _ _ _ rfl (st5.res_end _ _) Try.underlying25 rfl (by kernel_rfl)) rfl ⟨_, _, rfl, by omega, by omega, by omega, by omega, ?_, ?_⟩
      · exact st5.mv_end _ _
      · exact (st5.cur_end _ _).more (by omega)
    ·
      go_wp2_with fail
      refine (among_any [0, 5, 12, 13] _ 4 _ _ _ _ _ _ (st5.new _).cur (by omega) (by simp) (by simp) (by simp) (by have := st5.gl; have := st5.lo; have := st5.hi; omega) ?hy6).mono ?_
      case hy6 =>
        intro i hi
        match i, hi with
        | 0, _ => simp
        | 1, _ => simp
        | 2, _ => simp
        | 3, _ => simp
      rintro e w6 ⟨d6, rfl, hmem6, mv6, hc6⟩
      simp at hmem6
      have st6 := (st5.new _).step mv6 hc6
      clear k0 k1 k2 k3 r0 r1 r2 r3
      have k0 := st6.q0
      have k1 := st6.q1
      have k2 := st6.f0
      have k3 := st6.f1
      obtain ⟨r0, r1, r2, r3⟩ := st6.res
      go_wp2_with fail
      refine (among_any [0, 2, 3, 12] _ 4 _ _ _ _ _ _ (st6.new _).cur (by omega) (by simp) (by simp) (by simp) (by have := st6.gl; have := st6.lo; have := st6.hi; omega) ?hy7).mono ?_
      case hy7 =>
        intro i hi
        match i, hi with
        | 0, _ => simp
        | 1, _ => simp
        | 2, _ => simp
        | 3, _ => simp
      rintro e w7 ⟨d7, rfl, hmem7, mv7, hc7⟩
      simp at hmem7
      have st7 := (st6.new _).step mv7 hc7
      clear k0 k1 k2 k3 r0 r1 r2 r3
      have k0 := st7.q0
      have k1 := st7.q1
      have k2 := st7.f0
      have k3 := st7.f1
      obtain ⟨r0, r1, r2, r3⟩ := st7.res
      go_wp2
      refine bodyPost_ret (v := .agg #[.int .i64 d6, .int .i64 d7]) (results_cell_row Try.results91 _ _ w.heap.size _ _ _ _ rfl ((st7.put d6 d7).res_end _ _) Try.underlying25 rfl (by kernel_rfl)) rfl ⟨_, _, rfl, by omega, by omega, by omega, by omega, ?_, ?_⟩
      · exact (st7.put d6 d7).mv_end _ _
      · exact ((st7.put d6 d7).cur_end _ _).more (by omega)
  · have e0' : (v2 == 0) = false := by simpa using e0
    by_cases e1 : v2 = 1
    · subst e1
      clear e0 e0'
      go_wp2_with fail
      refine (pick_any _ _ _ _ _ _ _ st2.cur (by omega) (by omega) (by omega)).mono ?_
      rintro e w3 ⟨d3, rfl, y1, y2, mv3, hc3⟩
      have st3 := st2.step mv3 hc3
      clear k0 k1 k2 k3 r0 r1 r2 r3
      have k0 := st3.q0
      have k1 := st3.q1
      have k2 := st3.f0
      have k3 := st3.f1
      obtain ⟨r0, r1, r2, r3⟩ := st3.res
      have st4 := st3.put (1 + d3) 1
      go_wp2_with fail
      refine (one_any _ _ _ _ _ _ _ st4.cur (by omega) (by omega) (by omega)).mono ?_
      rintro e w5 ⟨v5, rfl, mv5, hc5⟩
      have st5 := st4.step mv5 hc5
      clear k0 k1 k2 k3 r0 r1 r2 r3
      have k0 := st5.q0
      have k1 := st5.q1
      have k2 := st5.f0
      have k3 := st5.f1
      obtain ⟨r0, r1, r2, r3⟩ := st5.res
      cases v5
      ·
        go_wp2
        refine bodyPost_ret (v := .agg #[.int .i64 (1 + d3), .int .i64 1]) (results_cell_row Try.results91 _ _ w.heap.size _ _ _ _ rfl (st5.res_end _ _) Try.underlying25 rfl (by kernel_rfl)) rfl ⟨_, _, rfl, by omega, by omega, by omega, by omega, ?_, ?_⟩
        · exact st5.mv_end _ _
        · exact (st5.cur_end _ _).more (by omega)
      ·
        go_wp2_with fail
        refine (among_any [0, 5, 12, 13] _ 4 _ _ _ _ _ _ (st5.new _).cur (by omega) (by simp) (by simp) (by simp) (by have := st5.gl; have := st5.lo; have := st5.hi; omega) ?hy6).mono ?_
        case hy6 =>
          intro i hi
          match i, hi with
          | 0, _ => simp
          | 1, _ => simp
          | 2, _ => simp
          | 3, _ => simp
        rintro e w6 ⟨d6, rfl, hmem6, mv6, hc6⟩
        simp at hmem6
        have st6 := (st5.new _).step mv6 hc6
        clear k0 k1 k2 k3 r0 r1 r2 r3
        have k0 := st6.q0
        have k1 := st6.q1
        have k2 := st6.f0
        have k3 := st6.f1
        obtain ⟨r0, r1, r2, r3⟩ := st6.res
        go_wp2_with fail
        refine (among_any [0, 2, 3, 12] _ 4 _ _ _ _ _ _ (st6.new _).cur (by omega) (by simp) (by simp) (by simp) (by have := st6.gl; have := st6.lo; have := st6.hi; omega) ?hy7).mono ?_
        case hy7 =>
          intro i hi
          match i, hi with
          | 0, _ => simp
          | 1, _ => simp
          | 2, _ => simp
          | 3, _ => simp
        rintro e w7 ⟨d7, rfl, hmem7, mv7, hc7⟩
        simp at hmem7
        have st7 := (st6.new _).step mv7 hc7
        clear k0 k1 k2 k3 r0 r1 r2 r3
        have k0 := st7.q0
        have k1 := st7.q1
        have k2 := st7.f0
        have k3 := st7.f1
        obtain ⟨r0, r1, r2, r3⟩ := st7.res
        go_wp2
        refine bodyPost_ret (v := .agg #[.int .i64 d6, .int .i64 d7]) (results_cell_row Try.results91 _ _ w.heap.size _ _ _ _ rfl ((st7.put d6 d7).res_end _ _) Try.underlying25 rfl (by kernel_rfl)) rfl ⟨_, _, rfl, by omega, by omega, by omega, by omega, ?_, ?_⟩
        · exact (st7.put d6 d7).mv_end _ _
        · exact ((st7.put d6 d7).cur_end _ _).more (by omega)
    · have e1' : (v2 == 1) = false := by simpa using e1
      clear e0 e1
      go_wp2_with fail
      refine (one_any _ _ _ _ _ _ _ st2.cur (by omega) (by omega) (by omega)).mono ?_
      rintro e w5 ⟨v5, rfl, mv5, hc5⟩
      have st5 := st2.step mv5 hc5
      clear k0 k1 k2 k3 r0 r1 r2 r3
      have k0 := st5.q0
      have k1 := st5.q1
      have k2 := st5.f0
      have k3 := st5.f1
      obtain ⟨r0, r1, r2, r3⟩ := st5.res
      cases v5
      ·
        go_wp2
        refine bodyPost_ret (v := .agg #[.int .i64 6, .int .i64 d1]) (results_cell_row Try.results91 _ _ w.heap.size _ _ _ _ rfl (st5.res_end _ _) Try.underlying25 rfl (by kernel_rfl)) rfl ⟨_, _, rfl, by omega, by omega, by omega, by omega, ?_, ?_⟩
        · exact st5.mv_end _ _
        · exact (st5.cur_end _ _).more (by omega)
      ·
        go_wp2_with fail
        refine (among_any [0, 5, 12, 13] _ 4 _ _ _ _ _ _ (st5.new _).cur (by omega) (by simp) (by simp) (by simp) (by have := st5.gl; have := st5.lo; have := st5.hi; omega) ?hy6).mono ?_
        case hy6 =>
          intro i hi
          match i, hi with
          | 0, _ => simp
          | 1, _ => simp
          | 2, _ => simp
          | 3, _ => simp
        rintro e w6 ⟨d6, rfl, hmem6, mv6, hc6⟩
        simp at hmem6
        have st6 := (st5.new _).step mv6 hc6
        clear k0 k1 k2 k3 r0 r1 r2 r3
        have k0 := st6.q0
        have k1 := st6.q1
        have k2 := st6.f0
        have k3 := st6.f1
        obtain ⟨r0, r1, r2, r3⟩ := st6.res
        go_wp2_with fail
        refine (among_any [0, 2, 3, 12] _ 4 _ _ _ _ _ _ (st6.new _).cur (by omega) (by simp) (by simp) (by simp) (by have := st6.gl; have := st6.lo; have := st6.hi; omega) ?hy7).mono ?_
        case hy7 =>
          intro i hi
          match i, hi with
          | 0, _ => simp
          | 1, _ => simp
          | 2, _ => simp
          | 3, _ => simp
        rintro e w7 ⟨d7, rfl, hmem7, mv7, hc7⟩
        simp at hmem7
        have st7 := (st6.new _).step mv7 hc7
        clear k0 k1 k2 k3 r0 r1 r2 r3
        have k0 := st7.q0
        have k1 := st7.q1
        have k2 := st7.f0
        have k3 := st7.f1
        obtain ⟨r0, r1, r2, r3⟩ := st7.res
        go_wp2
        refine bodyPost_ret (v := .agg #[.int .i64 d6, .int .i64 d7]) (results_cell_row Try.results91 _ _ w.heap.size _ _ _ _ rfl ((st7.put d6 d7).res_end _ _) Try.underlying25 rfl (by kernel_rfl)) rfl ⟨_, _, rfl, by omega, by omega, by omega, by omega, ?_, ?_⟩
        · exact (st7.put d6 d7).mv_end _ _
        · exact ((st7.put d6 d7).cur_end _ _).more (by omega)
end Go.Proofs.Ytgmdbihdnacpjaa
namespace Go.Proofs.Ytgmdbihdnacpjaa
open Go.RowKit
set_option linter.unusedVariables false

/-- a slice of bytes that came in -/
def RowB (w : World) (a : Option Addr) (zs : List Int) : Prop :=
  zs = [] ∨ ∃ b off, a = some ⟨b, off, none⟩ ∧ b < w.heap.size ∧ ∀ i, i < zs.length → w.cell? ⟨b, off + i, none⟩ = some (.int .u8 (zs.getD i 0)) ∧ 0 ≤ zs.getD i 0 ∧ zs.getD i 0 ≤ 255
theorem RowB.keep {w w1 : World} {a : Option Addr} {zs : List Int} (h : RowB w a zs) (hb : Below w.heap.size w w1) : RowB w1 a zs := by
  rcases h with h | ⟨b, off, ha, hl, hc⟩
  · exact .inl h
  · exact .inr ⟨b, off, ha, Nat.lt_of_lt_of_le hl hb.size, fun i hi => ⟨(hb.cell (p := ⟨b, off + i, none⟩) hl).trans (hc i hi).1, (hc i hi).2⟩⟩
/-- a new cursor over these bytes, in the block that was made last -/
theorem cur_new {w w1 : World} {a : Option Addr} {cap : Nat} {zs : List Int} (hr : RowB w a zs) (hl : zs.length ≤ 1048576) (hb : Below w.heap.size w w1) :
    CurAt (w1.alloc (.cells #[.slice a zs.length cap, .int .i64 0, .int .u64 0] 66)) w1.heap.size 0 a cap zs := by
  have hs := hb.size
  refine ⟨⟨0, 0, heap_alloc_new _ _, Nat.le_refl _, by decide⟩, ?_, hl⟩
  rcases hr with h | ⟨b, off, ha, hlt, hc⟩
  · exact .inl h
  · have hb2 : Below w.heap.size w (w1.alloc (.cells #[.slice a zs.length cap, .int .i64 0, .int .u64 0] 66)) := hb.alloc hs _
    exact .inr ⟨b, off, ha, Nat.lt_of_lt_of_le hlt hb2.size, by omega, fun i hi => ⟨(hb2.cell (p := ⟨b, off + i, none⟩) hlt).trans (hc i hi).1, (hc i hi).2⟩⟩
theorem CurAt.drew {w : World} {g n : Nat} {a : Option Addr} {cap : Nat} {zs : List Int} (h : CurAt w g n a cap zs) : CurAt w.drew g n a cap zs := h.keep ((Below.refl _ _).drew)

/-- what a drawing keeps: the result's block, the cursor's behind it, the space's variable -/
structure DrSt (w wr : World) (n q : Nat) (a : Option Addr) (cap : Nat) (zs : List Int) (b d : Int) : Prop where
  bel : Below w.heap.size w wr
  cur : CurAt wr (w.heap.size + 1) n a cap zs
  q0 : wr.cell? ⟨q, 0, none⟩ = some (.int .i64 b)
  q1 : wr.cell? ⟨q, 1, none⟩ = some (.int .i64 d)
  r : wr.heap[w.heap.size]? = some (.cells #[.int .i64 0, .int .i64 0] 25 (0, 0))
  lo : w.heap.size + 1 < q
  hi : q < wr.heap.size
theorem DrSt.step {w wr w1 : World} {n m q : Nat} {a : Option Addr} {cap : Nat} {zs : List Int} {b d : Int} (h : DrSt w wr n q a cap zs b d) (mv : Mv (w.heap.size + 1) wr w1) (hc : CurAt w1 (w.heap.size + 1) m a cap zs) : DrSt w w1 m q a cap zs b d := by
  have hq : ¬ q = w.heap.size + 1 := by have := h.lo; omega
  exact ⟨mv.below h.bel (by omega), hc, keepM mv h.hi hq h.q0, keepM mv h.hi hq h.q1, (mv.block _ (by have := h.lo; have := h.hi; omega) (by omega)).trans h.r, h.lo, Nat.lt_of_lt_of_le h.hi mv.size⟩
theorem DrSt.keep {w wr w1 : World} {n q : Nat} {a : Option Addr} {cap : Nat} {zs : List Int} {b d : Int} (h : DrSt w wr n q a cap zs b d) (hb : Below wr.heap.size wr w1) : DrSt w w1 n q a cap zs b d := h.step (Mv.of_below hb) (h.cur.keep hb)
theorem DrSt.res {w wr : World} {n q : Nat} {a : Option Addr} {cap : Nat} {zs : List Int} {b d : Int} (h : DrSt w wr n q a cap zs b d) :
    wr.cell? ⟨w.heap.size, 0, none⟩ = some (.int .i64 0) ∧ wr.cell? ⟨w.heap.size, 1, none⟩ = some (.int .i64 0) ∧ wr.frozen? ⟨w.heap.size, 0, none⟩ = false ∧ wr.frozen? ⟨w.heap.size, 1, none⟩ = false :=
  ⟨(cell_of_row wr _ _ _ _ _ h.r).trans rfl, (cell_of_row wr _ _ _ _ _ h.r).trans rfl, frozen_of_row wr _ _ _ _ h.r, frozen_of_row wr _ _ _ _ h.r⟩
theorem DrSt.res_end {w wr : World} {n q : Nat} {a : Option Addr} {cap : Nat} {zs : List Int} {b d : Int} (h : DrSt w wr n q a cap zs b d) (u v : Value) : ((wr.setCell ⟨w.heap.size, 0, none⟩ u).setCell ⟨w.heap.size, 1, none⟩ v).heap[w.heap.size]? = some (.cells #[u, v] 25 (0, 0)) :=
  heap_setCell_same _ _ 1 _ _ v (heap_setCell_same _ _ 0 _ _ u h.r)
theorem DrSt.bel_end {w wr : World} {n q : Nat} {a : Option Addr} {cap : Nat} {zs : List Int} {b d : Int} (h : DrSt w wr n q a cap zs b d) (u v : Value) : Below w.heap.size w ((wr.setCell ⟨w.heap.size, 0, none⟩ u).setCell ⟨w.heap.size, 1, none⟩ v) :=
  (h.bel.setCell (Nat.le_refl _) u).setCell (Nat.le_refl _) v
theorem DrSt.cells_end {w wr : World} {n q : Nat} {a : Option Addr} {cap : Nat} {zs : List Int} {b d : Int} (h : DrSt w wr n q a cap zs b d) (u v : Value) : ((wr.setCell ⟨w.heap.size, 0, none⟩ u).setCell ⟨w.heap.size, 1, none⟩ v).cell? ⟨q, 0, none⟩ = some (.int .i64 b) ∧ ((wr.setCell ⟨w.heap.size, 0, none⟩ u).setCell ⟨w.heap.size, 1, none⟩ v).cell? ⟨q, 1, none⟩ = some (.int .i64 d) := by
  have e : ((wr.setCell ⟨w.heap.size, 0, none⟩ u).setCell ⟨w.heap.size, 1, none⟩ v).heap[q]? = wr.heap[q]? := by
    rw [heap_setCell_other _ _ _ _ (by have := h.lo; simp; omega), heap_setCell_other _ _ _ _ (by have := h.lo; simp; omega)]
  exact ⟨(World.cell?_of_block (w := wr) e).trans h.q0, (World.cell?_of_block (w := wr) e).trans h.q1⟩
theorem drSt_init {w w1 : World} {n : Nat} {a : Option Addr} {cap : Nat} {zs : List Int} {b d : Int} (mv1 : Mv (w.heap.size + 1) ((w.alloc (.cells #[.int .i64 0, .int .i64 0] 25)).alloc (.cells #[.slice a zs.length cap, .int .i64 0, .int .u64 0] 66)) w1) (hc1 : CurAt w1 (w.heap.size + 1) n a cap zs) :
    DrSt w (w1.alloc (.cells #[.int .i64 b, .int .i64 d] 25)) n w1.heap.size a cap zs b d := by
  have hs := mv1.size
  simp at hs
  have hb1 : Below w.heap.size w w1 := mv1.below (((Below.refl _ _).alloc (Nat.le_refl _) _).alloc (by simp) _) (by omega)
  refine ⟨hb1.alloc hb1.size _, hc1.new _, by simp, by simp, ?_, by omega, by simp⟩
  rw [heap_alloc_old _ _ (by omega), mv1.block _ (by simp; omega) (by omega)]
  exact heap_alloc2_old _ _ _
end Go.Proofs.Ytgmdbihdnacpjaa
namespace Go.Proofs.Ytgmdbihdnacpjaa
open Go.RowKit
set_option linter.unusedVariables false

theorem SpSt.keepB {w wr w1 : World} {g n q : Nat} {a : Option Addr} {cap : Nat} {zs : List Int} {b d : Int} (h : SpSt w wr g n q a cap zs b d) (hb : Below wr.heap.size wr w1) : SpSt w w1 g n q a cap zs b d := h.step (Mv.of_below hb) (h.cur.keep hb)
theorem SpSt.more {w wr : World} {g n m q : Nat} {a : Option Addr} {cap : Nat} {zs : List Int} {b d : Int} (h : SpSt w wr g n q a cap zs b d) (hm : n ≤ m) : SpSt w wr g m q a cap zs b d :=
  ⟨h.mv, h.cur.more hm, h.q0, h.q1, h.f0, h.f1, h.r, h.lo, h.hi, h.row, h.gl⟩
theorem spSt_ring {w w1 : World} {g n : Nat} {a : Option Addr} {cap : Nat} {zs : List Int} {b d : Int} (mv1 : Mv g (w.alloc (.cells #[.int .i64 0, .int .i64 0] 25)) w1) (hc1 : CurAt w1 g n a cap zs) (hlt : g < w.heap.size) (hr : RowU w g a zs) :
    SpSt w (w1.alloc (.cells #[.int .i64 b, .int .i64 d] 25)) g n w1.heap.size a cap zs b d := by
  have hs := mv1.size
  simp at hs
  refine ⟨(((Mv.refl g w).alloc _).trans mv1).alloc _, hc1.new _, by simp, by simp, frozen_of_row _ _ _ _ _ (heap_alloc_new _ _), frozen_of_row _ _ _ _ _ (heap_alloc_new _ _), ?_, by omega, by simp, hr, hlt⟩
  rw [heap_alloc_old _ _ (by omega), mv1.block _ (by simp) (by omega)]
  exact heap_alloc_new _ _
/-- the world behind the result's store -/
theorem SpSt.fin {w wr : World} {g n q : Nat} {a : Option Addr} {cap : Nat} {zs : List Int} {b d : Int} (h : SpSt w wr g n q a cap zs b d) (u v : Value) :
    ((wr.setCell ⟨w.heap.size, 0, none⟩ u).setCell ⟨w.heap.size, 1, none⟩ v).heap[w.heap.size]? = some (.cells #[u, v] 25 (0, 0)) ∧ Mv g w ((wr.setCell ⟨w.heap.size, 0, none⟩ u).setCell ⟨w.heap.size, 1, none⟩ v) ∧ CurAt ((wr.setCell ⟨w.heap.size, 0, none⟩ u).setCell ⟨w.heap.size, 1, none⟩ v) g n a cap zs ∧
      ∀ k, k < wr.heap.size → w.heap.size + 1 ≤ k → ((wr.setCell ⟨w.heap.size, 0, none⟩ u).setCell ⟨w.heap.size, 1, none⟩ v).heap[k]? = wr.heap[k]? := by
  have hgq : ¬ g = w.heap.size := by have := h.gl; omega
  have mv1 := h.mv.put (Nat.le_refl _) 0 u
  refine ⟨heap_setCell_same _ _ 1 _ _ v (heap_setCell_same _ _ 0 _ _ u h.r), mv1.put (Nat.le_refl _) 1 v, (h.cur.put h.row h.mv (Nat.le_refl _) hgq 0 u).put h.row mv1 (Nat.le_refl _) hgq 1 v, fun k hk hb => ?_⟩
  rw [heap_setCell_other _ _ _ _ (by simp; omega), heap_setCell_other _ _ _ _ (by simp; omega)]
theorem OwnM.mv {B g : Nat} {w w1 : World} {v : Value} {l : List Int} (h : OwnM B w v l) (hm : Mv g w w1) (hg : g < B) : OwnM B w1 v l := h.block (fun k hk hb => hm.block k hk (by omega))
/-- some list that is read in this world -/
def SomeR (B : Nat) (w : World) (v : Value) : Prop := ∃ (a0 : Option Addr) (cp : Nat) (ms : List Int), v = .slice a0 ms.length cp ∧ ms.length ≤ cp ∧ ms.length ≤ 9 ∧ RowAt w a0 ms ∧ (ms = [] ∨ ∃ bk off, a0 = some ⟨bk, off, none⟩ ∧ B ≤ bk)
theorem OwnM.someR {B : Nat} {w : World} {v : Value} {l : List Int} (h : OwnM B w v l) (hl : l.length ≤ 9) {B' : Nat} (hB : B' ≤ B) : SomeR B' w v := by
  rcases h.form with ⟨rfl, rfl⟩ | ⟨g, cap, rfl, hc, os⟩
  · exact ⟨none, 0, [], rfl, Nat.le_refl _, by simp, .inl rfl, .inl rfl⟩
  · exact ⟨_, cap, l, rfl, hc, hl, os.rowAt, .inr ⟨g, 0, rfl, Nat.le_trans hB os.lo⟩⟩
theorem SomeR.block {B : Nat} {w w1 : World} {v : Value} (h : SomeR B w v) (hb : ∀ k, k < w.heap.size → B ≤ k → w1.heap[k]? = w.heap[k]?) (hs : w.heap.size ≤ w1.heap.size) : SomeR B w1 v := by
  obtain ⟨a0, cp, ms, hv, hc, hl, hr, hB⟩ := h
  refine ⟨a0, cp, ms, hv, hc, hl, ?_, hB⟩
  rcases hr with rfl | ⟨bk, off, ha, hlt, hcell⟩
  · exact .inl rfl
  · rcases hB with rfl | ⟨bk2, off2, ha2, hB⟩
    · exact .inl rfl
    · rw [ha] at ha2
      simp at ha2
      obtain ⟨rfl, rfl⟩ := ha2
      exact .inr ⟨bk, off, ha, Nat.lt_of_lt_of_le hlt hs, fun i hi => (World.cell?_of_block (w := w) (a := ⟨bk, off + i, none⟩) (hb bk hlt hB)).trans (hcell i hi)⟩
theorem SomeR.keep {B : Nat} {w w1 : World} {v : Value} (h : SomeR B w v) (hb : Below w.heap.size w w1) : SomeR B w1 v := h.block (fun k hk _ => hb.block k hk) hb.size
theorem SomeR.mv {B g : Nat} {w w1 : World} {v : Value} (h : SomeR B w v) (hm : Mv g w w1) (hg : g < B) : SomeR B w1 v := h.block (fun k hk hb => hm.block k hk (by omega)) hm.size
theorem SomeR.mono {B B' : Nat} {w : World} {v : Value} (h : SomeR B w v) (hb : B' ≤ B) : SomeR B' w v := by
  obtain ⟨a0, cp, ms, hv, hc, hl, hr, hB⟩ := h
  refine ⟨a0, cp, ms, hv, hc, hl, hr, ?_⟩
  rcases hB with h | ⟨bk, off, ha, h⟩
  · exact .inl h
  · exact .inr ⟨bk, off, ha, Nat.le_trans hb h⟩
theorem OwnM.snoc {B : Nat} {w : World} {v : Value} {l : List Int} {z : Int} (h : w.ownsRow B 3 1 v (l.length + 1) (l.map (Value.int .i64) ++ [Value.int .i64 z])) : OwnM B w v (l ++ [z]) := own_snoc rfl h
theorem OwnM.stored {B : Nat} {w : World} {g cap : Nat} {l : List Int} (h : OwnM B w (.slice (some ⟨g, 0, none⟩) l.length cap) l) (j : Nat) (z : Int) : OwnM B (w.setCell ⟨g, j, none⟩ (.int .i64 z)) (.slice (some ⟨g, 0, none⟩) l.length cap) (l.set j z) := by
  have := (World.ownsRow.stored h j (.int .i64 z)).1
  unfold OwnM
  rw [List.length_set, List.map_set]
  exact this

theorem SpSt.grown {w wr w1 : World} {g n q : Nat} {a : Option Addr} {cap : Nat} {zs : List Int} {b d : Int} {r : Option Nat} (h : SpSt w wr g n q a cap zs b d) (hg : wr.grownBy w1 r) (hr : ∀ k, r = some k → q + 1 ≤ k) : SpSt w w1 g n q a cap zs b d := by
  have e : ∀ k, k < wr.heap.size → k ≤ q → w1.heap[k]? = wr.heap[k]? := fun k hk hq => hg.block k hk (fun he => by have := hr k he.symm; omega)
  have hlo := h.lo
  have hhi := h.hi
  have hgl := h.gl
  have hsz := h.mv.size
  have mv : Mv g w w1 := ⟨hg.os.trans h.mv.os, hg.tape.trans h.mv.tape, hg.output.trans h.mv.output, Nat.le_trans h.mv.size hg.size, fun k hk hk2 => (e k (by omega) (by omega)).trans (h.mv.block k hk hk2)⟩
  have eq := e q hhi (Nat.le_refl _)
  obtain ⟨⟨k, sd, hbk, h2⟩, hrow, hl⟩ := h.cur
  exact ⟨mv, ⟨⟨k, sd, (e g (by omega) (by omega)).trans hbk, h2⟩, h.row.keep mv, hl⟩, (World.cell?_of_block (w := wr) (a := ⟨q, 0, none⟩) eq).trans h.q0, (World.cell?_of_block (w := wr) (a := ⟨q, 1, none⟩) eq).trans h.q1, (World.frozen?_of_block (w := wr) (a := ⟨q, 0, none⟩) eq).trans h.f0, (World.frozen?_of_block (w := wr) (a := ⟨q, 1, none⟩) eq).trans h.f1, (e _ (by omega) (by omega)).trans h.r, hlo, Nat.lt_of_lt_of_le hhi hg.size, h.row, hgl⟩

set_option maxRecDepth 100000 in
set_option maxHeartbeats 6400000 in
theorem ring_any (w : World) (g n : Nat) (a : Option Addr) (cap : Nat) (zs : List Int) (hc : CurAt w g n a cap zs) (hn : n ≤ 1000) :
    Calls Try.prog 57 #[.pointer (some ⟨g, 0, none⟩)] w fun e w' => ∃ (b d : Int) (v : Value), e = .returned (.tuple #[.agg #[.int .i64 b, .int .i64 d], v]) ∧ SomeR w.heap.size w' v ∧ Mv g w w' ∧ CurAt w' g (n + 60) a cap zs := by
  have hlt := hc.lt
  have HR0 : Hid (RowU w g a zs) := hc.row
  obtain ⟨i0, hi, hz0, hz1, hz2⟩ := info_parts'
  go_enter Try.func57, Try.ntmps57
  go_wp2_with fail
  refine (space_any _ _ _ _ _ _ (hc.new _) (by omega)).mono ?_
  rintro e w1 ⟨b, d, rfl, b1, b2, d1, d2, mv1, hc1⟩
  have st1 : SpSt w (w1.alloc (.cells #[.int .i64 b, .int .i64 d] 25)) g (n + 12) w1.heap.size a cap zs b d := spSt_ring mv1 hc1 hlt HR0.out
  have k0 := st1.q0
  have k1 := st1.q1
  go_wp2_with fail
  refine (lspace_any _ _ _).mono ?_
  rintro e w2 ⟨rfl, hw2⟩
  have st2 := st1.keepB hw2
  have hlo := st2.lo
  have hhi := st2.hi
  clear k0 k1 st1
  cases hg : gsB b d
  · have st3 := st2.new (.cells #[.int .i64 0] 3)
    have k0 := st2.q0
    have k1 := st2.q1
    obtain ⟨r0, r1, r2, r3⟩ := st3.res
    go_wp2
    obtain ⟨f1, f2, f3, f4⟩ := st3.fin (.int .i64 b) (.int .i64 d)
    have e0 := (cell_of_row _ _ 0 _ _ _ f1).trans rfl
    have e1 := (cell_of_row _ _ 1 _ _ _ f1).trans rfl
    refine bodyPost_ret (by simp [results, Try.results57, go_sem, e0, e1] <;> rfl) rfl ⟨b, d, _, rfl, ?_, f2, f3.more (by omega)⟩
    refine ⟨some ⟨w2.heap.size, 0, none⟩, 1, [0], rfl, Nat.le_refl _, by simp, .inr ⟨w2.heap.size, 0, rfl, by simp [World.setCell], fun i hi => ?_⟩, .inr ⟨w2.heap.size, 0, rfl, by omega⟩⟩
    have hi0 : i = 0 := by simp at hi; omega
    subst hi0
    have := f4 w2.heap.size (by simp) (by omega)
    exact (World.cell?_of_block (a := ⟨w2.heap.size, 0 + 0, none⟩) this).trans (by simp)
  · obtain ⟨hb1, hb2, _, _, _⟩ := gsB_true hg
    obtain ⟨hs1, hs2⟩ := sz_bd hb1 hb2
    go_wp2_with fail
    refine (pick_any _ _ _ _ _ _ _ st2.cur (by omega) (by omega) (by omega)).mono ?_
    rintro e w3 ⟨v3, rfl, p1, p2, mv3, hc3⟩
    have st3 := st2.step mv3 hc3
    have hs3 := mv3.size
    obtain ⟨t3, rfl⟩ := Int.eq_ofNat_of_zero_le p1
    generalize w1.heap.size = q at *
    go_wp2_with fail
    go_loopw [5, 6] (fun vm vn wr => ∃ (v0 : Value) (ms : List Int) (j : Nat), vm = v0 ∧ vn = .int .i64 (j : Int) ∧ j ≤ t3 + 1 ∧ ms.length + j ≤ t3 + 1 ∧ Hid (ms = [] → v0 = .slice none 0 0 ∧ j = t3 + 1) ∧ OwnM (q + 1) wr v0 ms ∧ SpSt w wr g (n + 16 + 2 * (t3 + 1 - j)) q a cap zs b d) (fun _ vn _ => (intOf vn).toNat)
    case atStart => exact ⟨_, [], t3 + 1, rfl, by go_num, Nat.le_refl _, by simp, fun _ => ⟨rfl, rfl⟩, World.ownsRow_nil _ _ _ _, st3.more (by omega)⟩
    case round =>
      obtain ⟨v0, ms, j, hv0, rfl, hj, hms, hnil, hown, st⟩ := hrel
      have hv0 := hv0.symm
      subst hv0
      have HO : Hid (OwnM (q + 1) wr v0 ms) := hown
      have HST : Hid (SpSt w wr g (n + 16 + 2 * (t3 + 1 - j)) q a cap zs b d) := st
      clear hown st st3 st2 hc3 mv3
      by_cases hlt : 0 < j
      · have sta := HST.out.keepB ((Below.refl _ _).drew)
        have oma := HO.out.keep ((Below.refl _ _).drew)
        have hszw := HST.out.mv.size
        have hj8 : t3 + 1 - j ≤ 8 := by omega
        go_wp2_with fail
        go_region_held (fun w' => w'.cell? ⟨q, 0, none⟩ = some (.int .i64 b) ∧ w'.cell? ⟨q, 1, none⟩ = some (.int .i64 d)) (first | exact ⟨sta.q0, sta.q1⟩ | exact ⟨stb.q0, stb.q1⟩ | exact ⟨stc.q0, stc.q1⟩ | exact ⟨std.q0, std.q1⟩ | exact ⟨ste.q0, ste.q1⟩) (first | (go_at_call 89; refine (next_any _ _ _ _ _ _ sta.cur (by omega)).mono ?_; rintro e wb ⟨xb, rfl, xb1, xb2, mvb, hcb⟩; have stb := sta.step mvb hcb; have omb := oma.mv mvb (by omega)) | (go_at_call 89; refine (next_any _ _ _ _ _ _ stb.cur (by omega)).mono ?_; rintro e wc ⟨xc, rfl, xc1, xc2, mvc, hcc⟩; have stc := stb.step mvc hcc; have omc := omb.mv mvc (by omega)) | (go_at_call 60; refine (lsize_any _ _ _ hb1 hb2).mono ?_; rintro e wd ⟨rfl, hwd⟩; have std := stc.keepB hwd; have omd := omc.keep hwd) | (go_at_call 92; refine (lputM_any (q + 1) v0 ms _ wd omd (fun h => (hnil.out h).1) (by omega) (by have := std.hi; omega)).mono ?_; rintro e we ⟨ve, me, rfl, ome, me1, me2, hwe⟩; have ste := std.keepB hwe))
        have HOE : Hid (OwnM (q + 1) we ve me) := ome
        have HSE : Hid (SpSt w we g (n + 16 + 2 * (t3 + 1 - j) + 1 + 1) q a cap zs b d) := ste
        clear sta stb stc std ste oma omb omc omd ome mvb mvc hcb hcc hwd hwe
        go_wp2_with fail
        go_roundw
        case rel => exact ⟨ve, me, j - 1, rfl, by go_num, by omega, by omega, fun h => by rw [h] at me1; simp at me1, HOE.out, HSE.out.more (by omega)⟩
        case measure => simp [intOf]; omega
      · have hj0 : j = 0 := by omega
        subst hj0
        have hne : 1 ≤ ms.length := by
          by_cases h : ms.length = 0
          · have := (hnil.out (List.length_eq_zero_iff.1 h)).2; omega
          · omega
        have hm8 : ms.length ≤ 8 := by omega
        go_wp2_with fail
        refine (pick_any _ _ _ _ _ _ _ HST.out.cur (by omega) (by omega) (by omega)).mono ?_
        rintro e w4 ⟨v4, rfl, u1, u2, mv4, hc4⟩
        have st4 : SpSt w w4 g (n + 40) q a cap zs b d := (HST.out.step mv4 hc4).more (by omega)
        have om4 := HO.out.mv mv4 (by have := HST.out.gl; omega)
        clear HST HO mv4 hc4
        by_cases e4 : v4 = 0
        · subst e4
          rcases om4.form with ⟨_, hnl⟩ | ⟨g5, cp5, rfl, hcp5, os5⟩
          · rw [hnl] at hne; simp at hne
          have hcell := (os5.at 0 (by omega)).1
          have HO4 : Hid (OwnM (q + 1) w4 (.slice (some ⟨g5, 0, none⟩) ms.length cp5) ms) := om4
          have HS4 : Hid (SpSt w w4 g (n + 40) q a cap zs b d) := st4
          clear om4 st4 os5
          generalize ms.getD 0 0 = z at hcell
          go_wp2_with (at_builtin; refine wpList_append_own _ rfl (.tmp 36) (.tmp 40) 29 rfl (q + 1) 3 i0 (.int .i64 0) 1 8 Try.underlying29 hi hz0 hz1 hz2 rfl (by decide) _ _ _ rfl (HO4.out.alloc _) ⟨w4.heap.size, 0, none⟩ 1 1 [.int .i64 z] rfl rfl (cell_one_new _ _ _) (by simp [Value.oneCell']) (by unfold maxLen; omega) (by omega) (by have := HS4.out.hi; simp; omega) ?_; intro v5 w5 hown5 hgrow5 _; have OM : Hid (OwnM (q + 1) w5 v5 (ms ++ [z])) := OwnM.snoc hown5; have ST : Hid (SpSt w w5 g (n + 40) q a cap zs b d) := (HS4.out.new _).grown hgrow5 (fun k hk => (HO4.out.lt k hk).1); clear hown5 hgrow5; have k0 := ST.out.q0; have k1 := ST.out.q1; obtain ⟨r0, r1, r2, r3⟩ := ST.out.res)
          obtain ⟨f1, f2, f3, f4⟩ := ST.out.fin (.int .i64 b) (.int .i64 d)
          have e0 := (cell_of_row _ _ 0 _ _ _ f1).trans rfl
          have e1 := (cell_of_row _ _ 1 _ _ _ f1).trans rfl
          exact bodyPost_ret (by simp [results, Try.results57, go_sem, e0, e1] <;> rfl) rfl ⟨b, d, _, rfl, (OM.out.block (fun k hk hb => f4 k hk (by omega))).someR (by simp; omega) (by omega), f2, f3.more (by omega)⟩
        · have n0 : (v4 == 0) = false := by simpa using e4
          clear e4
          by_cases e4 : v4 = 1
          · subst e4
            have OM : Hid (OwnM (q + 1) w4 (.slice none 0 0) []) := World.ownsRow_nil _ _ _ _
            have ST : Hid (SpSt w w4 g (n + 40) q a cap zs b d) := st4
            clear om4 st4
            have k0 := ST.out.q0
            have k1 := ST.out.q1
            obtain ⟨r0, r1, r2, r3⟩ := ST.out.res
            go_wp2
            obtain ⟨f1, f2, f3, f4⟩ := ST.out.fin (.int .i64 b) (.int .i64 d)
            have e0 := (cell_of_row _ _ 0 _ _ _ f1).trans rfl
            have e1 := (cell_of_row _ _ 1 _ _ _ f1).trans rfl
            exact bodyPost_ret (by simp [results, Try.results57, go_sem, e0, e1] <;> rfl) rfl ⟨b, d, _, rfl, (OM.out.block (fun k hk hb => f4 k hk (by omega))).someR (by simp) (by omega), f2, f3.more (by omega)⟩
          · have n1 : (v4 == 1) = false := by simpa using e4
            clear e4
            by_cases e4 : v4 = 2
            · subst e4
              rcases om4.form with ⟨_, hnl⟩ | ⟨g5, cp5, rfl, hcp5, os5⟩
              · rw [hnl] at hne; simp at hne
              have HO4 : Hid (OwnM (q + 1) w4 (.slice (some ⟨g5, 0, none⟩) ms.length cp5) ms) := om4
              have HS4 : Hid (SpSt w w4 g (n + 40) q a cap zs b d) := st4
              clear om4 st4 os5
              have k0 := HS4.out.q0
              have k1 := HS4.out.q1
              go_wp2_with fail
              refine (lsize_any _ _ _ hb1 hb2).mono ?_
              rintro e w5 ⟨rfl, hw5⟩
              have HO5 : Hid (OwnM (q + 1) w5 (.slice (some ⟨g5, 0, none⟩) ms.length cp5) ms) := HO4.out.keep hw5
              have HS5 : Hid (SpSt w w5 g (n + 40) q a cap zs b d) := HS4.out.keepB hw5
              clear k0 k1
              obtain ⟨os6, _, _⟩ := OwnS.of_owns HO5.out
              obtain ⟨y0, y1⟩ := os6.at (ms.length - 1) (by omega)
              generalize ms.getD (ms.length - 1) 0 = z at y0
              clear os6
              have OM : Hid (OwnM (q + 1) (w5.setCell ⟨g5, ms.length - 1, none⟩ (.int .i64 (sz b))) (.slice (some ⟨g5, 0, none⟩) ms.length cp5) (ms.set (ms.length - 1) (sz b))) := HO5.out.stored _ _
              have ST : Hid (SpSt w (w5.setCell ⟨g5, ms.length - 1, none⟩ (.int .i64 (sz b))) g (n + 40) q a cap zs b d) := HS5.out.grown (World.ownsRow.stored HO5.out _ _).2 (fun k hk => (HO5.out.lt k hk).1)
              have k0 := ST.out.q0
              have k1 := ST.out.q1
              obtain ⟨r0, r1, r2, r3⟩ := ST.out.res
              go_wp2
              obtain ⟨f1, f2, f3, f4⟩ := ST.out.fin (.int .i64 b) (.int .i64 d)
              have e0 := (cell_of_row _ _ 0 _ _ _ f1).trans rfl
              have e1 := (cell_of_row _ _ 1 _ _ _ f1).trans rfl
              exact bodyPost_ret (by simp [results, Try.results57, go_sem, e0, e1] <;> rfl) rfl ⟨b, d, _, rfl, (OM.out.block (fun k hk hb => f4 k hk (by omega))).someR (by simp; omega) (by omega), f2, f3.more (by omega)⟩
            · have n2 : (v4 == 2) = false := by simpa using e4
              clear e4
              have OM : Hid (OwnM (q + 1) w4 v0 ms) := om4
              have ST : Hid (SpSt w w4 g (n + 40) q a cap zs b d) := st4
              clear om4 st4
              have k0 := ST.out.q0
              have k1 := ST.out.q1
              obtain ⟨r0, r1, r2, r3⟩ := ST.out.res
              go_wp2
              obtain ⟨f1, f2, f3, f4⟩ := ST.out.fin (.int .i64 b) (.int .i64 d)
              have e0 := (cell_of_row _ _ 0 _ _ _ f1).trans rfl
              have e1 := (cell_of_row _ _ 1 _ _ _ f1).trans rfl
              exact bodyPost_ret (by simp [results, Try.results57, go_sem, e0, e1] <;> rfl) rfl ⟨b, d, _, rfl, (OM.out.block (fun k hk hb => f4 k hk (by omega))).someR (by omega) (by omega), f2, f3.more (by omega)⟩
end Go.Proofs.Ytgmdbihdnacpjaa
namespace Go.Proofs.Ytgmdbihdnacpjaa
open Go.RowKit
set_option linter.unusedVariables false

theorem SpSt.cells_end {w wr : World} {g n q : Nat} {a : Option Addr} {cap : Nat} {zs : List Int} {b d : Int} (h : SpSt w wr g n q a cap zs b d) (u v : Value) : ((wr.setCell ⟨w.heap.size, 0, none⟩ u).setCell ⟨w.heap.size, 1, none⟩ v).cell? ⟨q, 0, none⟩ = some (.int .i64 b) ∧ ((wr.setCell ⟨w.heap.size, 0, none⟩ u).setCell ⟨w.heap.size, 1, none⟩ v).cell? ⟨q, 1, none⟩ = some (.int .i64 d) := by
  have e := (h.fin u v).2.2.2 q h.hi (by have := h.lo; omega)
  exact ⟨(World.cell?_of_block (w := wr) (a := ⟨q, 0, none⟩) e).trans h.q0, (World.cell?_of_block (w := wr) (a := ⟨q, 1, none⟩) e).trans h.q1⟩

theorem row_mv {g bk off : Nat} {ms : List Int} {w w1 : World} (h : ∀ i, i < ms.length → w.cell? ⟨bk, off + i, none⟩ = some (.int .i64 (ms.getD i 0))) (hm : Mv g w w1) (hl : bk < w.heap.size) (hg : ¬ bk = g) : ∀ i, i < ms.length → w1.cell? ⟨bk, off + i, none⟩ = some (.int .i64 (ms.getD i 0)) :=
  fun i hi => keepM hm hl hg (h i hi)
theorem row_end {r bk off : Nat} {ms : List Int} {w : World} (h : ∀ i, i < ms.length → w.cell? ⟨bk, off + i, none⟩ = some (.int .i64 (ms.getD i 0))) (hg : ¬ bk = r) (u v : Value) : ∀ i, i < ms.length → ((w.setCell ⟨r, 0, none⟩ u).setCell ⟨r, 1, none⟩ v).cell? ⟨bk, off + i, none⟩ = some (.int .i64 (ms.getD i 0)) := by
  intro i hi
  have e : ((w.setCell ⟨r, 0, none⟩ u).setCell ⟨r, 1, none⟩ v).heap[bk]? = w.heap[bk]? := by
    rw [heap_setCell_other _ _ _ _ (by simpa using hg), heap_setCell_other _ _ _ _ (by simpa using hg)]
  exact (World.cell?_of_block (w := w) (a := ⟨bk, off + i, none⟩) e).trans (h i hi)

end Go.Proofs.Ytgmdbihdnacpjaa
namespace Go.Proofs.Ytgmdbihdnacpjaa
open Go.RowKit Go.Deep
set_option linter.unusedVariables false
set_option maxHeartbeats 1600000 in
theorem lIdealPeers_list (b d : Int) (n : Int) (a : Option Addr) (cap : Nat) (zs : List Int) (w : World) (hm : zs.length ≤ maxLen) (hr : RowAt w a zs) :
    Calls Try.prog 25 #[.agg #[.int .i64 b, .int .i64 d], .slice a zs.length cap, .int .i64 n] w fun e w' => ∃ v, e = .returned v ∧ Below w.heap.size w w' ∧
      ((idlOk b d zs n = false ∧ v = .tuple #[.agg #[.int .i64 0, .int .i64 0, .slice none 0 0], .bool false]) ∨ (idlOk b d zs n = true ∧ ∃ vl L, v = .tuple #[.agg #[.int .i64 b, .int .i64 d, vl], .bool true] ∧ L.map (·.1) = idealL b d zs n.toNat ∧ ListP w.heap.size w' vl L)) := by
  have rb := rb0 w #[.int .i64 b, .int .i64 d] 25
  have CR := lring_any b d a cap zs _ hm (hr.keep rb.bel)
  have HR : Hid (RowAt w a zs) := hr
  have RB0 : Hid _ := rb
  cases hok : idlOk b d zs n
  · refine (lIdealPeers_any b d n a cap zs w hm hr).mono ?_
    rintro e w1 ⟨v, rfl, hw, ⟨_, rfl⟩ | ⟨h, _⟩⟩
    · exact ⟨_, rfl, hw, .inl ⟨rfl, rfl⟩⟩
    · rw [hok] at h; cases h
  · unfold idlOk at hok
    rw [Bool.and_eq_true] at hok
    obtain ⟨hg, hn⟩ := hok
    rw [hg] at CR
    have CN : ∀ w1, Calls Try.prog 78 #[.int .i64 n, .int .i64 0, .int .i64 3] w1 fun e w' => e = .returned (.bool true) ∧ w' = w1 := fun w1 => by have := lin_any n 0 3 w1; rwa [hn] at this
    obtain ⟨n1, n2⟩ := inB_true hn
    obtain ⟨m, rfl⟩ : ∃ m : Nat, n = (m : Int) := ⟨n.toNat, by omega⟩
    have R := ringB_true hg
    have RR : Hid (Ring b d zs) := R
    clear hg hn n1 R hr rb
    go_enter Try.func25, Try.ntmps25
    go_wp2_with fail
    refine CR.mono ?_
    rintro e w1 ⟨rfl, hw1⟩
    have RB1 : Hid (RB w w1 #[.int .i64 b, .int .i64 d] 25) := RB0.out.keep hw1
    obtain ⟨s0, s1⟩ := RB1.out.arg2
    clear CR hw1
    go_wp2_with fail
    refine (CN _).mono ?_
    rintro e w2 ⟨rfl, he2⟩
    subst he2
    go_wp2_with fail
    refine (lideal_any b d m a cap zs _ RR.out (HR.out.keep RB1.out.bel) (by omega)).mono ?_
    rintro e w3 ⟨vl, L, rfl, hL, lp, hw3⟩
    have RB3 : Hid (RB w w3 #[.int .i64 b, .int .i64 d] 25) := RB1.out.keep hw3
    obtain ⟨r0, r1, r2, q0, q1, q2⟩ := RB3.out.cells
    obtain ⟨al, cl, rfl, hcl⟩ := lp.form
    have lp2 := lp.blocks (w1 := set3 w3 (w.heap.size + 1) (.int .i64 b) (.int .i64 d) (.slice al L.length cl)) (by rw [set3_size]; exact Nat.le_refl _) (fun k hk _ => set3_block (by have := RB1.out.lt; omega))
    have LP2 : Hid (ListP w.heap.size (set3 w3 (w.heap.size + 1) (.int .i64 b) (.int .i64 d) (.slice al L.length cl)) (.slice al L.length cl) L) := lp2.lower (by have := RB1.out.lt; omega)
    clear lp2 lp hw3 hcl
    go_wp2
    exact bodyPost_ret (results_cell_tmp Try.results25 _ _ (w.heap.size + 1) _ _ _ _ _ rfl rfl (set3_row RB3.out.r) Try.underlying28 rfl (by kernel_rfl)) rfl ⟨_, rfl, set3_below RB3.out.bel (by omega), .inr ⟨trivial, _, L, rfl, hL, LP2.out⟩⟩

theorem CurAt.blocks {w wr w1 : World} {g n : Nat} {a : Option Addr} {cap : Nat} {zs : List Int} (h : CurAt wr g n a cap zs) (h0 : RowU w g a zs) (mv : Mv g w w1) (hg : w1.heap[g]? = wr.heap[g]?) : CurAt w1 g n a cap zs := by
  obtain ⟨k, sd, hB, hk, hw⟩ := h.st
  exact ⟨⟨k, sd, hg.trans hB, hk, hw⟩, h0.keep mv, h.len⟩
/-- each peer has three backs at most -/
def Few (L : List (Pr × Value)) : Prop := ∀ i, i < L.length → (L.getD i d0).1.backs.length ≤ 3
theorem Few.set {L : List (Pr × Value)} {k : Nat} {e : Pr × Value} (h : Few L) (he : e.1.backs.length ≤ 3) : Few (L.set k e) := fun i hi => by
  rw [List.length_set] at hi
  rw [getD_set hi]
  split
  · exact he
  · exact h i hi
/-- the cursor, the answer's box, the space's box, the ring, the box of peers at X with their list at G -/
structure PSt (w wr : World) (g N : Nat) (a : Option Addr) (cap : Nat) (zs : List Int) (b d : Int) (Q X G c B0 bm om : Nat) (ms : List Int) (L : List (Pr × Value)) : Prop where
  mv : Mv g w wr
  cur : CurAt wr g N a cap zs
  r : wr.heap[w.heap.size]? = some (.cells #[.int .i64 0, .int .i64 0, .slice none 0 0] 28 (0, 0))
  s : wr.heap[Q]? = some (.cells #[.int .i64 b, .int .i64 d] 25 (0, 0))
  m : ∀ i, i < ms.length → wr.cell? ⟨bm, om + i, none⟩ = some (.int .i64 (ms.getD i 0))
  x : wr.heap[X]? = some (.cells #[.int .i64 b, .int .i64 d, .slice (some ⟨G, 0, none⟩) L.length c] 28 (0, 0))
  ow : OwnP B0 wr.heap.size wr G L
  few : Few L
  qlo : w.heap.size < Q
  qhi : Q < B0
  mlo : w.heap.size < bm
  mhi : bm < B0
  xlo : B0 ≤ X
  gl : g < w.heap.size
  row : RowU w g a zs
section
variable {w wr : World} {g N : Nat} {a : Option Addr} {cap : Nat} {zs : List Int} {b d : Int} {Q X G c B0 bm om : Nat} {ms : List Int} {L : List (Pr × Value)}
theorem PSt.hiX (h : PSt w wr g N a cap zs b d Q X G c B0 bm om ms L) : X < wr.heap.size := (Array.getElem?_eq_some_iff.1 h.x).1
theorem PSt.ne (h : PSt w wr g N a cap zs b d Q X G c B0 bm om ms L) : ¬ X = G := fun he => by
  obtain ⟨cur, hc⟩ := h.ow.blk
  have hp := h.x
  rw [he, hc] at hp
  simp at hp
/-- whatever changes beyond B0 but the box of peers -/
theorem PSt.chg {w1 : World} {N' : Nat} {L' : List (Pr × Value)} (h : PSt w wr g N a cap zs b d Q X G c B0 bm om ms L) (mv1 : Mv g w w1) (hc : CurAt w1 g N' a cap zs) (hs : wr.heap.size ≤ w1.heap.size) (hk : ∀ k, k < B0 → ¬ k = g → w1.heap[k]? = wr.heap[k]?) (hx : w1.heap[X]? = wr.heap[X]?)
    (ow : OwnP B0 w1.heap.size w1 G L') (hf : Few L') (hl : L'.length = L.length) : PSt w w1 g N' a cap zs b d Q X G c B0 bm om ms L' := by
  have := h.qlo
  have := h.gl
  have := h.mlo
  have := h.qhi
  have := h.mhi
  refine ⟨mv1, hc, (hk _ (by omega) (by omega)).trans h.r, (hk _ h.qhi (by omega)).trans h.s, fun i hi => ?_, by rw [hl]; exact hx.trans h.x, ow, hf, h.qlo, h.qhi, h.mlo, h.mhi, h.xlo, h.gl, h.row⟩
  exact (World.cell?_of_block (a := ⟨bm, om + i, none⟩) (hk bm h.mhi (by omega))).trans (h.m i hi)
/-- the cursor moves -/
theorem PSt.step {w1 : World} {N' : Nat} (h : PSt w wr g N a cap zs b d Q X G c B0 bm om ms L) (mv1 : Mv g wr w1) (hc : CurAt w1 g N' a cap zs) : PSt w w1 g N' a cap zs b d Q X G c B0 bm om ms L := by
  have := h.qlo
  have := h.gl
  have := h.xlo
  have := h.qhi
  have := h.hiX
  exact h.chg (h.mv.trans mv1) hc mv1.size (fun k hk hg => mv1.block k (by omega) hg) (mv1.block X h.hiX (by omega)) ((h.ow.blocks (fun k h1 _ h3 => mv1.block k h3 (by omega))).wide mv1.size) h.few rfl
theorem PSt.keep {w1 : World} (h : PSt w wr g N a cap zs b d Q X G c B0 bm om ms L) (hb : Below wr.heap.size wr w1) : PSt w w1 g N a cap zs b d Q X G c B0 bm om ms L := h.step (Mv.of_below hb) (h.cur.keep hb)
theorem PSt.more {M : Nat} (h : PSt w wr g N a cap zs b d Q X G c B0 bm om ms L) (hM : N ≤ M) : PSt w wr g M a cap zs b d Q X G c B0 bm om ms L :=
  h.chg h.mv (h.cur.more hM) (Nat.le_refl _) (fun _ _ _ => rfl) rfl h.ow h.few rfl
/-- a cell of the list, or of a list of backs, is written -/
theorem PSt.put {q j : Nat} {v : Value} {L' : List (Pr × Value)} (h : PSt w wr g N a cap zs b d Q X G c B0 bm om ms L) (hq : B0 ≤ q) (hn : ¬ X = q) (ho : OwnP B0 wr.heap.size (wr.setCell ⟨q, j, none⟩ v) G L') (hf : Few L') (hl : L'.length = L.length) : PSt w (wr.setCell ⟨q, j, none⟩ v) g N a cap zs b d Q X G c B0 bm om ms L' := by
  have := h.qlo
  have := h.gl
  have := h.qhi
  have mv1 : Mv g w (wr.setCell ⟨q, j, none⟩ v) := h.mv.put (by omega) j v
  refine h.chg mv1 (h.cur.blocks h.row mv1 (heap_setCell_other _ _ _ _ (by simp; omega))) (by simp [World.setCell]) (fun k hk _ => heap_setCell_other _ _ _ _ (by simp; omega)) (heap_setCell_other _ _ _ _ (by simpa using hn)) ?_ hf hl
  rw [heap_size_setCell]
  exact ho
theorem PSt.num (h : PSt w wr g N a cap zs b d Q X G c B0 bm om ms L) {i : Nat} (hi : i < L.length) (f : Nat) (hf : f < 3) (z : Int) :
    PSt w (wr.setCell ⟨G, i * 4 + f, none⟩ (.int .i64 z)) g N a cap zs b d Q X G c B0 bm om ms (L.set i (setF f (L.getD i d0).1 z, (L.getD i d0).2)) :=
  h.put h.ow.lo h.ne (h.ow.num hi f hf z) (h.few.set (by rw [setF_backs]; exact h.few i hi)) (by simp)
theorem PSt.backs {w1 : World} (h : PSt w wr g N a cap zs b d Q X G c B0 bm om ms L) (hb : Below wr.heap.size wr w1) {i : Nat} (hi : i < L.length) {bs : List Int} {gb cb : Nat} (hm : bs.length ≤ 3) (hcb : bs.length ≤ cb) (os : OwnS wr.heap.size w1 gb bs) :
    PSt w (w1.setCell ⟨G, i * 4 + 3, none⟩ (.slice (some ⟨gb, 0, none⟩) bs.length cb)) g N a cap zs b d Q X G c B0 bm om ms (L.set i (⟨(L.getD i d0).1.id, (L.getD i d0).1.succ, (L.getD i d0).1.point, bs⟩, .slice (some ⟨gb, 0, none⟩) bs.length cb)) :=
  (h.keep hb).put h.ow.lo h.ne (h.ow.backs rfl hb hi (by omega) hcb os) (h.few.set hm) (by simp)
/-- one of the backs is written where it lies -/
theorem PSt.back (h : PSt w wr g N a cap zs b d Q X G c B0 bm om ms L) {i j gb : Nat} (hi : i < L.length) (hj : j < (L.getD i d0).1.backs.length) (hv : (L.getD i d0).2.ownBlock = some gb) (z : Int) :
    ∃ L', PSt w (wr.setCell ⟨gb, j, none⟩ (.int .i64 z)) g N a cap zs b d Q X G c B0 bm om ms L' ∧ L'.length = L.length ∧ (∀ k, (L'.getD k d0).2 = (L.getD k d0).2 ∧ (L'.getD k d0).1.backs.length = (L.getD k d0).1.backs.length) := by
  have hn : ¬ (L.getD i d0).1.backs = [] := fun e => by rw [e] at hj; simp at hj
  obtain ⟨ab, cb, hvi, hcb, hm, ho⟩ := h.ow.val i hi
  rcases ho with ho | ⟨gi, ha, ht, os⟩
  · exact absurd ho hn
  · have e : gi = gb := by rw [hvi, ha] at hv; simpa [Value.ownBlock] using hv
    subst e
    have hlo := os.lo
    have on : Only gi wr (wr.setCell ⟨gi, j, none⟩ (.int .i64 z)) := (Only.refl gi wr).put j _
    have o2 := h.ow.tail hi (l := (L.getD i d0).1.backs.set j z) (by simp) hn hv (os.put j hj z) on
    have hne : ¬ X = gi := fun he => by
      obtain ⟨cj, hcj, _⟩ := os.row
      have hx := h.x
      rw [he, hcj] at hx
      simp at hx
    refine ⟨_, h.put hlo hne o2 (h.few.set (by simpa using h.few i hi)) (by simp), by simp, fun k => ?_⟩
    by_cases hk : k < L.length
    · rw [getD_set hk]
      by_cases hik : i = k
      · subst hik; rw [if_pos rfl]; simp
      · rw [if_neg hik]; simp
    · have h1 : (L.set i (⟨(L.getD i d0).1.id, (L.getD i d0).1.succ, (L.getD i d0).1.point, (L.getD i d0).1.backs.set j z⟩, (L.getD i d0).2)).getD k d0 = d0 := by
        rw [List.getD_eq_getElem?_getD, List.getElem?_eq_none (by simp; omega)]; rfl
      have h2 : L.getD k d0 = d0 := by rw [List.getD_eq_getElem?_getD, List.getElem?_eq_none (by omega)]; rfl
      rw [h1, h2]; exact ⟨rfl, rfl⟩
theorem PSt.xc (h : PSt w wr g N a cap zs b d Q X G c B0 bm om ms L) : wr.cell? ⟨X, 0, none⟩ = some (.int .i64 b) ∧ wr.cell? ⟨X, 1, none⟩ = some (.int .i64 d) ∧ wr.cell? ⟨X, 2, none⟩ = some (.slice (some ⟨G, 0, none⟩) L.length c) :=
  ⟨(cell_of_row wr _ _ _ _ _ h.x).trans rfl, (cell_of_row wr _ _ _ _ _ h.x).trans rfl, (cell_of_row wr _ _ _ _ _ h.x).trans rfl⟩
theorem PSt.qc (h : PSt w wr g N a cap zs b d Q X G c B0 bm om ms L) : wr.cell? ⟨Q, 0, none⟩ = some (.int .i64 b) ∧ wr.cell? ⟨Q, 1, none⟩ = some (.int .i64 d) :=
  ⟨(cell_of_row wr _ _ _ _ _ h.s).trans rfl, (cell_of_row wr _ _ _ _ _ h.s).trans rfl⟩
theorem PSt.fz (h : PSt w wr g N a cap zs b d Q X G c B0 bm om ms L) (j : Nat) : wr.frozen? ⟨G, j, none⟩ = false := by
  obtain ⟨cur, hc⟩ := h.ow.blk
  exact frozen_of_row wr _ _ _ _ hc
theorem PSt.rc (h : PSt w wr g N a cap zs b d Q X G c B0 bm om ms L) : wr.cell? ⟨w.heap.size, 0, none⟩ = some (.int .i64 0) ∧ wr.cell? ⟨w.heap.size, 1, none⟩ = some (.int .i64 0) ∧ wr.cell? ⟨w.heap.size, 2, none⟩ = some (.slice none 0 0) ∧
    wr.frozen? ⟨w.heap.size, 0, none⟩ = false ∧ wr.frozen? ⟨w.heap.size, 1, none⟩ = false ∧ wr.frozen? ⟨w.heap.size, 2, none⟩ = false :=
  ⟨(cell_of_row wr _ _ _ _ _ h.r).trans rfl, (cell_of_row wr _ _ _ _ _ h.r).trans rfl, (cell_of_row wr _ _ _ _ _ h.r).trans rfl, frozen_of_row wr _ _ _ _ h.r, frozen_of_row wr _ _ _ _ h.r, frozen_of_row wr _ _ _ _ h.r⟩
/-- what is read at peer i, its backs too -/
theorem PSt.bk (h : PSt w wr g N a cap zs b d Q X G c B0 bm om ms L) {i : Nat} (hi : i < L.length) : ∃ ab cb, (L.getD i d0).2 = .slice ab (L.getD i d0).1.backs.length cb ∧ wr.cell? ⟨G, i * 4 + 3, none⟩ = some (.slice ab (L.getD i d0).1.backs.length cb) ∧ (∀ j, j < (L.getD i d0).1.backs.length → ∃ gb z, ab = some ⟨gb, 0, none⟩ ∧ B0 ≤ gb ∧ wr.cell? ⟨gb, j, none⟩ = some (.int .i64 z) ∧ wr.frozen? ⟨gb, j, none⟩ = false) := by
  obtain ⟨ab, cb, hv, _, _, ho⟩ := h.ow.val i hi
  refine ⟨ab, cb, hv, by rw [← hv]; exact (h.ow.cel i hi).c3, fun j hj => ?_⟩
  rcases ho with ho | ⟨gb, ha, _, os⟩
  · rw [ho] at hj; simp at hj
  · obtain ⟨k0, k1⟩ := os.at j hj
    exact ⟨gb, _, ha, os.lo, k0, k1⟩
end
end Go.Proofs.Ytgmdbihdnacpjaa
namespace Go.Proofs.Ytgmdbihdnacpjaa
open Go.RowKit Go.Deep
set_option linter.unusedVariables false
/-- the cursor, the answer's box, the space's box and the ring -/
structure PS0 (w wr : World) (g N : Nat) (a : Option Addr) (cap : Nat) (zs : List Int) (b d : Int) (Q : Nat) (am : Option Addr) (ms : List Int) : Prop where
  mv : Mv g w wr
  cur : CurAt wr g N a cap zs
  r : wr.heap[w.heap.size]? = some (.cells #[.int .i64 0, .int .i64 0, .slice none 0 0] 28 (0, 0))
  s : wr.heap[Q]? = some (.cells #[.int .i64 b, .int .i64 d] 25 (0, 0))
  qlo : w.heap.size < Q
  m : ms = [] ∨ ∃ bm om, am = some ⟨bm, om, none⟩ ∧ w.heap.size < bm ∧ bm < Q ∧ ∀ i, i < ms.length → wr.cell? ⟨bm, om + i, none⟩ = some (.int .i64 (ms.getD i 0))
  gl : g < w.heap.size
  row : RowU w g a zs
section
variable {w wr : World} {g N : Nat} {a : Option Addr} {cap : Nat} {zs : List Int} {b d : Int} {Q : Nat} {am : Option Addr} {ms : List Int}
theorem PS0.hiQ (h : PS0 w wr g N a cap zs b d Q am ms) : Q < wr.heap.size := (Array.getElem?_eq_some_iff.1 h.s).1
theorem PS0.chg {w1 : World} {M : Nat} (h : PS0 w wr g N a cap zs b d Q am ms) (mv1 : Mv g w w1) (hc : CurAt w1 g M a cap zs) (hk : ∀ k, k ≤ Q → ¬ k = g → w1.heap[k]? = wr.heap[k]?) : PS0 w w1 g M a cap zs b d Q am ms := by
  have := h.qlo
  have := h.gl
  refine ⟨mv1, hc, (hk _ (by omega) (by omega)).trans h.r, (hk _ (Nat.le_refl _) (by omega)).trans h.s, h.qlo, ?_, h.gl, h.row⟩
  rcases h.m with hm | ⟨bm, om, ha, h1, h2, h3⟩
  · exact .inl hm
  · exact .inr ⟨bm, om, ha, h1, h2, fun i hi => (World.cell?_of_block (a := ⟨bm, om + i, none⟩) (hk bm (by omega) (by omega))).trans (h3 i hi)⟩
theorem PS0.step {w1 : World} {M : Nat} (h : PS0 w wr g N a cap zs b d Q am ms) (mv1 : Mv g wr w1) (hc : CurAt w1 g M a cap zs) : PS0 w w1 g M a cap zs b d Q am ms :=
  h.chg (h.mv.trans mv1) hc (fun k hk hg => mv1.block k (by have := h.hiQ; omega) hg)
theorem PS0.keep {w1 : World} (h : PS0 w wr g N a cap zs b d Q am ms) (hb : Below wr.heap.size wr w1) : PS0 w w1 g N a cap zs b d Q am ms := h.step (Mv.of_below hb) (h.cur.keep hb)
theorem PS0.qc (h : PS0 w wr g N a cap zs b d Q am ms) : wr.cell? ⟨Q, 0, none⟩ = some (.int .i64 b) ∧ wr.cell? ⟨Q, 1, none⟩ = some (.int .i64 d) :=
  ⟨(cell_of_row wr _ _ _ _ _ h.s).trans rfl, (cell_of_row wr _ _ _ _ _ h.s).trans rfl⟩
theorem PS0.rc (h : PS0 w wr g N a cap zs b d Q am ms) : wr.cell? ⟨w.heap.size, 0, none⟩ = some (.int .i64 0) ∧ wr.cell? ⟨w.heap.size, 1, none⟩ = some (.int .i64 0) ∧ wr.cell? ⟨w.heap.size, 2, none⟩ = some (.slice none 0 0) ∧
    wr.frozen? ⟨w.heap.size, 0, none⟩ = false ∧ wr.frozen? ⟨w.heap.size, 1, none⟩ = false ∧ wr.frozen? ⟨w.heap.size, 2, none⟩ = false :=
  ⟨(cell_of_row wr _ _ _ _ _ h.r).trans rfl, (cell_of_row wr _ _ _ _ _ h.r).trans rfl, (cell_of_row wr _ _ _ _ _ h.r).trans rfl, frozen_of_row wr _ _ _ _ h.r, frozen_of_row wr _ _ _ _ h.r, frozen_of_row wr _ _ _ _ h.r⟩
theorem PS0.rowAt (h : PS0 w wr g N a cap zs b d Q am ms) : RowAt wr am ms := by
  rcases h.m with hm | ⟨bm, om, ha, h1, h2, h3⟩
  · exact .inl hm
  · exact .inr ⟨bm, om, ha, by have := h.hiQ; omega, h3⟩
/-- beside them a box of peers at X -/
structure PX (w wr : World) (g N : Nat) (a : Option Addr) (cap : Nat) (zs : List Int) (b d : Int) (Q : Nat) (am : Option Addr) (ms : List Int) (X : Nat) : Prop where
  st : PS0 w wr g N a cap zs b d Q am ms
  lo : Q < X
  x : wr.heap[X]? = some (.cells #[.int .i64 0, .int .i64 0, .slice none 0 0] 28 (0, 0))
theorem PX.hi {X : Nat} (h : PX w wr g N a cap zs b d Q am ms X) : X < wr.heap.size := (Array.getElem?_eq_some_iff.1 h.x).1
theorem PX.step {w1 : World} {M X : Nat} (h : PX w wr g N a cap zs b d Q am ms X) (mv1 : Mv g wr w1) (hc : CurAt w1 g M a cap zs) : PX w w1 g M a cap zs b d Q am ms X :=
  ⟨h.st.step mv1 hc, h.lo, (mv1.block X h.hi (by have := h.lo; have := h.st.qlo; have := h.st.gl; omega)).trans h.x⟩
theorem PX.keep {w1 : World} {X : Nat} (h : PX w wr g N a cap zs b d Q am ms X) (hb : Below wr.heap.size wr w1) : PX w w1 g N a cap zs b d Q am ms X := h.step (Mv.of_below hb) (h.st.cur.keep hb)
theorem px_new (h : PS0 w wr g N a cap zs b d Q am ms) : PX w (wr.alloc (.cells #[.int .i64 0, .int .i64 0, .slice none 0 0] 28)) g N a cap zs b d Q am ms wr.heap.size :=
  ⟨h.keep (belA _ _), h.hiQ, heap_alloc_new _ _⟩
theorem PX.cells {X : Nat} (h : PX w wr g N a cap zs b d Q am ms X) : wr.cell? ⟨X, 0, none⟩ = some (.int .i64 0) ∧ wr.cell? ⟨X, 1, none⟩ = some (.int .i64 0) ∧ wr.cell? ⟨X, 2, none⟩ = some (.slice none 0 0) ∧
    wr.frozen? ⟨X, 0, none⟩ = false ∧ wr.frozen? ⟨X, 1, none⟩ = false ∧ wr.frozen? ⟨X, 2, none⟩ = false :=
  ⟨(cell_of_row wr _ _ _ _ _ h.x).trans rfl, (cell_of_row wr _ _ _ _ _ h.x).trans rfl, (cell_of_row wr _ _ _ _ _ h.x).trans rfl, frozen_of_row wr _ _ _ _ h.x, frozen_of_row wr _ _ _ _ h.x, frozen_of_row wr _ _ _ _ h.x⟩
theorem PX.qc3 {X : Nat} (h : PX w wr g N a cap zs b d Q am ms X) (v0 v1 v2 : Value) : (((wr.setCell ⟨X, 0, none⟩ v0).setCell ⟨X, 1, none⟩ v1).setCell ⟨X, 2, none⟩ v2).cell? ⟨Q, 0, none⟩ = some (.int .i64 b) ∧ (((wr.setCell ⟨X, 0, none⟩ v0).setCell ⟨X, 1, none⟩ v1).setCell ⟨X, 2, none⟩ v2).cell? ⟨Q, 1, none⟩ = some (.int .i64 d) := by
  have hn : ¬ Q = X := by have := h.lo; omega
  obtain ⟨k0, k1⟩ := h.st.qc
  exact ⟨(World.cell?_of_block (a := ⟨Q, 0, none⟩) (set3_block (x := v0) (y := v1) (v := v2) hn)).trans k0, (World.cell?_of_block (a := ⟨Q, 1, none⟩) (set3_block (x := v0) (y := v1) (v := v2) hn)).trans k1⟩
/-- what the drawing of peers goes on with: ideal peers, or none -/
def PGo (w wr : World) (g N : Nat) (a : Option Addr) (cap : Nat) (zs : List Int) (b d : Int) (Q : Nat) (am : Option Addr) (ms : List Int) (X : Nat) (ok : Bool) : Prop :=
  PS0 w wr g N a cap zs b d Q am ms ∧ (ok = true → ∃ bm om G c L, am = some ⟨bm, om, none⟩ ∧ 1 ≤ L.length ∧ L.length ≤ 16 ∧ 1 ≤ ms.length ∧ PSt w wr g N a cap zs b d Q X G c (Q + 1) bm om ms L)
theorem PS0.ring (h : PS0 w wr g N a cap zs b d Q am ms) (hm : 1 ≤ ms.length) : ∃ bm om, am = some ⟨bm, om, none⟩ ∧ w.heap.size < bm ∧ bm < Q ∧ ∀ i, i < ms.length → wr.cell? ⟨bm, om + i, none⟩ = some (.int .i64 (ms.getD i 0)) := by
  rcases h.m with h | h
  · rw [h] at hm; simp at hm
  · exact h
theorem few_ideal {n : Int} {L : List (Pr × Value)} (hn : idlOk b d ms n = true) (hL : L.map (·.1) = idealL b d ms n.toNat) : Few L ∧ L.length = ms.length ∧ 1 ≤ ms.length ∧ ms.length ≤ 16 := by
  unfold idlOk at hn
  rw [Bool.and_eq_true] at hn
  have R := ringB_true hn.1
  obtain ⟨n1, n2⟩ := inB_true hn.2
  have hl : L.length = ms.length := by rw [← List.length_map (f := (·.1)), hL, idealL_len]
  refine ⟨fun i hi => ?_, hl, R.l1, R.l2⟩
  have e : (L.getD i d0).1 = (idealL b d ms n.toNat).getD i pr0 := by
    rw [← hL]
    simp [List.getD_eq_getElem?_getD, List.getElem?_eq_getElem hi]
  rw [e]
  unfold idealL
  rw [hl] at hi
  simp only [List.getD_eq_getElem?_getD, List.getElem?_map, List.getElem?_eq_getElem hi, Option.map_some, Option.getD_some]
  show (bckL ms _ n.toNat).length ≤ 3
  rw [bckL_len]
  omega
theorem pgo_none {X : Nat} (h : PS0 w wr g N a cap zs b d Q am ms) : PGo w wr g N a cap zs b d Q am ms X false := ⟨h, fun h => by cases h⟩
theorem pgo_new {n : Int} {B : Nat} {vl : Value} {L : List (Pr × Value)} (h : PS0 w wr g N a cap zs b d Q am ms) (hn : idlOk b d ms n = true) (hL : L.map (·.1) = idealL b d ms n.toNat) (lp : ListP B wr vl L) (hB : Q < B) :
    PGo w (wr.alloc (.cells #[.int .i64 b, .int .i64 d, vl] 28)) g N a cap zs b d Q am ms wr.heap.size true := by
  obtain ⟨hf, hl, m1, m2⟩ := few_ideal hn hL
  obtain ⟨G, c, hv⟩ := Joins.ownsRow_form lp.own (by omega)
  subst hv
  have h1 := h.keep (belA wr (.cells #[.int .i64 b, .int .i64 d, .slice (some ⟨G, 0, none⟩) L.length c] 28))
  refine ⟨h1, fun _ => ?_⟩
  obtain ⟨bm, om, ha, b1, b2, b3⟩ := h1.ring m1
  exact ⟨bm, om, G, c, L, ha, by omega, by omega, m1, h1.mv, h1.cur, h1.r, h1.s, b3, heap_alloc_new _ _, ((lp.ownP.keep (belA _ _)).wide (by simp)).mono hB, hf, h1.qlo, by omega, b1, by omega, h.hiQ, h1.gl, h1.row⟩
theorem pgo_set {n : Int} {B X : Nat} {vl : Value} {L : List (Pr × Value)} (h : PX w wr g N a cap zs b d Q am ms X) (hn : idlOk b d ms n = true) (hL : L.map (·.1) = idealL b d ms n.toNat) (lp : ListP B wr vl L) (hB : X < B) :
    PGo w (set3 wr X (.int .i64 b) (.int .i64 d) vl) g N a cap zs b d Q am ms X true := by
  obtain ⟨hf, hl, m1, m2⟩ := few_ideal hn hL
  obtain ⟨G, c, hv⟩ := Joins.ownsRow_form lp.own (by omega)
  subst hv
  have hlo := h.lo
  have hq := h.st.qlo
  have hg := h.st.gl
  have mv1 : Mv g w (set3 wr X (.int .i64 b) (.int .i64 d) (.slice (some ⟨G, 0, none⟩) L.length c)) := ((h.st.mv.put (q := X) (by omega) 0 _).put (q := X) (by omega) 1 _).put (q := X) (by omega) 2 _
  have h1 := h.st.chg mv1 (h.st.cur.blocks h.st.row mv1 (set3_block (by omega))) (fun k hk _ => set3_block (by omega))
  refine ⟨h1, fun _ => ?_⟩
  obtain ⟨bm, om, ha, b1, b2, b3⟩ := h1.ring m1
  refine ⟨bm, om, G, c, L, ha, by omega, by omega, m1, h1.mv, h1.cur, h1.r, h1.s, b3, set3_row h.x, ?_, hf, h1.qlo, by omega, b1, by omega, hlo, h1.gl, h1.row⟩
  rw [set3_size]
  exact ((lp.ownP).blocks (fun k hk _ _ => set3_block (by omega))).mono (by omega)
theorem pgo_zero_new (h : PS0 w wr g N a cap zs b d Q am ms) (o : Obj) : PGo w (wr.alloc o) g N a cap zs b d Q am ms wr.heap.size false := pgo_none (h.keep (belA _ _))
theorem pgo_zero_set {X : Nat} {v0 v1 v2 : Value} (h : PX w wr g N a cap zs b d Q am ms X) : PGo w (set3 wr X v0 v1 v2) g N a cap zs b d Q am ms X false := by
  have hlo := h.lo
  have hq := h.st.qlo
  have hg := h.st.gl
  have mv1 : Mv g w (set3 wr X v0 v1 v2) := ((h.st.mv.put (q := X) (by omega) 0 _).put (q := X) (by omega) 1 _).put (q := X) (by omega) 2 _
  exact pgo_none (h.st.chg mv1 (h.st.cur.blocks h.st.row mv1 (set3_block (by omega))) (fun k hk _ => set3_block (by omega)))
/-- what the specification's IdealPeers answers, in one form -/
def IdlR (B : Nat) (w' : World) (b d n : Int) (ms : List Int) (b' d' : Int) (al : Option Addr) (nl cl : Nat) (ok : Bool) : Prop :=
  ok = true → b' = b ∧ d' = d ∧ idlOk b d ms n = true ∧ ∃ L, L.map (·.1) = idealL b d ms n.toNat ∧ ListP B w' (.slice al nl cl) L
theorem pgo_new' {n b' d' : Int} {B : Nat} {al : Option Addr} {nl cl : Nat} {ok : Bool} (h : PS0 w wr g N a cap zs b d Q am ms) (hr : IdlR B wr b d n ms b' d' al nl cl ok) (hB : Q < B) :
    PGo w (wr.alloc (.cells #[.int .i64 b', .int .i64 d', .slice al nl cl] 28)) g N a cap zs b d Q am ms wr.heap.size ok := by
  cases ok
  · exact pgo_zero_new h _
  · obtain ⟨rfl, rfl, hn, L, hL, lp⟩ := hr rfl
    exact pgo_new h hn hL lp hB
theorem pgo_set' {n b' d' : Int} {B X : Nat} {al : Option Addr} {nl cl : Nat} {ok : Bool} (h : PX w wr g N a cap zs b d Q am ms X) (hr : IdlR B wr b d n ms b' d' al nl cl ok) (hB : X < B) :
    PGo w (set3 wr X (.int .i64 b') (.int .i64 d') (.slice al nl cl)) g N a cap zs b d Q am ms X ok := by
  cases ok
  · exact pgo_zero_set h
  · obtain ⟨rfl, rfl, hn, L, hL, lp⟩ := hr rfl
    exact pgo_set h hn hL lp hB
theorem lIdealPeers_uni (b d : Int) (n : Int) (a : Option Addr) (cap : Nat) (zs : List Int) (w : World) (hm : zs.length ≤ maxLen) (hr : RowAt w a zs) :
    Calls Try.prog 25 #[.agg #[.int .i64 b, .int .i64 d], .slice a zs.length cap, .int .i64 n] w fun e w' => ∃ b' d' al nl cl ok, e = .returned (.tuple #[.agg #[.int .i64 b', .int .i64 d', .slice al nl cl], .bool ok]) ∧ Below w.heap.size w w' ∧ IdlR w.heap.size w' b d n zs b' d' al nl cl ok := by
  refine (lIdealPeers_list b d n a cap zs w hm hr).mono ?_
  rintro e w1 ⟨v, rfl, hw, ⟨hok, rfl⟩ | ⟨hok, vl, L, rfl, hL, lp⟩⟩
  · exact ⟨0, 0, none, 0, 0, false, rfl, hw, fun h => by cases h⟩
  · obtain ⟨al, cl, rfl, _⟩ := lp.form
    exact ⟨b, d, al, _, cl, true, rfl, hw, fun _ => ⟨rfl, rfl, hok, L, hL, lp⟩⟩
/-- the space's and the ring's cells, kept while a cell of the list or of backs is written -/
theorem PSt.mc {X G c B0 bm om : Nat} {L : List (Pr × Value)} (h : PSt w wr g N a cap zs b d Q X G c B0 bm om ms L) : wr.cell? ⟨X, 2, none⟩ = some (.slice (some ⟨G, 0, none⟩) L.length c) ∧ ∀ i, i < ms.length → wr.cell? ⟨bm, om + i, none⟩ = some (.int .i64 (ms.getD i 0)) := ⟨h.xc.2.2, h.m⟩
theorem PSt.mc1 {X G c B0 bm om : Nat} {L : List (Pr × Value)} (h : PSt w wr g N a cap zs b d Q X G c B0 bm om ms L) {q : Nat} (hq : B0 ≤ q) (hn : ¬ X = q) (j : Nat) (v : Value) : (wr.setCell ⟨q, j, none⟩ v).cell? ⟨X, 2, none⟩ = some (.slice (some ⟨G, 0, none⟩) L.length c) ∧ ∀ i, i < ms.length → (wr.setCell ⟨q, j, none⟩ v).cell? ⟨bm, om + i, none⟩ = some (.int .i64 (ms.getD i 0)) :=
  ⟨(cell_far hn).trans h.xc.2.2, fun i hi => (cell_far (by have := h.mhi; omega)).trans (h.m i hi)⟩
theorem PSt.bk2 {X G c B0 bm om : Nat} {L : List (Pr × Value)} (h : PSt w wr g N a cap zs b d Q X G c B0 bm om ms L) {k j nb cb : Nat} {ab : Option Addr} (hk : k < L.length) (hv : (L.getD k d0).2 = .slice ab nb cb) (hn : (L.getD k d0).1.backs.length = nb) (hj : j < nb) :
    ∃ gb, ab = some ⟨gb, 0, none⟩ ∧ B0 ≤ gb ∧ ¬ X = gb ∧ ¬ G = gb := by
  obtain ⟨ab', cb', hv', _, _, ho⟩ := h.ow.val k hk
  rw [hv] at hv'
  simp at hv'
  obtain ⟨rfl, _, rfl⟩ := hv'
  rcases ho with ho | ⟨gb, ha, _, os⟩
  · rw [ho] at hn; simp at hn; omega
  · obtain ⟨cur, hc⟩ := h.ow.blk
    refine ⟨gb, ha, os.lo, fun he => ?_, fun he => os.ne_peer hc he.symm⟩
    obtain ⟨cj, hcj, _⟩ := os.row
    have hx := h.x
    rw [he, hcj] at hx
    simp at hx
theorem PSt.bk3 {X G c B0 bm om : Nat} {L : List (Pr × Value)} (h : PSt w wr g N a cap zs b d Q X G c B0 bm om ms L) {k j nb cb gb : Nat} (hk : k < L.length) (hv : (L.getD k d0).2 = .slice (some ⟨gb, 0, none⟩) nb cb) (hn : (L.getD k d0).1.backs.length = nb) (hj : j < nb) :
    (∃ z, wr.cell? ⟨gb, j, none⟩ = some (.int .i64 z)) ∧ wr.frozen? ⟨gb, j, none⟩ = false := by
  obtain ⟨ab', cb', hv', _, _, ho⟩ := h.ow.val k hk
  rw [hv] at hv'
  simp at hv'
  obtain ⟨rfl, _, rfl⟩ := hv'
  rcases ho with ho | ⟨gb', ha, _, os⟩
  · rw [ho] at hn; simp at hn; omega
  · simp at ha
    subst ha
    obtain ⟨k0, k1⟩ := os.at j (by omega)
    exact ⟨⟨_, k0⟩, k1⟩
theorem PSt.m3 {X G c B0 bm om : Nat} {L : List (Pr × Value)} (h : PSt w wr g N a cap zs b d Q X G c B0 bm om ms L) {k : Nat} {v : Value} (hk : k < L.length) (hv : (L.getD k d0).2 = v) : wr.cell? ⟨X, 2, none⟩ = some (.slice (some ⟨G, 0, none⟩) L.length c) ∧ wr.cell? ⟨G, k * 4 + 3, none⟩ = some v ∧ ∀ i, i < ms.length → wr.cell? ⟨bm, om + i, none⟩ = some (.int .i64 (ms.getD i 0)) := ⟨h.xc.2.2, by rw [← hv]; exact (h.ow.cel k hk).c3, h.m⟩
theorem PSt.m4 {X G c B0 bm om : Nat} {L : List (Pr × Value)} (h : PSt w wr g N a cap zs b d Q X G c B0 bm om ms L) {k q : Nat} {v : Value} (hk : k < L.length) (hv : (L.getD k d0).2 = v) (hq : B0 ≤ q) (hn : ¬ X = q) (hg : ¬ G = q) (j : Nat) (u : Value) : (wr.setCell ⟨q, j, none⟩ u).cell? ⟨X, 2, none⟩ = some (.slice (some ⟨G, 0, none⟩) L.length c) ∧ (wr.setCell ⟨q, j, none⟩ u).cell? ⟨G, k * 4 + 3, none⟩ = some v ∧ ∀ i, i < ms.length → (wr.setCell ⟨q, j, none⟩ u).cell? ⟨bm, om + i, none⟩ = some (.int .i64 (ms.getD i 0)) :=
  ⟨(cell_far hn).trans (h.m3 hk hv).1, (cell_far hg).trans (h.m3 hk hv).2.1, fun i hi => (cell_far (by have := h.mhi; omega)).trans (h.m i hi)⟩
/-- two boxes that a number of a space is drawn by -/
theorem PSt.n3 {X G c B0 bm om : Nat} {L : List (Pr × Value)} (h : PSt w wr g N a cap zs b d Q X G c B0 bm om ms L) : wr.cell? ⟨X, 2, none⟩ = some (.slice (some ⟨G, 0, none⟩) L.length c) ∧ wr.cell? ⟨Q, 0, none⟩ = some (.int .i64 b) ∧ wr.cell? ⟨Q, 1, none⟩ = some (.int .i64 d) := ⟨h.xc.2.2, h.qc.1, h.qc.2⟩
theorem PSt.n4 {X G c B0 bm om : Nat} {L : List (Pr × Value)} (h : PSt w wr g N a cap zs b d Q X G c B0 bm om ms L) (j : Nat) (u : Value) : (wr.setCell ⟨G, j, none⟩ u).cell? ⟨X, 2, none⟩ = some (.slice (some ⟨G, 0, none⟩) L.length c) ∧ (wr.setCell ⟨G, j, none⟩ u).cell? ⟨Q, 0, none⟩ = some (.int .i64 b) ∧ (wr.setCell ⟨G, j, none⟩ u).cell? ⟨Q, 1, none⟩ = some (.int .i64 d) :=
  have hq : ¬ Q = G := by have := h.qhi; have := h.ow.lo; omega
  ⟨(cell_far h.ne).trans h.xc.2.2, (cell_far hq).trans h.qc.1, (cell_far hq).trans h.qc.2⟩
theorem PSt.fin {X G c B0 bm om M : Nat} {L : List (Pr × Value)} (h : PSt w wr g N a cap zs b d Q X G c B0 bm om ms L) (hl : L.length ≤ 16) (hN : N ≤ M) :
    OwnPs w.heap.size (set3 wr w.heap.size (.int .i64 b) (.int .i64 d) (.slice (some ⟨G, 0, none⟩) L.length c)).heap.size (set3 wr w.heap.size (.int .i64 b) (.int .i64 d) (.slice (some ⟨G, 0, none⟩) L.length c)) (some ⟨G, 0, none⟩) (L.map (·.1)).length (L.map (·.1)) ∧ (L.map (·.1)).length ≤ 16 ∧ (∀ i, i < (L.map (·.1)).length → ((L.map (·.1)).getD i pr0).backs.length ≤ 3) ∧
    Mv g w (set3 wr w.heap.size (.int .i64 b) (.int .i64 d) (.slice (some ⟨G, 0, none⟩) L.length c)) ∧ CurAt (set3 wr w.heap.size (.int .i64 b) (.int .i64 d) (.slice (some ⟨G, 0, none⟩) L.length c)) g M a cap zs := by
  have hq := h.qlo
  have hg := h.gl
  have hq2 := h.qhi
  have mv1 : Mv g w (set3 wr w.heap.size (.int .i64 b) (.int .i64 d) (.slice (some ⟨G, 0, none⟩) L.length c)) := ((h.mv.put (q := w.heap.size) (Nat.le_refl _) 0 _).put (q := w.heap.size) (Nat.le_refl _) 1 _).put (q := w.heap.size) (Nat.le_refl _) 2 _
  refine ⟨⟨rfl, .inr ⟨G, L, rfl, rfl, ?_⟩⟩, by simpa using hl, fun i hi => ?_, mv1, (h.cur.blocks h.row mv1 (set3_block (by omega))).more hN⟩
  · rw [set3_size]
    exact (h.ow.blocks (fun k hk _ _ => set3_block (by omega))).mono (by omega)
  · rw [List.length_map] at hi
    have := h.few i hi
    simpa [List.getD_eq_getElem?_getD, List.getElem?_eq_getElem hi] using this
end
end Go.Proofs.Ytgmdbihdnacpjaa
namespace Go.Proofs.Ytgmdbihdnacpjaa
open Go.RowKit Go.Deep
set_option linter.unusedVariables false
set_option maxRecDepth 100000 in
set_option maxHeartbeats 25600000 in
theorem peers_any (w : World) (g n : Nat) (a : Option Addr) (cap : Nat) (zs : List Int) (hc : CurAt w g n a cap zs) (hn : n ≤ 500) :
    Calls Try.prog 40 #[.pointer (some ⟨g, 0, none⟩)] w fun e w' => ∃ (b d : Int) (ap : Option Addr) (cp : Nat) (ps : List Pr), e = .returned (.agg #[.int .i64 b, .int .i64 d, .slice ap ps.length cp]) ∧ OwnPs w.heap.size w'.heap.size w' ap ps.length ps ∧ ps.length ≤ 16 ∧ (∀ i, i < ps.length → (ps.getD i pr0).backs.length ≤ 3) ∧ Mv g w w' ∧ CurAt w' g (n + 300) a cap zs := by
  have hlt := hc.lt
  have HR0 : Hid (RowU w g a zs) := hc.row
  go_enter Try.func40, Try.ntmps40
  go_wp2_with fail
  refine (ring_any _ _ _ _ _ _ (hc.new _) (by omega)).mono ?_
  rintro e w1 ⟨b, d, v, rfl, sm1, mv1, hc1⟩
  have hs1 := mv1.size
  simp at hs1
  obtain ⟨a0, cp, ms, rfl, hcp, hl9, hr0, hB⟩ := sm1
  have P20 : PS0 w (w1.alloc (.cells #[.int .i64 b, .int .i64 d] 25)) g (n + 60) a cap zs b d w1.heap.size a0 ms := by
    refine ⟨((Mv.of_below (belA _ _)).trans mv1).alloc _, hc1.new _, ?_, heap_alloc_new _ _, by omega, ?_, hlt, HR0.out⟩
    · rw [heap_alloc_old _ _ (by omega), mv1.block _ (by simp) (by omega)]
      exact heap_alloc_new _ _
    · by_cases h0 : ms = []
      · exact .inl h0
      · obtain ⟨bk, off, rfl, hbk⟩ : ∃ bk off, a0 = some ⟨bk, off, none⟩ ∧ (w.alloc (.cells #[.int .i64 0, .int .i64 0, .slice none 0 0] 28)).heap.size ≤ bk := by
          rcases hB with h | h
          · exact absurd h h0
          · exact h
        simp at hbk
        have hp : 0 < ms.length := by
          cases ms
          · exact absurd rfl h0
          · simp
        obtain ⟨h1, h2⟩ := rowAt_cell hr0 hp
        exact .inr ⟨bk, off, rfl, by omega, h1, fun i hi => ((belA _ _).cell (p := ⟨bk, off + i, none⟩) h1).trans (h2 i hi)⟩
  have P2 : Hid _ := P20
  have HB9 : Hid (ms.length ≤ 9) := hl9
  clear P20 hr0 hB mv1 hc1 hcp hc
  obtain ⟨W2, hW2⟩ : ∃ W2, (w1.alloc (.cells #[.int .i64 b, .int .i64 d] 25)) = W2 := ⟨_, rfl⟩
  rw [hW2] at P2
  obtain ⟨Q, hQ⟩ : ∃ Q, w1.heap.size = Q := ⟨_, rfl⟩
  rw [hQ] at P2
  go_upto_region 2 with (fail)
  clear hW2 hQ hs1
  go_cut [5, 6] (fun v5 v6 wc => ∃ X ok, v5 = .pointer (some ⟨X, 0, none⟩) ∧ v6 = .bool ok ∧ Hid (PGo w wc g (n + 62) a cap zs b d Q a0 ms X ok))
  case first =>
    have sta := P2.out.keep ((Below.refl _ _).drew)
    have pxa := (px_new P2.out).keep ((Below.refl _ _).drew)
    have staA := pxa.st
    have hmx : ms.length ≤ maxLen := by unfold maxLen; omega
    go_region_held (fun w' => w'.cell? ⟨Q, 0, none⟩ = some (.int .i64 b) ∧ w'.cell? ⟨Q, 1, none⟩ = some (.int .i64 d)) (with_reducible (first | exact sta.qc | exact staA.qc | exact stb.qc | exact pxb.st.qc | exact stc.qc | exact pxc.st.qc | exact (stc.keep (belA _ _)).qc | exact pxc.qc3 _ _ _)) (first
      | (go_at_call 41; refine (pick_any _ _ _ _ _ _ _ sta.cur (by omega) (by omega) (by omega)).mono ?_; rintro e wa ⟨xa, rfl, xa1, xa2, mva, hca⟩; have stb := sta.step mva hca; have pxb := px_new stb)
      | (go_at_call 41; refine (pick_any _ _ _ _ _ _ _ staA.cur (by omega) (by omega) (by omega)).mono ?_; rintro e wa ⟨xa, rfl, xa1, xa2, mva, hca⟩; have pxb := pxa.step mva hca; have stb := pxb.st)
      | (go_at_call 25; have CI := lIdealPeers_uni b d xa _ cp ms _ hmx stb.rowAt; refine CI.mono ?_; rintro e wb ⟨b', d', al, nl, cl, ok, rfl, hwb, hr⟩; have pxc := pxb.keep hwb; have stc := pxc.st; obtain ⟨n0, n1, n2, m0, m1, m2⟩ := pxc.cells)
      | (go_at_call 25; have CI := lIdealPeers_uni b d xa _ cp ms _ hmx stb.rowAt; refine CI.mono ?_; rintro e wb ⟨b', d', al, nl, cl, ok, rfl, hwb, hr⟩; have stc := stb.keep hwb; have pxc := px_new stc; obtain ⟨n0, n1, n2, m0, m1, m2⟩ := pxc.cells)
      | (go_at_call 25; have CI := lIdealPeers_uni b d xa _ cp ms _ hmx pxb.st.rowAt; refine CI.mono ?_; rintro e wb ⟨b', d', al, nl, cl, ok, rfl, hwb, hr⟩; have pxc := pxb.keep hwb; have stc := pxc.st; obtain ⟨n0, n1, n2, m0, m1, m2⟩ := pxc.cells))
    all_goals (go_wp2_with fail; go_meet; first | exact ⟨_, _, rfl, rfl, pgo_new' stc hr (by have := stb.hiQ; first | exact this | (simp; omega))⟩ | exact ⟨_, _, rfl, rfl, pgo_set' pxc hr (by have := pxb.hi; first | exact this | (simp at this ⊢; omega))⟩)
  case rest =>
    obtain ⟨X, ok, rfl, rfl, PG⟩ := hcut
    clear P2
    cases ok
    · have p0 := PG.out.1
      obtain ⟨r0, r1, r2, q0, q1, q2⟩ := p0.rc
      obtain ⟨s0, s1⟩ := p0.qc
      have hq := p0.qlo
      have hg := p0.gl
      have mvf : Hid (Mv g w (set3 wc w.heap.size (.int .i64 b) (.int .i64 d) (.slice none 0 0))) := ((p0.mv.put (q := w.heap.size) (Nat.le_refl _) 0 _).put (q := w.heap.size) (Nat.le_refl _) 1 _).put (q := w.heap.size) (Nat.le_refl _) 2 _
      have cuf : Hid (CurAt (set3 wc w.heap.size (.int .i64 b) (.int .i64 d) (.slice none 0 0)) g (n + 300) a cap zs) := (p0.cur.blocks p0.row mvf.out (set3_block (by omega))).more (by omega)
      have HRW : Hid _ := p0.r
      clear p0
      go_wp2
      exact bodyPost_ret (results_cell_row Try.results40 _ _ w.heap.size _ _ _ _ rfl (set3_row HRW.out) Try.underlying28 rfl (by kernel_rfl)) rfl ⟨b, d, none, 0, [], rfl, ownPs_nil _ _ _ _, by simp, fun i hi => by simp at hi, mvf.out, cuf.out⟩
    · obtain ⟨bm, om, G, c, L0, rfl, l1, l2, m1, pst0⟩ := PG.out.2 rfl
      have ST0 : Hid (PSt w wc g (n + 62) a cap zs b d Q X G c (Q + 1) bm om ms L0) := pst0
      have m9 : ms.length ≤ 9 := HB9.out
      obtain ⟨l0, hl0⟩ : ∃ l0, l0 = L0.length := ⟨_, rfl⟩
      have HL0 : Hid (L0.length = l0) := hl0.symm
      rw [← hl0] at l1 l2
      clear PG pst0 hl0
      go_wp2_with fail
      refine (one_any _ _ _ _ _ _ _ ST0.out.cur (by omega) (by omega) (by omega)).mono ?_
      rintro e w3 ⟨v3, rfl, mv3, hc3⟩
      have ST3 : Hid (PSt w w3 g (n + 64) a cap zs b d Q X G c (Q + 1) bm om ms L0) := ST0.out.step mv3 hc3
      clear ST0 mv3 hc3
      go_upto_if 28 with (fail)
      go_cut [6] (fun v6 wc => v6 = .bool true ∧ ∃ L, Hid (PSt w wc g (n + 270) a cap zs b d Q X G c (Q + 1) bm om ms L) ∧ Hid (L.length = l0))
      case first =>
        cases v3
        · go_wp2_with fail
          go_meet
          exact ⟨rfl, L0, ST3.out.more (by omega), HL0⟩
        · obtain ⟨_, _, x2⟩ := ST3.out.xc
          rw [HL0.out] at x2
          go_wp2_with fail
          clear x2
          go_loopw [32] (fun vi wr => ∃ (k : Nat) (L : List (Pr × Value)), k ≤ l0 ∧ vi = .int .i64 k ∧ Hid (PSt w wr g (n + 64 + 12 * k) a cap zs b d Q X G c (Q + 1) bm om ms L) ∧ Hid (L.length = l0)) (fun vi _ => l0 - (intOf vi).toNat)
          case atStart => exact ⟨0, L0, Nat.zero_le _, rfl, ST3, HL0⟩
          case round =>
            obtain ⟨k, L, hk, rfl, ST, HL⟩ := hrel
            clear ST3 HL0
            by_cases hlt : k < l0
            · go_wp2_with fail
              refine (one_any _ _ _ _ _ _ _ ST.out.cur (by omega) (by omega) (by omega)).mono ?_
              rintro e w4 ⟨v4, rfl, mv4, hc4⟩
              have ST4 : Hid (PSt w w4 g (n + 64 + 12 * k + 2) a cap zs b d Q X G c (Q + 1) bm om ms L) := ST.out.step mv4 hc4
              clear ST mv4 hc4
              go_upto_if 36 with (fail)
              go_cut [7] (fun v7 wc => v7 = .int .i64 k ∧ ∃ L, Hid (PSt w wc g (n + 64 + 12 * k + 4) a cap zs b d Q X G c (Q + 1) bm om ms L) ∧ Hid (L.length = l0))
              case first =>
                cases v4
                · go_wp2_with fail
                  go_meet
                  exact ⟨rfl, L, ST4.out.more (by omega), HL⟩
                · have hkL : k < L.length := by rw [HL.out]; exact hlt
                  go_wp2_with fail
                  have sta := ST4.out.keep ((Below.refl _ _).drew)
                  have hne := sta.ne
                  have hGl := sta.ow.lo
                  go_region_held (fun w' => w'.cell? ⟨X, 2, none⟩ = some (.slice (some ⟨G, 0, none⟩) L.length c) ∧ ∀ i, i < ms.length → w'.cell? ⟨bm, om + i, none⟩ = some (.int .i64 (ms.getD i 0))) (with_reducible (first | exact sta.mc | exact stb.mc | exact stb.mc1 hGl hne _ _)) ((go_at_call 41; refine (pick_any _ _ _ _ _ _ _ sta.cur (by omega) (by omega) (by omega)).mono ?_; rintro e wa ⟨xa, rfl, xa1, xa2, mva, hca⟩; obtain ⟨i, rfl⟩ := Int.eq_ofNat_of_zero_le xa1; have stb := sta.step mva hca; have hii : i < ms.length := (by omega); have d2 := (stb.ow.cel k hkL).c2; have g2 := stb.fz (k * 4 + 2)))
                  go_wp2_with fail
                  go_meet
                  exact ⟨rfl, _, stb.num hkL 2 (by omega) _, by unfold Hid; rw [List.length_set]; exact HL.out⟩
              case rest =>
                obtain ⟨rfl, M0, S0, HM0⟩ := hcut
                clear ST4 HL
                have hkM : k < M0.length := by rw [HM0.out]; exact hlt
                obtain ⟨ab, cb, hv2, c3, _⟩ := S0.out.bk hkM
                have hfew := S0.out.few k hkM
                obtain ⟨nb, hnb⟩ : ∃ nb, nb = (M0.getD k d0).1.backs.length := ⟨_, rfl⟩
                have HV0 : Hid ((M0.getD k d0).2 = .slice ab nb cb ∧ (M0.getD k d0).1.backs.length = nb) := ⟨by rw [hnb]; exact hv2, hnb.symm⟩
                rw [← hnb] at c3 hfew
                obtain ⟨_, _, x2⟩ := S0.out.xc
                rw [HM0.out] at x2
                clear hv2 hnb
                go_wp2_with fail
                clear x2 c3
                go_loopw [56] (fun vi wr => ∃ (i : Nat) (M : List (Pr × Value)), i ≤ nb ∧ vi = .int .i64 i ∧ Hid (PSt w wr g (n + 64 + 12 * k + 4 + 2 * i) a cap zs b d Q X G c (Q + 1) bm om ms M) ∧ Hid (M.length = l0) ∧ Hid ((M.getD k d0).2 = .slice ab nb cb ∧ (M.getD k d0).1.backs.length = nb)) (fun vi _ => nb - (intOf vi).toNat)
                case atStart => exact ⟨0, M0, Nat.zero_le _, rfl, S0, HM0, HV0⟩
                case round =>
                  obtain ⟨i, M, hi, rfl, ST, HM, HV⟩ := hrel
                  clear S0 HM0 HV0 hkM
                  have hkM : k < M.length := by rw [HM.out]; exact hlt
                  by_cases hib : i < nb
                  · obtain ⟨gb, rfl, hgl, hXg, hGg⟩ := ST.out.bk2 hkM HV.out.1 HV.out.2 hib
                    go_wp2_with fail
                    have sta := ST.out.keep ((Below.refl _ _).drew)
                    have hVV := HV.out.1
                    go_region_held (fun w' => w'.cell? ⟨X, 2, none⟩ = some (.slice (some ⟨G, 0, none⟩) M.length c) ∧ w'.cell? ⟨G, k * 4 + 3, none⟩ = some (.slice (some ⟨gb, 0, none⟩) nb cb) ∧ ∀ i, i < ms.length → w'.cell? ⟨bm, om + i, none⟩ = some (.int .i64 (ms.getD i 0))) (with_reducible (first | exact sta.m3 hkM hVV | exact stb.m3 hkM hVV | exact stb.m4 hkM hVV hgl hXg hGg _ _)) ((go_at_call 41; refine (pick_any _ _ _ _ _ _ _ sta.cur (by omega) (by omega) (by omega)).mono ?_; rintro e wa ⟨xa, rfl, xa1, xa2, mva, hca⟩; obtain ⟨j, rfl⟩ := Int.eq_ofNat_of_zero_le xa1; have stb := sta.step mva hca; have hii : j < ms.length := (by omega); obtain ⟨⟨zz, d2⟩, g2⟩ := stb.bk3 hkM hVV HV.out.2 hib))
                    clear hVV
                    go_wp2_with fail
                    go_roundw
                    case rel =>
                      obtain ⟨M2, S2, hM2, hM3⟩ := stb.back hkM (j := i) (gb := gb) (by rw [HV.out.2]; exact hib) (by rw [HV.out.1]; rfl) ms[j]
                      exact ⟨i + 1, M2, by omega, by go_num, S2.more (by omega), by unfold Hid; rw [hM2]; exact HM.out, by unfold Hid; rw [(hM3 k).1, (hM3 k).2]; exact HV.out⟩
                    case measure => simp [intOf]; omega
                  · go_wp2_with fail
                    go_roundw
                    case rel => exact ⟨k + 1, M, by omega, by go_num, ST.out.more (by omega), HM⟩
                    case measure => simp [intOf]; omega
            · go_wp2_with fail
              go_meet
              exact ⟨rfl, L, ST.out.more (by omega), HL⟩
      case rest =>
        obtain ⟨rfl, L, ST, HL⟩ := hcut
        clear ST3 HL0
        obtain ⟨_, _, x2⟩ := ST.out.xc
        rw [HL.out] at x2
        go_wp2_with fail
        refine (pick_any _ _ _ _ _ _ _ ST.out.cur (by omega) (by omega) (by omega)).mono ?_
        rintro e w5 ⟨xk, rfl, xk1, xk2, mv5, hc5⟩
        obtain ⟨kk, rfl⟩ := Int.eq_ofNat_of_zero_le xk1
        have S5 : Hid (PSt w w5 g (n + 270 + 2) a cap zs b d Q X G c (Q + 1) bm om ms L) := ST.out.step mv5 hc5
        have hkL : kk < L.length := by rw [HL.out]; omega
        clear ST x2 mv5 hc5
        go_wp2_with fail
        refine (pick_any _ _ _ _ _ _ _ S5.out.cur (by omega) (by omega) (by omega)).mono ?_
        rintro e w6 ⟨sw, rfl, sw1, sw2, mv6, hc6⟩
        have S6 : Hid (PSt w w6 g (n + 270 + 4) a cap zs b d Q X G c (Q + 1) bm om ms L) := S5.out.step mv6 hc6
        clear S5 mv6 hc6
        by_cases hs0 : sw = 0
        · have e0 : (sw == 0) = true := by rw [hs0]; rfl
          go_wp2_with fail
          have sta := S6.out.keep ((Below.refl _ _).drew)
          go_region_held (fun w' => w'.cell? ⟨X, 2, none⟩ = some (.slice (some ⟨G, 0, none⟩) L.length c) ∧ w'.cell? ⟨Q, 0, none⟩ = some (.int .i64 b) ∧ w'.cell? ⟨Q, 1, none⟩ = some (.int .i64 d)) (with_reducible (first | exact sta.n3 | exact stb.n3 | exact stb.n4 _ _)) ((go_at_call 43; refine (num_any _ _ _ _ _ _ _ _ sta.cur (by omega)).mono ?_; rintro e wa ⟨xa, rfl, xa1, xa2, mva, hca⟩; have stb := sta.step mva hca; have d2 := (stb.ow.cel kk hkL).c1; have g2 := stb.fz (kk * 4 + 1)))
          have S7 : Hid _ := stb.num hkL 1 (by omega) xa
          clear d2 g2
          obtain ⟨x0, x1, x2⟩ := S7.out.xc
          obtain ⟨r0, r1, r2, q0, q1, q2⟩ := S7.out.rc
          have FIN0 := S7.out.fin (M := n + 300) (by rw [List.length_set, HL.out]; exact l2) (by omega)
          rw [List.length_set] at FIN0
          have FIN : Hid _ := FIN0
          clear FIN0
          have HRW : Hid _ := S7.out.r
          have hq1 := S7.out.qlo
          have hq2 := S7.out.qhi
          have hq3 := S7.out.xlo
          go_wp2
          refine bodyPost_ret (results_cell_row Try.results40 _ _ w.heap.size _ _ _ _ rfl (set3_row HRW.out) Try.underlying28 rfl (by kernel_rfl)) rfl ⟨b, d, some ⟨G, 0, none⟩, c, (L.set kk (setF 1 (L.getD kk d0).1 xa, (L.getD kk d0).2)).map (fun x : Pr × Value => x.1), by rw [List.length_map]; rw [List.length_set], FIN.out⟩
        · have e0 : (sw == 0) = false := by simpa using hs0
          by_cases hs1 : sw = 1
          · have e1 : (sw == 1) = true := by rw [hs1]; rfl
            go_wp2_with fail
            have sta := S6.out.keep ((Below.refl _ _).drew)
            go_region_held (fun w' => w'.cell? ⟨X, 2, none⟩ = some (.slice (some ⟨G, 0, none⟩) L.length c) ∧ w'.cell? ⟨Q, 0, none⟩ = some (.int .i64 b) ∧ w'.cell? ⟨Q, 1, none⟩ = some (.int .i64 d)) (with_reducible (first | exact sta.n3 | exact stb.n3 | exact stb.n4 _ _)) ((go_at_call 43; refine (num_any _ _ _ _ _ _ _ _ sta.cur (by omega)).mono ?_; rintro e wa ⟨xa, rfl, xa1, xa2, mva, hca⟩; have stb := sta.step mva hca; have d2 := (stb.ow.cel kk hkL).c2; have g2 := stb.fz (kk * 4 + 2)))
            have S7 : Hid _ := stb.num hkL 2 (by omega) xa
            clear d2 g2
            obtain ⟨x0, x1, x2⟩ := S7.out.xc
            obtain ⟨r0, r1, r2, q0, q1, q2⟩ := S7.out.rc
            have FIN0 := S7.out.fin (M := n + 300) (by rw [List.length_set, HL.out]; exact l2) (by omega)
            rw [List.length_set] at FIN0
            have FIN : Hid _ := FIN0
            clear FIN0
            have HRW : Hid _ := S7.out.r
            have hq1 := S7.out.qlo
            have hq2 := S7.out.qhi
            have hq3 := S7.out.xlo
            go_wp2
            refine bodyPost_ret (results_cell_row Try.results40 _ _ w.heap.size _ _ _ _ rfl (set3_row HRW.out) Try.underlying28 rfl (by kernel_rfl)) rfl ⟨b, d, some ⟨G, 0, none⟩, c, (L.set kk (setF 2 (L.getD kk d0).1 xa, (L.getD kk d0).2)).map (fun x : Pr × Value => x.1), by rw [List.length_map]; rw [List.length_set], FIN.out⟩
          · have e1 : (sw == 1) = false := by simpa using hs1
            by_cases hs2 : sw = 2
            · have e2 : (sw == 2) = true := by rw [hs2]; rfl
              have ck := S6.out.keep (belA w6 (.cells #[.int .i64 (-1)] 3))
              have os : OwnS w6.heap.size (w6.alloc (.cells #[.int .i64 (-1)] 3)) w6.heap.size [-1] := ⟨Nat.le_refl _, _, heap_alloc_new _ _, rfl⟩
              have S70 : PSt w ((w6.alloc (.cells #[.int .i64 (-1)] 3)).setCell ⟨G, kk * 4 + 3, none⟩ (.slice (some ⟨w6.heap.size, 0, none⟩) 1 1)) g (n + 270 + 4) a cap zs b d Q X G c (Q + 1) bm om ms (L.set kk (⟨(L.getD kk d0).1.id, (L.getD kk d0).1.succ, (L.getD kk d0).1.point, [-1]⟩, .slice (some ⟨w6.heap.size, 0, none⟩) 1 1)) := S6.out.backs (belA w6 (.cells #[.int .i64 (-1)] 3)) hkL (bs := [-1]) (cb := 1) (by simp) (by simp) os
              rw [World.setCell_alloc_past _ _ _ _ S6.out.ow.lt] at S70
              have S7 : Hid _ := S70
              clear S70
              obtain ⟨_, _, y2⟩ := ck.xc
              have d3 := (ck.ow.cel kk hkL).c3
              have g3 := ck.fz (kk * 4 + 3)
              obtain ⟨_, _, z2⟩ := S6.out.xc
              have hX := S6.out.hiX
              rw [HL.out] at y2 z2
              clear os
              obtain ⟨x0, x1, x2⟩ := S7.out.xc
              obtain ⟨r0, r1, r2, q0, q1, q2⟩ := S7.out.rc
              obtain ⟨v0, v1, v2⟩ := ck.xc
              obtain ⟨t0, t1, t2, p0, p1, p2⟩ := ck.rc
              have FIN0 := S7.out.fin (M := n + 300) (by rw [List.length_set, HL.out]; exact l2) (by omega)
              rw [List.length_set, HL.out] at FIN0 x2
              rw [HL.out] at v2
              have FIN : Hid _ := FIN0
              have HRW : Hid _ := S7.out.r
              have hq1 := S6.out.qlo
              have hq2 := S6.out.qhi
              have hq3 := S6.out.xlo
              have hne := S6.out.ne
              have hGl := S6.out.ow.lo
              have hGt := S6.out.ow.lt
              clear FIN0 ck
              rw [HL.out] at hkL
              go_wp2
              refine bodyPost_ret (results_cell_row Try.results40 _ _ w.heap.size _ _ _ _ rfl (set3_row HRW.out) Try.underlying28 rfl (by kernel_rfl)) rfl ⟨b, d, some ⟨G, 0, none⟩, c, (L.set kk (⟨(L.getD kk d0).1.id, (L.getD kk d0).1.succ, (L.getD kk d0).1.point, [-1]⟩, .slice (some ⟨w6.heap.size, 0, none⟩) 1 1)).map (fun x : Pr × Value => x.1), by rw [List.length_map]; rw [List.length_set, HL.out], FIN.out⟩
            · have e2 : (sw == 2) = false := by simpa using hs2
              obtain ⟨x0, x1, x2⟩ := S6.out.xc
              obtain ⟨r0, r1, r2, q0, q1, q2⟩ := S6.out.rc
              have FIN : Hid _ := S6.out.fin (M := n + 300) (by rw [HL.out]; exact l2) (by omega)
              have HRW : Hid _ := S6.out.r
              have hq1 := S6.out.qlo
              have hq2 := S6.out.qhi
              have hq3 := S6.out.xlo
              go_wp2
              refine bodyPost_ret (results_cell_row Try.results40 _ _ w.heap.size _ _ _ _ rfl (set3_row HRW.out) Try.underlying28 rfl (by kernel_rfl)) rfl ⟨b, d, some ⟨G, 0, none⟩, c, L.map (fun x : Pr × Value => x.1), by rw [List.length_map], FIN.out⟩
end Go.Proofs.Ytgmdbihdnacpjaa
namespace Go.Proofs.Ytgmdbihdnacpjaa
open Go.RowKit Go.Deep
set_option linter.unusedVariables false
set_option maxHeartbeats 1600000 in
theorem lMembersOf_new (b d : Int) (a : Option Addr) (cap : Nat) (ps : List Pr) (w : World) (hm : ps.length ≤ 1048576) (hr : PeersAt w a ps) :
    Calls Try.prog 37 #[.agg #[.int .i64 b, .int .i64 d, .slice a ps.length cap]] w fun e w' => ∃ a' n c ok, e = .returned (.tuple #[.slice a' n c, .bool ok]) ∧ Below w.heap.size w w' ∧ (ok = true → 1 ≤ n ∧ n ≤ 16 ∧ ∃ g l, a' = some ⟨g, 0, none⟩ ∧ l.length = n ∧ OwnS w.heap.size w' g l) := by
  have hil := idsP_len ps
  have hr1 := hr.alloc (.cells #[.int .i64 b, .int .i64 d, .slice a ps.length cap] 28)
  have HR : Hid (PeersAt w a ps) := hr
  clear hr
  have C := lgood_any b d a cap ps _ hm hr1
  cases hg : goodP b d ps
  · rw [hg] at C
    go_enter Try.func37, Try.ntmps37
    go_wp2_with fail
    refine C.mono ?_
    rintro e w1 ⟨rfl, hw1⟩
    go_wp2
    go_ret2
    exact ⟨_, _, _, _, rfl, bel1 hw1 (by simp), fun h => by cases h⟩
  · rw [hg] at C
    have R := (goodP_true hg).1
    have l1 := R.l1
    have l2 := R.l2
    go_enter Try.func37, Try.ntmps37
    go_wp2_with fail
    refine C.mono ?_
    rintro e w1 ⟨rfl, hw1⟩
    have BX : Hid (BxP w w1 b d (.slice a ps.length cap)) := bxP1 hw1 (by simp)
    obtain ⟨_, _, q0, q1, q2⟩ := BX.out
    go_wp2_with fail
    refine (lmembers_any b d a cap ps w1 hm (HR.out.keep BX.out.bel)).mono ?_
    rintro e w2 ⟨v, rfl, hown, hw2⟩
    obtain ⟨g, cp, rfl⟩ := Joins.ownsRow_form hown (by omega)
    obtain ⟨os, hl, _⟩ := OwnS.of_owns hown
    go_wp2
    go_ret2
    exact ⟨_, _, _, _, rfl, belt BX.out.bel hw2, fun _ => ⟨by omega, by omega, g, _, rfl, hil, os.mono BX.out.bel.size⟩⟩
theorem rowU_of {w w1 : World} {a : Option Addr} {zs : List Int} (h : RowB w a zs) (hb : Below w.heap.size w w1) : RowU w1 (w.heap.size + 1) a zs := by
  rcases h with h | ⟨b, off, ha, hl, hc⟩
  · exact .inl h
  · exact .inr ⟨b, off, ha, Nat.lt_of_lt_of_le hl hb.size, by omega, fun i hi => ⟨(hb.cell (p := ⟨b, off + i, none⟩) hl).trans (hc i hi).1, (hc i hi).2⟩⟩
/-- the cursor, the answer's box, the box of peers and the peers, some members; all of it below T -/
structure DSt (w wr : World) (N : Nat) (a : Option Addr) (cap : Nat) (zs : List Int) (b d : Int) (X cp T : Nat) (ap : Option Addr) (ps : List Pr) : Prop where
  bel : Below w.heap.size w wr
  cur : CurAt wr (w.heap.size + 1) N a cap zs
  r : wr.heap[w.heap.size]? = some (.cells #[.int .i64 0, .int .i64 0, .slice none 0 0] 28 (0, 0))
  x : wr.heap[X]? = some (.cells #[.int .i64 b, .int .i64 d, .slice ap ps.length cp] 28 (0, 0))
  ow : OwnPs (w.heap.size + 2) T wr ap ps.length ps
  xlo : w.heap.size + 2 ≤ X
  xhi : X < T
  thi : T ≤ wr.heap.size
  row : RowB w a zs
section
variable {w wr : World} {N : Nat} {a : Option Addr} {cap : Nat} {zs : List Int} {b d : Int} {X cp T : Nat} {ap : Option Addr} {ps : List Pr}
theorem DSt.chg {w1 : World} {M : Nat} (h : DSt w wr N a cap zs b d X cp T ap ps) (hb : Below w.heap.size w w1) (hc : CurAt w1 (w.heap.size + 1) M a cap zs) (hs : wr.heap.size ≤ w1.heap.size) (hk : ∀ k, k < T → ¬ k = w.heap.size + 1 → w1.heap[k]? = wr.heap[k]?) : DSt w w1 M a cap zs b d X cp T ap ps := by
  have := h.xlo
  have := h.xhi
  exact ⟨hb, hc, (hk _ (by omega) (by omega)).trans h.r, (hk _ h.xhi (by omega)).trans h.x, h.ow.blocks (fun k h1 h2 _ => hk k h2 (by omega)), h.xlo, h.xhi, Nat.le_trans h.thi hs, h.row⟩
theorem DSt.step {w1 : World} {M : Nat} (h : DSt w wr N a cap zs b d X cp T ap ps) (mv : Mv (w.heap.size + 1) wr w1) (hc : CurAt w1 (w.heap.size + 1) M a cap zs) : DSt w w1 M a cap zs b d X cp T ap ps :=
  h.chg (mv.below h.bel (by omega)) hc mv.size (fun k hk hg => mv.block k (by have := h.thi; omega) hg)
theorem DSt.keep {w1 : World} (h : DSt w wr N a cap zs b d X cp T ap ps) (hb : Below wr.heap.size wr w1) : DSt w w1 N a cap zs b d X cp T ap ps := h.step (Mv.of_below hb) (h.cur.keep hb)
theorem DSt.more {M : Nat} (h : DSt w wr N a cap zs b d X cp T ap ps) (hM : N ≤ M) : DSt w wr M a cap zs b d X cp T ap ps := h.chg h.bel (h.cur.more hM) (Nat.le_refl _) (fun _ _ _ => rfl)
theorem DSt.xc (h : DSt w wr N a cap zs b d X cp T ap ps) : wr.cell? ⟨X, 0, none⟩ = some (.int .i64 b) ∧ wr.cell? ⟨X, 1, none⟩ = some (.int .i64 d) ∧ wr.cell? ⟨X, 2, none⟩ = some (.slice ap ps.length cp) :=
  ⟨(cell_of_row wr _ _ _ _ _ h.x).trans rfl, (cell_of_row wr _ _ _ _ _ h.x).trans rfl, (cell_of_row wr _ _ _ _ _ h.x).trans rfl⟩
theorem DSt.rc (h : DSt w wr N a cap zs b d X cp T ap ps) : wr.cell? ⟨w.heap.size, 0, none⟩ = some (.int .i64 0) ∧ wr.cell? ⟨w.heap.size, 1, none⟩ = some (.int .i64 0) ∧ wr.cell? ⟨w.heap.size, 2, none⟩ = some (.slice none 0 0) ∧
    wr.frozen? ⟨w.heap.size, 0, none⟩ = false ∧ wr.frozen? ⟨w.heap.size, 1, none⟩ = false ∧ wr.frozen? ⟨w.heap.size, 2, none⟩ = false :=
  ⟨(cell_of_row wr _ _ _ _ _ h.r).trans rfl, (cell_of_row wr _ _ _ _ _ h.r).trans rfl, (cell_of_row wr _ _ _ _ _ h.r).trans rfl, frozen_of_row wr _ _ _ _ h.r, frozen_of_row wr _ _ _ _ h.r, frozen_of_row wr _ _ _ _ h.r⟩
theorem DSt.grown {w1 : World} {r : Option Nat} (h : DSt w wr N a cap zs b d X cp T ap ps) (hg : wr.grownBy w1 r) (hr : ∀ k, r = some k → T ≤ k) : DSt w w1 N a cap zs b d X cp T ap ps := by
  have h1 := h.xlo
  have h2 := h.xhi
  have h3 := h.thi
  have hblk : ∀ k, k < T → w1.heap[k]? = wr.heap[k]? := fun k hk => hg.block k (by omega) (fun he => by have := hr k he.symm; omega)
  have hb : Below w.heap.size w w1 := h.bel.grown hg (by omega) (fun k hk => by have := hr k hk; omega)
  refine h.chg hb ?_ hg.size (fun k hk _ => hblk k hk)
  obtain ⟨k, sd, hB, hk, hw⟩ := h.cur.st
  exact ⟨⟨k, sd, (hblk _ (by omega)).trans hB, hk, hw⟩, rowU_of h.row hb, h.cur.len⟩
end
end Go.Proofs.Ytgmdbihdnacpjaa
