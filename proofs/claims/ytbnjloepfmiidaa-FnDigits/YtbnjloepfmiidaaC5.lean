/- What is drawn for FromDigits: a space and some list of digits. -/
import Derived.Test.YtbnjloepfmiidaaC3
import Derived.Test.YtbnjloepfmiidaaB3
namespace Go.Proofs.Ytbnjloepfmiidaa
open Go.RowKit
set_option linter.unusedVariables false

/-- some list of ints, read in this world -/
def SomeL (w : World) (v : Value) : Prop := ∃ (a : Option Addr) (cap : Nat) (ys : List Int), v = .slice a ys.length cap ∧ ys.length ≤ 12 ∧ RowAt w a ys
theorem row_past {w : World} {R q i j : Nat} {u v : Value} {o : Obj} (h : w.heap[q]? = some o) (hq : ¬ q = R) : ((w.setCell ⟨R, i, none⟩ u).setCell ⟨R, j, none⟩ v).heap[q]? = some o := by
  rw [heap_setCell_other _ _ _ _ hq, heap_setCell_other _ _ _ _ hq]; exact h
theorem some_nil (w : World) : SomeL w (.slice none 0 0) := ⟨none, 0, [], rfl, by simp, .inl rfl⟩
theorem some_row {w : World} {g n : Nat} {l : List Int} {t : TypeId} {fr : Nat × Nat} (hl : l.length = n) (hn : n ≤ 12) (h : w.heap[g]? = some (.cells (zv l) t fr)) : SomeL w (.slice (some ⟨g, 0, none⟩) n n) :=
  ⟨_, n, l, by rw [hl], by omega, rowAt_of_row h⟩
theorem some_tail {w : World} {g n m : Nat} {a : Option Addr} {l : List Int} {t : TypeId} {fr : Nat × Nat} (hl : l.length = n) (hn : n ≤ 12) (h1 : 1 ≤ n) (hm : m = n - 1) (ha : 1 < n → a = some ⟨g, 1, none⟩) (h : w.heap[g]? = some (.cells (zv l) t fr)) (cp : Nat) : SomeL w (.slice a m cp) := by
  by_cases e : n = 1
  · subst e
    obtain rfl : m = 0 := by omega
    exact ⟨a, cp, [], rfl, by simp, .inl rfl⟩
  · obtain rfl := ha (by omega)
    refine ⟨_, cp, sub 1 m l, by rw [sub_len (by omega)], by rw [sub_len (by omega)]; omega, rowAt_sub h (by omega)⟩

theorem DrSt.putg {w wr : World} {n q : Nat} {a : Option Addr} {cap : Nat} {zs : List Int} {b d : Int} (h : DrSt w wr n q a cap zs b d) (h0 : RowB w a zs) {g : Nat} (h1 : w.heap.size < g) (h2 : ¬ g = w.heap.size + 1) (h3 : ¬ q = g) (i : Nat) (v : Value) : DrSt w (wr.setCell ⟨g, i, none⟩ v) n q a cap zs b d := by
  have e : ∀ k, ¬ k = g → (wr.setCell ⟨g, i, none⟩ v).heap[k]? = wr.heap[k]? := fun k hk => heap_setCell_other _ _ _ _ hk
  have hc := h.cur
  obtain ⟨⟨k, sd, hb, hk⟩, hr, hl⟩ := hc
  have hb0 := h.bel.setCell (p := ⟨g, i, none⟩) (by simp; omega) v
  refine ⟨hb0, ⟨⟨k, sd, (e _ (by omega)).trans hb, hk⟩, ?_, hl⟩, (World.cell?_of_block (w := wr) (e q h3)).trans h.q0, (World.cell?_of_block (w := wr) (e q h3)).trans h.q1, (e _ (by omega)).trans h.r, h.lo, by simpa [World.setCell] using h.hi⟩
  rcases h0 with h0 | ⟨b', off, ha, hl', hc'⟩
  · exact .inl h0
  · exact .inr ⟨b', off, ha, Nat.lt_of_lt_of_le hl' hb0.size, by omega, fun j hj => ⟨(hb0.cell (p := ⟨b', off + j, none⟩) hl').trans (hc' j hj).1, (hc' j hj).2⟩⟩

set_option maxHeartbeats 1600000 in
theorem drawFrom_any (a : Option Addr) (cap : Nat) (zs : List Int) (w : World) (hm : zs.length ≤ 1048576) (hr : RowB w a zs) :
    Calls Try.prog 34 #[.slice a zs.length cap] w fun e w' => ∃ (b d : Int) (v : Value), e = .returned (.tuple #[.agg #[.int .i64 b, .int .i64 d], v]) ∧ Below w.heap.size w w' ∧ SomeL w' v := by
  have hc0 := cur_new (cap := cap) hr hm ((Below.refl _ _).alloc (Nat.le_refl _) (.cells #[.int .i64 0, .int .i64 0] 25))
  have HC0 : Hid _ := hc0
  clear hc0
  go_enter Try.func34, Try.ntmps34
  go_wp2_with fail
  refine (space_any _ _ _ _ _ _ (by simpa using HC0.out) (by omega)).mono ?_
  rintro e w1 ⟨b, d, rfl, b1, b2, d1, d2, mv1, hc1⟩
  have st0 := (drSt_init (b := b) (d := d) mv1 hc1).keep ((Below.refl _ _).drew)
  have hlo := st0.lo
  go_wp2_with fail
  go_region_held (fun w' => w'.cell? ⟨w1.heap.size, 0, none⟩ = some (.int .i64 b) ∧ w'.cell? ⟨w1.heap.size, 1, none⟩ = some (.int .i64 d)) (first | exact ⟨st0.q0, st0.q1⟩ | exact ⟨sta.q0, sta.q1⟩ | exact ⟨stb.q0, stb.q1⟩) (first | (go_at_call 43; refine (num_any _ _ _ _ _ _ _ _ st0.cur (by omega)).mono ?_; rintro e wa ⟨xa, rfl, xa1, xa2, mva, hca⟩; have sta := st0.step mva hca) | (go_at_call 26; refine (lDigitsOf_any _ _ _ _).mono ?_; rintro e wb ⟨v, rfl, hwb, dv⟩; have stb := sta.keep hwb))
  have hlo2 := sta.lo
  have hhi2 := sta.hi
  rcases dv with ⟨hx, rfl⟩ | ⟨hx, g, rfl, ow⟩
  ·
    have k0 := stb.q0
    have k1 := stb.q1
    obtain ⟨r0, r1, r2, r3⟩ := stb.res
    go_wp2
    have e0 := (cell_of_row _ _ 0 _ _ _ (stb.res_end (.int .i64 b) (.int .i64 d))).trans rfl
    have e1 := (cell_of_row _ _ 1 _ _ _ (stb.res_end (.int .i64 b) (.int .i64 d))).trans rfl
    exact bodyPost_ret (by simp [results, Try.results34, go_sem, e0, e1] <;> rfl) rfl ⟨b, d, _, rfl, stb.bel_end _ _, some_nil _⟩
  ·
    obtain ⟨hg, x1, x2⟩ := numB_true hx
    obtain ⟨hb1, hb2, hd1, hd2, h5⟩ := gsB_true hg
    clear h5
    obtain ⟨hq, q1, q2⟩ := cnt_bd hb1 hb2 hd1 hd2
    clear hq
    have q0 : 0 < cnt b d := by omega
    have hglo := ow.lo
    have hglt := ow.lt
    have hne : ¬ g = w.heap.size + 1 := by omega
    have hneR : ¬ g = w.heap.size := by omega
    have hln : (digL (cnt b d) (sz d) xa).length = cnt b d := digL_len _ _ _
    have HLN : Hid _ := hln
    clear hln
    have OW : Hid _ := ow.row
    clear ow
    go_wp2_with fail
    refine (pick_any _ _ _ _ _ _ _ stb.cur (by omega) (by omega) (by omega)).mono ?_
    rintro e wc ⟨v, rfl, p1, p2, mvc, hcc⟩
    have stc := stb.step mvc hcc
    have RC : Hid _ := (mvc.block g hglt hne).trans OW.out
    clear st0 sta stb
    by_cases h0 : v = 0
    ·
      subst h0
      by_cases hc1 : cnt b d = 1
      ·
        have HC1 : Hid _ := hc1
        have k0 := stc.q0
        have k1 := stc.q1
        obtain ⟨r0, r1, r2, r3⟩ := stc.res
        go_wp2
        have e0 := (cell_of_row _ _ 0 _ _ _ (stc.res_end (.int .i64 b) (.int .i64 d))).trans rfl
        have e1 := (cell_of_row _ _ 1 _ _ _ (stc.res_end (.int .i64 b) (.int .i64 d))).trans rfl
        exact bodyPost_ret (v := .tuple #[.agg #[.int .i64 b, .int .i64 d], .slice (some ⟨g, 0, none⟩) 0 0]) (by simp [results, Try.results34, go_sem, e0, e1]) rfl ⟨b, d, _, rfl, stc.bel_end _ _, ⟨_, 0, [], rfl, by simp, .inl rfl⟩⟩
      ·
        have k0 := stc.q0
        have k1 := stc.q1
        obtain ⟨r0, r1, r2, r3⟩ := stc.res
        go_wp2
        have e0 := (cell_of_row _ _ 0 _ _ _ (stc.res_end (.int .i64 b) (.int .i64 d))).trans rfl
        have e1 := (cell_of_row _ _ 1 _ _ _ (stc.res_end (.int .i64 b) (.int .i64 d))).trans rfl
        exact bodyPost_ret (v := .tuple #[.agg #[.int .i64 b, .int .i64 d], .slice (some ⟨g, 1, none⟩) (cnt b d - 1) (cnt b d - 1)]) (by simp [results, Try.results34, go_sem, e0, e1]) rfl ⟨b, d, _, rfl, stc.bel_end _ _, some_tail HLN.out q2 q1 rfl (fun _ => rfl) (row_past RC.out hneR) _⟩
    · have h0' : (v == 0) = false := by simpa using h0
      by_cases h1 : v = 1
      ·
        subst h1
        clear h0 h0'
        go_wp2_with fail
        have std := stc.keep ((Below.refl _ _).alloc (Nat.le_refl _) (.cells #[.int .i64 (-1), .int .i64 2, .int .i64 4, .int .i64 8] 3))
        refine (among_any [-1, 2, 4, 8] wc.heap.size 4 _ _ _ _ _ _ std.cur (by omega) (by simp) (by simp) (by simp) (by have := stc.lo; have := stc.hi; omega) ?hy).mono ?_
        case hy =>
          intro i hi
          match i, hi with
          | 0, _ => simp
          | 1, _ => simp
          | 2, _ => simp
          | 3, _ => simp
        rintro e wd ⟨y, rfl, hmem, mvd, hcd⟩
        have ste := std.step mvd hcd
        have hgc : g < wc.heap.size := Nat.lt_of_lt_of_le hglt mvc.size
        have RD : Hid (wd.heap[g]? = some (.cells (zv (digL (cnt b d) (sz d) xa)) 3 (0, 0))) := (mvd.block g (by simp; omega) hne).trans ((heap_alloc_old _ _ hgc).trans RC.out)
        have g0 := (cell_of_row wd g 0 _ _ _ RD.out).trans (zv_get _ 0 (by rw [HLN.out]; omega))
        have g1 := frozen_of_row wd g 0 _ _ RD.out
        generalize (digL (cnt b d) (sz d) xa).getD 0 0 = z at g0
        have stf : DrSt w (wd.setCell ⟨g, 0, none⟩ (.int .i64 y)) _ _ a cap zs b d := ste.putg hr (by omega) (by omega) (by omega) 0 _
        have RE : Hid ((wd.setCell ⟨g, 0, none⟩ (.int .i64 y)).heap[g]? = some (.cells (zv ((digL (cnt b d) (sz d) xa).set 0 y)) 3 (0, 0))) := by
          show _ = _
          rw [heap_setCell_same _ _ 0 _ _ (.int .i64 y) RD.out, zv_set]
        have k0 := stf.q0
        have k1 := stf.q1
        obtain ⟨r0, r1, r2, r3⟩ := stf.res
        go_wp2
        have e0 := (cell_of_row _ _ 0 _ _ _ (stf.res_end (.int .i64 b) (.int .i64 d))).trans rfl
        have e1 := (cell_of_row _ _ 1 _ _ _ (stf.res_end (.int .i64 b) (.int .i64 d))).trans rfl
        exact bodyPost_ret (by simp [results, Try.results34, go_sem, e0, e1] <;> rfl) rfl ⟨b, d, _, rfl, stf.bel_end _ _, some_row (by rw [List.length_set]; exact HLN.out) q2 (row_past RE.out hneR)⟩
      ·
        have h1' : (v == 1) = false := by simpa using h1
        have k0 := stc.q0
        have k1 := stc.q1
        obtain ⟨r0, r1, r2, r3⟩ := stc.res
        go_wp2
        have e0 := (cell_of_row _ _ 0 _ _ _ (stc.res_end (.int .i64 b) (.int .i64 d))).trans rfl
        have e1 := (cell_of_row _ _ 1 _ _ _ (stc.res_end (.int .i64 b) (.int .i64 d))).trans rfl
        exact bodyPost_ret (by simp [results, Try.results34, go_sem, e0, e1] <;> rfl) rfl ⟨b, d, _, rfl, stc.bel_end _ _, some_row HLN.out q2 (row_past RC.out hneR)⟩
end Go.Proofs.Ytbnjloepfmiidaa
