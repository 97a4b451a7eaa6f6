/- A message that is drawn: whatever it is, its list is in memory of its own. -/
import Derived.Test.YtabbicfakkehpaaDm0
import Derived.Deep.DeepCutAuto
import Derived.Test.YtabbicfakkehpaaF7
namespace Go.Proofs.Ytabbicfakkehpaa
open Go.RowKit Go.Deep
set_option linter.unusedVariables false
set_option linter.unusedSimpArgs false
theorem MS0.new {w wr : World} {g N : Nat} {a : Option Addr} {cap : Nat} {zs : List Int} {b d : Int} (h : MS0 w wr g N a cap zs b d) : MS w (wr.alloc (.cells #[.int .i64 0, .int .i64 0, .int .i64 0, .int .i64 0, .int .i64 0, .int .i64 0, .int .i64 0, .int .i64 0, .slice none 0 0] 33)) g N a cap zs b d wr.heap.size (wr.heap.size + 1) 0 0 0 0 0 0 0 0 (.slice none 0 0) [] :=
  ⟨h.keep ((Below.refl _ _).alloc (Nat.le_refl _) _), by have := h.br.lt; omega, ⟨by omega, by simp⟩, Bk.new _ _ _, World.ownsRow_nil _ _ _ _⟩
theorem MS.all {w wr : World} {g N : Nat} {a : Option Addr} {cap : Nat} {zs : List Int} {b d : Int} {X : Nat} (h : MS w wr g N a cap zs b d X (X + 1) 0 0 0 0 0 0 0 0 (.slice none 0 0) []) (y0 y1 y2 y3 : Int) :
    MS w (setL wr X 0 [.int .i64 y0, .int .i64 y1, .int .i64 y2, .int .i64 y3, .int .i64 0, .int .i64 0, .int .i64 0, .int .i64 0, .slice none 0 0]) g N a cap zs b d X (X + 1) y0 y1 y2 y3 0 0 0 0 (.slice none 0 0) [] := by
  have h1 := ((((h.set 0 y0 rfl).set 1 y1 rfl).set 2 y2 rfl).set 3 y3 rfl)
  have h2 := ((((h1.set 4 0 rfl).set 5 0 rfl).set 6 0 rfl).set 7 0 rfl)
  have h3 := h2.s0.oth h2.hX 8 (.slice none 0 0)
  refine ⟨h3, h2.hX, ⟨h2.hB.1, by have := h2.hB.2; simpa [World.setCell, setL] using this⟩, ?_, World.ownsRow_nil _ _ _ _⟩
  have := h2.bx.set 8 (.slice none 0 0)
  simpa [setL] using this
theorem ints_new3 (w : World) (x y z : Int) : ∀ i, i < [x, y, z].length → (w.alloc (.cells #[.int .i64 x, .int .i64 y, .int .i64 z] 3)).cell? ⟨w.heap.size, 0 + i, none⟩ = some (.int .i64 ([x, y, z].getD i 0)) := by
  intro i hi
  rw [cell_of_row _ _ _ _ _ _ (heap_alloc_new w (.cells #[.int .i64 x, .int .i64 y, .int .i64 z] 3))]
  match i, hi with
  | 0, _ => rfl
  | 1, _ => rfl
  | 2, _ => rfl
theorem int_new1 (w : World) (x : Int) : ∀ j u, ([.int .i64 x] : List Value)[j]? = some u → (w.alloc (.cells #[.int .i64 x] 3)).cell? ((⟨w.heap.size, 0, none⟩ : Addr).add j) = some u := by
  intro j u hj
  have e : (⟨w.heap.size, 0, none⟩ : Addr).add j = ⟨w.heap.size, j, none⟩ := by unfold Addr.add; split <;> simp_all
  rw [e, cell_of_row _ _ _ _ _ _ (heap_alloc_new w (.cells #[.int .i64 x] 3))]
  simpa using hj
theorem own_alloc {w : World} {B : Nat} {v : Value} {n : Nat} {xs : List Value} (h : w.ownsRow B 3 1 v n xs) (o : Obj) : (w.alloc o).ownsRow B 3 1 v n xs := World.ownsRow.alloc h o
theorem ints_new4 (w : World) (x y z u : Int) : ∀ i, i < [x, y, z, u].length → (w.alloc (.cells #[.int .i64 x, .int .i64 y, .int .i64 z, .int .i64 u] 3)).cell? ⟨w.heap.size, 0 + i, none⟩ = some (.int .i64 ([x, y, z, u].getD i 0)) := by
  intro i hi
  rw [cell_of_row _ _ _ _ _ _ (heap_alloc_new w (.cells #[.int .i64 x, .int .i64 y, .int .i64 z, .int .i64 u] 3))]
  match i, hi with
  | 0, _ => rfl
  | 1, _ => rfl
  | 2, _ => rfl
  | 3, _ => rfl
set_option maxRecDepth 100000 in
set_option maxHeartbeats 12800000 in
theorem msg_any (b d : Int) (w : World) (g n : Nat) (a : Option Addr) (cap : Nat) (zs : List Int) (hc : CurAt w g n a cap zs) (hn : n ≤ 10000000) :
    Calls Try.prog 35 #[.pointer (some ⟨g, 0, none⟩), .agg #[.int .i64 b, .int .i64 d]] w fun e w' => ∃ (m0 m1 m2 m3 m4 m5 m6 m7 : Int) (vl : Value) (L : List Int), e = .returned (.agg #[.int .i64 m0, .int .i64 m1, .int .i64 m2, .int .i64 m3, .int .i64 m4, .int .i64 m5, .int .i64 m6, .int .i64 m7, vl]) ∧ w'.ownsRow w.heap.size 3 1 vl L.length (L.map (Value.int .i64)) ∧ L.length ≤ 20 ∧ Mv g w w' ∧ CurAt w' g (n + 400) a cap zs := by
  have hlt := hc.lt
  have hru := hc.row
  have st0 : Hid (MS0 w ((w.alloc (.cells #[.int .i64 b, .int .i64 d] 30)).alloc (.cells #[.int .i64 0, .int .i64 0, .int .i64 0, .int .i64 0, .int .i64 0, .int .i64 0, .int .i64 0, .int .i64 0, .slice none 0 0] 33)) g n a cap zs b d) := by
    have hb := ((Below.refl w.heap.size w).alloc (Nat.le_refl _) (.cells #[.int .i64 b, .int .i64 d] 30)).alloc (by simp) (.cells #[.int .i64 0, .int .i64 0, .int .i64 0, .int .i64 0, .int .i64 0, .int .i64 0, .int .i64 0, .int .i64 0, .slice none 0 0] 33)
    have k2 := Bk.new (w.alloc (.cells #[.int .i64 b, .int .i64 d] 30)) #[.int .i64 0, .int .i64 0, .int .i64 0, .int .i64 0, .int .i64 0, .int .i64 0, .int .i64 0, .int .i64 0, .slice none 0 0] 33
    simp only [World.size_alloc] at k2
    exact ⟨Mv.of_below hb, hc.keep hb, hlt, hru, (Bk.new _ _ _).alloc _, k2⟩
  clear hc
  obtain ⟨i0, hi, hieq⟩ := Option.map_eq_some_iff.1 info_int
  obtain ⟨hz0, hz1, hz2⟩ : i0.zero = some (.int .i64 0) ∧ i0.size = 1 ∧ i0.bytes = 8 := by simpa using hieq
  clear hieq
  go_enter Try.func35, Try.ntmps35
  go_wp2_with fail
  generalize (w.alloc (.cells #[.int .i64 b, .int .i64 d] 30)).alloc (.cells #[.int .i64 0, .int .i64 0, .int .i64 0, .int .i64 0, .int .i64 0, .int .i64 0, .int .i64 0, .int .i64 0, .slice none 0 0] 33) = w0 at *
  go_cut [5] (fun v5 wc => ∃ (X : Nat) (m0 m1 m2 m3 : Int), v5 = .pointer (some ⟨X, 0, none⟩) ∧ Hid (MS w wc g (n + 12) a cap zs b d X (X + 1) m0 m1 m2 m3 0 0 0 0 (.slice none 0 0) []))
  case first =>
    have st00 : Hid (MS0 w w0.drew g n a cap zs b d) := st0.out.keep ((Below.refl _ _).drew)
    clear st0
    refine wp_region_held_drew (S := fun w' => Bk w' w.heap.size #[.int .i64 b, .int .i64 d] 30) (by kernel_rfl) st00.out.bs (fun hs0 => ?_)
    have st0 := st00
    clear st00
    generalize w0.drew = w00 at *
    refine wpAnyH_take (i := 0) (oi := _) (v := _) rfl (by kernel_rfl) (by kernel_rfl) (by kernel_rfl) (fun _ _ _ h => h) (.inl ⟨by rfl, by intro w hSw; go_simp; with_reducible rfl⟩) hs0 ?_
    simp only [Act.put, List.setIfInBounds_toArray, List.set_cons_zero, List.set_cons_succ]
    refine wpAnyH_take (i := 3) (oi := _) (v := _) rfl (by kernel_rfl) (by kernel_rfl) (by kernel_rfl) (fun _ _ _ h => h) (.inl ⟨by rfl, by intro w hSw; go_simp; with_reducible rfl⟩) hs0 ?_
    simp only [Act.put, List.setIfInBounds_toArray, List.set_cons_zero, List.set_cons_succ]
    refine wpAnyH_take (i := 5) (oi := _) (v := _) rfl (by kernel_rfl) (by kernel_rfl) (by kernel_rfl) (fun _ _ _ h => h) (.inl ⟨by rfl, by intro w hSw; go_simp; with_reducible rfl⟩) hs0 ?_
    simp only [Act.put, List.setIfInBounds_toArray, List.set_cons_zero, List.set_cons_succ]
    refine wpAnyH_take (i := 8) (oi := _) (v := _) rfl (by kernel_rfl) (by kernel_rfl) (by kernel_rfl) (fun _ _ _ h => h) (.inl ⟨by rfl, by intro w hSw; go_simp; with_reducible rfl⟩) hs0 ?_
    simp only [Act.put, List.setIfInBounds_toArray, List.set_cons_zero, List.set_cons_succ]
    refine wpAnyH_take (i := 6) (oi := _) (v := _) rfl (by kernel_rfl) (by kernel_rfl) (by kernel_rfl) (fun _ _ _ h => h) (yieldsIf_bk rfl rfl rfl (fun w' h => h) Try.underlying30 rfl (by kernel_rfl)) hs0 ?_
    simp only [Act.put, List.setIfInBounds_toArray, List.set_cons_zero, List.set_cons_succ]
    refine wpAnyH_take (i := 9) (oi := _) (v := _) rfl (by kernel_rfl) (by kernel_rfl) (by kernel_rfl) (fun _ _ _ h => h) (yieldsIf_bk rfl rfl rfl (fun w' h => h) Try.underlying30 rfl (by kernel_rfl)) hs0 ?_
    simp only [Act.put, List.setIfInBounds_toArray, List.set_cons_zero, List.set_cons_succ]
    refine wpAnyH_ready (rs := [1, 12]) (by kernel_rfl) (by simp) ?_
    refine AllReadyH.cons rfl (fun K hK => ?_) ?_
    · skip
      go_simp
      refine (pick_any 8 _ g (n) a cap zs st0.out.cur (by omega) (by omega) (by omega)).mono ?_
      rintro e w1 ⟨x0, rfl, y0a, y0b, mv, hc⟩
      have st1 : Hid (MS0 w w1 g (n + 2) a cap zs b d) := st0.out.call mv hc
      have hs1 := st1.out.bs
      refine hK.out _ _ hs1 (fun _ => ?_)
      clear hK K mv hc st0
      refine wpAnyH_take (i := 2) (oi := _) (v := _) rfl (by kernel_rfl) (by kernel_rfl) (by kernel_rfl) (fun _ _ _ h => h) (.inl ⟨by rfl, by intro w hSw; go_simp; with_reducible rfl⟩) hs1 ?_
      simp only [Act.put, List.setIfInBounds_toArray, List.set_cons_zero, List.set_cons_succ]
      refine wpAnyH_ready (rs := [4, 12]) (by kernel_rfl) (by simp) ?_
      refine AllReadyH.cons rfl (fun K hK => ?_) ?_
      · skip
        go_simp
        refine (pick_any 4 _ g (n + 2) a cap zs st1.out.cur (by omega) (by omega) (by omega)).mono ?_
        rintro e w2 ⟨x1, rfl, y1a, y1b, mv, hc⟩
        have st2 : Hid (MS0 w w2 g (n + 2 + 2) a cap zs b d) := st1.out.call mv hc
        have hs2 := st2.out.bs
        refine hK.out _ _ hs2 (fun _ => ?_)
        clear hK K mv hc st1
        refine wpAnyH_ready (rs := [7, 12]) (by kernel_rfl) (by simp) ?_
        refine AllReadyH.cons rfl (fun K hK => ?_) ?_
        · skip
          go_simp
          refine (num_any b d _ g (n + 2 + 2) a cap zs st2.out.cur (by omega)).mono ?_
          rintro e w3 ⟨x2, rfl, y2a, y2b, mv, hc⟩
          have st3 : Hid (MS0 w w3 g (n + 2 + 2 + 4) a cap zs b d) := st2.out.call mv hc
          have hs3 := st3.out.bs
          refine hK.out _ _ hs3 (fun _ => ?_)
          clear hK K mv hc st2
          refine wpAnyH_ready (rs := [10, 12]) (by kernel_rfl) (by simp) ?_
          refine AllReadyH.cons rfl (fun K hK => ?_) ?_
          · skip
            go_simp
            refine (num_any b d _ g (n + 2 + 2 + 4) a cap zs st3.out.cur (by omega)).mono ?_
            rintro e w4 ⟨x3, rfl, y3a, y3b, mv, hc⟩
            have st4 : Hid (MS0 w w4 g (n + 2 + 2 + 4 + 4) a cap zs b d) := st3.out.call mv hc
            have hs4 := st4.out.bs
            refine hK.out _ _ hs4 (fun _ => ?_)
            clear hK K mv hc st3
            refine wpAnyH_take (i := 11) (oi := _) (v := _) rfl (by kernel_rfl) (by kernel_rfl) (by kernel_rfl) (fun _ _ _ h => h) (.inl ⟨by rfl, by intro w hSw; go_simp; with_reducible rfl⟩) hs4 ?_
            simp only [Act.put, List.setIfInBounds_toArray, List.set_cons_zero, List.set_cons_succ]
            refine wpAnyH_ready (rs := [12]) (by kernel_rfl) (by simp) ?_
            refine AllReadyH.cons rfl (fun K hK => ?_) AllReadyH.nil
            go_simp
            obtain ⟨X, hX⟩ : ∃ X, w4.heap.size = X := ⟨_, rfl⟩
            have st5 : Hid (MS w (w4.alloc (.cells #[.int .i64 0, .int .i64 0, .int .i64 0, .int .i64 0, .int .i64 0, .int .i64 0, .int .i64 0, .int .i64 0, .slice none 0 0] 33)) g (n + 2 + 2 + 4 + 4) a cap zs b d X (X + 1) 0 0 0 0 0 0 0 0 (.slice none 0 0) []) := by rw [← hX]; exact st4.out.new
            rw [hX]
            have hs5 := st5.out.s0.bs
            refine hK.out _ _ hs5 (fun _ => ?_)
            clear hK K st4
            clear hX
            generalize w4.alloc (.cells #[.int .i64 0, .int .i64 0, .int .i64 0, .int .i64 0, .int .i64 0, .int .i64 0, .int .i64 0, .int .i64 0, .slice none 0 0] 33) = w5 at *
            refine wpAnyH_ready (rs := [13]) (by kernel_rfl) (by simp) ?_
            refine AllReadyH.cons rfl (fun K hK => ?_) AllReadyH.nil
            obtain ⟨q0, q1, q2, q3, q4, q5, q6, q7, q8⟩ := Bk.c9 st5.out.bx
            obtain ⟨f0, f1, f2, f3, f4, f5, f6, f7, f8⟩ := Bk.f9 st5.out.bx
            go_simp
            have sE := st5.out.all (IntKind.i64.wrap (1 + x0)) x1 x2 x3
            refine hK.out _ _ sE.s0.bs (fun _ => ?_)
            clear hK K q0 q1 q2 q3 q4 q5 q6 q7 q8 f0 f1 f2 f3 f4 f5 f6 f7 f8
            refine wpAnyH_done (by kernel_rfl) ?_ _
            go_wp2_with fail
            go_meet
            exact ⟨X, IntKind.i64.wrap (1 + x0), x1, x2, x3, rfl, sE⟩
          refine AllReadyH.cons rfl (fun K hK => ?_) AllReadyH.nil
          go_simp
          obtain ⟨X, hX⟩ : ∃ X, w3.heap.size = X := ⟨_, rfl⟩
          have st4 : Hid (MS w (w3.alloc (.cells #[.int .i64 0, .int .i64 0, .int .i64 0, .int .i64 0, .int .i64 0, .int .i64 0, .int .i64 0, .int .i64 0, .slice none 0 0] 33)) g (n + 2 + 2 + 4) a cap zs b d X (X + 1) 0 0 0 0 0 0 0 0 (.slice none 0 0) []) := by rw [← hX]; exact st3.out.new
          rw [hX]
          have hs4 := st4.out.s0.bs
          refine hK.out _ _ hs4 (fun _ => ?_)
          clear hK K st3
          clear hX
          generalize w3.alloc (.cells #[.int .i64 0, .int .i64 0, .int .i64 0, .int .i64 0, .int .i64 0, .int .i64 0, .int .i64 0, .int .i64 0, .slice none 0 0] 33) = w4 at *
          refine wpAnyH_ready (rs := [10]) (by kernel_rfl) (by simp) ?_
          refine AllReadyH.cons rfl (fun K hK => ?_) AllReadyH.nil
          go_simp
          refine (num_any b d _ g (n + 2 + 2 + 4) a cap zs st4.out.s0.cur (by omega)).mono ?_
          rintro e w5 ⟨x3, rfl, y3a, y3b, mv, hc⟩
          have st5 : Hid (MS w w5 g (n + 2 + 2 + 4 + 4) a cap zs b d X (X + 1) 0 0 0 0 0 0 0 0 (.slice none 0 0) []) := st4.out.call mv hc
          have hs5 := st5.out.s0.bs
          refine hK.out _ _ hs5 (fun _ => ?_)
          clear hK K mv hc st4
          refine wpAnyH_take (i := 11) (oi := _) (v := _) rfl (by kernel_rfl) (by kernel_rfl) (by kernel_rfl) (fun _ _ _ h => h) (.inl ⟨by rfl, by intro w hSw; go_simp; with_reducible rfl⟩) hs5 ?_
          simp only [Act.put, List.setIfInBounds_toArray, List.set_cons_zero, List.set_cons_succ]
          refine wpAnyH_ready (rs := [13]) (by kernel_rfl) (by simp) ?_
          refine AllReadyH.cons rfl (fun K hK => ?_) AllReadyH.nil
          obtain ⟨q0, q1, q2, q3, q4, q5, q6, q7, q8⟩ := Bk.c9 st5.out.bx
          obtain ⟨f0, f1, f2, f3, f4, f5, f6, f7, f8⟩ := Bk.f9 st5.out.bx
          go_simp
          have sE := st5.out.all (IntKind.i64.wrap (1 + x0)) x1 x2 x3
          refine hK.out _ _ sE.s0.bs (fun _ => ?_)
          clear hK K q0 q1 q2 q3 q4 q5 q6 q7 q8 f0 f1 f2 f3 f4 f5 f6 f7 f8
          refine wpAnyH_done (by kernel_rfl) ?_ _
          go_wp2_with fail
          go_meet
          exact ⟨X, IntKind.i64.wrap (1 + x0), x1, x2, x3, rfl, sE⟩
        refine AllReadyH.cons rfl (fun K hK => ?_) AllReadyH.nil
        go_simp
        obtain ⟨X, hX⟩ : ∃ X, w2.heap.size = X := ⟨_, rfl⟩
        have st3 : Hid (MS w (w2.alloc (.cells #[.int .i64 0, .int .i64 0, .int .i64 0, .int .i64 0, .int .i64 0, .int .i64 0, .int .i64 0, .int .i64 0, .slice none 0 0] 33)) g (n + 2 + 2) a cap zs b d X (X + 1) 0 0 0 0 0 0 0 0 (.slice none 0 0) []) := by rw [← hX]; exact st2.out.new
        rw [hX]
        have hs3 := st3.out.s0.bs
        refine hK.out _ _ hs3 (fun _ => ?_)
        clear hK K st2
        clear hX
        generalize w2.alloc (.cells #[.int .i64 0, .int .i64 0, .int .i64 0, .int .i64 0, .int .i64 0, .int .i64 0, .int .i64 0, .int .i64 0, .slice none 0 0] 33) = w3 at *
        refine wpAnyH_ready (rs := [7]) (by kernel_rfl) (by simp) ?_
        refine AllReadyH.cons rfl (fun K hK => ?_) AllReadyH.nil
        go_simp
        refine (num_any b d _ g (n + 2 + 2) a cap zs st3.out.s0.cur (by omega)).mono ?_
        rintro e w4 ⟨x2, rfl, y2a, y2b, mv, hc⟩
        have st4 : Hid (MS w w4 g (n + 2 + 2 + 4) a cap zs b d X (X + 1) 0 0 0 0 0 0 0 0 (.slice none 0 0) []) := st3.out.call mv hc
        have hs4 := st4.out.s0.bs
        refine hK.out _ _ hs4 (fun _ => ?_)
        clear hK K mv hc st3
        refine wpAnyH_ready (rs := [10]) (by kernel_rfl) (by simp) ?_
        refine AllReadyH.cons rfl (fun K hK => ?_) AllReadyH.nil
        go_simp
        refine (num_any b d _ g (n + 2 + 2 + 4) a cap zs st4.out.s0.cur (by omega)).mono ?_
        rintro e w5 ⟨x3, rfl, y3a, y3b, mv, hc⟩
        have st5 : Hid (MS w w5 g (n + 2 + 2 + 4 + 4) a cap zs b d X (X + 1) 0 0 0 0 0 0 0 0 (.slice none 0 0) []) := st4.out.call mv hc
        have hs5 := st5.out.s0.bs
        refine hK.out _ _ hs5 (fun _ => ?_)
        clear hK K mv hc st4
        refine wpAnyH_take (i := 11) (oi := _) (v := _) rfl (by kernel_rfl) (by kernel_rfl) (by kernel_rfl) (fun _ _ _ h => h) (.inl ⟨by rfl, by intro w hSw; go_simp; with_reducible rfl⟩) hs5 ?_
        simp only [Act.put, List.setIfInBounds_toArray, List.set_cons_zero, List.set_cons_succ]
        refine wpAnyH_ready (rs := [13]) (by kernel_rfl) (by simp) ?_
        refine AllReadyH.cons rfl (fun K hK => ?_) AllReadyH.nil
        obtain ⟨q0, q1, q2, q3, q4, q5, q6, q7, q8⟩ := Bk.c9 st5.out.bx
        obtain ⟨f0, f1, f2, f3, f4, f5, f6, f7, f8⟩ := Bk.f9 st5.out.bx
        go_simp
        have sE := st5.out.all (IntKind.i64.wrap (1 + x0)) x1 x2 x3
        refine hK.out _ _ sE.s0.bs (fun _ => ?_)
        clear hK K q0 q1 q2 q3 q4 q5 q6 q7 q8 f0 f1 f2 f3 f4 f5 f6 f7 f8
        refine wpAnyH_done (by kernel_rfl) ?_ _
        go_wp2_with fail
        go_meet
        exact ⟨X, IntKind.i64.wrap (1 + x0), x1, x2, x3, rfl, sE⟩
      refine AllReadyH.cons rfl (fun K hK => ?_) AllReadyH.nil
      go_simp
      obtain ⟨X, hX⟩ : ∃ X, w1.heap.size = X := ⟨_, rfl⟩
      have st2 : Hid (MS w (w1.alloc (.cells #[.int .i64 0, .int .i64 0, .int .i64 0, .int .i64 0, .int .i64 0, .int .i64 0, .int .i64 0, .int .i64 0, .slice none 0 0] 33)) g (n + 2) a cap zs b d X (X + 1) 0 0 0 0 0 0 0 0 (.slice none 0 0) []) := by rw [← hX]; exact st1.out.new
      rw [hX]
      have hs2 := st2.out.s0.bs
      refine hK.out _ _ hs2 (fun _ => ?_)
      clear hK K st1
      clear hX
      generalize w1.alloc (.cells #[.int .i64 0, .int .i64 0, .int .i64 0, .int .i64 0, .int .i64 0, .int .i64 0, .int .i64 0, .int .i64 0, .slice none 0 0] 33) = w2 at *
      refine wpAnyH_ready (rs := [4]) (by kernel_rfl) (by simp) ?_
      refine AllReadyH.cons rfl (fun K hK => ?_) AllReadyH.nil
      go_simp
      refine (pick_any 4 _ g (n + 2) a cap zs st2.out.s0.cur (by omega) (by omega) (by omega)).mono ?_
      rintro e w3 ⟨x1, rfl, y1a, y1b, mv, hc⟩
      have st3 : Hid (MS w w3 g (n + 2 + 2) a cap zs b d X (X + 1) 0 0 0 0 0 0 0 0 (.slice none 0 0) []) := st2.out.call mv hc
      have hs3 := st3.out.s0.bs
      refine hK.out _ _ hs3 (fun _ => ?_)
      clear hK K mv hc st2
      refine wpAnyH_ready (rs := [7]) (by kernel_rfl) (by simp) ?_
      refine AllReadyH.cons rfl (fun K hK => ?_) AllReadyH.nil
      go_simp
      refine (num_any b d _ g (n + 2 + 2) a cap zs st3.out.s0.cur (by omega)).mono ?_
      rintro e w4 ⟨x2, rfl, y2a, y2b, mv, hc⟩
      have st4 : Hid (MS w w4 g (n + 2 + 2 + 4) a cap zs b d X (X + 1) 0 0 0 0 0 0 0 0 (.slice none 0 0) []) := st3.out.call mv hc
      have hs4 := st4.out.s0.bs
      refine hK.out _ _ hs4 (fun _ => ?_)
      clear hK K mv hc st3
      refine wpAnyH_ready (rs := [10]) (by kernel_rfl) (by simp) ?_
      refine AllReadyH.cons rfl (fun K hK => ?_) AllReadyH.nil
      go_simp
      refine (num_any b d _ g (n + 2 + 2 + 4) a cap zs st4.out.s0.cur (by omega)).mono ?_
      rintro e w5 ⟨x3, rfl, y3a, y3b, mv, hc⟩
      have st5 : Hid (MS w w5 g (n + 2 + 2 + 4 + 4) a cap zs b d X (X + 1) 0 0 0 0 0 0 0 0 (.slice none 0 0) []) := st4.out.call mv hc
      have hs5 := st5.out.s0.bs
      refine hK.out _ _ hs5 (fun _ => ?_)
      clear hK K mv hc st4
      refine wpAnyH_take (i := 11) (oi := _) (v := _) rfl (by kernel_rfl) (by kernel_rfl) (by kernel_rfl) (fun _ _ _ h => h) (.inl ⟨by rfl, by intro w hSw; go_simp; with_reducible rfl⟩) hs5 ?_
      simp only [Act.put, List.setIfInBounds_toArray, List.set_cons_zero, List.set_cons_succ]
      refine wpAnyH_ready (rs := [13]) (by kernel_rfl) (by simp) ?_
      refine AllReadyH.cons rfl (fun K hK => ?_) AllReadyH.nil
      obtain ⟨q0, q1, q2, q3, q4, q5, q6, q7, q8⟩ := Bk.c9 st5.out.bx
      obtain ⟨f0, f1, f2, f3, f4, f5, f6, f7, f8⟩ := Bk.f9 st5.out.bx
      go_simp
      have sE := st5.out.all (IntKind.i64.wrap (1 + x0)) x1 x2 x3
      refine hK.out _ _ sE.s0.bs (fun _ => ?_)
      clear hK K q0 q1 q2 q3 q4 q5 q6 q7 q8 f0 f1 f2 f3 f4 f5 f6 f7 f8
      refine wpAnyH_done (by kernel_rfl) ?_ _
      go_wp2_with fail
      go_meet
      exact ⟨X, IntKind.i64.wrap (1 + x0), x1, x2, x3, rfl, sE⟩
    refine AllReadyH.cons rfl (fun K hK => ?_) AllReadyH.nil
    go_simp
    obtain ⟨X, hX⟩ : ∃ X, w00.heap.size = X := ⟨_, rfl⟩
    have st1 : Hid (MS w (w00.alloc (.cells #[.int .i64 0, .int .i64 0, .int .i64 0, .int .i64 0, .int .i64 0, .int .i64 0, .int .i64 0, .int .i64 0, .slice none 0 0] 33)) g (n) a cap zs b d X (X + 1) 0 0 0 0 0 0 0 0 (.slice none 0 0) []) := by rw [← hX]; exact st0.out.new
    rw [hX]
    have hs1 := st1.out.s0.bs
    refine hK.out _ _ hs1 (fun _ => ?_)
    clear hK K st0
    clear hX
    generalize w00.alloc (.cells #[.int .i64 0, .int .i64 0, .int .i64 0, .int .i64 0, .int .i64 0, .int .i64 0, .int .i64 0, .int .i64 0, .slice none 0 0] 33) = w1 at *
    refine wpAnyH_ready (rs := [1]) (by kernel_rfl) (by simp) ?_
    refine AllReadyH.cons rfl (fun K hK => ?_) AllReadyH.nil
    go_simp
    refine (pick_any 8 _ g (n) a cap zs st1.out.s0.cur (by omega) (by omega) (by omega)).mono ?_
    rintro e w2 ⟨x0, rfl, y0a, y0b, mv, hc⟩
    have st2 : Hid (MS w w2 g (n + 2) a cap zs b d X (X + 1) 0 0 0 0 0 0 0 0 (.slice none 0 0) []) := st1.out.call mv hc
    have hs2 := st2.out.s0.bs
    refine hK.out _ _ hs2 (fun _ => ?_)
    clear hK K mv hc st1
    refine wpAnyH_take (i := 2) (oi := _) (v := _) rfl (by kernel_rfl) (by kernel_rfl) (by kernel_rfl) (fun _ _ _ h => h) (.inl ⟨by rfl, by intro w hSw; go_simp; with_reducible rfl⟩) hs2 ?_
    simp only [Act.put, List.setIfInBounds_toArray, List.set_cons_zero, List.set_cons_succ]
    refine wpAnyH_ready (rs := [4]) (by kernel_rfl) (by simp) ?_
    refine AllReadyH.cons rfl (fun K hK => ?_) AllReadyH.nil
    go_simp
    refine (pick_any 4 _ g (n + 2) a cap zs st2.out.s0.cur (by omega) (by omega) (by omega)).mono ?_
    rintro e w3 ⟨x1, rfl, y1a, y1b, mv, hc⟩
    have st3 : Hid (MS w w3 g (n + 2 + 2) a cap zs b d X (X + 1) 0 0 0 0 0 0 0 0 (.slice none 0 0) []) := st2.out.call mv hc
    have hs3 := st3.out.s0.bs
    refine hK.out _ _ hs3 (fun _ => ?_)
    clear hK K mv hc st2
    refine wpAnyH_ready (rs := [7]) (by kernel_rfl) (by simp) ?_
    refine AllReadyH.cons rfl (fun K hK => ?_) AllReadyH.nil
    go_simp
    refine (num_any b d _ g (n + 2 + 2) a cap zs st3.out.s0.cur (by omega)).mono ?_
    rintro e w4 ⟨x2, rfl, y2a, y2b, mv, hc⟩
    have st4 : Hid (MS w w4 g (n + 2 + 2 + 4) a cap zs b d X (X + 1) 0 0 0 0 0 0 0 0 (.slice none 0 0) []) := st3.out.call mv hc
    have hs4 := st4.out.s0.bs
    refine hK.out _ _ hs4 (fun _ => ?_)
    clear hK K mv hc st3
    refine wpAnyH_ready (rs := [10]) (by kernel_rfl) (by simp) ?_
    refine AllReadyH.cons rfl (fun K hK => ?_) AllReadyH.nil
    go_simp
    refine (num_any b d _ g (n + 2 + 2 + 4) a cap zs st4.out.s0.cur (by omega)).mono ?_
    rintro e w5 ⟨x3, rfl, y3a, y3b, mv, hc⟩
    have st5 : Hid (MS w w5 g (n + 2 + 2 + 4 + 4) a cap zs b d X (X + 1) 0 0 0 0 0 0 0 0 (.slice none 0 0) []) := st4.out.call mv hc
    have hs5 := st5.out.s0.bs
    refine hK.out _ _ hs5 (fun _ => ?_)
    clear hK K mv hc st4
    refine wpAnyH_take (i := 11) (oi := _) (v := _) rfl (by kernel_rfl) (by kernel_rfl) (by kernel_rfl) (fun _ _ _ h => h) (.inl ⟨by rfl, by intro w hSw; go_simp; with_reducible rfl⟩) hs5 ?_
    simp only [Act.put, List.setIfInBounds_toArray, List.set_cons_zero, List.set_cons_succ]
    refine wpAnyH_ready (rs := [13]) (by kernel_rfl) (by simp) ?_
    refine AllReadyH.cons rfl (fun K hK => ?_) AllReadyH.nil
    obtain ⟨q0, q1, q2, q3, q4, q5, q6, q7, q8⟩ := Bk.c9 st5.out.bx
    obtain ⟨f0, f1, f2, f3, f4, f5, f6, f7, f8⟩ := Bk.f9 st5.out.bx
    go_simp
    have sE := st5.out.all (IntKind.i64.wrap (1 + x0)) x1 x2 x3
    refine hK.out _ _ sE.s0.bs (fun _ => ?_)
    clear hK K q0 q1 q2 q3 q4 q5 q6 q7 q8 f0 f1 f2 f3 f4 f5 f6 f7 f8
    refine wpAnyH_done (by kernel_rfl) ?_ _
    go_wp2_with fail
    go_meet
    exact ⟨X, IntKind.i64.wrap (1 + x0), x1, x2, x3, rfl, sE⟩
  case rest =>
    obtain ⟨X, m0, m1, m2, m3, rfl, st⟩ := hcut
    clear st0
    obtain ⟨q0, q1, q2, q3, q4, q5, q6, q7, q8⟩ := Bk.c9 st.out.bx
    go_wp2_with fail
    refine (lfieldsOf_any m0 _).mono ?_
    rintro e w1 ⟨aF, nF, cF, rfl, hnF, hcF, oF, hw⟩
    clear q0 q1 q2 q3 q4 q5 q6 q7 q8
    have hXl := st.out.bx.lt
    have mf : Hid (MF w w1 g (n + 12) a cap zs b d X wc.heap.size w1.heap.size m0 m1 m2 m3 0 0 0 0 (.slice none 0 0) [] aF nF (fld m0)) := ⟨(st.out.keep hw).rebase (by have := hw.size; omega) (Nat.le_refl _), hXl, oF⟩
    have hB0 : w.heap.size ≤ w1.heap.size := Nat.le_trans st.out.s0.mv.size hw.size
    clear hw oF st hXl
    generalize wc.heap.size = T at *
    obtain ⟨B0, hB⟩ : ∃ B0, w1.heap.size = B0 := ⟨_, rfl⟩
    rw [hB] at mf hB0
    clear hB
    have hF4 := fld_big m0
    obtain ⟨FL, hFL⟩ : ∃ F, Hid (fld m0 = F) := ⟨_, rfl⟩
    have hFm : Hid (∀ j, j < nF → 1 ≤ FL.getD j 0 ∧ FL.getD j 0 ≤ 5) := fun j hj => by rw [← hFL.out]; exact fld_mem m0 j (by omega)
    rw [hFL.out] at mf hnF hF4
    clear hFL
    go_wp2_with fail
    go_loopw [25] (fun vi wr => ∃ (j : Nat) (k0 k1 k2 k3 k4 k5 k6 k7 : Int) (vl : Value) (L : List Int) (N : Nat), vi = .int .i64 j ∧ j ≤ nF ∧ N ≤ n + 12 + 40 * j ∧ L.length ≤ 4 * j ∧ Hid (MF w wr g N a cap zs b d X T B0 k0 k1 k2 k3 k4 k5 k6 k7 vl L aF nF FL)) (fun vi _ => nF - (intOf vi).toNat)
    case atStart => exact ⟨0, m0, m1, m2, m3, 0, 0, 0, 0, _, [], n + 12, rfl, Nat.zero_le _, by omega, by simp, mf⟩
    case round =>
      clear mf
      obtain ⟨j, k0, k1, k2, k3, k4, k5, k6, k7, vl, L, N, rfl, hj, hN, hL, mf⟩ := hrel
      obtain ⟨s0, s1⟩ := Bk.c2 mf.out.ms.s0.bs
      obtain ⟨q0, q1, q2, q3, q4, q5, q6, q7, q8⟩ := Bk.c9 mf.out.ms.bx
      by_cases hlt2 : j < nF
      · obtain ⟨g1, g2⟩ := hFm.out j hlt2
        obtain ⟨bk, off, hform⟩ := rowAt_form mf.out.fl.rowAt (by omega)
        subst hform
        have hc1 := (rowAt_cell mf.out.fl.rowAt (by omega)).2 j (by omega)
        have h9 : FL.getD j 0 = 1 ∨ FL.getD j 0 = 2 ∨ FL.getD j 0 = 3 ∨ FL.getD j 0 = 4 ∨ FL.getD j 0 = 5 := by omega
        clear g1 g2
        rcases h9 with h9 | h9 | h9 | h9 | h9
        · rw [h9] at hc1
          clear h9
          go_wp2_with fail
          refine (num_any b d _ g N a cap zs mf.out.ms.s0.cur (by omega)).mono ?_
          rintro e w2 ⟨x, rfl, _, _, mv, hc⟩
          have mf2 : Hid (MF w w2 g (N + 4) a cap zs b d X T B0 k0 k1 k2 k3 k4 k5 k6 k7 vl L (some ⟨bk, off, none⟩) nF FL) := mf.out.call mv hc
          clear mf mv hc s0 s1 q0 q1 q2 q3 q4 q5 q6 q7 q8
          obtain ⟨q0, q1, q2, q3, q4, q5, q6, q7, q8⟩ := Bk.c9 mf2.out.ms.bx
          obtain ⟨f0, f1, f2, f3, f4, f5, f6, f7, f8⟩ := Bk.f9 mf2.out.ms.bx
          have mf3 := mf2.out.set 4 x rfl
          have HM3 : Hid _ := mf3
          clear mf3 mf2
          go_wp2
          go_roundw
          case rel => exact ⟨j + 1, k0, k1, k2, k3, x, k5, k6, k7, vl, L, N + 4, by go_num, by omega, by omega, by omega, HM3⟩
          case measure => simp [intOf]; omega
        · rw [h9] at hc1
          clear h9
          go_wp2_with fail
          refine (num_any b d _ g N a cap zs mf.out.ms.s0.cur (by omega)).mono ?_
          rintro e w2 ⟨x, rfl, _, _, mv, hc⟩
          have mf2 : Hid (MF w w2 g (N + 4) a cap zs b d X T B0 k0 k1 k2 k3 k4 k5 k6 k7 vl L (some ⟨bk, off, none⟩) nF FL) := mf.out.call mv hc
          clear mf mv hc s0 s1 q0 q1 q2 q3 q4 q5 q6 q7 q8
          obtain ⟨q0, q1, q2, q3, q4, q5, q6, q7, q8⟩ := Bk.c9 mf2.out.ms.bx
          obtain ⟨f0, f1, f2, f3, f4, f5, f6, f7, f8⟩ := Bk.f9 mf2.out.ms.bx
          have mf3 := mf2.out.set 5 x rfl
          have HM3 : Hid _ := mf3
          clear mf3 mf2
          go_wp2
          go_roundw
          case rel => exact ⟨j + 1, k0, k1, k2, k3, k4, x, k6, k7, vl, L, N + 4, by go_num, by omega, by omega, by omega, HM3⟩
          case measure => simp [intOf]; omega
        · rw [h9] at hc1
          clear h9
          go_wp2_with fail
          refine (pick_any 2 _ g N a cap zs mf.out.ms.s0.cur (by omega) (by omega) (by omega)).mono ?_
          rintro e w2 ⟨x, rfl, _, _, mv, hc⟩
          have mf2 : Hid (MF w w2 g (N + 2) a cap zs b d X T B0 k0 k1 k2 k3 k4 k5 k6 k7 vl L (some ⟨bk, off, none⟩) nF FL) := mf.out.call mv hc
          clear mf mv hc s0 s1 q0 q1 q2 q3 q4 q5 q6 q7 q8
          obtain ⟨q0, q1, q2, q3, q4, q5, q6, q7, q8⟩ := Bk.c9 mf2.out.ms.bx
          obtain ⟨f0, f1, f2, f3, f4, f5, f6, f7, f8⟩ := Bk.f9 mf2.out.ms.bx
          have mf3 := mf2.out.set 6 x rfl
          have HM3 : Hid _ := mf3
          clear mf3 mf2
          go_wp2
          go_roundw
          case rel => exact ⟨j + 1, k0, k1, k2, k3, k4, k5, x, k7, vl, L, N + 2, by go_num, by omega, by omega, by omega, HM3⟩
          case measure => simp [intOf]; omega
        · rw [h9] at hc1
          clear h9
          go_wp2_with fail
          refine (among_any [0, 3, 300, 1000] _ _ _ g N a cap zs (mf.out.ms.s0.cur.keep ((Below.refl _ _).alloc (Nat.le_refl _) _)) (by omega) (by simp) (by simp) (by simp) (by have := mf.out.ms.s0.lt; have := mf.out.ms.s0.mv.size; omega) (ints_new4 _ _ _ _ _)).mono ?_
          rintro e w2 ⟨x, rfl, _, mv, hc⟩
          have mf2 : Hid (MF w w2 g (N + 2) a cap zs b d X T B0 k0 k1 k2 k3 k4 k5 k6 k7 vl L (some ⟨bk, off, none⟩) nF FL) := (mf.out.keep ((Below.refl _ _).alloc (Nat.le_refl _) _)).call mv hc
          clear mf mv hc s0 s1 q0 q1 q2 q3 q4 q5 q6 q7 q8
          obtain ⟨q0, q1, q2, q3, q4, q5, q6, q7, q8⟩ := Bk.c9 mf2.out.ms.bx
          obtain ⟨f0, f1, f2, f3, f4, f5, f6, f7, f8⟩ := Bk.f9 mf2.out.ms.bx
          have mf3 := mf2.out.set 7 x rfl
          have HM3 : Hid _ := mf3
          clear mf3 mf2
          go_wp2
          go_roundw
          case rel => exact ⟨j + 1, k0, k1, k2, k3, k4, k5, k6, x, vl, L, N + 2, by go_num, by omega, by omega, by omega, HM3⟩
          case measure => simp [intOf]; omega
        · rw [h9] at hc1
          clear h9
          go_wp2_with fail
          refine (pick_any 5 _ g N a cap zs mf.out.ms.s0.cur (by omega) (by omega) (by omega)).mono ?_
          rintro e w2 ⟨x, rfl, xl, xu, mv, hc⟩
          have mfi : Hid (MF w w2 g (N + 2) a cap zs b d X T B0 k0 k1 k2 k3 k4 k5 k6 k7 vl L (some ⟨bk, off, none⟩) nF FL) := mf.out.call mv hc
          clear mf mv hc s0 s1 q0 q1 q2 q3 q4 q5 q6 q7 q8
          obtain ⟨NB, hNB⟩ : ∃ NB, N + 2 = NB := ⟨_, rfl⟩
          rw [hNB] at mfi
          go_wp2_with fail
          go_loopw [8] (fun v8 wr => ∃ (q : Int) (vl : Value) (L : List Int) (N : Nat), v8 = .int .i64 q ∧ 0 ≤ q ∧ q ≤ 4 ∧ (N : Int) ≤ NB + 4 * (4 - q) ∧ (L.length : Int) + q ≤ 4 * j + 4 ∧ Hid (MF w wr g N a cap zs b d X T B0 k0 k1 k2 k3 k4 k5 k6 k7 vl L (some ⟨bk, off, none⟩) nF FL)) (fun v8 _ => (intOf v8).toNat)
          case atStart => exact ⟨x, vl, L, NB, rfl, by omega, by omega, by omega, by omega, mfi⟩
          case round =>
            clear mfi
            obtain ⟨q, vl, L, N, rfl, ql, qu, hN2, hL2, mfi⟩ := hrel
            by_cases hq : 0 < q
            · go_wp2_with fail
              refine wp_region_held_drew (S := fun w' => Bk w' w.heap.size #[.int .i64 b, .int .i64 d] 30) (by kernel_rfl) (mfi.out.ms.s0.bs.drew) (fun hs0 => ?_)
              have mf0 : Hid (MF w wr.drew g N a cap zs b d X T B0 k0 k1 k2 k3 k4 k5 k6 k7 vl L (some ⟨bk, off, none⟩) nF FL) := mfi.out.keep ((Below.refl _ _).drew)
              clear mfi
              generalize wr.drew = wd at *
              refine wpAnyH_take (i := 0) (oi := _) (v := _) rfl (by kernel_rfl) (by kernel_rfl) (by kernel_rfl) (fun _ _ _ h => h) (.inl ⟨by rfl, by intro w hSw; go_simp; with_reducible rfl⟩) hs0 ?_
              simp only [Act.put, List.setIfInBounds_toArray, List.set_cons_zero, List.set_cons_succ]
              refine wpAnyH_take (i := 2) (oi := _) (v := _) rfl (by kernel_rfl) (by kernel_rfl) (by kernel_rfl) (fun _ _ _ h => h) (.inl ⟨by rfl, by intro w hSw; go_simp; with_reducible rfl⟩) hs0 ?_
              simp only [Act.put, List.setIfInBounds_toArray, List.set_cons_zero, List.set_cons_succ]
              refine wpAnyH_take (i := 3) (oi := _) (v := _) rfl (by kernel_rfl) (by kernel_rfl) (by kernel_rfl) (fun _ _ _ h => h) (yieldsIf_bk rfl rfl rfl (fun w' h => h) Try.underlying30 rfl (by kernel_rfl)) hs0 ?_
              simp only [Act.put, List.setIfInBounds_toArray, List.set_cons_zero, List.set_cons_succ]
              refine wpAnyH_ready (rs := [1, 4]) (by kernel_rfl) (by simp) ?_
              refine AllReadyH.cons rfl (fun K hK => ?_) ?_
              · skip
                have q8 := mf0.out.ms.bx.cell 8
                simp at q8
                go_simp
                have mf1 := mf0
                have hs1 := hs0
                refine hK.out _ _ hs1 (fun _ => ?_)
                clear hK K q8 mf0
                refine wpAnyH_ready (rs := [4]) (by kernel_rfl) (by simp) ?_
                refine AllReadyH.cons rfl (fun K hK => ?_) AllReadyH.nil
                go_simp
                refine (num_any b d _ g (N) a cap zs mf1.out.ms.s0.cur (by omega)).mono ?_
                rintro e w2 ⟨x, rfl, _, _, mv, hc⟩
                have mf2 : Hid (MF w w2 g (N + 4) a cap zs b d X T B0 k0 k1 k2 k3 k4 k5 k6 k7 vl L (some ⟨bk, off, none⟩) nF FL) := mf1.out.call mv hc
                have hs2 := mf2.out.ms.s0.bs
                refine hK.out _ _ hs2 (fun _ => ?_)
                clear hK K mv hc mf1
                refine wpAnyH_ready (rs := [5]) (by kernel_rfl) (by simp) ?_
                refine AllReadyH.cons rfl (fun K hK => ?_) AllReadyH.nil
                go_simp
                have hs3 := mf2.out.ms.s0.bs.alloc (.cells #[.int .i64 x] 3)
                refine hK.out _ _ hs3 (fun _ => ?_)
                clear hK K
                refine wpAnyH_ready (rs := [6]) (by kernel_rfl) (by simp) ?_
                refine AllReadyH.cons rfl (fun K hK => ?_) AllReadyH.nil
                rw [if_pos (by rfl)]
                refine wp_append_gw _ _ _ 31 rfl B0 3 i0 (.int .i64 0) 1 8 Try.underlying31 hi hz0 hz1 hz2 rfl (by decide) _ _ _ rfl (own_alloc mf2.out.ms.ow _) ⟨w2.heap.size, 0, none⟩ 1 1 [.int .i64 x] rfl rfl (int_new1 _ _) (by simp [Value.oneCell']) (by unfold maxLen; omega) (by omega) (Nat.le_trans mf2.out.ms.hB.2 (by simp)) ?_
                intro v5 w5 hown hgrow
                have hg5 : Gw (w2.alloc (.cells #[.int .i64 x] 3)) w5 vl v5 := hgrow
                have ho5 : w5.ownsRow B0 3 1 v5 (L ++ [x]).length ((L ++ [x]).map (Value.int .i64)) := by rw [List.length_append, List.length_singleton, List.map_append]; exact hown
                clear hown hgrow
                obtain ⟨gq, cq, hvq⟩ := Joins.ownsRow_form ho5 (by simp)
                rw [show (L ++ [x]).length = L.length + 1 from by simp] at hvq
                subst hvq
                obtain ⟨hs9, c8, f8⟩ := mf2.out.mid hg5
                have mfE := mf2.out.lst hg5 ho5
                refine hK.out _ _ hs9 (fun _ => ?_)
                clear hK K
                simp only [Act.put, List.setIfInBounds_toArray, List.set_cons_zero, List.set_cons_succ]
                refine wpAnyH_take (i := 7) (oi := _) (v := _) rfl (by kernel_rfl) (by kernel_rfl) (by kernel_rfl) (fun _ _ _ h => h) (.inl ⟨by rfl, by intro w hSw; go_simp; with_reducible rfl⟩) hs9 ?_
                simp only [Act.put, List.setIfInBounds_toArray, List.set_cons_zero, List.set_cons_succ]
                refine wpAnyH_ready (rs := [8]) (by kernel_rfl) (by simp) ?_
                refine AllReadyH.cons rfl (fun K hK => ?_) AllReadyH.nil
                go_simp
                refine hK.out _ _ mfE.ms.s0.bs (fun _ => ?_)
                clear hK K
                refine wpAnyH_done (by kernel_rfl) ?_ _
                have HE : Hid _ := mfE
                clear mfE mf2 c8 f8 hs9 hg5 ho5
                go_wp2
                go_roundw
                case rel => exact ⟨q - 1, _, L ++ [x], N + 4, by go_num, by omega, by omega, by omega, by rw [List.length_append, List.length_singleton]; omega, HE⟩
                case measure => simp [intOf]; omega
              refine AllReadyH.cons rfl (fun K hK => ?_) AllReadyH.nil
              go_simp
              refine (num_any b d _ g (N) a cap zs mf0.out.ms.s0.cur (by omega)).mono ?_
              rintro e w1 ⟨x, rfl, _, _, mv, hc⟩
              have mf1 : Hid (MF w w1 g (N + 4) a cap zs b d X T B0 k0 k1 k2 k3 k4 k5 k6 k7 vl L (some ⟨bk, off, none⟩) nF FL) := mf0.out.call mv hc
              have hs1 := mf1.out.ms.s0.bs
              refine hK.out _ _ hs1 (fun _ => ?_)
              clear hK K mv hc mf0
              refine wpAnyH_ready (rs := [1, 5]) (by kernel_rfl) (by simp) ?_
              refine AllReadyH.cons rfl (fun K hK => ?_) ?_
              · skip
                have q8 := mf1.out.ms.bx.cell 8
                simp at q8
                go_simp
                have mf2 := mf1
                have hs2 := hs1
                refine hK.out _ _ hs2 (fun _ => ?_)
                clear hK K q8 mf1
                refine wpAnyH_ready (rs := [5]) (by kernel_rfl) (by simp) ?_
                refine AllReadyH.cons rfl (fun K hK => ?_) AllReadyH.nil
                go_simp
                have hs3 := mf2.out.ms.s0.bs.alloc (.cells #[.int .i64 x] 3)
                refine hK.out _ _ hs3 (fun _ => ?_)
                clear hK K
                refine wpAnyH_ready (rs := [6]) (by kernel_rfl) (by simp) ?_
                refine AllReadyH.cons rfl (fun K hK => ?_) AllReadyH.nil
                rw [if_pos (by rfl)]
                refine wp_append_gw _ _ _ 31 rfl B0 3 i0 (.int .i64 0) 1 8 Try.underlying31 hi hz0 hz1 hz2 rfl (by decide) _ _ _ rfl (own_alloc mf2.out.ms.ow _) ⟨w1.heap.size, 0, none⟩ 1 1 [.int .i64 x] rfl rfl (int_new1 _ _) (by simp [Value.oneCell']) (by unfold maxLen; omega) (by omega) (Nat.le_trans mf2.out.ms.hB.2 (by simp)) ?_
                intro v5 w5 hown hgrow
                have hg5 : Gw (w1.alloc (.cells #[.int .i64 x] 3)) w5 vl v5 := hgrow
                have ho5 : w5.ownsRow B0 3 1 v5 (L ++ [x]).length ((L ++ [x]).map (Value.int .i64)) := by rw [List.length_append, List.length_singleton, List.map_append]; exact hown
                clear hown hgrow
                obtain ⟨gq, cq, hvq⟩ := Joins.ownsRow_form ho5 (by simp)
                rw [show (L ++ [x]).length = L.length + 1 from by simp] at hvq
                subst hvq
                obtain ⟨hs9, c8, f8⟩ := mf2.out.mid hg5
                have mfE := mf2.out.lst hg5 ho5
                refine hK.out _ _ hs9 (fun _ => ?_)
                clear hK K
                simp only [Act.put, List.setIfInBounds_toArray, List.set_cons_zero, List.set_cons_succ]
                refine wpAnyH_take (i := 7) (oi := _) (v := _) rfl (by kernel_rfl) (by kernel_rfl) (by kernel_rfl) (fun _ _ _ h => h) (.inl ⟨by rfl, by intro w hSw; go_simp; with_reducible rfl⟩) hs9 ?_
                simp only [Act.put, List.setIfInBounds_toArray, List.set_cons_zero, List.set_cons_succ]
                refine wpAnyH_ready (rs := [8]) (by kernel_rfl) (by simp) ?_
                refine AllReadyH.cons rfl (fun K hK => ?_) AllReadyH.nil
                go_simp
                refine hK.out _ _ mfE.ms.s0.bs (fun _ => ?_)
                clear hK K
                refine wpAnyH_done (by kernel_rfl) ?_ _
                have HE : Hid _ := mfE
                clear mfE mf2 c8 f8 hs9 hg5 ho5
                go_wp2
                go_roundw
                case rel => exact ⟨q - 1, _, L ++ [x], N + 4, by go_num, by omega, by omega, by omega, by rw [List.length_append, List.length_singleton]; omega, HE⟩
                case measure => simp [intOf]; omega
              refine AllReadyH.cons rfl (fun K hK => ?_) AllReadyH.nil
              go_simp
              have hs2 := mf1.out.ms.s0.bs.alloc (.cells #[.int .i64 x] 3)
              refine hK.out _ _ hs2 (fun _ => ?_)
              clear hK K
              refine wpAnyH_ready (rs := [1]) (by kernel_rfl) (by simp) ?_
              refine AllReadyH.cons rfl (fun K hK => ?_) AllReadyH.nil
              have q8 := (mf1.out.ms.bx.alloc (.cells #[.int .i64 x] 3)).cell 8
              simp at q8
              go_simp
              have hs3 := hs2
              refine hK.out _ _ hs3 (fun _ => ?_)
              clear hK K q8
              refine wpAnyH_ready (rs := [6]) (by kernel_rfl) (by simp) ?_
              refine AllReadyH.cons rfl (fun K hK => ?_) AllReadyH.nil
              rw [if_pos (by rfl)]
              refine wp_append_gw _ _ _ 31 rfl B0 3 i0 (.int .i64 0) 1 8 Try.underlying31 hi hz0 hz1 hz2 rfl (by decide) _ _ _ rfl (own_alloc mf1.out.ms.ow _) ⟨w1.heap.size, 0, none⟩ 1 1 [.int .i64 x] rfl rfl (int_new1 _ _) (by simp [Value.oneCell']) (by unfold maxLen; omega) (by omega) (Nat.le_trans mf1.out.ms.hB.2 (by simp)) ?_
              intro v5 w5 hown hgrow
              have hg5 : Gw (w1.alloc (.cells #[.int .i64 x] 3)) w5 vl v5 := hgrow
              have ho5 : w5.ownsRow B0 3 1 v5 (L ++ [x]).length ((L ++ [x]).map (Value.int .i64)) := by rw [List.length_append, List.length_singleton, List.map_append]; exact hown
              clear hown hgrow
              obtain ⟨gq, cq, hvq⟩ := Joins.ownsRow_form ho5 (by simp)
              rw [show (L ++ [x]).length = L.length + 1 from by simp] at hvq
              subst hvq
              obtain ⟨hs9, c8, f8⟩ := mf1.out.mid hg5
              have mfE := mf1.out.lst hg5 ho5
              refine hK.out _ _ hs9 (fun _ => ?_)
              clear hK K
              simp only [Act.put, List.setIfInBounds_toArray, List.set_cons_zero, List.set_cons_succ]
              refine wpAnyH_take (i := 7) (oi := _) (v := _) rfl (by kernel_rfl) (by kernel_rfl) (by kernel_rfl) (fun _ _ _ h => h) (.inl ⟨by rfl, by intro w hSw; go_simp; with_reducible rfl⟩) hs9 ?_
              simp only [Act.put, List.setIfInBounds_toArray, List.set_cons_zero, List.set_cons_succ]
              refine wpAnyH_ready (rs := [8]) (by kernel_rfl) (by simp) ?_
              refine AllReadyH.cons rfl (fun K hK => ?_) AllReadyH.nil
              go_simp
              refine hK.out _ _ mfE.ms.s0.bs (fun _ => ?_)
              clear hK K
              refine wpAnyH_done (by kernel_rfl) ?_ _
              have HE : Hid _ := mfE
              clear mfE mf1 c8 f8 hs9 hg5 ho5
              go_wp2
              go_roundw
              case rel => exact ⟨q - 1, _, L ++ [x], N + 4, by go_num, by omega, by omega, by omega, by rw [List.length_append, List.length_singleton]; omega, HE⟩
              case measure => simp [intOf]; omega
            · go_wp2
              go_roundw
              case rel => exact ⟨j + 1, k0, k1, k2, k3, k4, k5, k6, k7, vl, L, N, by go_num, by omega, by omega, by omega, mfi⟩
              case measure => simp [intOf]; omega
      · clear s0 s1 q0 q1 q2 q3 q4 q5 q6 q7 q8
        have hN9 : N ≤ n + 12 + 160 := by omega
        have hL9 : L.length ≤ 16 := by omega
        go_wp2_with fail
        refine (pick_any 25 _ g N a cap zs mf.out.ms.s0.cur (by omega) (by omega) (by omega)).mono ?_
        rintro e w2 ⟨v, rfl, xl, xu, mv, hc⟩
        have ms : Hid (MS w w2 g (N + 2) a cap zs b d X B0 k0 k1 k2 k3 k4 k5 k6 k7 vl L) := mf.out.ms.call mv hc
        clear mf mv hc hFm
        have h9 : v = 0 ∨ v = 1 ∨ v = 2 ∨ v = 3 ∨ 3 < v := by omega
        rcases h9 with rfl | rfl | rfl | rfl | h9
        · go_wp2_with fail
          refine (pick_any 14 _ g (N + 2) a cap zs ms.out.s0.cur (by omega) (by omega) (by omega)).mono ?_
          rintro e w3 ⟨x, rfl, _, _, mv, hc⟩
          have ms2 := (ms.out.call mv hc).set 6 x rfl
          obtain ⟨va, vn, vc, hvl⟩ := ms2.form
          subst hvl
          have HM : Hid (MS w _ g _ a cap zs b d X B0 k0 k1 k2 k3 k4 k5 x k7 (.slice va vn vc) L) := ms2
          have HP : Hid (MS w w3 g _ a cap zs b d X B0 k0 k1 k2 k3 k4 k5 k6 k7 (.slice va vn vc) L) := (ms.out.call mv hc)
          clear ms2 ms mv hc
          obtain ⟨c1, c2, c3, c4⟩ := HP.out.cells
          obtain ⟨q0, q1, q2, q3, q4, q5, q6, q7, q8⟩ := Bk.c9 HP.out.bx
          obtain ⟨f0, f1, f2, f3, f4, f5, f6, f7, f8⟩ := Bk.f9 HP.out.bx
          obtain ⟨r0, r1, r2, r3, r4, r5, r6, r7, r8⟩ := Bk.c9 HP.out.s0.br
          obtain ⟨t0, t1, t2, t3, t4, t5, t6, t7, t8⟩ := Bk.f9 HP.out.s0.br
          go_wp2
          have E1 := HM.out.s0.br.setL [.int .i64 k0, .int .i64 k1, .int .i64 k2, .int .i64 k3, .int .i64 k4, .int .i64 k5, .int .i64 x, .int .i64 k7, .slice va vn vc] 0
          rw [ovr9] at E1
          obtain ⟨E2, E3, E4⟩ := HM.out.fin [.int .i64 k0, .int .i64 k1, .int .i64 k2, .int .i64 k3, .int .i64 k4, .int .i64 k5, .int .i64 x, .int .i64 k7, .slice va vn vc]
          refine bodyPost_ret (results_cell_row Try.results35 _ _ (w.heap.size + 1) _ _ _ _ rfl E1 Try.underlying33 rfl (by kernel_rfl)) rfl ⟨k0, k1, k2, k3, k4, k5, x, k7, .slice va vn vc, L, rfl, E2, by omega, E3, E4.more (by omega)⟩
        · have ms2 := ms.out.set 7 1001 rfl
          obtain ⟨va, vn, vc, hvl⟩ := ms2.form
          subst hvl
          have HM : Hid (MS w _ g _ a cap zs b d X B0 k0 k1 k2 k3 k4 k5 k6 1001 (.slice va vn vc) L) := ms2
          have HP : Hid (MS w w2 g _ a cap zs b d X B0 k0 k1 k2 k3 k4 k5 k6 k7 (.slice va vn vc) L) := ms.out
          clear ms2 ms
          obtain ⟨c1, c2, c3, c4⟩ := HP.out.cells
          obtain ⟨q0, q1, q2, q3, q4, q5, q6, q7, q8⟩ := Bk.c9 HP.out.bx
          obtain ⟨f0, f1, f2, f3, f4, f5, f6, f7, f8⟩ := Bk.f9 HP.out.bx
          obtain ⟨r0, r1, r2, r3, r4, r5, r6, r7, r8⟩ := Bk.c9 HP.out.s0.br
          obtain ⟨t0, t1, t2, t3, t4, t5, t6, t7, t8⟩ := Bk.f9 HP.out.s0.br
          go_wp2
          have E1 := HM.out.s0.br.setL [.int .i64 k0, .int .i64 k1, .int .i64 k2, .int .i64 k3, .int .i64 k4, .int .i64 k5, .int .i64 k6, .int .i64 1001, .slice va vn vc] 0
          rw [ovr9] at E1
          obtain ⟨E2, E3, E4⟩ := HM.out.fin [.int .i64 k0, .int .i64 k1, .int .i64 k2, .int .i64 k3, .int .i64 k4, .int .i64 k5, .int .i64 k6, .int .i64 1001, .slice va vn vc]
          refine bodyPost_ret (results_cell_row Try.results35 _ _ (w.heap.size + 1) _ _ _ _ rfl E1 Try.underlying33 rfl (by kernel_rfl)) rfl ⟨k0, k1, k2, k3, k4, k5, k6, 1001, .slice va vn vc, L, rfl, E2, by omega, E3, E4.more (by omega)⟩
        · go_wp2_with fail
          refine (among_any [-1, 255, 256] _ _ _ g (N + 2) a cap zs (ms.out.s0.cur.keep ((Below.refl _ _).alloc (Nat.le_refl _) _)) (by omega) (by simp) (by simp) (by simp) (by have := ms.out.s0.lt; have := ms.out.s0.mv.size; omega) (ints_new3 _ _ _ _)).mono ?_
          rintro e w3 ⟨x, rfl, _, mv, hc⟩
          have ms2 := ((ms.out.keep ((Below.refl _ _).alloc (Nat.le_refl _) _)).call mv hc).set 1 x rfl
          obtain ⟨va, vn, vc, hvl⟩ := ms2.form
          subst hvl
          have HM : Hid (MS w _ g _ a cap zs b d X B0 k0 x k2 k3 k4 k5 k6 k7 (.slice va vn vc) L) := ms2
          have HP : Hid (MS w w3 g _ a cap zs b d X B0 k0 k1 k2 k3 k4 k5 k6 k7 (.slice va vn vc) L) := ((ms.out.keep ((Below.refl _ _).alloc (Nat.le_refl _) _)).call mv hc)
          clear ms2 ms mv hc
          obtain ⟨c1, c2, c3, c4⟩ := HP.out.cells
          obtain ⟨q0, q1, q2, q3, q4, q5, q6, q7, q8⟩ := Bk.c9 HP.out.bx
          obtain ⟨f0, f1, f2, f3, f4, f5, f6, f7, f8⟩ := Bk.f9 HP.out.bx
          obtain ⟨r0, r1, r2, r3, r4, r5, r6, r7, r8⟩ := Bk.c9 HP.out.s0.br
          obtain ⟨t0, t1, t2, t3, t4, t5, t6, t7, t8⟩ := Bk.f9 HP.out.s0.br
          go_wp2
          have E1 := HM.out.s0.br.setL [.int .i64 k0, .int .i64 x, .int .i64 k2, .int .i64 k3, .int .i64 k4, .int .i64 k5, .int .i64 k6, .int .i64 k7, .slice va vn vc] 0
          rw [ovr9] at E1
          obtain ⟨E2, E3, E4⟩ := HM.out.fin [.int .i64 k0, .int .i64 x, .int .i64 k2, .int .i64 k3, .int .i64 k4, .int .i64 k5, .int .i64 k6, .int .i64 k7, .slice va vn vc]
          refine bodyPost_ret (results_cell_row Try.results35 _ _ (w.heap.size + 1) _ _ _ _ rfl E1 Try.underlying33 rfl (by kernel_rfl)) rfl ⟨k0, x, k2, k3, k4, k5, k6, k7, .slice va vn vc, L, rfl, E2, by omega, E3, E4.more (by omega)⟩
        · go_wp2_with fail
          refine (pick_any 10 _ g (N + 2) a cap zs ms.out.s0.cur (by omega) (by omega) (by omega)).mono ?_
          rintro e w3 ⟨x, rfl, _, _, mv, hc⟩
          have ms2 := (ms.out.call mv hc).set 0 x rfl
          obtain ⟨va, vn, vc, hvl⟩ := ms2.form
          subst hvl
          have HM : Hid (MS w _ g _ a cap zs b d X B0 x k1 k2 k3 k4 k5 k6 k7 (.slice va vn vc) L) := ms2
          have HP : Hid (MS w w3 g _ a cap zs b d X B0 k0 k1 k2 k3 k4 k5 k6 k7 (.slice va vn vc) L) := (ms.out.call mv hc)
          clear ms2 ms mv hc
          obtain ⟨c1, c2, c3, c4⟩ := HP.out.cells
          obtain ⟨q0, q1, q2, q3, q4, q5, q6, q7, q8⟩ := Bk.c9 HP.out.bx
          obtain ⟨f0, f1, f2, f3, f4, f5, f6, f7, f8⟩ := Bk.f9 HP.out.bx
          obtain ⟨r0, r1, r2, r3, r4, r5, r6, r7, r8⟩ := Bk.c9 HP.out.s0.br
          obtain ⟨t0, t1, t2, t3, t4, t5, t6, t7, t8⟩ := Bk.f9 HP.out.s0.br
          go_wp2
          have E1 := HM.out.s0.br.setL [.int .i64 x, .int .i64 k1, .int .i64 k2, .int .i64 k3, .int .i64 k4, .int .i64 k5, .int .i64 k6, .int .i64 k7, .slice va vn vc] 0
          rw [ovr9] at E1
          obtain ⟨E2, E3, E4⟩ := HM.out.fin [.int .i64 x, .int .i64 k1, .int .i64 k2, .int .i64 k3, .int .i64 k4, .int .i64 k5, .int .i64 k6, .int .i64 k7, .slice va vn vc]
          refine bodyPost_ret (results_cell_row Try.results35 _ _ (w.heap.size + 1) _ _ _ _ rfl E1 Try.underlying33 rfl (by kernel_rfl)) rfl ⟨x, k1, k2, k3, k4, k5, k6, k7, .slice va vn vc, L, rfl, E2, by omega, E3, E4.more (by omega)⟩
        · have g0 : (v == 0) = false := beq_eq_false_iff_ne.2 (by omega)
          have g1 : (v == 1) = false := beq_eq_false_iff_ne.2 (by omega)
          have g2 : (v == 2) = false := beq_eq_false_iff_ne.2 (by omega)
          have g3 : (v == 3) = false := beq_eq_false_iff_ne.2 (by omega)
          have ms2 := ms.out
          obtain ⟨va, vn, vc, hvl⟩ := ms2.form
          subst hvl
          have HM : Hid (MS w _ g _ a cap zs b d X B0 k0 k1 k2 k3 k4 k5 k6 k7 (.slice va vn vc) L) := ms2
          have HP : Hid (MS w w2 g _ a cap zs b d X B0 k0 k1 k2 k3 k4 k5 k6 k7 (.slice va vn vc) L) := ms.out
          clear ms2 ms
          obtain ⟨c1, c2, c3, c4⟩ := HP.out.cells
          obtain ⟨q0, q1, q2, q3, q4, q5, q6, q7, q8⟩ := Bk.c9 HP.out.bx
          obtain ⟨f0, f1, f2, f3, f4, f5, f6, f7, f8⟩ := Bk.f9 HP.out.bx
          obtain ⟨r0, r1, r2, r3, r4, r5, r6, r7, r8⟩ := Bk.c9 HP.out.s0.br
          obtain ⟨t0, t1, t2, t3, t4, t5, t6, t7, t8⟩ := Bk.f9 HP.out.s0.br
          go_wp2
          have E1 := HM.out.s0.br.setL [.int .i64 k0, .int .i64 k1, .int .i64 k2, .int .i64 k3, .int .i64 k4, .int .i64 k5, .int .i64 k6, .int .i64 k7, .slice va vn vc] 0
          rw [ovr9] at E1
          obtain ⟨E2, E3, E4⟩ := HM.out.fin [.int .i64 k0, .int .i64 k1, .int .i64 k2, .int .i64 k3, .int .i64 k4, .int .i64 k5, .int .i64 k6, .int .i64 k7, .slice va vn vc]
          refine bodyPost_ret (results_cell_row Try.results35 _ _ (w.heap.size + 1) _ _ _ _ rfl E1 Try.underlying33 rfl (by kernel_rfl)) rfl ⟨k0, k1, k2, k3, k4, k5, k6, k7, .slice va vn vc, L, rfl, E2, by omega, E3, E4.more (by omega)⟩
end Go.Proofs.Ytabbicfakkehpaa
