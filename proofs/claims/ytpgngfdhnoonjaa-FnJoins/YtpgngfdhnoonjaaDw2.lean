/- PutRow's and SameTable's arguments, drawn. -/
import Derived.Test.YtpgngfdhnoonjaaDw1
namespace Go.Proofs.Ytpgngfdhnoonjaa.Tb
open Go.RowKit Wire Go.Deep
set_option linter.unusedVariables false
set_option linter.unusedSimpArgs false
theorem drSt_more {w wr : World} {n m q : Nat} {a : Option Addr} {cap : Nat} {zs : List Int} {b d : Int} (h : DrSt w wr n q a cap zs b d) (hn : n ≤ m) : DrSt w wr m q a cap zs b d := ⟨h.bel, h.cur.more hn, h.q0, h.q1, h.r, h.lo, h.hi⟩
/-- blocks that are new have turned: the drawing's own are as they were -/
theorem drSt_grown {w wr w1 : World} {n q : Nat} {a : Option Addr} {cap : Nat} {zs : List Int} {b d : Int} {r : Option Nat} {B : Nat} (h : DrSt w wr n q a cap zs b d) (hg : wr.grownBy w1 r) (hB : q < B) (hr : ∀ k, r = some k → B ≤ k) (h0 : RowU w (w.heap.size + 1) a zs) : DrSt w w1 n q a cap zs b d := by
  have hlo := h.lo
  have hhi := h.hi
  have hbl : ∀ k, k < wr.heap.size → k < B → w1.heap[k]? = wr.heap[k]? := fun k hk hkB => hg.block k hk (fun e => by have := hr k e.symm; omega)
  have hbel : Below w.heap.size w w1 := h.bel.grown hg h.bel.size (fun k hk => by have := hr k hk; omega)
  refine ⟨hbel, cur_back h.cur (hbl _ (by omega) (by omega)) h0 (Mv.of_below hbel), ?_, ?_, (hbl _ (by omega) (by omega)).trans h.r, hlo, Nat.lt_of_lt_of_le hhi hg.size⟩
  · exact (World.cell?_of_block (w := wr) (hbl q hhi hB)).trans h.q0
  · exact (World.cell?_of_block (w := wr) (hbl q hhi hB)).trans h.q1
theorem rowU_of {w : World} {g : Nat} {a : Option Addr} {zs : List Int} (hr : RowB w a zs) (hg : w.heap.size ≤ g) : RowU w g a zs := by
  rcases hr with h | ⟨b, off, ha, hlt, hc⟩
  · exact .inl h
  · exact .inr ⟨b, off, ha, hlt, by omega, hc⟩
theorem ints_new5 (w : World) (x y z u v : Int) : ∀ i, i < [x, y, z, u, v].length → (w.alloc (.cells #[.int .i64 x, .int .i64 y, .int .i64 z, .int .i64 u, .int .i64 v] 3)).cell? ⟨w.heap.size, 0 + i, none⟩ = some (.int .i64 ([x, y, z, u, v].getD i 0)) := by
  intro i hi
  rw [cell_of_row _ _ _ _ _ _ (heap_alloc_new w (.cells #[.int .i64 x, .int .i64 y, .int .i64 z, .int .i64 u, .int .i64 v] 3))]
  match i, hi with
  | 0, _ => rfl
  | 1, _ => rfl
  | 2, _ => rfl
  | 3, _ => rfl
  | 4, _ => rfl
theorem ints_new5d (w : World) (x y z u v : Int) : ∀ i, i < [x, y, z, u, v].length → (w.alloc (.cells #[.int .i64 x, .int .i64 y, .int .i64 z, .int .i64 u, .int .i64 v] 3)).drew.cell? ⟨w.heap.size, 0 + i, none⟩ = some (.int .i64 ([x, y, z, u, v].getD i 0)) := ints_new5 w x y z u v
theorem among5 (q cp : Nat) (w : World) (g n : Nat) (a : Option Addr) (cap : Nat) (zs : List Int) (hc : CurAt w g n a cap zs) (hn : n ≤ 1000000000) (hq : q < w.heap.size) (hg : ¬ q = g) (hy : ∀ i, i < [(0 : Int), 3, 7, 1000000, 1000001].length → w.cell? ⟨q, 0 + i, none⟩ = some (.int .i64 ([(0 : Int), 3, 7, 1000000, 1000001].getD i 0))) :
    Calls Try.prog 47 #[.pointer (some ⟨g, 0, none⟩), .slice (some ⟨q, 0, none⟩) 5 cp] w fun e w' => ∃ v : Int, e = .returned (.int .i64 v) ∧ (0 ≤ v ∧ v ≤ 1000001) ∧ Mv g w w' ∧ CurAt w' g (n + 2) a cap zs := by
  refine (among_any [0, 3, 7, 1000000, 1000001] q cp w g n a cap zs hc hn (by simp) (by simp) hq hg hy).mono ?_
  rintro e w' ⟨v, rfl, hm, h1, h2⟩
  exact ⟨v, rfl, by simp at hm; omega, h1, h2⟩
set_option maxRecDepth 100000 in
set_option maxHeartbeats 6400000 in
theorem drawPutRow_any (a : Option Addr) (cap : Nat) (zs : List Int) (w : World) (hm : zs.length ≤ 1048576) (hr : RowB w a zs) :
    Calls Try.prog 14 #[.slice a zs.length cap] w fun e w' => ∃ (b d x y : Int) (ad : Option Addr) (nt ct : Nat) (ms : List Rw), e = .returned (.tuple #[.agg #[.int .i64 b, .int .i64 d], .slice ad nt ct, .int .i64 x, .int .i64 y]) ∧ TR w' ad nt ct ms ∧ -1 ≤ x ∧ x ≤ 11 ∧ 0 ≤ y ∧ y ≤ 1000001 ∧ Below w.heap.size w w' := by
  have hc0 := cur_new (cap := cap) hr hm ((Below.refl _ _).alloc (Nat.le_refl _) (.cells #[.int .i64 0, .int .i64 0] 25))
  have HC0 : Hid _ := hc0
  have HRU : Hid (RowU w (w.heap.size + 1) a zs) := rowU_of hr (by omega)
  clear hc0
  go_enter Try.func14, Try.ntmps14
  go_wp2_with fail
  refine (space_any _ _ _ _ _ _ (by simpa using HC0.out) (by omega)).mono ?_
  rintro e w1 ⟨b, d, rfl, b1, b2, d1, d2, mv1, hc1⟩
  have ST0 : Hid (DrSt w (w1.alloc (.cells #[.int .i64 b, .int .i64 d] 25)) 12 w1.heap.size a cap zs b d) := drSt_init (b := b) (d := d) mv1 hc1
  have hlo := ST0.out.lo
  have s0 := ST0.out.q0
  have s1 := ST0.out.q1
  clear mv1 hc1 HC0
  go_wp2_with fail
  refine (table_any b d _ _ _ _ _ _ ST0.out.cur (by omega)).mono ?_
  rintro e w3 ⟨ad3, nt3, ct3, ms3, rfl, hl3, hn3, hr3, hk3, hz3, mv3, hc3⟩
  have ST3 : Hid (DrSt w w3 112 w1.heap.size a cap zs b d) := ST0.out.step mv3 hc3
  have TT3 : Hid (TR w3 ad3 nt3 ct3 ms3) := ⟨hl3, hn3, hr3, hk3, hz3⟩
  clear mv3 hc3 ST0 hl3 hn3 hr3 hk3 hz3 s0 s1
  go_wp2_with fail
  refine (one_any _ _ _ _ _ _ _ ST3.out.cur (by omega) (by omega) (by omega)).mono ?_
  rintro e w4 ⟨v4, rfl, mv4, hc4⟩
  have ST4 : Hid (DrSt w w4 114 w1.heap.size a cap zs b d) := ST3.out.step mv4 hc4
  have TT4 : Hid (TR w4 ad3 nt3 ct3 ms3) := TT3.out.mv ST3.out.cur mv4
  clear mv4 hc4 ST3 TT3
  cases v4
  · go_wp2_with fail
    have st9 := ST4.out.keep ((Below.refl _ _).drew)
    have tt9 := TT4.out.keep ((Below.refl _ _).drew)
    have hdl : w4.heap.size < (w4.alloc (.cells #[.int .i64 0, .int .i64 3, .int .i64 7, .int .i64 1000000, .int .i64 1000001] 3)).drew.heap.size := by show w4.heap.size < (w4.alloc (.cells #[.int .i64 0, .int .i64 3, .int .i64 7, .int .i64 1000000, .int .i64 1000001] 3)).heap.size; simp
    go_region_held (fun w' => w'.cell? ⟨w1.heap.size, 0, none⟩ = some (.int .i64 b) ∧ w'.cell? ⟨w1.heap.size, 1, none⟩ = some (.int .i64 d)) (with_reducible (first | exact ⟨st9.q0, st9.q1⟩ | exact ⟨sta.q0, sta.q1⟩ | exact ⟨stb.q0, stb.q1⟩ | exact ⟨stc.q0, stc.q1⟩ | exact ⟨((ST4.out.keep (belA _ (.cells #[.int .i64 0, .int .i64 3, .int .i64 7, .int .i64 1000000, .int .i64 1000001] 3))).keep ((Below.refl _ _).drew)).q0, ((ST4.out.keep (belA _ (.cells #[.int .i64 0, .int .i64 3, .int .i64 7, .int .i64 1000000, .int .i64 1000001] 3))).keep ((Below.refl _ _).drew)).q1⟩ | exact ⟨(sta.keep (belA _ (.cells #[.int .i64 0, .int .i64 3, .int .i64 7, .int .i64 1000000, .int .i64 1000001] 3))).q0, (sta.keep (belA _ (.cells #[.int .i64 0, .int .i64 3, .int .i64 7, .int .i64 1000000, .int .i64 1000001] 3))).q1⟩ | exact ⟨(stb.keep (belA _ (.cells #[.int .i64 0, .int .i64 3, .int .i64 7, .int .i64 1000000, .int .i64 1000001] 3))).q0, (stb.keep (belA _ (.cells #[.int .i64 0, .int .i64 3, .int .i64 7, .int .i64 1000000, .int .i64 1000001] 3))).q1⟩ | exact stc.cells_end _ _)) (first | (go_at_call_of 46 (Value.int .i64 12); (first | with_reducible refine (pick_any _ _ _ _ _ _ _ st9.cur (by omega) (by omega) (by omega)).mono ?_ | with_reducible refine (pick_any _ _ _ _ _ _ _ ((ST4.out.keep (belA _ (.cells #[.int .i64 0, .int .i64 3, .int .i64 7, .int .i64 1000000, .int .i64 1000001] 3))).keep ((Below.refl _ _).drew)).cur (by omega) (by omega) (by omega)).mono ?_); rintro e wa ⟨xa, rfl, xa1, xa2, mva, hca⟩; have sta : DrSt w wa 116 w1.heap.size a cap zs b d := (by with_reducible first | exact st9.step mva hca | exact ((ST4.out.keep (belA _ (.cells #[.int .i64 0, .int .i64 3, .int .i64 7, .int .i64 1000000, .int .i64 1000001] 3))).keep ((Below.refl _ _).drew)).step mva hca); have tta : TR wa ad3 nt3 ct3 ms3 := (by with_reducible first | exact tt9.mv st9.cur mva | exact ((TT4.out.keep (belA _ (.cells #[.int .i64 0, .int .i64 3, .int .i64 7, .int .i64 1000000, .int .i64 1000001] 3))).keep ((Below.refl _ _).drew)).mv ((ST4.out.keep (belA _ (.cells #[.int .i64 0, .int .i64 3, .int .i64 7, .int .i64 1000000, .int .i64 1000001] 3))).keep ((Below.refl _ _).drew)).cur mva)) | (go_at_call_of 46 (Value.int .i64 20); (first | with_reducible refine (pick_any _ _ _ _ _ _ _ sta.cur (by omega) (by omega) (by omega)).mono ?_ | with_reducible refine (pick_any _ _ _ _ _ _ _ (sta.keep (belA _ (.cells #[.int .i64 0, .int .i64 3, .int .i64 7, .int .i64 1000000, .int .i64 1000001] 3))).cur (by omega) (by omega) (by omega)).mono ?_); rintro e wb ⟨xb, rfl, xb1, xb2, mvb, hcb⟩; have stb : DrSt w wb 118 w1.heap.size a cap zs b d := (by with_reducible first | exact sta.step mvb hcb | exact (sta.keep (belA _ (.cells #[.int .i64 0, .int .i64 3, .int .i64 7, .int .i64 1000000, .int .i64 1000001] 3))).step mvb hcb); have ttb : TR wb ad3 nt3 ct3 ms3 := (by with_reducible first | exact tta.mv sta.cur mvb | exact (tta.keep (belA _ (.cells #[.int .i64 0, .int .i64 3, .int .i64 7, .int .i64 1000000, .int .i64 1000001] 3))).mv (sta.keep (belA _ (.cells #[.int .i64 0, .int .i64 3, .int .i64 7, .int .i64 1000000, .int .i64 1000001] 3))).cur mvb)) | (go_at_call 47; (first | with_reducible refine (among5 wa.heap.size 5 _ _ _ _ _ _ stb.cur (by omega) (by have := mvb.size; simp at this; omega) (by have := sta.lo; have := sta.hi; omega) (fun i hi => keepM mvb (by simp) (by have := sta.lo; have := sta.hi; omega) (ints_new5 _ _ _ _ _ _ i hi))).mono ?_ | with_reducible refine (among5 wb.heap.size 5 _ _ _ _ _ _ (stb.keep (belA _ (.cells #[.int .i64 0, .int .i64 3, .int .i64 7, .int .i64 1000000, .int .i64 1000001] 3))).cur (by omega) (by simp) (by have := stb.lo; have := stb.hi; omega) (ints_new5 _ _ _ _ _ _)).mono ?_ | with_reducible refine (among5 w4.heap.size 5 _ _ _ _ _ _ stb.cur (by omega) (Nat.lt_of_lt_of_le (Nat.lt_of_lt_of_le hdl mva.size) mvb.size) (by have := ST4.out.lo; have := ST4.out.hi; omega) (fun i hi => keepM mvb (Nat.lt_of_lt_of_le hdl mva.size) (by have := ST4.out.lo; have := ST4.out.hi; omega) (keepM mva hdl (by have := ST4.out.lo; have := ST4.out.hi; omega) (ints_new5d _ _ _ _ _ _ i hi)))).mono ?_); rintro e wc ⟨xc, rfl, hmem, mvc, hcc⟩; have stc : DrSt w wc 120 w1.heap.size a cap zs b d := (by with_reducible first | exact stb.step mvc hcc | exact (stb.keep (belA _ (.cells #[.int .i64 0, .int .i64 3, .int .i64 7, .int .i64 1000000, .int .i64 1000001] 3))).step mvc hcc); have ttc : TR wc ad3 nt3 ct3 ms3 := (by with_reducible first | exact ttb.mv stb.cur mvc | exact (ttb.keep (belA _ (.cells #[.int .i64 0, .int .i64 3, .int .i64 7, .int .i64 1000000, .int .i64 1000001] 3))).mv (stb.keep (belA _ (.cells #[.int .i64 0, .int .i64 3, .int .i64 7, .int .i64 1000000, .int .i64 1000001] 3))).cur mvc); obtain ⟨r0, r1, r2, r3⟩ := stc.res))
    all_goals
      go_wp2
      have e0 := (cell_of_row _ _ 0 _ _ _ (stc.res_end (.int .i64 b) (.int .i64 d))).trans rfl
      have e1 := (cell_of_row _ _ 1 _ _ _ (stc.res_end (.int .i64 b) (.int .i64 d))).trans rfl
      refine bodyPost_ret (by simp [results, Try.results14, go_sem, e0, e1] <;> rfl) rfl ⟨b, d, _, xc, _, _, _, _, rfl, ttc.end_ stc _ _, (key_in xb1 xb2 xa1 xa2).1, (key_in xb1 xb2 xa1 xa2).2, hmem.1, hmem.2, stc.bel_end _ _⟩
  · go_wp2_with fail
    have HL0 : Hid (OwR (w1.heap.size + 1) w4 (.slice none 0 0) []) := ⟨rfl, .inl ⟨rfl, rfl⟩⟩
    go_loopw [8, 9] (fun vt vi wr => ∃ (j : Nat) (v : Value) (ms : List Rw), vt = v ∧ vi = .int .i64 j ∧ j ≤ 8 ∧ ms.length ≤ j ∧ Hid (OwR (w1.heap.size + 1) wr v ms) ∧ Hid (DrSt w wr 114 w1.heap.size a cap zs b d)) (fun _ vi _ => 8 - (intOf vi).toNat)
    case atStart => exact ⟨0, _, [], rfl, rfl, by omega, by simp, HL0, ST4⟩
    case round =>
      obtain ⟨j, v, ms, hv, rfl, hj, hml, HO, ST⟩ := hrel
      clear HL0 ST4 TT4
      have hv' := hv.symm
      clear hv
      subst hv'
      by_cases hlt : j < 8
      · have HRN : Hid (LsAt tyRw (wr.alloc (.cells #[.int .i64 j, .int .i64 1, .int .i64 0, .bool false] 37)) (some ⟨wr.heap.size, 0, none⟩) [⟨j, 1, 0, false⟩]) := row_at_new wr ⟨j, 1, 0, false⟩
        have HOA : Hid (OwR (w1.heap.size + 1) (wr.alloc (.cells #[.int .i64 j, .int .i64 1, .int .i64 0, .bool false] 37)) v ms) := HO.out.alloc _
        have STA : Hid (DrSt w (wr.alloc (.cells #[.int .i64 j, .int .i64 1, .int .i64 0, .bool false] 37)) 114 w1.heap.size a cap zs b d) := ST.out.keep (belA _ _)
        have hsz := STA.out.hi
        go_wp2_with (first | (at_builtin; refine wpList_app rfl _ _ rfl (w1.heap.size + 1) v ms rfl HOA.out (some ⟨wr.heap.size, 0, none⟩) 1 1 [⟨j, 1, 0, false⟩] rfl rfl HRN.out (fun hh => by cases hh) (by omega) (by omega) (by omega) ?_; intro v9 w9 hown hgrow) | fail)
        have HO9 : Hid (OwR (w1.heap.size + 1) w9 v9 (ms ++ [⟨j, 1, 0, false⟩])) := hown
        have ST9 : Hid (DrSt w w9 114 w1.heap.size a cap zs b d) := drSt_grown STA.out hgrow (Nat.lt_succ_self _) (fun k hk => HOA.out.lo k hk) HRU.out
        clear hown hgrow HRN HOA STA HO ST hsz
        have hl9 : (ms ++ [(⟨j, 1, 0, false⟩ : Rw)]).length ≤ j + 1 := by simp; omega
        go_wp2
        go_roundw
        case rel => exact ⟨j + 1, v9, _, rfl, by go_num, by omega, hl9, HO9, ST9⟩
        case measure => simp [intOf]; omega
      · have hj8 : j = 8 := by omega
        subst hj8
        obtain ⟨ad, ct, rfl⟩ := HO.out.slice
        have q := OwR.at HO.out
        have TT : Hid (TR wr ad ms.length ct ms) := ⟨rfl, by omega, q.1, q.2.2.1, q.2.2.2⟩
        clear q HO
        go_wp2_with fail
        have st9 := ST.out.keep ((Below.refl _ _).drew)
        have tt9 := TT.out.keep ((Below.refl _ _).drew)
        have hdl : wr.heap.size < (wr.alloc (.cells #[.int .i64 0, .int .i64 3, .int .i64 7, .int .i64 1000000, .int .i64 1000001] 3)).drew.heap.size := by show wr.heap.size < (wr.alloc (.cells #[.int .i64 0, .int .i64 3, .int .i64 7, .int .i64 1000000, .int .i64 1000001] 3)).heap.size; simp
        go_region_held (fun w' => w'.cell? ⟨w1.heap.size, 0, none⟩ = some (.int .i64 b) ∧ w'.cell? ⟨w1.heap.size, 1, none⟩ = some (.int .i64 d)) (with_reducible (first | exact ⟨st9.q0, st9.q1⟩ | exact ⟨sta.q0, sta.q1⟩ | exact ⟨stb.q0, stb.q1⟩ | exact ⟨stc.q0, stc.q1⟩ | exact ⟨((ST.out.keep (belA _ (.cells #[.int .i64 0, .int .i64 3, .int .i64 7, .int .i64 1000000, .int .i64 1000001] 3))).keep ((Below.refl _ _).drew)).q0, ((ST.out.keep (belA _ (.cells #[.int .i64 0, .int .i64 3, .int .i64 7, .int .i64 1000000, .int .i64 1000001] 3))).keep ((Below.refl _ _).drew)).q1⟩ | exact ⟨(sta.keep (belA _ (.cells #[.int .i64 0, .int .i64 3, .int .i64 7, .int .i64 1000000, .int .i64 1000001] 3))).q0, (sta.keep (belA _ (.cells #[.int .i64 0, .int .i64 3, .int .i64 7, .int .i64 1000000, .int .i64 1000001] 3))).q1⟩ | exact ⟨(stb.keep (belA _ (.cells #[.int .i64 0, .int .i64 3, .int .i64 7, .int .i64 1000000, .int .i64 1000001] 3))).q0, (stb.keep (belA _ (.cells #[.int .i64 0, .int .i64 3, .int .i64 7, .int .i64 1000000, .int .i64 1000001] 3))).q1⟩ | exact stc.cells_end _ _)) (first | (go_at_call_of 46 (Value.int .i64 12); (first | with_reducible refine (pick_any _ _ _ _ _ _ _ st9.cur (by omega) (by omega) (by omega)).mono ?_ | with_reducible refine (pick_any _ _ _ _ _ _ _ ((ST.out.keep (belA _ (.cells #[.int .i64 0, .int .i64 3, .int .i64 7, .int .i64 1000000, .int .i64 1000001] 3))).keep ((Below.refl _ _).drew)).cur (by omega) (by omega) (by omega)).mono ?_); rintro e wa ⟨xa, rfl, xa1, xa2, mva, hca⟩; have sta : DrSt w wa 116 w1.heap.size a cap zs b d := (by with_reducible first | exact st9.step mva hca | exact ((ST.out.keep (belA _ (.cells #[.int .i64 0, .int .i64 3, .int .i64 7, .int .i64 1000000, .int .i64 1000001] 3))).keep ((Below.refl _ _).drew)).step mva hca); have tta : TR wa ad ms.length ct ms := (by with_reducible first | exact tt9.mv st9.cur mva | exact ((TT.out.keep (belA _ (.cells #[.int .i64 0, .int .i64 3, .int .i64 7, .int .i64 1000000, .int .i64 1000001] 3))).keep ((Below.refl _ _).drew)).mv ((ST.out.keep (belA _ (.cells #[.int .i64 0, .int .i64 3, .int .i64 7, .int .i64 1000000, .int .i64 1000001] 3))).keep ((Below.refl _ _).drew)).cur mva)) | (go_at_call_of 46 (Value.int .i64 20); (first | with_reducible refine (pick_any _ _ _ _ _ _ _ sta.cur (by omega) (by omega) (by omega)).mono ?_ | with_reducible refine (pick_any _ _ _ _ _ _ _ (sta.keep (belA _ (.cells #[.int .i64 0, .int .i64 3, .int .i64 7, .int .i64 1000000, .int .i64 1000001] 3))).cur (by omega) (by omega) (by omega)).mono ?_); rintro e wb ⟨xb, rfl, xb1, xb2, mvb, hcb⟩; have stb : DrSt w wb 118 w1.heap.size a cap zs b d := (by with_reducible first | exact sta.step mvb hcb | exact (sta.keep (belA _ (.cells #[.int .i64 0, .int .i64 3, .int .i64 7, .int .i64 1000000, .int .i64 1000001] 3))).step mvb hcb); have ttb : TR wb ad ms.length ct ms := (by with_reducible first | exact tta.mv sta.cur mvb | exact (tta.keep (belA _ (.cells #[.int .i64 0, .int .i64 3, .int .i64 7, .int .i64 1000000, .int .i64 1000001] 3))).mv (sta.keep (belA _ (.cells #[.int .i64 0, .int .i64 3, .int .i64 7, .int .i64 1000000, .int .i64 1000001] 3))).cur mvb)) | (go_at_call 47; (first | with_reducible refine (among5 wa.heap.size 5 _ _ _ _ _ _ stb.cur (by omega) (by have := mvb.size; simp at this; omega) (by have := sta.lo; have := sta.hi; omega) (fun i hi => keepM mvb (by simp) (by have := sta.lo; have := sta.hi; omega) (ints_new5 _ _ _ _ _ _ i hi))).mono ?_ | with_reducible refine (among5 wb.heap.size 5 _ _ _ _ _ _ (stb.keep (belA _ (.cells #[.int .i64 0, .int .i64 3, .int .i64 7, .int .i64 1000000, .int .i64 1000001] 3))).cur (by omega) (by simp) (by have := stb.lo; have := stb.hi; omega) (ints_new5 _ _ _ _ _ _)).mono ?_ | with_reducible refine (among5 wr.heap.size 5 _ _ _ _ _ _ stb.cur (by omega) (Nat.lt_of_lt_of_le (Nat.lt_of_lt_of_le hdl mva.size) mvb.size) (by have := ST.out.lo; have := ST.out.hi; omega) (fun i hi => keepM mvb (Nat.lt_of_lt_of_le hdl mva.size) (by have := ST.out.lo; have := ST.out.hi; omega) (keepM mva hdl (by have := ST.out.lo; have := ST.out.hi; omega) (ints_new5d _ _ _ _ _ _ i hi)))).mono ?_); rintro e wc ⟨xc, rfl, hmem, mvc, hcc⟩; have stc : DrSt w wc 120 w1.heap.size a cap zs b d := (by with_reducible first | exact stb.step mvc hcc | exact (stb.keep (belA _ (.cells #[.int .i64 0, .int .i64 3, .int .i64 7, .int .i64 1000000, .int .i64 1000001] 3))).step mvc hcc); have ttc : TR wc ad ms.length ct ms := (by with_reducible first | exact ttb.mv stb.cur mvc | exact (ttb.keep (belA _ (.cells #[.int .i64 0, .int .i64 3, .int .i64 7, .int .i64 1000000, .int .i64 1000001] 3))).mv (stb.keep (belA _ (.cells #[.int .i64 0, .int .i64 3, .int .i64 7, .int .i64 1000000, .int .i64 1000001] 3))).cur mvc); obtain ⟨r0, r1, r2, r3⟩ := stc.res))
        all_goals
          go_wp2
          have e0 := (cell_of_row _ _ 0 _ _ _ (stc.res_end (.int .i64 b) (.int .i64 d))).trans rfl
          have e1 := (cell_of_row _ _ 1 _ _ _ (stc.res_end (.int .i64 b) (.int .i64 d))).trans rfl
          refine bodyPost_ret (by simp [results, Try.results14, go_sem, e0, e1] <;> rfl) rfl ⟨b, d, _, xc, _, _, _, _, rfl, ttc.end_ stc _ _, (key_in xb1 xb2 xa1 xa2).1, (key_in xb1 xb2 xa1 xa2).2, hmem.1, hmem.2, stc.bel_end _ _⟩
set_option maxRecDepth 100000 in
set_option maxHeartbeats 6400000 in
theorem drawSame_any (a : Option Addr) (cap : Nat) (zs : List Int) (w : World) (hm : zs.length ≤ 1048576) (hr : RowB w a zs) :
    Calls Try.prog 27 #[.slice a zs.length cap] w fun e w' => ∃ (ad : Option Addr) (nt ct : Nat) (ms : List Rw) (ad2 : Option Addr) (nt2 ct2 : Nat) (ms2 : List Rw), e = .returned (.tuple #[.slice ad nt ct, .slice ad2 nt2 ct2]) ∧ TR w' ad nt ct ms ∧ TR w' ad2 nt2 ct2 ms2 ∧ Below w.heap.size w w' := by
  have hc0 := cur_new (cap := cap) hr hm (Below.refl w.heap.size w)
  have HC0 : Hid _ := hc0
  clear hc0
  go_enter Try.func27, Try.ntmps27
  go_wp2_with fail
  refine (space_any _ _ _ _ _ _ HC0.out (by omega)).mono ?_
  rintro e w1 ⟨b, d, rfl, b1, b2, d1, d2, mv1, hc1⟩
  have HB1 : Hid (Below w.heap.size w w1) := mv1.below ((Below.refl _ _).alloc (Nat.le_refl _) _) (Nat.le_refl _)
  have HC1 : Hid (CurAt w1 w.heap.size 12 a cap zs) := hc1
  clear HC0 mv1 hc1
  have HS2 : Hid (TS w1 (w1.alloc (.cells #[.int .i64 b, .int .i64 d] 25)) w.heap.size 12 a cap zs b d) := TS.new HC1.out
  obtain ⟨s0, s1⟩ := Wire.Bk.c2 HS2.out.sp
  go_wp2_with fail
  refine (table_any b d _ _ _ _ _ _ HS2.out.cur (by omega)).mono ?_
  rintro e w3 ⟨ad3, nt3, ct3, ms3, rfl, hl3, hn3, hr3, hk3, hz3, mv3, hc3⟩
  have HS3 : Hid (TS w1 w3 w.heap.size 112 a cap zs b d) := HS2.out.step mv3 hc3
  have TT3 : Hid (TR w3 ad3 nt3 ct3 ms3) := ⟨hl3, hn3, hr3, hk3, hz3⟩
  clear mv3 hc3 HS2 hl3 hn3 hr3 hk3 hz3 s0 s1
  go_wp2_with fail
  refine (one_any _ _ _ _ _ _ _ HS3.out.cur (by omega) (by omega) (by omega)).mono ?_
  rintro e w4 ⟨v4, rfl, mv4, hc4⟩
  have HS4 : Hid (TS w1 w4 w.heap.size 114 a cap zs b d) := HS3.out.step mv4 hc4
  have TT4 : Hid (TR w4 ad3 nt3 ct3 ms3) := TT3.out.mv HS3.out.cur mv4
  clear mv4 hc4 HS3 TT3
  cases v4
  · obtain ⟨s0, s1⟩ := Wire.Bk.c2 HS4.out.sp
    go_wp2_with fail
    refine (table_any b d _ _ _ _ _ _ HS4.out.cur (by omega)).mono ?_
    rintro e w5 ⟨ad5, nt5, ct5, ms5, rfl, hl5, hn5, hr5, hk5, hz5, mv5, hc5⟩
    have TT5 : Hid (TR w5 ad5 nt5 ct5 ms5) := ⟨hl5, hn5, hr5, hk5, hz5⟩
    have TT6 : Hid (TR w5 ad3 nt3 ct3 ms3) := TT4.out.mv HS4.out.cur mv5
    have HB5 : Hid (Below w.heap.size w w5) := (HS4.out.mv.trans mv5).below HB1.out (Nat.le_refl _)
    clear hl5 hn5 hr5 hk5 hz5 mv5 hc5 s0 s1 TT4 HS4
    go_wp2
    go_ret2
    exact ⟨ad3, nt3, ct3, ms3, ad5, nt5, ct5, ms5, rfl, TT6.out, TT5.out, HB5.out⟩
  · have HL0 : Hid (OwR w4.heap.size (w4.alloc (.cells #[] 37)) (.slice (some ⟨w4.heap.size, 0, none⟩) 0 0) []) := own_lit4 w4 (Nat.le_refl _)
    have hrA := TT4.out.at_.keep (belA w4 (.cells #[] 37))
    have hle := TT4.out.le
    have hlen := TT4.out.len
    have hnil := TT4.out.nil
    go_wp2_with (first | (at_builtin; refine wpList_app rfl _ _ rfl w4.heap.size _ [] rfl HL0.out ad3 nt3 ct3 ms3 rfl hlen hrA hnil (by simp) (by omega) (by simp) ?_; intro v5 w5 hown hgrow; replace hown : OwR w4.heap.size w5 v5 ms3 := hown; obtain ⟨a5, c5, rfl⟩ := hown.slice) | fail)
    have q := OwR.at hown
    have hb5 : Below w4.heap.size w4 w5 := grown_bel' (belA w4 (.cells #[] 37)) hgrow (by simp) (fun k hk => by have h2 : some w4.heap.size = some k := hk; cases h2; exact Nat.le_refl _)
    have TT5 : Hid (TR w5 a5 nt3 c5 ms3) := ⟨hlen, hle, q.1, by rw [← hlen]; exact q.2.2.1, q.2.2.2⟩
    have TT6 : Hid (TR w5 ad3 nt3 ct3 ms3) := TT4.out.keep hb5
    have HB5 : Hid (Below w.heap.size w w5) := (HS4.out.mv.trans (Mv.of_below hb5)).below HB1.out (Nat.le_refl _)
    clear q hown hgrow hb5 HL0 hrA hle hlen hnil HS4 TT4
    go_ret2
    exact ⟨ad3, nt3, ct3, ms3, a5, _, c5, ms3, rfl, TT6.out, TT5.out, HB5.out⟩
end Go.Proofs.Ytpgngfdhnoonjaa.Tb
