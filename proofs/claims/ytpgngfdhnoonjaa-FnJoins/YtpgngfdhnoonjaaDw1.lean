/- Tables that are drawn with their space. -/
import Derived.Test.YtpgngfdhnoonjaaDw0
namespace Go.Proofs.Ytpgngfdhnoonjaa.Tb
open Go.RowKit Wire Go.Deep
set_option linter.unusedVariables false
set_option linter.unusedSimpArgs false
theorem lsAt_two {w : World} {q : Nat} {x y : Value} {T : TypeId} {ad : Option Addr} {ms : List Rw} (h : LsAt tyRw w ad ms) (hq : w.heap[q]? = some (.cells #[x, y] T (0, 0))) (i : Nat) (v : Value) : LsAt tyRw (w.setCell ⟨q, i, none⟩ v) ad ms := by
  rcases h with h | ⟨bk, off, ha, hl, hcell⟩
  · exact .inl h
  · by_cases hz : ms.length = 0
    · exact .inl (List.length_eq_zero_iff.1 hz)
    · have hg : ¬ bk = q := by
        rintro rfl
        obtain ⟨ci, h1, h2⟩ := hcell 0 (by show 0 < ms.length; omega)
        have h3 : ci = rwV (ms.getD 0 rw0) := h2
        subst h3
        have h4 := (CellsAt.rw h1).2.2.2
        rw [cell_of_row _ _ _ _ _ _ hq] at h4
        simp at h4
      refine .inr ⟨bk, off, ha, by simpa [World.setCell] using hl, fun i' hi => ?_⟩
      obtain ⟨ci, h1, h2⟩ := hcell i' hi
      exact ⟨ci, h1.block (heap_setCell_other _ _ _ _ hg), h2⟩
theorem lsAt_end {w wr : World} {n q : Nat} {a : Option Addr} {cap : Nat} {zs : List Int} {b d : Int} {ad : Option Addr} {ms : List Rw} (h : LsAt tyRw wr ad ms) (st : DrSt w wr n q a cap zs b d) (u v : Value) : LsAt tyRw ((wr.setCell ⟨w.heap.size, 0, none⟩ u).setCell ⟨w.heap.size, 1, none⟩ v) ad ms :=
  lsAt_two (lsAt_two h st.r 0 u) (heap_setCell_same _ _ 0 _ _ u st.r) 1 v
theorem less20 {x : Int} (h1 : 0 ≤ x) (h2 : x < 20) : 0 ≤ x.tdiv 19 ∧ x.tdiv 19 ≤ 1 := by
  rw [Int.tdiv_eq_ediv_of_nonneg h1]
  omega
theorem key_in {x y : Int} (h1 : 0 ≤ x) (h2 : x < 20) (h3 : 0 ≤ y) (h4 : y < 12) : -1 ≤ IntKind.i64.wrap (y - IntKind.i64.wrap (x.tdiv 19)) ∧ IntKind.i64.wrap (y - IntKind.i64.wrap (x.tdiv 19)) ≤ 11 := by
  have h := less20 h1 h2
  have e1 : IntKind.i64.wrap (x.tdiv 19) = x.tdiv 19 := IntWalk.i64_in (x.tdiv 19) (by omega)
  rw [e1]
  have e2 : IntKind.i64.wrap (y - x.tdiv 19) = y - x.tdiv 19 := IntWalk.i64_in (y - x.tdiv 19) (by omega)
  rw [e2]
  omega
/-- a list that is read: its length, capacity -/
structure TR (w : World) (ad : Option Addr) (nt ct : Nat) (ms : List Rw) : Prop where
  len : ms.length = nt
  le : nt ≤ 10
  at_ : LsAt tyRw w ad ms
  cap : nt ≤ ct
  nil : ad = none → ct = 0
theorem TR.keep {w w1 : World} {ad : Option Addr} {nt ct : Nat} {ms : List Rw} (h : TR w ad nt ct ms) (hb : Below w.heap.size w w1) : TR w1 ad nt ct ms := ⟨h.len, h.le, h.at_.keep hb, h.cap, h.nil⟩
theorem TR.mv {g N : Nat} {w w1 : World} {a : Option Addr} {cap : Nat} {zs : List Int} {ad : Option Addr} {nt ct : Nat} {ms : List Rw} (h : TR w ad nt ct ms) (hc : CurAt w g N a cap zs) (m : Mv g w w1) : TR w1 ad nt ct ms := ⟨h.len, h.le, lsAt_mv h.at_ hc m, h.cap, h.nil⟩
theorem TR.end_ {w wr : World} {n q : Nat} {a : Option Addr} {cap : Nat} {zs : List Int} {b d : Int} {ad : Option Addr} {nt ct : Nat} {ms : List Rw} (h : TR wr ad nt ct ms) (st : DrSt w wr n q a cap zs b d) (u v : Value) : TR ((wr.setCell ⟨w.heap.size, 0, none⟩ u).setCell ⟨w.heap.size, 1, none⟩ v) ad nt ct ms := ⟨h.len, h.le, lsAt_end h.at_ st u v, h.cap, h.nil⟩
set_option maxRecDepth 100000 in
set_option maxHeartbeats 3200000 in
theorem drawRowFor_any (a : Option Addr) (cap : Nat) (zs : List Int) (w : World) (hm : zs.length ≤ 1048576) (hr : RowB w a zs) :
    Calls Try.prog 58 #[.slice a zs.length cap] w fun e w' => ∃ (b d x : Int) (ad : Option Addr) (nt ct : Nat) (ms : List Rw), e = .returned (.tuple #[.agg #[.int .i64 b, .int .i64 d], .slice ad nt ct, .int .i64 x]) ∧ TR w' ad nt ct ms ∧ -1 ≤ x ∧ x ≤ 11 ∧ Below w.heap.size w w' := by
  have hc0 := cur_new (cap := cap) hr hm ((Below.refl _ _).alloc (Nat.le_refl _) (.cells #[.int .i64 0, .int .i64 0] 25))
  have HC0 : Hid _ := hc0
  clear hc0
  go_enter Try.func58, Try.ntmps58
  go_wp2_with fail
  refine (space_any _ _ _ _ _ _ (by simpa using HC0.out) (by omega)).mono ?_
  rintro e w1 ⟨b, d, rfl, b1, b2, d1, d2, mv1, hc1⟩
  have st0 := (drSt_init (b := b) (d := d) mv1 hc1).keep ((Below.refl _ _).drew)
  have hlo := st0.lo
  go_wp2_with fail
  go_region_held (fun w' => w'.cell? ⟨w1.heap.size, 0, none⟩ = some (.int .i64 b) ∧ w'.cell? ⟨w1.heap.size, 1, none⟩ = some (.int .i64 d)) (first | exact ⟨st0.q0, st0.q1⟩ | exact ⟨sta.q0, sta.q1⟩ | exact ⟨stb.q0, stb.q1⟩ | exact ⟨stc.q0, stc.q1⟩ | exact stc.cells_end _ _) (first | (go_at_call 44; refine (table_any b d _ _ _ _ _ _ st0.cur (by omega)).mono ?_; rintro e wa ⟨ada, nta, cta, msa, rfl, hla, hna, hra, hka, hza, mva, hca⟩; have sta := st0.step mva hca; have taa : TR wa ada nta cta msa := ⟨hla, hna, hra, hka, hza⟩) | (go_at_call_of 46 (Value.int .i64 12); refine (pick_any _ _ _ _ _ _ _ sta.cur (by omega) (by omega) (by omega)).mono ?_; rintro e wb ⟨xb, rfl, xb1, xb2, mvb, hcb⟩; have stb := sta.step mvb hcb; have tab := taa.mv sta.cur mvb) | (go_at_call_of 46 (Value.int .i64 20); refine (pick_any _ _ _ _ _ _ _ stb.cur (by omega) (by omega) (by omega)).mono ?_; rintro e wc ⟨xc, rfl, xc1, xc2, mvc, hcc⟩; have stc := stb.step mvc hcc; have tac := tab.mv stb.cur mvc; obtain ⟨r0, r1, r2, r3⟩ := stc.res))
  go_wp2
  have e0 := (cell_of_row _ _ 0 _ _ _ (stc.res_end (.int .i64 b) (.int .i64 d))).trans rfl
  have e1 := (cell_of_row _ _ 1 _ _ _ (stc.res_end (.int .i64 b) (.int .i64 d))).trans rfl
  refine bodyPost_ret (by simp [results, Try.results58, go_sem, e0, e1] <;> rfl) rfl ⟨b, d, _, ada, nta, cta, msa, rfl, tac.end_ stc _ _, (key_in xc1 xc2 xb1 xb2).1, (key_in xc1 xc2 xb1 xb2).2, stc.bel_end _ _⟩
set_option maxRecDepth 100000 in
set_option maxHeartbeats 3200000 in
theorem drawJoin_any (a : Option Addr) (cap : Nat) (zs : List Int) (w : World) (hm : zs.length ≤ 1048576) (hr : RowB w a zs) :
    Calls Try.prog 30 #[.slice a zs.length cap] w fun e w' => ∃ (b d : Int) (ad : Option Addr) (nt ct : Nat) (ms : List Rw) (ad2 : Option Addr) (nt2 ct2 : Nat) (ms2 : List Rw), e = .returned (.tuple #[.agg #[.int .i64 b, .int .i64 d], .slice ad nt ct, .slice ad2 nt2 ct2]) ∧ TR w' ad nt ct ms ∧ TR w' ad2 nt2 ct2 ms2 ∧ Below w.heap.size w w' := by
  have hc0 := cur_new (cap := cap) hr hm ((Below.refl _ _).alloc (Nat.le_refl _) (.cells #[.int .i64 0, .int .i64 0] 25))
  have HC0 : Hid _ := hc0
  clear hc0
  go_enter Try.func30, Try.ntmps30
  go_wp2_with fail
  refine (space_any _ _ _ _ _ _ (by simpa using HC0.out) (by omega)).mono ?_
  rintro e w1 ⟨b, d, rfl, b1, b2, d1, d2, mv1, hc1⟩
  have st0 := (drSt_init (b := b) (d := d) mv1 hc1).keep ((Below.refl _ _).drew)
  have hlo := st0.lo
  go_wp2_with fail
  go_region_held (fun w' => w'.cell? ⟨w1.heap.size, 0, none⟩ = some (.int .i64 b) ∧ w'.cell? ⟨w1.heap.size, 1, none⟩ = some (.int .i64 d)) (first | exact ⟨st0.q0, st0.q1⟩ | exact ⟨sta.q0, sta.q1⟩ | exact ⟨stb.q0, stb.q1⟩ | exact stb.cells_end _ _) (first | (go_at_call 44; refine (table_any b d _ _ _ _ _ _ st0.cur (by omega)).mono ?_; rintro e wa ⟨ada, nta, cta, msa, rfl, hla, hna, hra, hka, hza, mva, hca⟩; have sta := st0.step mva hca; have taa : TR wa ada nta cta msa := ⟨hla, hna, hra, hka, hza⟩) | (go_at_call 44; refine (table_any b d _ _ _ _ _ _ sta.cur (by omega)).mono ?_; rintro e wb ⟨adb, ntb, ctb, msb, rfl, hlb, hnb, hrb, hkb, hzb, mvb, hcb⟩; have stb := sta.step mvb hcb; have tab := taa.mv sta.cur mvb; have tbb : TR wb adb ntb ctb msb := ⟨hlb, hnb, hrb, hkb, hzb⟩; obtain ⟨r0, r1, r2, r3⟩ := stb.res))
  go_wp2
  have e0 := (cell_of_row _ _ 0 _ _ _ (stb.res_end (.int .i64 b) (.int .i64 d))).trans rfl
  have e1 := (cell_of_row _ _ 1 _ _ _ (stb.res_end (.int .i64 b) (.int .i64 d))).trans rfl
  refine bodyPost_ret (by simp [results, Try.results30, go_sem, e0, e1] <;> rfl) rfl ⟨b, d, ada, nta, cta, msa, adb, ntb, ctb, msb, rfl, tab.end_ stb _ _, tbb.end_ stb _ _, stb.bel_end _ _⟩
set_option maxRecDepth 100000 in
set_option maxHeartbeats 3200000 in
theorem drawRowsIn_any (a : Option Addr) (cap : Nat) (zs : List Int) (w : World) (hm : zs.length ≤ 1048576) (hr : RowB w a zs) :
    Calls Try.prog 33 #[.slice a zs.length cap] w fun e w' => ∃ (b d x y : Int) (ad : Option Addr) (nt ct : Nat) (ms : List Rw), e = .returned (.tuple #[.agg #[.int .i64 b, .int .i64 d], .slice ad nt ct, .int .i64 x, .int .i64 y]) ∧ TR w' ad nt ct ms ∧ Below w.heap.size w w' := by
  have hc0 := cur_new (cap := cap) hr hm ((Below.refl _ _).alloc (Nat.le_refl _) (.cells #[.int .i64 0, .int .i64 0] 25))
  have HC0 : Hid _ := hc0
  clear hc0
  go_enter Try.func33, Try.ntmps33
  go_wp2_with fail
  refine (space_any _ _ _ _ _ _ (by simpa using HC0.out) (by omega)).mono ?_
  rintro e w1 ⟨b, d, rfl, b1, b2, d1, d2, mv1, hc1⟩
  have st0 := (drSt_init (b := b) (d := d) mv1 hc1).keep ((Below.refl _ _).drew)
  have hlo := st0.lo
  go_wp2_with fail
  go_region_held (fun w' => w'.cell? ⟨w1.heap.size, 0, none⟩ = some (.int .i64 b) ∧ w'.cell? ⟨w1.heap.size, 1, none⟩ = some (.int .i64 d)) (first | exact ⟨st0.q0, st0.q1⟩ | exact ⟨sta.q0, sta.q1⟩ | exact ⟨stb.q0, stb.q1⟩ | exact ⟨stc.q0, stc.q1⟩ | exact stc.cells_end _ _) (first | (go_at_call 44; refine (table_any b d _ _ _ _ _ _ st0.cur (by omega)).mono ?_; rintro e wa ⟨ada, nta, cta, msa, rfl, hla, hna, hra, hka, hza, mva, hca⟩; have sta := st0.step mva hca; have taa : TR wa ada nta cta msa := ⟨hla, hna, hra, hka, hza⟩) | (go_at_call 62; refine (num_any _ _ _ _ _ _ _ _ sta.cur (by omega)).mono ?_; rintro e wb ⟨xb, rfl, xb1, xb2, mvb, hcb⟩; have stb := sta.step mvb hcb; have tab := taa.mv sta.cur mvb) | (go_at_call 62; refine (num_any _ _ _ _ _ _ _ _ stb.cur (by omega)).mono ?_; rintro e wc ⟨xc, rfl, xc1, xc2, mvc, hcc⟩; have stc := stb.step mvc hcc; have tac := tab.mv stb.cur mvc; obtain ⟨r0, r1, r2, r3⟩ := stc.res))
  go_wp2
  have e0 := (cell_of_row _ _ 0 _ _ _ (stc.res_end (.int .i64 b) (.int .i64 d))).trans rfl
  have e1 := (cell_of_row _ _ 1 _ _ _ (stc.res_end (.int .i64 b) (.int .i64 d))).trans rfl
  refine bodyPost_ret (by simp [results, Try.results33, go_sem, e0, e1] <;> rfl) rfl ⟨b, d, xb, xc, ada, nta, cta, msa, rfl, tac.end_ stc _ _, stc.bel_end _ _⟩
end Go.Proofs.Ytpgngfdhnoonjaa.Tb
