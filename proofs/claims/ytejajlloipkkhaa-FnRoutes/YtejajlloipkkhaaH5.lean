/- What is drawn of chapter 4: peers, numbers and how many forwards, as the laws draw them. -/
import Derived.Test.YtejajlloipkkhaaH4
namespace Go.Proofs.Ytejajlloipkkhaa
open Go.RowKit Go.Deep
set_option linter.unusedVariables false
theorem res_c3 {fn : Func} {p q r s : Tmp} {ty : TypeId} (h : fn.results = #[.cell p ty, .tmp q, .tmp r, .tmp s]) (tmps : Array Value) (w : World) (g : Nat) (t : TypeId) (cs : Array Value) (fr : Nat × Nat) (d : TypeDesc) (u1 u2 u3 : Value)
    (hp : tmps.getD p undef = .pointer (some ⟨g, 0, none⟩)) (hq : tmps.getD q undef = u1) (hr : tmps.getD r undef = u2) (hs : tmps.getD s undef = u3) (hg : w.heap[g]? = some (.cells cs t fr))
    (hu : Try.prog.underlying ty = some d) (hd : isRowD d = true) (hi : (Try.prog.info? ty).map (·.size) = some cs.size) :
    (results fn tmps).run Try.prog w = .ok (.tuple #[.agg cs, u1, u2, u3]) w := by
  have hp' : tmps[p]?.getD undef = .pointer (some ⟨g, 0, none⟩) := by simpa using hp
  have hq' : tmps[q]?.getD undef = u1 := by simpa using hq
  have hr' : tmps[r]?.getD undef = u2 := by simpa using hr
  have hs' : tmps[s]?.getD undef = u3 := by simpa using hs
  have hl := run_loadVar_row w g t ty cs fr d hg hu (by cases d <;> first | rfl | (simp [isRowD] at hd)) hi
  simp [results, h, hp', hq', hr', hs', asAddr, hl]
/-- peers are written as the answer -/
theorem pe_ends {w wr : World} {b d : Int} {ap : Option Addr} {cp : Nat} {ps : List Pr} {B T : Nat} (bel : Below w.heap.size w wr) (ka : Bk wr w.heap.size #[.int .i64 0, .int .i64 0, .slice none 0 0] 28) (ow : OwnPs B T wr ap ps.length ps) (hB : w.heap.size < B) (hT : T ≤ wr.heap.size) :
    Bk (setL wr w.heap.size 0 [.int .i64 b, .int .i64 d, .slice ap ps.length cp]) w.heap.size #[.int .i64 b, .int .i64 d, .slice ap ps.length cp] 28 ∧ Below w.heap.size w (setL wr w.heap.size 0 [.int .i64 b, .int .i64 d, .slice ap ps.length cp]) ∧ OwnPs w.heap.size (setL wr w.heap.size 0 [.int .i64 b, .int .i64 d, .slice ap ps.length cp]).heap.size (setL wr w.heap.size 0 [.int .i64 b, .int .i64 d, .slice ap ps.length cp]) ap ps.length ps := by
  refine ⟨Bk.setL [.int .i64 b, .int .i64 d, .slice ap ps.length cp] 0 ka, setL_below (Nat.le_refl _) _ 0 bel, ?_⟩
  have ho := ow.blocks (w1 := (setL wr w.heap.size 0 [.int .i64 b, .int .i64 d, .slice ap ps.length cp])) (fun k h1 _ _ => setL_oth (by omega) _ _ _)
  refine (ho.lower (by omega)).rise ?_
  rw [setL_size]
  exact hT
/-- the answer's block, the cursor's behind it, the peers' variable -/
structure D4 (w wr : World) (N : Nat) (a : Option Addr) (cap : Nat) (zs : List Int) (b d : Int) (ap : Option Addr) (cp : Nat) (ps : List Pr) (X : Nat) : Prop where
  bel : Below w.heap.size w wr
  cur : CurAt wr (w.heap.size + 1) N a cap zs
  ka : Bk wr w.heap.size #[.int .i64 0, .int .i64 0, .slice none 0 0] 28
  kp : Bk wr X #[.int .i64 b, .int .i64 d, .slice ap ps.length cp] 28
  hX : w.heap.size + 1 < X
  ow : OwnPs (w.heap.size + 2) X wr ap ps.length ps
theorem D4.step {w wr : World} {N : Nat} {a : Option Addr} {cap : Nat} {zs : List Int} {b d : Int} {ap : Option Addr} {cp : Nat} {ps : List Pr} {X : Nat} {w1 : World} {m : Nat} (h : D4 w wr N a cap zs b d ap cp ps X) (mv : Mv (w.heap.size + 1) wr w1) (hc : CurAt w1 (w.heap.size + 1) m a cap zs) : D4 w w1 m a cap zs b d ap cp ps X :=
  ⟨mv.below h.bel (by omega), hc, (mv.block _ h.ka.lt (by omega)).trans h.ka, (mv.block _ h.kp.lt (by have := h.hX; omega)).trans h.kp, h.hX, h.ow.blocks (fun k h1 _ hk => mv.block k hk (by omega))⟩
theorem D4.keep {w wr : World} {N : Nat} {a : Option Addr} {cap : Nat} {zs : List Int} {b d : Int} {ap : Option Addr} {cp : Nat} {ps : List Pr} {X : Nat} {w1 : World} (h : D4 w wr N a cap zs b d ap cp ps X) (hb : Below wr.heap.size wr w1) : D4 w w1 N a cap zs b d ap cp ps X := h.step (Mv.of_below hb) (h.cur.keep hb)
theorem D4.drew {w wr : World} {N : Nat} {a : Option Addr} {cap : Nat} {zs : List Int} {b d : Int} {ap : Option Addr} {cp : Nat} {ps : List Pr} {X : Nat} (h : D4 w wr N a cap zs b d ap cp ps X) : D4 w wr.drew N a cap zs b d ap cp ps X := h.keep (Below.refl _ _).drew
theorem D4.q {w wr : World} {N : Nat} {a : Option Addr} {cap : Nat} {zs : List Int} {b d : Int} {ap : Option Addr} {cp : Nat} {ps : List Pr} {X : Nat} (h : D4 w wr N a cap zs b d ap cp ps X) : wr.cell? ⟨X, 0, none⟩ = some (.int .i64 b) ∧ wr.cell? ⟨X, 1, none⟩ = some (.int .i64 d) ∧ wr.cell? ⟨X, 2, none⟩ = some (.slice ap ps.length cp) := Bk.c3 h.kp
theorem D4.e {w wr : World} {N : Nat} {a : Option Addr} {cap : Nat} {zs : List Int} {b d : Int} {ap : Option Addr} {cp : Nat} {ps : List Pr} {X : Nat} (h : D4 w wr N a cap zs b d ap cp ps X) (v0 v1 v2 : Value) : (((wr.setCell ⟨w.heap.size, 0, none⟩ v0).setCell ⟨w.heap.size, 1, none⟩ v1).setCell ⟨w.heap.size, 2, none⟩ v2).cell? ⟨X, 0, none⟩ = some (.int .i64 b) ∧ (((wr.setCell ⟨w.heap.size, 0, none⟩ v0).setCell ⟨w.heap.size, 1, none⟩ v1).setCell ⟨w.heap.size, 2, none⟩ v2).cell? ⟨X, 1, none⟩ = some (.int .i64 d) ∧ (((wr.setCell ⟨w.heap.size, 0, none⟩ v0).setCell ⟨w.heap.size, 1, none⟩ v1).setCell ⟨w.heap.size, 2, none⟩ v2).cell? ⟨X, 2, none⟩ = some (.slice ap ps.length cp) := by
  have hx := h.hX
  exact Bk.c3 (((h.kp.oth (by omega) 0 v0).oth (by omega) 1 v1).oth (by omega) 2 v2)
theorem D4.ends {w wr : World} {N : Nat} {a : Option Addr} {cap : Nat} {zs : List Int} {b d : Int} {ap : Option Addr} {cp : Nat} {ps : List Pr} {X : Nat} (h : D4 w wr N a cap zs b d ap cp ps X) :
    Bk (setL wr w.heap.size 0 [.int .i64 b, .int .i64 d, .slice ap ps.length cp]) w.heap.size #[.int .i64 b, .int .i64 d, .slice ap ps.length cp] 28 ∧ Below w.heap.size w (setL wr w.heap.size 0 [.int .i64 b, .int .i64 d, .slice ap ps.length cp]) ∧ OwnPs w.heap.size (setL wr w.heap.size 0 [.int .i64 b, .int .i64 d, .slice ap ps.length cp]).heap.size (setL wr w.heap.size 0 [.int .i64 b, .int .i64 d, .slice ap ps.length cp]) ap ps.length ps :=
  pe_ends h.bel h.ka h.ow (by omega) (Nat.le_of_lt h.kp.lt)
theorem d4_init {w w1 : World} {N : Nat} {a : Option Addr} {cap : Nat} {zs : List Int} {b d : Int} {ap : Option Addr} {cp : Nat} {ps : List Pr} (mv1 : Mv (w.heap.size + 1) ((w.alloc (.cells #[.int .i64 0, .int .i64 0, .slice none 0 0] 28)).alloc (.cells #[.slice a zs.length cap, .int .i64 0, .int .u64 0] 85)) w1) (hc1 : CurAt w1 (w.heap.size + 1) N a cap zs) (ow1 : OwnPs (w.heap.size + 2) w1.heap.size w1 ap ps.length ps) :
    D4 w (w1.alloc (.cells #[.int .i64 b, .int .i64 d, .slice ap ps.length cp] 28)) N a cap zs b d ap cp ps w1.heap.size := by
  have hs := mv1.size
  simp at hs
  have hb1 : Below w.heap.size w w1 := mv1.below (((Below.refl _ _).alloc (Nat.le_refl _) _).alloc (by simp) _) (by omega)
  refine ⟨hb1.alloc hb1.size _, hc1.new _, ?_, Bk.new _ _ _, by omega, ow1.keep (belA _ _)⟩
  refine Bk.alloc ?_ _
  refine (mv1.block _ (by simp; omega) (by omega)).trans ?_
  exact heap_alloc2_old _ _ _
theorem d4_res {w w1 : World} {a : Option Addr} {cap : Nat} {zs : List Int} (mv1 : Mv (w.heap.size + 1) ((w.alloc (.cells #[.int .i64 0, .int .i64 0, .slice none 0 0] 28)).alloc (.cells #[.slice a zs.length cap, .int .i64 0, .int .u64 0] 85)) w1) : Below w.heap.size w w1 ∧ Bk w1 w.heap.size #[.int .i64 0, .int .i64 0, .slice none 0 0] 28 ∧ w.heap.size + 2 ≤ w1.heap.size := by
  have hs := mv1.size
  simp at hs
  exact ⟨mv1.below (((Below.refl _ _).alloc (Nat.le_refl _) _).alloc (by simp) _) (by omega), (mv1.block _ (by simp; omega) (by omega)).trans (heap_alloc2_old _ _ _), by omega⟩
set_option maxRecDepth 100000 in
set_option maxHeartbeats 1600000 in
theorem drawGoodPeers_any (a : Option Addr) (cap : Nat) (zs : List Int) (w : World) (hm : zs.length ≤ 1048576) (hr : RowB w a zs) :
    Calls Try.prog 62 #[.slice a zs.length cap] w fun e w' => ∃ (b d : Int) (ap : Option Addr) (cp : Nat) (ps : List Pr), e = .returned (.agg #[.int .i64 b, .int .i64 d, .slice ap ps.length cp]) ∧ OwnPs w.heap.size w'.heap.size w' ap ps.length ps ∧ ps.length ≤ 16 ∧ Below w.heap.size w w' := by
  have hc0 := cur_new (cap := cap) hr hm ((Below.refl _ _).alloc (Nat.le_refl _) (.cells #[.int .i64 0, .int .i64 0, .slice none 0 0] 28))
  have HC0 : Hid (CurAt ((w.alloc (.cells #[.int .i64 0, .int .i64 0, .slice none 0 0] 28)).alloc (.cells #[.slice a zs.length cap, .int .i64 0, .int .u64 0] 85)) (w.alloc (.cells #[.int .i64 0, .int .i64 0, .slice none 0 0] 28)).heap.size 0 a cap zs) := hc0
  clear hc0 hr
  go_enter Try.func62, Try.ntmps62
  go_wp2_with fail
  refine (peers_any _ _ _ _ _ _ (by simpa using HC0.out) (by omega)).mono ?_
  rintro e w1 ⟨b, d, ap, cp, ps, rfl, ow1, l16, lb, mv1, hc1⟩
  simp at ow1
  clear lb HC0 hc1
  obtain ⟨hb1, K0, hs1⟩ := d4_res (by simpa using mv1)
  have K1 : Hid (Bk w1 w.heap.size #[.int .i64 0, .int .i64 0, .slice none 0 0] 28) := K0
  obtain ⟨r0, r1, r2⟩ := Bk.c3 K1.out
  obtain ⟨f0, f1, f2, _⟩ := K1.out.f4
  clear K0 mv1
  go_wp2_with fail
  obtain ⟨KA, KB, KO⟩ := pe_ends (b := b) (d := d) (cp := cp) hb1 K1.out ow1 (by omega) (Nat.le_refl _)
  exact bodyPost_ret (results_cell_row Try.results62 _ _ w.heap.size _ _ _ _ rfl KA Try.underlying28 rfl (by kernel_rfl)) rfl ⟨b, d, ap, cp, ps, rfl, KO, l16, KB⟩
set_option maxRecDepth 100000 in
set_option maxHeartbeats 1600000 in
theorem drawBoundOf_any (a : Option Addr) (cap : Nat) (zs : List Int) (w : World) (hm : zs.length ≤ 1048576) (hr : RowB w a zs) :
    Calls Try.prog 21 #[.slice a zs.length cap] w fun e w' => ∃ (b d : Int) (ap : Option Addr) (cp : Nat) (ps : List Pr), e = .returned (.agg #[.int .i64 b, .int .i64 d, .slice ap ps.length cp]) ∧ OwnPs w.heap.size w'.heap.size w' ap ps.length ps ∧ ps.length ≤ 16 ∧ Below w.heap.size w w' := by
  have HR : Hid (RowB w a zs) := hr
  clear hr
  go_enter Try.func21, Try.ntmps21
  go_wp2_with fail
  refine (drawGoodPeers_any _ _ zs _ hm (HR.out.keep (belA _ _))).mono ?_
  rintro e w1 ⟨b, d, ap, cp, ps, rfl, ow1, l16, hb1⟩
  have hs1 := hb1.size
  simp at ow1 hs1
  have hb2 : Below w.heap.size w w1 := belt (belA _ _) hb1
  have K1 : Hid (Bk w1 w.heap.size #[.int .i64 0, .int .i64 0, .slice none 0 0] 28) := (hb1.block _ (by simp)).trans (heap_alloc_new _ _)
  obtain ⟨r0, r1, r2⟩ := Bk.c3 K1.out
  obtain ⟨f0, f1, f2, _⟩ := K1.out.f4
  clear hb1
  go_wp2_with fail
  obtain ⟨KA, KB, KO⟩ := pe_ends (b := b) (d := d) (cp := cp) hb2 K1.out ow1 (by omega) (Nat.le_refl _)
  exact bodyPost_ret (results_cell_row Try.results21 _ _ w.heap.size _ _ _ _ rfl KA Try.underlying28 rfl (by kernel_rfl)) rfl ⟨b, d, ap, cp, ps, rfl, KO, l16, KB⟩
set_option maxRecDepth 100000 in
set_option maxHeartbeats 1600000 in
theorem drawStartAt_any (a : Option Addr) (cap : Nat) (zs : List Int) (w : World) (hm : zs.length ≤ 1048576) (hr : RowB w a zs) :
    Calls Try.prog 30 #[.slice a zs.length cap] w fun e w' => ∃ (b d : Int) (ap : Option Addr) (cp : Nat) (ps : List Pr) (x k : Int), e = .returned (.tuple #[.agg #[.int .i64 b, .int .i64 d, .slice ap ps.length cp], .int .i64 x, .int .i64 k]) ∧ OwnPs w.heap.size w'.heap.size w' ap ps.length ps ∧ ps.length ≤ 16 ∧ Below w.heap.size w w' := by
  have hc0 := cur_new (cap := cap) hr hm ((Below.refl _ _).alloc (Nat.le_refl _) (.cells #[.int .i64 0, .int .i64 0, .slice none 0 0] 28))
  have HC0 : Hid (CurAt ((w.alloc (.cells #[.int .i64 0, .int .i64 0, .slice none 0 0] 28)).alloc (.cells #[.slice a zs.length cap, .int .i64 0, .int .u64 0] 85)) (w.alloc (.cells #[.int .i64 0, .int .i64 0, .slice none 0 0] 28)).heap.size 0 a cap zs) := hc0
  clear hc0 hr
  go_enter Try.func30, Try.ntmps30
  go_wp2_with fail
  refine (asked_any _ _ _ _ _ _ (by simpa using HC0.out) (by omega)).mono ?_
  rintro e w1 ⟨b, d, ap, cp, ps, x, k, rfl, ow1, l16, lb, mv1, hc1⟩
  simp at ow1
  clear lb HC0
  obtain ⟨hb1, K0, hs1⟩ := d4_res (by simpa using mv1)
  have K1 : Hid (Bk w1 w.heap.size #[.int .i64 0, .int .i64 0, .slice none 0 0] 28) := K0
  obtain ⟨r0, r1, r2⟩ := Bk.c3 K1.out
  obtain ⟨f0, f1, f2, _⟩ := K1.out.f4
  clear K0 mv1 hc1
  go_wp2_with fail
  obtain ⟨KA, KB, KO⟩ := pe_ends (b := b) (d := d) (cp := cp) hb1 K1.out ow1 (by omega) (Nat.le_refl _)
  exact bodyPost_ret (res_c2 Try.results30 _ _ w.heap.size _ _ _ _ _ _ rfl rfl rfl KA Try.underlying28 rfl (by kernel_rfl)) rfl ⟨b, d, ap, cp, ps, x, k, rfl, KO, l16, KB⟩
set_option maxRecDepth 100000 in
set_option maxHeartbeats 1600000 in
theorem drawHopsIn_any (a : Option Addr) (cap : Nat) (zs : List Int) (w : World) (hm : zs.length ≤ 1048576) (hr : RowB w a zs) :
    Calls Try.prog 23 #[.slice a zs.length cap] w fun e w' => ∃ (b d : Int) (ap : Option Addr) (cp : Nat) (ps : List Pr) (k : Int), e = .returned (.tuple #[.agg #[.int .i64 b, .int .i64 d, .slice ap ps.length cp], .int .i64 k]) ∧ OwnPs w.heap.size w'.heap.size w' ap ps.length ps ∧ ps.length ≤ 16 ∧ Below w.heap.size w w' := by
  have hc0 := cur_new (cap := cap) hr hm ((Below.refl _ _).alloc (Nat.le_refl _) (.cells #[.int .i64 0, .int .i64 0, .slice none 0 0] 28))
  have HC0 : Hid (CurAt ((w.alloc (.cells #[.int .i64 0, .int .i64 0, .slice none 0 0] 28)).alloc (.cells #[.slice a zs.length cap, .int .i64 0, .int .u64 0] 85)) (w.alloc (.cells #[.int .i64 0, .int .i64 0, .slice none 0 0] 28)).heap.size 0 a cap zs) := hc0
  clear hc0 hr
  go_enter Try.func23, Try.ntmps23
  go_wp2_with fail
  refine (asked_any _ _ _ _ _ _ (by simpa using HC0.out) (by omega)).mono ?_
  rintro e w1 ⟨b, d, ap, cp, ps, x, k, rfl, ow1, l16, lb, mv1, hc1⟩
  simp at ow1
  clear lb HC0
  have D1 : Hid (D4 w (w1.alloc (.cells #[.int .i64 b, .int .i64 d, .slice ap ps.length cp] 28)) 320 a cap zs b d ap cp ps w1.heap.size) := d4_init (by simpa using mv1) (by simpa using hc1) ow1
  clear mv1 hc1 ow1
  go_upto_region 3 with (fail)
  generalize w1.alloc (.cells #[.int .i64 b, .int .i64 d, .slice ap ps.length cp] 28) = w2 at *
  generalize w1.heap.size = X at *
  obtain ⟨q0, q1, q2⟩ := D1.out.q
  obtain ⟨r0, r1, r2⟩ := Bk.c3 D1.out.ka
  obtain ⟨f0, f1, f2, _⟩ := D1.out.ka.f4
  have hX := D1.out.hX
  go_wp2_with fail
  obtain ⟨KA, KB, KO⟩ := D1.out.ends
  exact bodyPost_ret (results_cell_tmp Try.results23 _ _ w.heap.size _ _ _ _ _ rfl rfl KA Try.underlying28 rfl (by kernel_rfl)) rfl ⟨b, d, ap, cp, ps, k, rfl, KO, l16, KB⟩
set_option maxRecDepth 100000 in
set_option maxHeartbeats 1600000 in
theorem drawRouteOf_any (a : Option Addr) (cap : Nat) (zs : List Int) (w : World) (hm : zs.length ≤ 1048576) (hr : RowB w a zs) :
    Calls Try.prog 13 #[.slice a zs.length cap] w fun e w' => ∃ (b d : Int) (ap : Option Addr) (cp : Nat) (ps : List Pr) (x k t : Int), e = .returned (.tuple #[.agg #[.int .i64 b, .int .i64 d, .slice ap ps.length cp], .int .i64 x, .int .i64 k, .int .i64 t]) ∧ OwnPs w.heap.size w'.heap.size w' ap ps.length ps ∧ ps.length ≤ 16 ∧ Below w.heap.size w w' := by
  have hc0 := cur_new (cap := cap) hr hm ((Below.refl _ _).alloc (Nat.le_refl _) (.cells #[.int .i64 0, .int .i64 0, .slice none 0 0] 28))
  have HC0 : Hid (CurAt ((w.alloc (.cells #[.int .i64 0, .int .i64 0, .slice none 0 0] 28)).alloc (.cells #[.slice a zs.length cap, .int .i64 0, .int .u64 0] 85)) (w.alloc (.cells #[.int .i64 0, .int .i64 0, .slice none 0 0] 28)).heap.size 0 a cap zs) := hc0
  clear hc0 hr
  go_enter Try.func13, Try.ntmps13
  go_wp2_with fail
  refine (asked_any _ _ _ _ _ _ (by simpa using HC0.out) (by omega)).mono ?_
  rintro e w1 ⟨b, d, ap, cp, ps, x, k, rfl, ow1, l16, lb, mv1, hc1⟩
  simp at ow1
  clear lb HC0
  have D1 : Hid (D4 w (w1.alloc (.cells #[.int .i64 b, .int .i64 d, .slice ap ps.length cp] 28)) 320 a cap zs b d ap cp ps w1.heap.size) := d4_init (by simpa using mv1) (by simpa using hc1) ow1
  clear mv1 hc1 ow1
  go_upto_region 3 with (fail)
  generalize w1.alloc (.cells #[.int .i64 b, .int .i64 d, .slice ap ps.length cp] 28) = w2 at *
  generalize w1.heap.size = X at *
  have sta := D1.out.drew
  have stA := (D1.out.keep (belA _ (.cells #[.int .i64 1000, .int .i64 1000, .int .i64 100, .int .i64 20, .int .i64 5, .int .i64 2, .int .i64 0, .int .i64 1001] 3))).drew
  have hX := D1.out.hX
  have hXl := D1.out.kp.lt
  have CA : Calls Try.prog 50 #[.pointer (some ⟨w.heap.size + 1, 0, none⟩), .slice (some ⟨w2.heap.size, 0, none⟩) 8 8] (w2.alloc (.cells #[.int .i64 1000, .int .i64 1000, .int .i64 100, .int .i64 20, .int .i64 5, .int .i64 2, .int .i64 0, .int .i64 1001] 3)).drew fun e w' => ∃ v : Int, e = .returned (.int .i64 v) ∧ D4 w w' 322 a cap zs b d ap cp ps X := by
    refine (among_any [1000, 1000, 100, 20, 5, 2, 0, 1001] w2.heap.size 8 _ _ _ _ _ _ stA.cur (by omega) (by simp) (by simp) (by show w2.heap.size < (w2.alloc _).heap.size; simp) (by omega) ?hy).mono ?_
    case hy =>
      intro i hi
      match i, hi with
      | 0, _ => exact (Bk.new _ _ _).cell 0
      | 1, _ => exact (Bk.new _ _ _).cell 1
      | 2, _ => exact (Bk.new _ _ _).cell 2
      | 3, _ => exact (Bk.new _ _ _).cell 3
      | 4, _ => exact (Bk.new _ _ _).cell 4
      | 5, _ => exact (Bk.new _ _ _).cell 5
      | 6, _ => exact (Bk.new _ _ _).cell 6
      | 7, _ => exact (Bk.new _ _ _).cell 7
    rintro e wd ⟨y, rfl, _, mvd, hcd⟩
    exact ⟨y, rfl, stA.step mvd hcd⟩
  go_wp2_with fail
  go_region_held (fun w' => w'.cell? ⟨X, 0, none⟩ = some (.int .i64 b) ∧ w'.cell? ⟨X, 1, none⟩ = some (.int .i64 d) ∧ w'.cell? ⟨X, 2, none⟩ = some (.slice ap ps.length cp)) (with_reducible (first | exact sta.q | exact stA.q | exact stb.q | exact stb.e _ _ _)) ((go_at_call 50; refine CA.mono ?_; rintro e wa ⟨xa, rfl, stb⟩; obtain ⟨r0, r1, r2⟩ := Bk.c3 stb.ka; obtain ⟨f0, f1, f2, _⟩ := stb.ka.f4))
  go_wp2_with fail
  obtain ⟨KA, KB, KO⟩ := stb.ends
  exact bodyPost_ret (res_c3 Try.results13 _ _ w.heap.size _ _ _ _ _ _ _ rfl rfl rfl rfl KA Try.underlying28 rfl (by kernel_rfl)) rfl ⟨b, d, ap, cp, ps, x, k, xa, rfl, KO, l16, KB⟩
end Go.Proofs.Ytejajlloipkkhaa
