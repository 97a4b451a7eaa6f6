/- What is drawn of chapter 4: peers, a number and a key. -/
import Derived.Test.YtejajlloipkkhaaJ0Z
namespace Go.Proofs.Ytejajlloipkkhaa
open Go.RowKit Go.Deep
set_option linter.unusedVariables false
theorem OwnPs.rise {B T T' : Nat} {w : World} {a : Option Addr} {n : Nat} {ps : List Pr} (h : OwnPs B T w a n ps) (ht : T ≤ T') : OwnPs B T' w a n ps := by
  refine ⟨h.1, ?_⟩
  rcases h.2 with h | ⟨g, L, ha, hL, os⟩
  · exact .inl h
  · exact .inr ⟨g, L, ha, hL, os.wide ht⟩
theorem res_c2 {fn : Func} {p q r : Tmp} {ty : TypeId} (h : fn.results = #[.cell p ty, .tmp q, .tmp r]) (tmps : Array Value) (w : World) (g : Nat) (t : TypeId) (cs : Array Value) (fr : Nat × Nat) (d : TypeDesc) (u1 u2 : Value)
    (hp : tmps.getD p undef = .pointer (some ⟨g, 0, none⟩)) (hq : tmps.getD q undef = u1) (hr : tmps.getD r undef = u2) (hg : w.heap[g]? = some (.cells cs t fr))
    (hu : Try.prog.underlying ty = some d) (hd : isRowD d = true) (hi : (Try.prog.info? ty).map (·.size) = some cs.size) :
    (results fn tmps).run Try.prog w = .ok (.tuple #[.agg cs, u1, u2]) w := by
  have hp' : tmps[p]?.getD undef = .pointer (some ⟨g, 0, none⟩) := by simpa using hp
  have hq' : tmps[q]?.getD undef = u1 := by simpa using hq
  have hr' : tmps[r]?.getD undef = u2 := by simpa using hr
  have hl := run_loadVar_row w g t ty cs fr d hg hu (by cases d <;> first | rfl | (simp [isRowD] at hd)) hi
  simp [results, h, hp', hq', hr', asAddr, hl]
theorem Mv.setL {g : Nat} {w : World} {q : Nat} (hq : w.heap.size ≤ q) : ∀ (vs : List Value) {w' : World} (i : Nat), Mv g w w' → Mv g w (setL w' q i vs)
  | [], _, _, h => h
  | v :: vs, _, i, h => Mv.setL hq vs (i + 1) (h.put hq i v)
/-- the drawn peers in their box, the cursor, and the answer's cell -/
structure AS (w wr : World) (g n : Nat) (a : Option Addr) (cap : Nat) (zs : List Int) (b d : Int) (ap : Option Addr) (cp : Nat) (ps : List Pr) (X : Nat) : Prop where
  mv : Mv g w wr
  cur : CurAt wr g n a cap zs
  ka : Bk wr w.heap.size #[.int .i64 0, .int .i64 0, .slice none 0 0] 28
  kp : Bk wr X #[.int .i64 b, .int .i64 d, .slice ap ps.length cp] 28
  hX : w.heap.size < X
  ow : OwnPs (w.heap.size + 1) X wr ap ps.length ps
  gl : g < w.heap.size
  row : RowU w g a zs
theorem AS.step {w wr : World} {g n : Nat} {a : Option Addr} {cap : Nat} {zs : List Int} {b d : Int} {ap : Option Addr} {cp : Nat} {ps : List Pr} {X : Nat} {w1 : World} {m : Nat} (h : AS w wr g n a cap zs b d ap cp ps X) (mv : Mv g wr w1) (hc : CurAt w1 g m a cap zs) : AS w w1 g m a cap zs b d ap cp ps X :=
  ⟨h.mv.trans mv, hc, (mv.block _ h.ka.lt (by have := h.gl; omega)).trans h.ka, (mv.block _ h.kp.lt (by have := h.gl; have := h.hX; omega)).trans h.kp, h.hX, h.ow.blocks (fun k h1 _ hk => mv.block k hk (by have := h.gl; omega)), h.gl, h.row⟩
theorem AS.more {w wr : World} {g n : Nat} {a : Option Addr} {cap : Nat} {zs : List Int} {b d : Int} {ap : Option Addr} {cp : Nat} {ps : List Pr} {X : Nat} {m : Nat} (h : AS w wr g n a cap zs b d ap cp ps X) (hm : n ≤ m) : AS w wr g m a cap zs b d ap cp ps X := ⟨h.mv, h.cur.more hm, h.ka, h.kp, h.hX, h.ow, h.gl, h.row⟩
theorem AS.drew {w wr : World} {g n : Nat} {a : Option Addr} {cap : Nat} {zs : List Int} {b d : Int} {ap : Option Addr} {cp : Nat} {ps : List Pr} {X : Nat} (h : AS w wr g n a cap zs b d ap cp ps X) : AS w wr.drew g n a cap zs b d ap cp ps X := h.step (Mv.of_below (Below.refl _ _).drew) (h.cur.keep (Below.refl _ _).drew)
theorem AS.hc {w wr : World} {g n : Nat} {a : Option Addr} {cap : Nat} {zs : List Int} {b d : Int} {bk off cp : Nat} {ps : List Pr} {X : Nat} (h : AS w wr g n a cap zs b d (some ⟨bk, off, none⟩) cp ps X) (h0 : 0 < ps.length) : wr.cell? ⟨X, 2, none⟩ = some (.slice (some ⟨bk, off, none⟩) ps.length cp) ∧ ∀ i, i < ps.length → wr.cell? ⟨bk, off + i * 4, none⟩ = some (.int .i64 (ps.getD i pr0).id) :=
  ⟨h.kp.cell 2, fun i hi => ((peersAt_cell h.ow.peersAt h0).2 i hi).1⟩
/-- the answer is written -/
theorem AS.ends {w wr : World} {g n : Nat} {a : Option Addr} {cap : Nat} {zs : List Int} {b d : Int} {ap : Option Addr} {cp : Nat} {ps : List Pr} {X : Nat} (h : AS w wr g n a cap zs b d ap cp ps X) :
    Bk (setL wr w.heap.size 0 [.int .i64 b, .int .i64 d, .slice ap ps.length cp]) w.heap.size #[.int .i64 b, .int .i64 d, .slice ap ps.length cp] 28 ∧ Mv g w (setL wr w.heap.size 0 [.int .i64 b, .int .i64 d, .slice ap ps.length cp]) ∧ CurAt (setL wr w.heap.size 0 [.int .i64 b, .int .i64 d, .slice ap ps.length cp]) g n a cap zs ∧ OwnPs w.heap.size (setL wr w.heap.size 0 [.int .i64 b, .int .i64 d, .slice ap ps.length cp]).heap.size (setL wr w.heap.size 0 [.int .i64 b, .int .i64 d, .slice ap ps.length cp]) ap ps.length ps := by
  have hm : Mv g w (setL wr w.heap.size 0 [.int .i64 b, .int .i64 d, .slice ap ps.length cp]) := Mv.setL (Nat.le_refl _) _ 0 h.mv
  have hg := h.gl
  refine ⟨Bk.setL [.int .i64 b, .int .i64 d, .slice ap ps.length cp] 0 h.ka, hm, h.cur.blocks h.row hm (setL_oth (by omega) _ _ _), ?_⟩
  have ho := h.ow.blocks (w1 := setL wr w.heap.size 0 [.int .i64 b, .int .i64 d, .slice ap ps.length cp]) (fun k h1 _ _ => setL_oth (by omega) _ _ _)
  refine (ho.lower (by omega)).rise ?_
  rw [setL_size]
  exact Nat.le_of_lt h.kp.lt
set_option maxRecDepth 100000 in
set_option maxHeartbeats 1600000 in
theorem asked_any (w : World) (g n : Nat) (a : Option Addr) (cap : Nat) (zs : List Int) (hc : CurAt w g n a cap zs) (hn : n ≤ 500) :
    Calls Try.prog 49 #[.pointer (some ⟨g, 0, none⟩)] w fun e w' => ∃ (b d : Int) (ap : Option Addr) (cp : Nat) (ps : List Pr) (x k : Int), e = .returned (.tuple #[.agg #[.int .i64 b, .int .i64 d, .slice ap ps.length cp], .int .i64 x, .int .i64 k]) ∧ OwnPs w.heap.size w'.heap.size w' ap ps.length ps ∧ ps.length ≤ 16 ∧ (∀ i, i < ps.length → (ps.getD i pr0).backs.length ≤ 3) ∧ Mv g w w' ∧ CurAt w' g (n + 320) a cap zs := by
  have hlt := hc.lt
  have hrow := hc.row
  go_enter Try.func49, Try.ntmps49
  go_wp2_with fail
  refine (peers_any _ _ _ _ _ _ (hc.new _) (by omega)).mono ?_
  rintro e w1 ⟨b, d, ap, cp, ps, rfl, ow1, l16, lb, mv1, hc1⟩
  have hs1 := mv1.size
  simp at hs1 ow1
  have P20 : AS w (w1.alloc (.cells #[.int .i64 b, .int .i64 d, .slice ap ps.length cp] 28)) g (n + 300) a cap zs b d ap cp ps w1.heap.size := by
    refine ⟨((Mv.of_below (belA _ _)).trans mv1).alloc _, hc1.new _, ?_, Bk.new _ _ _, by omega, ow1.keep (belA _ _), hlt, hrow⟩
    refine Bk.alloc ?_ _
    exact (mv1.block _ (by simp) (by omega)).trans (heap_alloc_new _ _)
  have P2 : Hid _ := P20
  have LB : Hid (∀ i, i < ps.length → (ps.getD i pr0).backs.length ≤ 3) := lb
  clear P20 ow1 lb mv1 hc1 hc hs1 hrow
  go_upto_region 2 with (fail)
  generalize w1.alloc (.cells #[.int .i64 b, .int .i64 d, .slice ap ps.length cp] 28) = w2 at *
  generalize w1.heap.size = X at *
  obtain ⟨q0, q1, q2⟩ := Bk.c3 P2.out.kp
  go_upto_if 13 with (fail)
  go_cut [6] (fun v6 wc => ∃ x, v6 = .int .i64 x ∧ Hid (AS w wc g (n + 302) a cap zs b d ap cp ps X))
  case first =>
    clear q0 q1 q2
    by_cases h0 : 0 < ps.length
    · obtain ⟨bk, off, rfl⟩ := peersAt_form P2.out.ow.peersAt (by omega)
      have h0' : decide ((0 : Int) < (ps.length : Int)) = true := decide_eq_true (by omega)
      go_wp2_with fail
      have sta := P2.out.drew
      go_region_held (fun w' => w'.cell? ⟨X, 2, none⟩ = some (.slice (some ⟨bk, off, none⟩) ps.length cp) ∧ ∀ i, i < ps.length → w'.cell? ⟨bk, off + i * 4, none⟩ = some (.int .i64 (ps.getD i pr0).id)) (with_reducible (first | exact sta.hc h0 | exact stb.hc h0)) ((go_at_call 75; refine (pick_any _ _ _ _ _ _ _ sta.cur (by omega) (by omega) (by omega)).mono ?_; rintro e wa ⟨xa, rfl, xa1, xa2, mva, hca⟩; obtain ⟨i, rfl⟩ := Int.eq_ofNat_of_zero_le xa1; have stb := sta.step mva hca; have hii : i < ps.length := (by omega); have d2 := (stb.hc h0).2 i hii))
      go_wp2_with fail
      go_meet
      exact ⟨_, rfl, stb⟩
    · have h0' : decide ((0 : Int) < (ps.length : Int)) = false := decide_eq_false (by omega)
      go_wp2_with fail
      go_meet
      exact ⟨_, rfl, P2.out.more (by omega)⟩
  case rest =>
  obtain ⟨x, rfl, P3⟩ := hcut
  clear P2 q0 q1 q2
  go_wp2_with fail
  refine (one_any _ _ _ _ _ _ _ P3.out.cur (by omega) (by omega) (by omega)).mono ?_
  rintro e w4 ⟨o4, rfl, mv4, hc4⟩
  have P4 : Hid (AS w w4 g (n + 304) a cap zs b d ap cp ps X) := P3.out.step mv4 hc4
  clear P3 mv4 hc4
  go_upto_if 25 with (fail)
  go_cut [6] (fun v6 wc => ∃ x, v6 = .int .i64 x ∧ Hid (AS w wc g (n + 308) a cap zs b d ap cp ps X))
  case first =>
    cases o4
    · go_wp2_with fail
      go_meet
      exact ⟨_, rfl, P4.out.more (by omega)⟩
    · obtain ⟨q0, q1, q2⟩ := Bk.c3 P4.out.kp
      go_wp2_with fail
      refine (num_any _ _ _ _ _ _ _ _ P4.out.cur (by omega)).mono ?_
      rintro e w5 ⟨x5, rfl, _, _, mv5, hc5⟩
      have P5 : Hid (AS w w5 g (n + 308) a cap zs b d ap cp ps X) := P4.out.step mv5 hc5
      clear mv5 hc5
      go_wp2_with fail
      go_meet
      exact ⟨_, rfl, P5⟩
  case rest =>
  clear x P4 o4
  obtain ⟨x, rfl, P5⟩ := hcut
  obtain ⟨q0, q1, q2⟩ := Bk.c3 P5.out.kp
  go_wp2_with fail
  refine (num_any _ _ _ _ _ _ _ _ P5.out.cur (by omega)).mono ?_
  rintro e w6 ⟨y, rfl, _, _, mv6, hc6⟩
  have P6 : Hid (AS w w6 g (n + 312) a cap zs b d ap cp ps X) := P5.out.step mv6 hc6
  clear mv6 hc6 q0 q1 q2 P5
  by_cases h0 : 0 < ps.length
  · obtain ⟨bk, off, rfl⟩ := peersAt_form P6.out.ow.peersAt (by omega)
    have h0' : decide ((0 : Int) < (ps.length : Int)) = true := decide_eq_true (by omega)
    obtain ⟨q0, q1, q2⟩ := Bk.c3 P6.out.kp
    go_wp2_with fail
    refine (one_any _ _ _ _ _ _ _ P6.out.cur (by omega) (by omega) (by omega)).mono ?_
    rintro e w7 ⟨o7, rfl, mv7, hc7⟩
    have P7 : Hid (AS w w7 g (n + 314) a cap zs b d (some ⟨bk, off, none⟩) cp ps X) := P6.out.step mv7 hc7
    clear mv7 hc7 P6 q0 q1 q2
    cases o7
    · skip
      obtain ⟨q0, q1, q2⟩ := Bk.c3 P7.out.kp
      obtain ⟨r0, r1, r2⟩ := Bk.c3 P7.out.ka
      obtain ⟨f0, f1, f2, _⟩ := P7.out.ka.f4
      have hX := P7.out.hX
      go_wp2_with fail
      obtain ⟨KA, KM, KC, KO⟩ := P7.out.ends
      refine bodyPost_ret (res_c2 Try.results49 _ _ w.heap.size _ _ _ _ _ _ rfl rfl rfl KA Try.underlying28 rfl (by kernel_rfl)) rfl ?_
      exact ⟨b, d, _, cp, ps, x, y, rfl, KO, l16, LB.out, KM, KC.more (by omega)⟩
    · skip
      go_wp2_with fail
      have sta := P7.out.drew
      go_region_held (fun w' => w'.cell? ⟨X, 2, none⟩ = some (.slice (some ⟨bk, off, none⟩) ps.length cp) ∧ ∀ i, i < ps.length → w'.cell? ⟨bk, off + i * 4, none⟩ = some (.int .i64 (ps.getD i pr0).id)) (with_reducible (first | exact sta.hc h0 | exact stb.hc h0)) ((go_at_call 75; refine (pick_any _ _ _ _ _ _ _ sta.cur (by omega) (by omega) (by omega)).mono ?_; rintro e wa ⟨xa, rfl, xa1, xa2, mva, hca⟩; obtain ⟨i, rfl⟩ := Int.eq_ofNat_of_zero_le xa1; have stb := sta.step mva hca; have hii : i < ps.length := (by omega); have d2 := (stb.hc h0).2 i hii))
      have P8 : Hid _ := stb
      clear stb sta
      obtain ⟨q0, q1, q2⟩ := Bk.c3 P8.out.kp
      obtain ⟨r0, r1, r2⟩ := Bk.c3 P8.out.ka
      obtain ⟨f0, f1, f2, _⟩ := P8.out.ka.f4
      have hX := P8.out.hX
      go_wp2_with fail
      obtain ⟨KA, KM, KC, KO⟩ := P8.out.ends
      refine bodyPost_ret (res_c2 Try.results49 _ _ w.heap.size _ _ _ _ _ _ rfl rfl rfl KA Try.underlying28 rfl (by kernel_rfl)) rfl ?_
      exact ⟨b, d, _, cp, ps, x, _, rfl, KO, l16, LB.out, KM, KC.more (by omega)⟩
  · have h0' : decide ((0 : Int) < (ps.length : Int)) = false := decide_eq_false (by omega)
    obtain ⟨q0, q1, q2⟩ := Bk.c3 P6.out.kp
    obtain ⟨r0, r1, r2⟩ := Bk.c3 P6.out.ka
    obtain ⟨f0, f1, f2, _⟩ := P6.out.ka.f4
    have hX := P6.out.hX
    go_wp2_with fail
    obtain ⟨KA, KM, KC, KO⟩ := P6.out.ends
    refine bodyPost_ret (res_c2 Try.results49 _ _ w.heap.size _ _ _ _ _ _ rfl rfl rfl KA Try.underlying28 rfl (by kernel_rfl)) rfl ?_
    exact ⟨b, d, ap, cp, ps, x, y, rfl, KO, l16, LB.out, KM, KC.more (by omega)⟩
end Go.Proofs.Ytejajlloipkkhaa
