/- What is drawn of chapter 4: a walk on its way. -/
import Derived.Test.YtejajlloipkkhaaH4
import Derived.Test.YtejajlloipkkhaaI0
import Derived.Deep.CutBlock
namespace Go.Proofs.Ytejajlloipkkhaa
open Go.RowKit Go.Deep
set_option linter.unusedVariables false
theorem res_cc {fn : Func} {p q r : Tmp} {ty ty' : TypeId} (h : fn.results = #[.cell p ty, .tmp q, .cell r ty']) (tmps : Array Value) (w : World) (g g' : Nat) (t t' : TypeId) (cs cs' : Array Value) (fr fr' : Nat × Nat) (d d' : TypeDesc) (u1 : Value)
    (hp : tmps.getD p undef = .pointer (some ⟨g, 0, none⟩)) (hq : tmps.getD q undef = u1) (hr : tmps.getD r undef = .pointer (some ⟨g', 0, none⟩)) (hg : w.heap[g]? = some (.cells cs t fr)) (hg' : w.heap[g']? = some (.cells cs' t' fr'))
    (hu : Try.prog.underlying ty = some d) (hd : isRowD d = true) (hi : (Try.prog.info? ty).map (·.size) = some cs.size) (hu' : Try.prog.underlying ty' = some d') (hd' : isRowD d' = true) (hi' : (Try.prog.info? ty').map (·.size) = some cs'.size) :
    (results fn tmps).run Try.prog w = .ok (.tuple #[.agg cs, u1, .agg cs']) w := by
  have hp' : tmps[p]?.getD undef = .pointer (some ⟨g, 0, none⟩) := by simpa using hp
  have hq' : tmps[q]?.getD undef = u1 := by simpa using hq
  have hr' : tmps[r]?.getD undef = .pointer (some ⟨g', 0, none⟩) := by simpa using hr
  have hl := run_loadVar_row w g t ty cs fr d hg hu (by cases d <;> first | rfl | (simp [isRowD] at hd)) hi
  have hl' := run_loadVar_row w g' t' ty' cs' fr' d' hg' hu' (by cases d' <;> first | rfl | (simp [isRowD] at hd')) hi'
  simp [results, h, hp', hq', hr', asAddr, hl, hl']
/-- the drawn peers and the walk in their boxes, the cursor, and the answers' cells -/
structure W4 (w wr : World) (g n : Nat) (a : Option Addr) (cap : Nat) (zs : List Int) (b d : Int) (ap : Option Addr) (cp : Nat) (ps : List Pr) (X Y : Nat) (C : Array Value) : Prop where
  mv : Mv g w wr
  cur : CurAt wr g n a cap zs
  ka : Bk wr w.heap.size #[.int .i64 0, .int .i64 0, .slice none 0 0] 28
  kb : Bk wr (w.heap.size + 1) #[.int .i64 0, .int .i64 0, .int .i64 0, .int .i64 0, .int .i64 0, .int .i64 0, .int .i64 0] 32
  kp : Bk wr X #[.int .i64 b, .int .i64 d, .slice ap ps.length cp] 28
  kw : Bk wr Y C 32
  hX : w.heap.size + 1 < X
  hY : X < Y
  ow : OwnPs (w.heap.size + 2) X wr ap ps.length ps
  gl : g < w.heap.size
  row : RowU w g a zs
theorem W4.step {w wr : World} {g n : Nat} {a : Option Addr} {cap : Nat} {zs : List Int} {b d : Int} {ap : Option Addr} {cp : Nat} {ps : List Pr} {X Y : Nat} {C : Array Value} {w1 : World} {m : Nat} (h : W4 w wr g n a cap zs b d ap cp ps X Y C) (mv : Mv g wr w1) (hc : CurAt w1 g m a cap zs) : W4 w w1 g m a cap zs b d ap cp ps X Y C := by
  have h1 := h.gl
  have h2 := h.hX
  have h3 := h.hY
  exact ⟨h.mv.trans mv, hc, (mv.block _ h.ka.lt (by omega)).trans h.ka, (mv.block _ h.kb.lt (by omega)).trans h.kb, (mv.block _ h.kp.lt (by omega)).trans h.kp, (mv.block _ h.kw.lt (by omega)).trans h.kw, h2, h3, h.ow.blocks (fun k q1 _ hk => mv.block k hk (by omega)), h1, h.row⟩
theorem W4.keep {w wr : World} {g n : Nat} {a : Option Addr} {cap : Nat} {zs : List Int} {b d : Int} {ap : Option Addr} {cp : Nat} {ps : List Pr} {X Y : Nat} {C : Array Value} {w1 : World} (h : W4 w wr g n a cap zs b d ap cp ps X Y C) (hb : Below wr.heap.size wr w1) : W4 w w1 g n a cap zs b d ap cp ps X Y C := h.step (Mv.of_below hb) (h.cur.keep hb)
theorem W4.more {w wr : World} {g n : Nat} {a : Option Addr} {cap : Nat} {zs : List Int} {b d : Int} {ap : Option Addr} {cp : Nat} {ps : List Pr} {X Y : Nat} {C : Array Value} {m : Nat} (h : W4 w wr g n a cap zs b d ap cp ps X Y C) (hm : n ≤ m) : W4 w wr g m a cap zs b d ap cp ps X Y C := ⟨h.mv, h.cur.more hm, h.ka, h.kb, h.kp, h.kw, h.hX, h.hY, h.ow, h.gl, h.row⟩
theorem W4.drew {w wr : World} {g n : Nat} {a : Option Addr} {cap : Nat} {zs : List Int} {b d : Int} {ap : Option Addr} {cp : Nat} {ps : List Pr} {X Y : Nat} {C : Array Value} (h : W4 w wr g n a cap zs b d ap cp ps X Y C) : W4 w wr.drew g n a cap zs b d ap cp ps X Y C := h.keep (Below.refl _ _).drew
/-- the walk is written -/
theorem W4.put {w wr : World} {g n : Nat} {a : Option Addr} {cap : Nat} {zs : List Int} {b d : Int} {ap : Option Addr} {cp : Nat} {ps : List Pr} {X Y : Nat} {C : Array Value} (h : W4 w wr g n a cap zs b d ap cp ps X Y C) (i : Nat) (v : Value) : W4 w (wr.setCell ⟨Y, i, none⟩ v) g n a cap zs b d ap cp ps X Y (C.setIfInBounds i v) := by
  have h1 := h.gl
  have h2 := h.hX
  have h3 := h.hY
  have hm := h.mv.put (q := Y) (by omega) i v
  exact ⟨hm, h.cur.put h.row h.mv (by omega) (by omega) i v, h.ka.oth (by omega) i v, h.kb.oth (by omega) i v, h.kp.oth (by omega) i v, h.kw.set i v, h2, h3, h.ow.blocks (fun k q1 q2 _ => heap_setCell_other _ _ _ _ (by simp; omega)), h1, h.row⟩
theorem W4.puts {w : World} {g n : Nat} {a : Option Addr} {cap : Nat} {zs : List Int} {b d : Int} {ap : Option Addr} {cp : Nat} {ps : List Pr} {X Y : Nat} : ∀ (vs : List Value) {wr : World} {C : Array Value} (i : Nat), W4 w wr g n a cap zs b d ap cp ps X Y C → W4 w (setL wr Y i vs) g n a cap zs b d ap cp ps X Y (ovr C i vs)
  | [], _, _, _, h => h
  | v :: vs, _, _, i, h => W4.puts vs (i + 1) (h.put i v)
theorem ovr3 (z0 z1 z2 v0 v1 v2 : Value) : ovr #[z0, z1, z2] 0 [v0, v1, v2] = #[v0, v1, v2] := by simp [ovr]
theorem ovr7 (z0 z1 z2 z3 z4 z5 z6 v0 v1 v2 v3 v4 v5 v6 : Value) : ovr #[z0, z1, z2, z3, z4, z5, z6] 0 [v0, v1, v2, v3, v4, v5, v6] = #[v0, v1, v2, v3, v4, v5, v6] := by simp [ovr]
set_option maxHeartbeats 400000 in
/-- the answers are written -/
theorem W4.ends {w wr : World} {g n : Nat} {a : Option Addr} {cap : Nat} {zs : List Int} {b d : Int} {ap : Option Addr} {cp : Nat} {ps : List Pr} {X Y : Nat} {va vi vl vp vs vt vo : Int} (h : W4 w wr g n a cap zs b d ap cp ps X Y #[.int .i64 va, .int .i64 vi, .int .i64 vl, .int .i64 vp, .int .i64 vs, .int .i64 vt, .int .i64 vo]) :
    Bk (setL (setL wr w.heap.size 0 [.int .i64 b, .int .i64 d, .slice ap ps.length cp]) (w.heap.size + 1) 0 [.int .i64 va, .int .i64 vi, .int .i64 vl, .int .i64 vp, .int .i64 vs, .int .i64 vt, .int .i64 vo]) w.heap.size #[.int .i64 b, .int .i64 d, .slice ap ps.length cp] 28 ∧ Bk (setL (setL wr w.heap.size 0 [.int .i64 b, .int .i64 d, .slice ap ps.length cp]) (w.heap.size + 1) 0 [.int .i64 va, .int .i64 vi, .int .i64 vl, .int .i64 vp, .int .i64 vs, .int .i64 vt, .int .i64 vo]) (w.heap.size + 1) #[.int .i64 va, .int .i64 vi, .int .i64 vl, .int .i64 vp, .int .i64 vs, .int .i64 vt, .int .i64 vo] 32 ∧ Mv g w (setL (setL wr w.heap.size 0 [.int .i64 b, .int .i64 d, .slice ap ps.length cp]) (w.heap.size + 1) 0 [.int .i64 va, .int .i64 vi, .int .i64 vl, .int .i64 vp, .int .i64 vs, .int .i64 vt, .int .i64 vo]) ∧ CurAt (setL (setL wr w.heap.size 0 [.int .i64 b, .int .i64 d, .slice ap ps.length cp]) (w.heap.size + 1) 0 [.int .i64 va, .int .i64 vi, .int .i64 vl, .int .i64 vp, .int .i64 vs, .int .i64 vt, .int .i64 vo]) g n a cap zs ∧ OwnPs w.heap.size (setL (setL wr w.heap.size 0 [.int .i64 b, .int .i64 d, .slice ap ps.length cp]) (w.heap.size + 1) 0 [.int .i64 va, .int .i64 vi, .int .i64 vl, .int .i64 vp, .int .i64 vs, .int .i64 vt, .int .i64 vo]).heap.size (setL (setL wr w.heap.size 0 [.int .i64 b, .int .i64 d, .slice ap ps.length cp]) (w.heap.size + 1) 0 [.int .i64 va, .int .i64 vi, .int .i64 vl, .int .i64 vp, .int .i64 vs, .int .i64 vt, .int .i64 vo]) ap ps.length ps := by
  have h1 := h.gl
  have h2 := h.hX
  have h3 := h.hY
  have h4 := h.kw.lt
  have hm : Mv g w (setL (setL wr w.heap.size 0 [.int .i64 b, .int .i64 d, .slice ap ps.length cp]) (w.heap.size + 1) 0 [.int .i64 va, .int .i64 vi, .int .i64 vl, .int .i64 vp, .int .i64 vs, .int .i64 vt, .int .i64 vo]) := Mv.setL (by omega) [.int .i64 va, .int .i64 vi, .int .i64 vl, .int .i64 vp, .int .i64 vs, .int .i64 vt, .int .i64 vo] 0 (Mv.setL (Nat.le_refl _) [.int .i64 b, .int .i64 d, .slice ap ps.length cp] 0 h.mv)
  have e1 : Bk (setL wr w.heap.size 0 [.int .i64 b, .int .i64 d, .slice ap ps.length cp]) w.heap.size #[.int .i64 b, .int .i64 d, .slice ap ps.length cp] 28 := by
    have := Bk.setL [.int .i64 b, .int .i64 d, .slice ap ps.length cp] 0 h.ka
    rwa [ovr3] at this
  have e2 : Bk (setL wr w.heap.size 0 [.int .i64 b, .int .i64 d, .slice ap ps.length cp]) (w.heap.size + 1) #[.int .i64 0, .int .i64 0, .int .i64 0, .int .i64 0, .int .i64 0, .int .i64 0, .int .i64 0] 32 := (setL_oth (k := w.heap.size + 1) (by omega) [.int .i64 b, .int .i64 d, .slice ap ps.length cp] wr 0).trans h.kb
  have e3 : Bk (setL (setL wr w.heap.size 0 [.int .i64 b, .int .i64 d, .slice ap ps.length cp]) (w.heap.size + 1) 0 [.int .i64 va, .int .i64 vi, .int .i64 vl, .int .i64 vp, .int .i64 vs, .int .i64 vt, .int .i64 vo]) (w.heap.size + 1) #[.int .i64 va, .int .i64 vi, .int .i64 vl, .int .i64 vp, .int .i64 vs, .int .i64 vt, .int .i64 vo] 32 := by
    have := Bk.setL [.int .i64 va, .int .i64 vi, .int .i64 vl, .int .i64 vp, .int .i64 vs, .int .i64 vt, .int .i64 vo] 0 e2
    rwa [ovr7] at this
  have o : ∀ k, ¬ k = w.heap.size → ¬ k = w.heap.size + 1 → (setL (setL wr w.heap.size 0 [.int .i64 b, .int .i64 d, .slice ap ps.length cp]) (w.heap.size + 1) 0 [.int .i64 va, .int .i64 vi, .int .i64 vl, .int .i64 vp, .int .i64 vs, .int .i64 vt, .int .i64 vo]).heap[k]? = wr.heap[k]? := fun k n1 n2 => (setL_oth n2 [.int .i64 va, .int .i64 vi, .int .i64 vl, .int .i64 vp, .int .i64 vs, .int .i64 vt, .int .i64 vo] _ 0).trans (setL_oth n1 [.int .i64 b, .int .i64 d, .slice ap ps.length cp] wr 0)
  have o1 : (setL (setL wr w.heap.size 0 [.int .i64 b, .int .i64 d, .slice ap ps.length cp]) (w.heap.size + 1) 0 [.int .i64 va, .int .i64 vi, .int .i64 vl, .int .i64 vp, .int .i64 vs, .int .i64 vt, .int .i64 vo]).heap[w.heap.size]? = (setL wr w.heap.size 0 [.int .i64 b, .int .i64 d, .slice ap ps.length cp]).heap[w.heap.size]? := setL_oth (by omega) [.int .i64 va, .int .i64 vi, .int .i64 vl, .int .i64 vp, .int .i64 vs, .int .i64 vt, .int .i64 vo] _ 0
  have hz : (setL (setL wr w.heap.size 0 [.int .i64 b, .int .i64 d, .slice ap ps.length cp]) (w.heap.size + 1) 0 [.int .i64 va, .int .i64 vi, .int .i64 vl, .int .i64 vp, .int .i64 vs, .int .i64 vt, .int .i64 vo]).heap.size = wr.heap.size := (setL_size [.int .i64 va, .int .i64 vi, .int .i64 vl, .int .i64 vp, .int .i64 vs, .int .i64 vt, .int .i64 vo] _ 0).trans (setL_size [.int .i64 b, .int .i64 d, .slice ap ps.length cp] wr 0)
  generalize (setL (setL wr w.heap.size 0 [.int .i64 b, .int .i64 d, .slice ap ps.length cp]) (w.heap.size + 1) 0 [.int .i64 va, .int .i64 vi, .int .i64 vl, .int .i64 vp, .int .i64 vs, .int .i64 vt, .int .i64 vo]) = ws at *
  refine ⟨o1.trans e1, e3, hm, h.cur.blocks h.row hm (o _ (by omega) (by omega)), ?_⟩
  have ho := h.ow.blocks (w1 := ws) (fun k q1 _ _ => o k (by omega) (by omega))
  exact (ho.lower (by omega)).rise (by omega)
theorem W4.endsD {w wr : World} {g n : Nat} {a : Option Addr} {cap : Nat} {zs : List Int} {b d : Int} {ap : Option Addr} {cp : Nat} {ps : List Pr} {X Y : Nat} {va vi vl vp vs vt vo : Int} (h : W4 w wr g n a cap zs b d ap cp ps X Y #[.int .i64 va, .int .i64 vi, .int .i64 vl, .int .i64 vp, .int .i64 vs, .int .i64 vt, .int .i64 vo]) :
    Bk (setL (setL wr w.heap.size 0 [.int .i64 b, .int .i64 d, .slice ap ps.length cp]) (w.heap.size + 1) 0 [.int .i64 va, .int .i64 vi, .int .i64 vl, .int .i64 vp, .int .i64 vs, .int .i64 vt, .int .i64 vo]).drew w.heap.size #[.int .i64 b, .int .i64 d, .slice ap ps.length cp] 28 ∧ Bk (setL (setL wr w.heap.size 0 [.int .i64 b, .int .i64 d, .slice ap ps.length cp]) (w.heap.size + 1) 0 [.int .i64 va, .int .i64 vi, .int .i64 vl, .int .i64 vp, .int .i64 vs, .int .i64 vt, .int .i64 vo]).drew (w.heap.size + 1) #[.int .i64 va, .int .i64 vi, .int .i64 vl, .int .i64 vp, .int .i64 vs, .int .i64 vt, .int .i64 vo] 32 ∧ Mv g w (setL (setL wr w.heap.size 0 [.int .i64 b, .int .i64 d, .slice ap ps.length cp]) (w.heap.size + 1) 0 [.int .i64 va, .int .i64 vi, .int .i64 vl, .int .i64 vp, .int .i64 vs, .int .i64 vt, .int .i64 vo]).drew ∧ CurAt (setL (setL wr w.heap.size 0 [.int .i64 b, .int .i64 d, .slice ap ps.length cp]) (w.heap.size + 1) 0 [.int .i64 va, .int .i64 vi, .int .i64 vl, .int .i64 vp, .int .i64 vs, .int .i64 vt, .int .i64 vo]).drew g n a cap zs ∧ OwnPs w.heap.size (setL (setL wr w.heap.size 0 [.int .i64 b, .int .i64 d, .slice ap ps.length cp]) (w.heap.size + 1) 0 [.int .i64 va, .int .i64 vi, .int .i64 vl, .int .i64 vp, .int .i64 vs, .int .i64 vt, .int .i64 vo]).drew.heap.size (setL (setL wr w.heap.size 0 [.int .i64 b, .int .i64 d, .slice ap ps.length cp]) (w.heap.size + 1) 0 [.int .i64 va, .int .i64 vi, .int .i64 vl, .int .i64 vp, .int .i64 vs, .int .i64 vt, .int .i64 vo]).drew ap ps.length ps := by
  obtain ⟨h1, h2, h3, h4, h5⟩ := h.ends
  generalize (setL (setL wr w.heap.size 0 [.int .i64 b, .int .i64 d, .slice ap ps.length cp]) (w.heap.size + 1) 0 [.int .i64 va, .int .i64 vi, .int .i64 vl, .int .i64 vp, .int .i64 vs, .int .i64 vt, .int .i64 vo]) = ws at *
  exact ⟨h1.drew, h2.drew, h3.trans (Mv.of_below (Below.refl _ _).drew), h4.drew, h5.keep (Below.refl _ _).drew⟩
set_option maxRecDepth 100000 in
set_option maxHeartbeats 1600000 in
theorem walk_any (w : World) (g n : Nat) (a : Option Addr) (cap : Nat) (zs : List Int) (hc : CurAt w g n a cap zs) (hn : n ≤ 500) :
    Calls Try.prog 66 #[.pointer (some ⟨g, 0, none⟩)] w fun e w' => ∃ (b d : Int) (ap : Option Addr) (cp : Nat) (ps : List Pr) (k : Int) (v : Wk), e = .returned (.tuple #[.agg #[.int .i64 b, .int .i64 d, .slice ap ps.length cp], .int .i64 k, .agg #[.int .i64 v.at_, .int .i64 v.imag, .int .i64 v.left, .int .i64 v.points, .int .i64 v.succs, .int .i64 v.state, .int .i64 v.owner]]) ∧ OwnPs w.heap.size w'.heap.size w' ap ps.length ps ∧ ps.length ≤ 16 ∧ Mv g w w' ∧ CurAt w' g (n + 340) a cap zs := by
  have hlt := hc.lt
  have hrow := hc.row
  go_enter Try.func66, Try.ntmps66
  go_wp2_with fail
  refine (asked_any _ _ _ _ _ _ ((hc.new _).new _) (by omega)).mono ?_
  rintro e w1 ⟨b, d, ap, cp, ps, x, k, rfl, ow1, l16, lb, mv1, hc1⟩
  have hs1 := mv1.size
  simp at hs1 ow1
  clear lb
  have ka1 : Bk w1 w.heap.size #[.int .i64 0, .int .i64 0, .slice none 0 0] 28 := (mv1.block _ (by simp; omega) (by omega)).trans (heap_alloc2_old _ _ _)
  have kb1 : Bk w1 (w.heap.size + 1) #[.int .i64 0, .int .i64 0, .int .i64 0, .int .i64 0, .int .i64 0, .int .i64 0, .int .i64 0] 32 := (mv1.block _ (by simp) (by omega)).trans (by have := heap_alloc_new (w.alloc (.cells #[.int .i64 0, .int .i64 0, .slice none 0 0] 28)) (.cells #[.int .i64 0, .int .i64 0, .int .i64 0, .int .i64 0, .int .i64 0, .int .i64 0, .int .i64 0] 32); simpa using this)
  have CST := lStartAt_own b d ap cp ps x k (w1.alloc (.cells #[.int .i64 b, .int .i64 d, .slice ap ps.length cp] 28)) (by omega) (ow1.peersAt.keep (belA _ _))
  have HP1 : Hid (Mv g w w1) := (Mv.of_below (belt (belA _ _) (belA _ _))).trans mv1
  have HC1 : Hid (CurAt w1 g (n + 320) a cap zs) := hc1
  have HO1 : Hid (OwnPs (w.heap.size + 2) w1.heap.size w1 ap ps.length ps) := ow1
  have HA1 : Hid (Bk w1 w.heap.size #[.int .i64 0, .int .i64 0, .slice none 0 0] 28) := ka1
  have HB1 : Hid (Bk w1 (w.heap.size + 1) #[.int .i64 0, .int .i64 0, .int .i64 0, .int .i64 0, .int .i64 0, .int .i64 0, .int .i64 0] 32) := kb1
  have HRW : Hid (RowU w g a zs) := hrow
  have HON : Hid (askP b d ps x k = true → (stV b d ps x k).state = 0 → ∃ F, On b d ps k 1000 F (stV b d ps x k)) := by
    intro h _
    obtain ⟨hg, hx, k1, k2⟩ := askP_parts h
    refine ⟨300, ?_⟩
    unfold stV
    rw [if_pos h]
    exact stt_on hg hx k1 k2 (by omega)
  have HAK : Hid (askP b d ps x k = true → goodP b d ps = true ∧ 0 ≤ k ∧ k < sz b) := fun h => by
    obtain ⟨hg, hx, k1, k2⟩ := askP_parts h
    exact ⟨hg, k1, k2⟩
  clear ka1 kb1 mv1 hc1 ow1 hc hrow
  generalize stV b d ps x k = v0 at *
  generalize askP b d ps x k = ok at *
  obtain ⟨s0, s1, s2, s3, s4, s5, s6⟩ := v0
  dsimp only at CST
  go_wp2_with fail
  refine CST.mono ?_
  rintro e w2 ⟨rfl, hb2⟩
  have hs2 := hb2.size
  simp at hs2
  have P20 : W4 w (w2.alloc (.cells #[.int .i64 s0, .int .i64 s1, .int .i64 s2, .int .i64 s3, .int .i64 s4, .int .i64 s5, .int .i64 s6] 32)) g (n + 320) a cap zs b d ap cp ps w1.heap.size w2.heap.size #[.int .i64 s0, .int .i64 s1, .int .i64 s2, .int .i64 s3, .int .i64 s4, .int .i64 s5, .int .i64 s6] := by
    have hb3 : Below w1.heap.size w1 w2 := belt (belA _ _) hb2
    have hb4 := belt hb3 (belA w2 (.cells #[.int .i64 s0, .int .i64 s1, .int .i64 s2, .int .i64 s3, .int .i64 s4, .int .i64 s5, .int .i64 s6] 32))
    exact ⟨HP1.out.trans (Mv.of_below hb4), HC1.out.keep hb4, HA1.out.keep hb4, HB1.out.keep hb4, ((Bk.new _ _ _).keep hb2).alloc _, Bk.new _ _ _, by omega, by omega, HO1.out.keep hb4, hlt, HRW.out⟩
  have P2 : Hid _ := P20
  clear P20 HP1 HC1 HO1 HA1 HB1 HRW CST hb2
  go_upto_region 3 with (fail)
  generalize w2.alloc (.cells #[.int .i64 s0, .int .i64 s1, .int .i64 s2, .int .i64 s3, .int .i64 s4, .int .i64 s5, .int .i64 s6] 32) = w3 at *
  generalize w1.heap.size = X at *
  generalize w2.heap.size = Y at *
  clear hs1 hs2
  go_wp2_with fail
  refine (pick_any _ _ _ _ _ _ _ P2.out.cur (by omega) (by omega) (by omega)).mono ?_
  rintro e w4 ⟨m0, rfl, m1, m2, mv4, hc4⟩
  obtain ⟨m, rfl⟩ := Int.eq_ofNat_of_zero_le m1
  have P4 : Hid (W4 w w4 g (n + 322) a cap zs b d ap cp ps X Y #[.int .i64 s0, .int .i64 s1, .int .i64 s2, .int .i64 s3, .int .i64 s4, .int .i64 s5, .int .i64 s6]) := P2.out.step mv4 hc4
  clear mv4 hc4 P2
  go_upto_block 0 with (fail)
  go_cut [10] from 26 to 41 (fun v10 wc => ∃ u : Wk, Hid (W4 w wc g (n + 322) a cap zs b d ap cp ps X Y #[.int .i64 u.at_, .int .i64 u.imag, .int .i64 u.left, .int .i64 u.points, .int .i64 u.succs, .int .i64 u.state, .int .i64 u.owner]))
  case first =>
    go_wp2_with fail
    go_loopw [10] (fun v10 wr => ∃ (j : Nat) (u : Wk), v10 = .int .i64 j ∧ j ≤ 5 ∧ Hid (W4 w wr g (n + 322) a cap zs b d ap cp ps X Y #[.int .i64 u.at_, .int .i64 u.imag, .int .i64 u.left, .int .i64 u.points, .int .i64 u.succs, .int .i64 u.state, .int .i64 u.owner]) ∧ Hid (ok = true → u.state = 0 → ∃ F, On b d ps k 1000 F u)) (fun v10 _ => (intOf v10).toNat)
    case atStart => exact ⟨m, ⟨s0, s1, s2, s3, s4, s5, s6⟩, rfl, by omega, P4, HON⟩
    case round =>
      clear P4 HON
      obtain ⟨j, ⟨ua, ui, ul, up, us, ut, uo⟩, rfl, hj, R0, H0⟩ := hrel
      have R1 : Hid (W4 w wr g (n + 322) a cap zs b d ap cp ps X Y #[.int .i64 ua, .int .i64 ui, .int .i64 ul, .int .i64 up, .int .i64 us, .int .i64 ut, .int .i64 uo]) := R0
      have H1 : Hid (ok = true → ut = 0 → ∃ F, On b d ps k 1000 F ⟨ua, ui, ul, up, us, ut, uo⟩) := H0
      clear R0 H0
      by_cases hj0 : 0 < j
      · have hj1 : decide ((0 : Int) < (j : Int)) = true := decide_eq_true (by omega)
        cases ok
        · go_wp2_with fail
          go_meet
          exact ⟨⟨ua, ui, ul, up, us, ut, uo⟩, R1⟩
        · obtain ⟨k0, k1, k2, k3, k4, k5, k6⟩ := Bk.c7 R1.out.kw
          obtain ⟨f0, f1, f2, f3, f4, f5, f6⟩ := R1.out.kw.f7
          obtain ⟨q0, q1, q2⟩ := Bk.c3 R1.out.kp
          have hYX := R1.out.hY
          by_cases hut : ut = 0
          · have hut' : (ut == 0) = true := by simpa using hut
            obtain ⟨hg, hk1, hk2⟩ := HAK.out rfl
            obtain ⟨F, hon⟩ := H1.out rfl hut
            have CS := lstep_any b d ap cp ps k 1000 ⟨ua, ui, ul, up, us, ut, uo⟩ wr hg hon.wv hk1 hk2 (by omega) (by omega) R1.out.ow.peersAt
            have HS : Hid ((stp b d ps k 1000 ⟨ua, ui, ul, up, us, ut, uo⟩).state = 0 → ∃ F, On b d ps k 1000 F (stp b d ps k 1000 ⟨ua, ui, ul, up, us, ut, uo⟩)) := by
              intro hz
              cases F with
              | zero => have := hon.pt; omega
              | succ F =>
                rcases on_step hg hk1 hk2 (by omega) hut hon with ⟨_, _, h⟩ | ⟨h, _⟩
                · exact ⟨F, h⟩
                · exact absurd hz h
            generalize stp b d ps k 1000 ⟨ua, ui, ul, up, us, ut, uo⟩ = S at *
            obtain ⟨ta, ti, tl, tp, ts, tt, tw⟩ := S
            dsimp only [Wk.cells] at CS
            clear hut hon H1
            go_wp2_with fail
            refine CS.mono ?_
            rintro e w5 ⟨rfl, hb5⟩
            have R5 : Hid (W4 w w5 g (n + 322) a cap zs b d ap cp ps X Y #[.int .i64 ua, .int .i64 ui, .int .i64 ul, .int .i64 up, .int .i64 us, .int .i64 ut, .int .i64 uo]) := R1.out.keep hb5
            clear hb5 CS k0 k1 k2 k3 k4 k5 k6 f0 f1 f2 f3 f4 f5 f6 q0 q1 q2 R1
            have R6 : Hid (W4 w (setL w5 Y 0 [.int .i64 ta, .int .i64 ti, .int .i64 tl, .int .i64 tp, .int .i64 ts, .int .i64 tt, .int .i64 tw]) g (n + 322) a cap zs b d ap cp ps X Y #[.int .i64 ta, .int .i64 ti, .int .i64 tl, .int .i64 tp, .int .i64 ts, .int .i64 tt, .int .i64 tw]) := by
              have := W4.puts [.int .i64 ta, .int .i64 ti, .int .i64 tl, .int .i64 tp, .int .i64 ts, .int .i64 tt, .int .i64 tw] 0 R5.out
              rwa [ovr7] at this
            obtain ⟨k0, k1, k2, k3, k4, k5, k6⟩ := Bk.c7 R5.out.kw
            obtain ⟨f0, f1, f2, f3, f4, f5, f6⟩ := R5.out.kw.f7
            go_wp2_with fail
            go_roundw
            case rel => exact ⟨j - 1, ⟨ta, ti, tl, tp, ts, tt, tw⟩, by go_num, by omega, R6, fun _ => HS.out⟩
            case measure => simp [intOf]; omega
          · have hut' : (ut == 0) = false := by simpa using hut
            go_wp2_with fail
            go_meet
            exact ⟨⟨ua, ui, ul, up, us, ut, uo⟩, R1⟩
      · have hj1 : decide ((0 : Int) < (j : Int)) = false := decide_eq_false (by omega)
        go_wp2_with fail
        go_meet
        exact ⟨⟨ua, ui, ul, up, us, ut, uo⟩, R1⟩
  case rest =>
  clear P4 HON HAK
  obtain ⟨⟨ua, ui, ul, up, us, ut, uo⟩, R0⟩ := hcut
  have R1 : Hid (W4 w wc g (n + 322) a cap zs b d ap cp ps X Y #[.int .i64 ua, .int .i64 ui, .int .i64 ul, .int .i64 up, .int .i64 us, .int .i64 ut, .int .i64 uo]) := R0
  clear R0
  go_wp2_with fail
  refine (pick_any _ _ _ _ _ _ _ R1.out.cur (by omega) (by omega) (by omega)).mono ?_
  rintro e w5 ⟨p5, rfl, p51, p52, mv5, hc5⟩
  have R5 : Hid (W4 w w5 g (n + 324) a cap zs b d ap cp ps X Y #[.int .i64 ua, .int .i64 ui, .int .i64 ul, .int .i64 up, .int .i64 us, .int .i64 ut, .int .i64 uo]) := R1.out.step mv5 hc5
  clear mv5 hc5 R1 m1 m2
  go_upto_block 2 with (fail)
  go_cut [44] from 44 to 65 (fun v44 wc => ∃ u : Wk, Hid (W4 w wc g (n + 328) a cap zs b d ap cp ps X Y #[.int .i64 u.at_, .int .i64 u.imag, .int .i64 u.left, .int .i64 u.points, .int .i64 u.succs, .int .i64 u.state, .int .i64 u.owner]))
  case first =>
    have hXY := R5.out.hY
    obtain ⟨k0, k1, k2, k3, k4, k5, k6⟩ := Bk.c7 R5.out.kw
    obtain ⟨f0, f1, f2, f3, f4, f5, f6⟩ := R5.out.kw.f7
    obtain ⟨q0, q1, q2⟩ := Bk.c3 R5.out.kp
    by_cases h0 : p5 = 0
    · have h0' : (p5 == 0) = true := by simpa using h0
      clear h0
      go_wp2_with fail
      refine (pick_any _ _ _ _ _ _ _ R5.out.cur (by omega) (by omega) (by omega)).mono ?_
      rintro e w6 ⟨p6, rfl, p61, p62, mv6, hc6⟩
      have R6 : Hid (W4 w w6 g (n + 326) a cap zs b d ap cp ps X Y #[.int .i64 ua, .int .i64 ui, .int .i64 ul, .int .i64 up, .int .i64 us, .int .i64 ut, .int .i64 uo]) := R5.out.step mv6 hc6
      clear mv6 hc6 k0 k1 k2 k3 k4 k5 k6 f0 f1 f2 f3 f4 f5 f6 q0 q1 q2
      obtain ⟨k0, k1, k2, k3, k4, k5, k6⟩ := Bk.c7 R6.out.kw
      obtain ⟨f0, f1, f2, f3, f4, f5, f6⟩ := R6.out.kw.f7
      go_wp2_with fail
      go_meet
      exact ⟨⟨ua, ui, p6 - 1, up, us, ut, uo⟩, (R6.out.put 2 _).more (by omega)⟩
    · have h0' : (p5 == 0) = false := by simpa using h0
      by_cases h1 : p5 = 1
      · have h1' : (p5 == 1) = true := by simpa using h1
        clear h1
        go_wp2_with fail
        refine (num_any _ _ _ _ _ _ _ _ R5.out.cur (by omega)).mono ?_
        rintro e w6 ⟨p6, rfl, p61, p62, mv6, hc6⟩
        have R6 : Hid (W4 w w6 g (n + 328) a cap zs b d ap cp ps X Y #[.int .i64 ua, .int .i64 ui, .int .i64 ul, .int .i64 up, .int .i64 us, .int .i64 ut, .int .i64 uo]) := R5.out.step mv6 hc6
        clear mv6 hc6 k0 k1 k2 k3 k4 k5 k6 f0 f1 f2 f3 f4 f5 f6 q0 q1 q2
        obtain ⟨k0, k1, k2, k3, k4, k5, k6⟩ := Bk.c7 R6.out.kw
        obtain ⟨f0, f1, f2, f3, f4, f5, f6⟩ := R6.out.kw.f7
        go_wp2_with fail
        go_meet
        exact ⟨⟨ua, p6, ul, up, us, ut, uo⟩, (R6.out.put 1 _).more (by omega)⟩
      · have h1' : (p5 == 1) = false := by simpa using h1
        by_cases h2 : p5 = 2
        · have h2' : (p5 == 2) = true := by simpa using h2
          clear h2
          go_wp2_with fail
          refine (pick_any _ _ _ _ _ _ _ R5.out.cur (by omega) (by omega) (by omega)).mono ?_
          rintro e w6 ⟨p6, rfl, p61, p62, mv6, hc6⟩
          have R6 : Hid (W4 w w6 g (n + 326) a cap zs b d ap cp ps X Y #[.int .i64 ua, .int .i64 ui, .int .i64 ul, .int .i64 up, .int .i64 us, .int .i64 ut, .int .i64 uo]) := R5.out.step mv6 hc6
          clear mv6 hc6 k0 k1 k2 k3 k4 k5 k6 f0 f1 f2 f3 f4 f5 f6 q0 q1 q2
          obtain ⟨k0, k1, k2, k3, k4, k5, k6⟩ := Bk.c7 R6.out.kw
          obtain ⟨f0, f1, f2, f3, f4, f5, f6⟩ := R6.out.kw.f7
          go_wp2_with fail
          go_meet
          exact ⟨⟨ua, ui, ul, up, us, p6 - 1, uo⟩, (R6.out.put 5 _).more (by omega)⟩
        · have h2' : (p5 == 2) = false := by simpa using h2
          by_cases h3 : p5 = 3
          · have h3' : (p5 == 3) = true := by simpa using h3
            clear h3
            go_wp2_with fail
            go_meet
            exact ⟨⟨ua, ui, ul, 1000, us, ut, uo⟩, (R5.out.put 3 _).more (by omega)⟩
          · have h3' : (p5 == 3) = false := by simpa using h3
            go_wp2_with fail
            go_meet
            exact ⟨⟨ua, ui, ul, up, us, ut, uo⟩, R5.out.more (by omega)⟩
  case rest =>
  clear R5
  obtain ⟨⟨va, vi, vl, vp, vs, vt, vo⟩, R0⟩ := hcut
  have R9 : Hid (W4 w wc g (n + 328) a cap zs b d ap cp ps X Y #[.int .i64 va, .int .i64 vi, .int .i64 vl, .int .i64 vp, .int .i64 vs, .int .i64 vt, .int .i64 vo]) := R0
  clear R0
  have hX := R9.out.hX
  have hY := R9.out.hY
  have hYl := R9.out.kw.lt
  have sta := R9.out.drew
  obtain ⟨r0, r1, r2⟩ := Bk.c3 R9.out.ka
  obtain ⟨f0, f1, f2, _⟩ := R9.out.ka.f4
  obtain ⟨s0, s1, s2, s3, s4, s5, s6⟩ := Bk.c7 R9.out.kb
  obtain ⟨e0, e1, e2, e3, e4, e5, e6⟩ := R9.out.kb.f7
  obtain ⟨q0, q1, q2⟩ := Bk.c3 R9.out.kp
  obtain ⟨k0, k1, k2, k3, k4, k5, k6⟩ := Bk.c7 R9.out.kw
  go_wp2_with fail
  go_region
  go_wp2_with fail
  obtain ⟨KA, KB, KM, KC, KO⟩ := R9.out.endsD
  exact bodyPost_ret (res_cc Try.results66 _ _ w.heap.size (w.heap.size + 1) _ _ _ _ _ _ _ _ _ rfl rfl rfl KA KB Try.underlying28 rfl (by kernel_rfl) Try.underlying32 rfl (by kernel_rfl)) rfl ⟨b, d, ap, cp, ps, k, ⟨va, vi, vl, vp, vs, vt, vo⟩, rfl, KO, l16, KM, KC.more (by omega)⟩
end Go.Proofs.Ytejajlloipkkhaa
