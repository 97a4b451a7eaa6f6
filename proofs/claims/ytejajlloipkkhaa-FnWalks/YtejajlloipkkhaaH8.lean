/- What is drawn of chapter 4: a walk, a key and how many forwards, as the laws draw them. -/
import Derived.Test.YtejajlloipkkhaaH5
import Derived.Test.YtejajlloipkkhaaH6
namespace Go.Proofs.Ytejajlloipkkhaa
open Go.RowKit Go.Deep
set_option linter.unusedVariables false
theorem res_c2c {fn : Func} {p q s r : Tmp} {ty ty' : TypeId} (h : fn.results = #[.cell p ty, .tmp q, .tmp s, .cell r ty']) (tmps : Array Value) (w : World) (g g' : Nat) (t t' : TypeId) (cs cs' : Array Value) (fr fr' : Nat × Nat) (d d' : TypeDesc) (u1 u2 : Value)
    (hp : tmps.getD p undef = .pointer (some ⟨g, 0, none⟩)) (hq : tmps.getD q undef = u1) (hs : tmps.getD s undef = u2) (hr : tmps.getD r undef = .pointer (some ⟨g', 0, none⟩)) (hg : w.heap[g]? = some (.cells cs t fr)) (hg' : w.heap[g']? = some (.cells cs' t' fr'))
    (hu : Try.prog.underlying ty = some d) (hd : isRowD d = true) (hi : (Try.prog.info? ty).map (·.size) = some cs.size) (hu' : Try.prog.underlying ty' = some d') (hd' : isRowD d' = true) (hi' : (Try.prog.info? ty').map (·.size) = some cs'.size) :
    (results fn tmps).run Try.prog w = .ok (.tuple #[.agg cs, u1, u2, .agg cs']) w := by
  have hp' : tmps[p]?.getD undef = .pointer (some ⟨g, 0, none⟩) := by simpa using hp
  have hq' : tmps[q]?.getD undef = u1 := by simpa using hq
  have hs' : tmps[s]?.getD undef = u2 := by simpa using hs
  have hr' : tmps[r]?.getD undef = .pointer (some ⟨g', 0, none⟩) := by simpa using hr
  have hl := run_loadVar_row w g t ty cs fr d hg hu (by cases d <;> first | rfl | (simp [isRowD] at hd)) hi
  have hl' := run_loadVar_row w g' t' ty' cs' fr' d' hg' hu' (by cases d' <;> first | rfl | (simp [isRowD] at hd')) hi'
  simp [results, h, hp', hq', hs', hr', asAddr, hl, hl']
/-- the answers' blocks, the cursor's behind them, the peers' and the walk's variables -/
structure S4 (w wr : World) (N : Nat) (a : Option Addr) (cap : Nat) (zs : List Int) (b d : Int) (ap : Option Addr) (cp : Nat) (ps : List Pr) (X : Nat) (va vi vl vp vs vt vo : Int) : Prop where
  bel : Below w.heap.size w wr
  cur : CurAt wr (w.heap.size + 2) N a cap zs
  ka : Bk wr w.heap.size #[.int .i64 0, .int .i64 0, .slice none 0 0] 28
  kb : Bk wr (w.heap.size + 1) #[.int .i64 0, .int .i64 0, .int .i64 0, .int .i64 0, .int .i64 0, .int .i64 0, .int .i64 0] 32
  kp : Bk wr X #[.int .i64 b, .int .i64 d, .slice ap ps.length cp] 28
  kw : Bk wr (X + 1) #[.int .i64 va, .int .i64 vi, .int .i64 vl, .int .i64 vp, .int .i64 vs, .int .i64 vt, .int .i64 vo] 32
  hX : w.heap.size + 2 < X
  ow : OwnPs (w.heap.size + 3) X wr ap ps.length ps
theorem S4.step {w wr : World} {N : Nat} {a : Option Addr} {cap : Nat} {zs : List Int} {b d : Int} {ap : Option Addr} {cp : Nat} {ps : List Pr} {X : Nat} {va vi vl vp vs vt vo : Int} {w1 : World} {m : Nat} (h : S4 w wr N a cap zs b d ap cp ps X va vi vl vp vs vt vo) (mv : Mv (w.heap.size + 2) wr w1) (hc : CurAt w1 (w.heap.size + 2) m a cap zs) : S4 w w1 m a cap zs b d ap cp ps X va vi vl vp vs vt vo := by
  have hx := h.hX
  exact ⟨mv.below h.bel (by omega), hc, (mv.block _ h.ka.lt (by omega)).trans h.ka, (mv.block _ h.kb.lt (by omega)).trans h.kb, (mv.block _ h.kp.lt (by omega)).trans h.kp, (mv.block _ h.kw.lt (by omega)).trans h.kw, hx, h.ow.blocks (fun k h1 _ hk => mv.block k hk (by omega))⟩
theorem S4.keep {w wr : World} {N : Nat} {a : Option Addr} {cap : Nat} {zs : List Int} {b d : Int} {ap : Option Addr} {cp : Nat} {ps : List Pr} {X : Nat} {va vi vl vp vs vt vo : Int} {w1 : World} (h : S4 w wr N a cap zs b d ap cp ps X va vi vl vp vs vt vo) (hb : Below wr.heap.size wr w1) : S4 w w1 N a cap zs b d ap cp ps X va vi vl vp vs vt vo := h.step (Mv.of_below hb) (h.cur.keep hb)
theorem S4.drew {w wr : World} {N : Nat} {a : Option Addr} {cap : Nat} {zs : List Int} {b d : Int} {ap : Option Addr} {cp : Nat} {ps : List Pr} {X : Nat} {va vi vl vp vs vt vo : Int} (h : S4 w wr N a cap zs b d ap cp ps X va vi vl vp vs vt vo) : S4 w wr.drew N a cap zs b d ap cp ps X va vi vl vp vs vt vo := h.keep (Below.refl _ _).drew
theorem S4.q {w wr : World} {N : Nat} {a : Option Addr} {cap : Nat} {zs : List Int} {b d : Int} {ap : Option Addr} {cp : Nat} {ps : List Pr} {X : Nat} {va vi vl vp vs vt vo : Int} (h : S4 w wr N a cap zs b d ap cp ps X va vi vl vp vs vt vo) : wr.cell? ⟨X, 0, none⟩ = some (.int .i64 b) ∧ wr.cell? ⟨X, 1, none⟩ = some (.int .i64 d) ∧ wr.cell? ⟨X, 2, none⟩ = some (.slice ap ps.length cp) ∧ wr.cell? ⟨X + 1, 0, none⟩ = some (.int .i64 va) ∧ wr.cell? ⟨X + 1, 1, none⟩ = some (.int .i64 vi) ∧ wr.cell? ⟨X + 1, 2, none⟩ = some (.int .i64 vl) ∧ wr.cell? ⟨X + 1, 3, none⟩ = some (.int .i64 vp) ∧ wr.cell? ⟨X + 1, 4, none⟩ = some (.int .i64 vs) ∧ wr.cell? ⟨X + 1, 5, none⟩ = some (.int .i64 vt) ∧ wr.cell? ⟨X + 1, 6, none⟩ = some (.int .i64 vo) := by
  obtain ⟨a0, a1, a2⟩ := Bk.c3 h.kp
  obtain ⟨b0, b1, b2, b3, b4, b5, b6⟩ := Bk.c7 h.kw
  exact ⟨a0, a1, a2, b0, b1, b2, b3, b4, b5, b6⟩
theorem S4.of {w wr : World} {N : Nat} {a : Option Addr} {cap : Nat} {zs : List Int} {b d : Int} {ap : Option Addr} {cp : Nat} {ps : List Pr} {X : Nat} {va vi vl vp vs vt vo : Int} {w1 : World} (h : S4 w wr N a cap zs b d ap cp ps X va vi vl vp vs vt vo) (e1 : w1.heap[X]? = wr.heap[X]?) (e2 : w1.heap[X + 1]? = wr.heap[X + 1]?) : w1.cell? ⟨X, 0, none⟩ = some (.int .i64 b) ∧ w1.cell? ⟨X, 1, none⟩ = some (.int .i64 d) ∧ w1.cell? ⟨X, 2, none⟩ = some (.slice ap ps.length cp) ∧ w1.cell? ⟨X + 1, 0, none⟩ = some (.int .i64 va) ∧ w1.cell? ⟨X + 1, 1, none⟩ = some (.int .i64 vi) ∧ w1.cell? ⟨X + 1, 2, none⟩ = some (.int .i64 vl) ∧ w1.cell? ⟨X + 1, 3, none⟩ = some (.int .i64 vp) ∧ w1.cell? ⟨X + 1, 4, none⟩ = some (.int .i64 vs) ∧ w1.cell? ⟨X + 1, 5, none⟩ = some (.int .i64 vt) ∧ w1.cell? ⟨X + 1, 6, none⟩ = some (.int .i64 vo) := by
  obtain ⟨a0, a1, a2⟩ := Bk.c3 (show Bk w1 X _ _ from e1.trans h.kp)
  obtain ⟨b0, b1, b2, b3, b4, b5, b6⟩ := Bk.c7 (show Bk w1 (X + 1) _ _ from e2.trans h.kw)
  exact ⟨a0, a1, a2, b0, b1, b2, b3, b4, b5, b6⟩
theorem S4.e {w wr : World} {N : Nat} {a : Option Addr} {cap : Nat} {zs : List Int} {b d : Int} {ap : Option Addr} {cp : Nat} {ps : List Pr} {X : Nat} {va vi vl vp vs vt vo : Int} (h : S4 w wr N a cap zs b d ap cp ps X va vi vl vp vs vt vo) (u0 u1 u2 : Value) : (((wr.setCell ⟨w.heap.size, 0, none⟩ u0).setCell ⟨w.heap.size, 1, none⟩ u1).setCell ⟨w.heap.size, 2, none⟩ u2).cell? ⟨X, 0, none⟩ = some (.int .i64 b) ∧ (((wr.setCell ⟨w.heap.size, 0, none⟩ u0).setCell ⟨w.heap.size, 1, none⟩ u1).setCell ⟨w.heap.size, 2, none⟩ u2).cell? ⟨X, 1, none⟩ = some (.int .i64 d) ∧ (((wr.setCell ⟨w.heap.size, 0, none⟩ u0).setCell ⟨w.heap.size, 1, none⟩ u1).setCell ⟨w.heap.size, 2, none⟩ u2).cell? ⟨X, 2, none⟩ = some (.slice ap ps.length cp) ∧ (((wr.setCell ⟨w.heap.size, 0, none⟩ u0).setCell ⟨w.heap.size, 1, none⟩ u1).setCell ⟨w.heap.size, 2, none⟩ u2).cell? ⟨X + 1, 0, none⟩ = some (.int .i64 va) ∧ (((wr.setCell ⟨w.heap.size, 0, none⟩ u0).setCell ⟨w.heap.size, 1, none⟩ u1).setCell ⟨w.heap.size, 2, none⟩ u2).cell? ⟨X + 1, 1, none⟩ = some (.int .i64 vi) ∧ (((wr.setCell ⟨w.heap.size, 0, none⟩ u0).setCell ⟨w.heap.size, 1, none⟩ u1).setCell ⟨w.heap.size, 2, none⟩ u2).cell? ⟨X + 1, 2, none⟩ = some (.int .i64 vl) ∧ (((wr.setCell ⟨w.heap.size, 0, none⟩ u0).setCell ⟨w.heap.size, 1, none⟩ u1).setCell ⟨w.heap.size, 2, none⟩ u2).cell? ⟨X + 1, 3, none⟩ = some (.int .i64 vp) ∧ (((wr.setCell ⟨w.heap.size, 0, none⟩ u0).setCell ⟨w.heap.size, 1, none⟩ u1).setCell ⟨w.heap.size, 2, none⟩ u2).cell? ⟨X + 1, 4, none⟩ = some (.int .i64 vs) ∧ (((wr.setCell ⟨w.heap.size, 0, none⟩ u0).setCell ⟨w.heap.size, 1, none⟩ u1).setCell ⟨w.heap.size, 2, none⟩ u2).cell? ⟨X + 1, 5, none⟩ = some (.int .i64 vt) ∧ (((wr.setCell ⟨w.heap.size, 0, none⟩ u0).setCell ⟨w.heap.size, 1, none⟩ u1).setCell ⟨w.heap.size, 2, none⟩ u2).cell? ⟨X + 1, 6, none⟩ = some (.int .i64 vo) := by
  have hx := h.hX
  exact h.of (setL_oth (g := w.heap.size) (k := X) (by omega) [u0, u1, u2] wr 0) (setL_oth (g := w.heap.size) (k := X + 1) (by omega) [u0, u1, u2] wr 0)
theorem S4.f {w wr : World} {N : Nat} {a : Option Addr} {cap : Nat} {zs : List Int} {b d : Int} {ap : Option Addr} {cp : Nat} {ps : List Pr} {X : Nat} {va vi vl vp vs vt vo : Int} (h : S4 w wr N a cap zs b d ap cp ps X va vi vl vp vs vt vo) (u0 u1 u2 y0 y1 y2 y3 y4 y5 y6 : Value) : ((((((((((wr.setCell ⟨w.heap.size, 0, none⟩ u0).setCell ⟨w.heap.size, 1, none⟩ u1).setCell ⟨w.heap.size, 2, none⟩ u2).setCell ⟨w.heap.size + 1, 0, none⟩ y0).setCell ⟨w.heap.size + 1, 1, none⟩ y1).setCell ⟨w.heap.size + 1, 2, none⟩ y2).setCell ⟨w.heap.size + 1, 3, none⟩ y3).setCell ⟨w.heap.size + 1, 4, none⟩ y4).setCell ⟨w.heap.size + 1, 5, none⟩ y5).setCell ⟨w.heap.size + 1, 6, none⟩ y6).cell? ⟨X, 0, none⟩ = some (.int .i64 b) ∧ ((((((((((wr.setCell ⟨w.heap.size, 0, none⟩ u0).setCell ⟨w.heap.size, 1, none⟩ u1).setCell ⟨w.heap.size, 2, none⟩ u2).setCell ⟨w.heap.size + 1, 0, none⟩ y0).setCell ⟨w.heap.size + 1, 1, none⟩ y1).setCell ⟨w.heap.size + 1, 2, none⟩ y2).setCell ⟨w.heap.size + 1, 3, none⟩ y3).setCell ⟨w.heap.size + 1, 4, none⟩ y4).setCell ⟨w.heap.size + 1, 5, none⟩ y5).setCell ⟨w.heap.size + 1, 6, none⟩ y6).cell? ⟨X, 1, none⟩ = some (.int .i64 d) ∧ ((((((((((wr.setCell ⟨w.heap.size, 0, none⟩ u0).setCell ⟨w.heap.size, 1, none⟩ u1).setCell ⟨w.heap.size, 2, none⟩ u2).setCell ⟨w.heap.size + 1, 0, none⟩ y0).setCell ⟨w.heap.size + 1, 1, none⟩ y1).setCell ⟨w.heap.size + 1, 2, none⟩ y2).setCell ⟨w.heap.size + 1, 3, none⟩ y3).setCell ⟨w.heap.size + 1, 4, none⟩ y4).setCell ⟨w.heap.size + 1, 5, none⟩ y5).setCell ⟨w.heap.size + 1, 6, none⟩ y6).cell? ⟨X, 2, none⟩ = some (.slice ap ps.length cp) ∧ ((((((((((wr.setCell ⟨w.heap.size, 0, none⟩ u0).setCell ⟨w.heap.size, 1, none⟩ u1).setCell ⟨w.heap.size, 2, none⟩ u2).setCell ⟨w.heap.size + 1, 0, none⟩ y0).setCell ⟨w.heap.size + 1, 1, none⟩ y1).setCell ⟨w.heap.size + 1, 2, none⟩ y2).setCell ⟨w.heap.size + 1, 3, none⟩ y3).setCell ⟨w.heap.size + 1, 4, none⟩ y4).setCell ⟨w.heap.size + 1, 5, none⟩ y5).setCell ⟨w.heap.size + 1, 6, none⟩ y6).cell? ⟨X + 1, 0, none⟩ = some (.int .i64 va) ∧ ((((((((((wr.setCell ⟨w.heap.size, 0, none⟩ u0).setCell ⟨w.heap.size, 1, none⟩ u1).setCell ⟨w.heap.size, 2, none⟩ u2).setCell ⟨w.heap.size + 1, 0, none⟩ y0).setCell ⟨w.heap.size + 1, 1, none⟩ y1).setCell ⟨w.heap.size + 1, 2, none⟩ y2).setCell ⟨w.heap.size + 1, 3, none⟩ y3).setCell ⟨w.heap.size + 1, 4, none⟩ y4).setCell ⟨w.heap.size + 1, 5, none⟩ y5).setCell ⟨w.heap.size + 1, 6, none⟩ y6).cell? ⟨X + 1, 1, none⟩ = some (.int .i64 vi) ∧ ((((((((((wr.setCell ⟨w.heap.size, 0, none⟩ u0).setCell ⟨w.heap.size, 1, none⟩ u1).setCell ⟨w.heap.size, 2, none⟩ u2).setCell ⟨w.heap.size + 1, 0, none⟩ y0).setCell ⟨w.heap.size + 1, 1, none⟩ y1).setCell ⟨w.heap.size + 1, 2, none⟩ y2).setCell ⟨w.heap.size + 1, 3, none⟩ y3).setCell ⟨w.heap.size + 1, 4, none⟩ y4).setCell ⟨w.heap.size + 1, 5, none⟩ y5).setCell ⟨w.heap.size + 1, 6, none⟩ y6).cell? ⟨X + 1, 2, none⟩ = some (.int .i64 vl) ∧ ((((((((((wr.setCell ⟨w.heap.size, 0, none⟩ u0).setCell ⟨w.heap.size, 1, none⟩ u1).setCell ⟨w.heap.size, 2, none⟩ u2).setCell ⟨w.heap.size + 1, 0, none⟩ y0).setCell ⟨w.heap.size + 1, 1, none⟩ y1).setCell ⟨w.heap.size + 1, 2, none⟩ y2).setCell ⟨w.heap.size + 1, 3, none⟩ y3).setCell ⟨w.heap.size + 1, 4, none⟩ y4).setCell ⟨w.heap.size + 1, 5, none⟩ y5).setCell ⟨w.heap.size + 1, 6, none⟩ y6).cell? ⟨X + 1, 3, none⟩ = some (.int .i64 vp) ∧ ((((((((((wr.setCell ⟨w.heap.size, 0, none⟩ u0).setCell ⟨w.heap.size, 1, none⟩ u1).setCell ⟨w.heap.size, 2, none⟩ u2).setCell ⟨w.heap.size + 1, 0, none⟩ y0).setCell ⟨w.heap.size + 1, 1, none⟩ y1).setCell ⟨w.heap.size + 1, 2, none⟩ y2).setCell ⟨w.heap.size + 1, 3, none⟩ y3).setCell ⟨w.heap.size + 1, 4, none⟩ y4).setCell ⟨w.heap.size + 1, 5, none⟩ y5).setCell ⟨w.heap.size + 1, 6, none⟩ y6).cell? ⟨X + 1, 4, none⟩ = some (.int .i64 vs) ∧ ((((((((((wr.setCell ⟨w.heap.size, 0, none⟩ u0).setCell ⟨w.heap.size, 1, none⟩ u1).setCell ⟨w.heap.size, 2, none⟩ u2).setCell ⟨w.heap.size + 1, 0, none⟩ y0).setCell ⟨w.heap.size + 1, 1, none⟩ y1).setCell ⟨w.heap.size + 1, 2, none⟩ y2).setCell ⟨w.heap.size + 1, 3, none⟩ y3).setCell ⟨w.heap.size + 1, 4, none⟩ y4).setCell ⟨w.heap.size + 1, 5, none⟩ y5).setCell ⟨w.heap.size + 1, 6, none⟩ y6).cell? ⟨X + 1, 5, none⟩ = some (.int .i64 vt) ∧ ((((((((((wr.setCell ⟨w.heap.size, 0, none⟩ u0).setCell ⟨w.heap.size, 1, none⟩ u1).setCell ⟨w.heap.size, 2, none⟩ u2).setCell ⟨w.heap.size + 1, 0, none⟩ y0).setCell ⟨w.heap.size + 1, 1, none⟩ y1).setCell ⟨w.heap.size + 1, 2, none⟩ y2).setCell ⟨w.heap.size + 1, 3, none⟩ y3).setCell ⟨w.heap.size + 1, 4, none⟩ y4).setCell ⟨w.heap.size + 1, 5, none⟩ y5).setCell ⟨w.heap.size + 1, 6, none⟩ y6).cell? ⟨X + 1, 6, none⟩ = some (.int .i64 vo) := by
  have hx := h.hX
  have o : ∀ k, ¬ k = w.heap.size → ¬ k = w.heap.size + 1 → (setL (setL wr w.heap.size 0 [u0, u1, u2]) (w.heap.size + 1) 0 [y0, y1, y2, y3, y4, y5, y6]).heap[k]? = wr.heap[k]? := fun k n1 n2 => (setL_oth n2 [y0, y1, y2, y3, y4, y5, y6] _ 0).trans (setL_oth n1 [u0, u1, u2] wr 0)
  exact h.of (o X (by omega) (by omega)) (o (X + 1) (by omega) (by omega))
set_option maxHeartbeats 400000 in
theorem S4.ends {w wr : World} {N : Nat} {a : Option Addr} {cap : Nat} {zs : List Int} {b d : Int} {ap : Option Addr} {cp : Nat} {ps : List Pr} {X : Nat} {va vi vl vp vs vt vo : Int} (h : S4 w wr N a cap zs b d ap cp ps X va vi vl vp vs vt vo) :
    Bk (setL (setL wr w.heap.size 0 [.int .i64 b, .int .i64 d, .slice ap ps.length cp]) (w.heap.size + 1) 0 [.int .i64 va, .int .i64 vi, .int .i64 vl, .int .i64 vp, .int .i64 vs, .int .i64 vt, .int .i64 vo]) w.heap.size #[.int .i64 b, .int .i64 d, .slice ap ps.length cp] 28 ∧ Bk (setL (setL wr w.heap.size 0 [.int .i64 b, .int .i64 d, .slice ap ps.length cp]) (w.heap.size + 1) 0 [.int .i64 va, .int .i64 vi, .int .i64 vl, .int .i64 vp, .int .i64 vs, .int .i64 vt, .int .i64 vo]) (w.heap.size + 1) #[.int .i64 va, .int .i64 vi, .int .i64 vl, .int .i64 vp, .int .i64 vs, .int .i64 vt, .int .i64 vo] 32 ∧ Below w.heap.size w (setL (setL wr w.heap.size 0 [.int .i64 b, .int .i64 d, .slice ap ps.length cp]) (w.heap.size + 1) 0 [.int .i64 va, .int .i64 vi, .int .i64 vl, .int .i64 vp, .int .i64 vs, .int .i64 vt, .int .i64 vo]) ∧ OwnPs w.heap.size (setL (setL wr w.heap.size 0 [.int .i64 b, .int .i64 d, .slice ap ps.length cp]) (w.heap.size + 1) 0 [.int .i64 va, .int .i64 vi, .int .i64 vl, .int .i64 vp, .int .i64 vs, .int .i64 vt, .int .i64 vo]).heap.size (setL (setL wr w.heap.size 0 [.int .i64 b, .int .i64 d, .slice ap ps.length cp]) (w.heap.size + 1) 0 [.int .i64 va, .int .i64 vi, .int .i64 vl, .int .i64 vp, .int .i64 vs, .int .i64 vt, .int .i64 vo]) ap ps.length ps := by
  have h2 := h.hX
  have h4 := h.kw.lt
  have hm : Below w.heap.size w (setL (setL wr w.heap.size 0 [.int .i64 b, .int .i64 d, .slice ap ps.length cp]) (w.heap.size + 1) 0 [.int .i64 va, .int .i64 vi, .int .i64 vl, .int .i64 vp, .int .i64 vs, .int .i64 vt, .int .i64 vo]) := setL_below (by omega) [.int .i64 va, .int .i64 vi, .int .i64 vl, .int .i64 vp, .int .i64 vs, .int .i64 vt, .int .i64 vo] 0 (setL_below (Nat.le_refl _) [.int .i64 b, .int .i64 d, .slice ap ps.length cp] 0 h.bel)
  have e1 : Bk (setL wr w.heap.size 0 [.int .i64 b, .int .i64 d, .slice ap ps.length cp]) w.heap.size #[.int .i64 b, .int .i64 d, .slice ap ps.length cp] 28 := by
    have := Bk.setL [.int .i64 b, .int .i64 d, .slice ap ps.length cp] 0 h.ka
    rwa [ovr3] at this
  have e2 : Bk (setL wr w.heap.size 0 [.int .i64 b, .int .i64 d, .slice ap ps.length cp]) (w.heap.size + 1) #[.int .i64 0, .int .i64 0, .int .i64 0, .int .i64 0, .int .i64 0, .int .i64 0, .int .i64 0] 32 := (setL_oth (k := w.heap.size + 1) (by omega) [.int .i64 b, .int .i64 d, .slice ap ps.length cp] wr 0).trans h.kb
  have e3 : Bk (setL (setL wr w.heap.size 0 [.int .i64 b, .int .i64 d, .slice ap ps.length cp]) (w.heap.size + 1) 0 [.int .i64 va, .int .i64 vi, .int .i64 vl, .int .i64 vp, .int .i64 vs, .int .i64 vt, .int .i64 vo]) (w.heap.size + 1) #[.int .i64 va, .int .i64 vi, .int .i64 vl, .int .i64 vp, .int .i64 vs, .int .i64 vt, .int .i64 vo] 32 := by
    have := Bk.setL [.int .i64 va, .int .i64 vi, .int .i64 vl, .int .i64 vp, .int .i64 vs, .int .i64 vt, .int .i64 vo] 0 e2
    rwa [ovr7] at this
  have o : ∀ k, ¬ k = w.heap.size → ¬ k = w.heap.size + 1 → (setL (setL wr w.heap.size 0 [.int .i64 b, .int .i64 d, .slice ap ps.length cp]) (w.heap.size + 1) 0 [.int .i64 va, .int .i64 vi, .int .i64 vl, .int .i64 vp, .int .i64 vs, .int .i64 vt, .int .i64 vo]).heap[k]? = wr.heap[k]? := fun k n1 n2 => (setL_oth n2 [.int .i64 va, .int .i64 vi, .int .i64 vl, .int .i64 vp, .int .i64 vs, .int .i64 vt, .int .i64 vo] _ 0).trans (setL_oth n1 [.int .i64 b, .int .i64 d, .slice ap ps.length cp] wr 0)
  have o1 : (setL (setL wr w.heap.size 0 [.int .i64 b, .int .i64 d, .slice ap ps.length cp]) (w.heap.size + 1) 0 [.int .i64 va, .int .i64 vi, .int .i64 vl, .int .i64 vp, .int .i64 vs, .int .i64 vt, .int .i64 vo]).heap[w.heap.size]? = (setL wr w.heap.size 0 [.int .i64 b, .int .i64 d, .slice ap ps.length cp]).heap[w.heap.size]? := setL_oth (by omega) [.int .i64 va, .int .i64 vi, .int .i64 vl, .int .i64 vp, .int .i64 vs, .int .i64 vt, .int .i64 vo] _ 0
  have hz : (setL (setL wr w.heap.size 0 [.int .i64 b, .int .i64 d, .slice ap ps.length cp]) (w.heap.size + 1) 0 [.int .i64 va, .int .i64 vi, .int .i64 vl, .int .i64 vp, .int .i64 vs, .int .i64 vt, .int .i64 vo]).heap.size = wr.heap.size := (setL_size [.int .i64 va, .int .i64 vi, .int .i64 vl, .int .i64 vp, .int .i64 vs, .int .i64 vt, .int .i64 vo] _ 0).trans (setL_size [.int .i64 b, .int .i64 d, .slice ap ps.length cp] wr 0)
  generalize (setL (setL wr w.heap.size 0 [.int .i64 b, .int .i64 d, .slice ap ps.length cp]) (w.heap.size + 1) 0 [.int .i64 va, .int .i64 vi, .int .i64 vl, .int .i64 vp, .int .i64 vs, .int .i64 vt, .int .i64 vo]) = ws at *
  refine ⟨o1.trans e1, e3, hm, ?_⟩
  have ho := h.ow.blocks (w1 := ws) (fun k q1 _ _ => o k (by omega) (by omega))
  exact (ho.lower (by omega)).rise (by omega)
set_option maxRecDepth 100000 in
set_option maxHeartbeats 1600000 in
theorem drawStepWalk_any (a : Option Addr) (cap : Nat) (zs : List Int) (w : World) (hm : zs.length ≤ 1048576) (hr : RowB w a zs) :
    Calls Try.prog 25 #[.slice a zs.length cap] w fun e w' => ∃ (b d : Int) (ap : Option Addr) (cp : Nat) (ps : List Pr) (k t : Int) (v : Wk), e = .returned (.tuple #[.agg #[.int .i64 b, .int .i64 d, .slice ap ps.length cp], .int .i64 k, .int .i64 t, .agg #[.int .i64 v.at_, .int .i64 v.imag, .int .i64 v.left, .int .i64 v.points, .int .i64 v.succs, .int .i64 v.state, .int .i64 v.owner]]) ∧ OwnPs w.heap.size w'.heap.size w' ap ps.length ps ∧ ps.length ≤ 16 ∧ Below w.heap.size w w' := by
  have hc0 := cur_new (cap := cap) hr hm (belt (belA w (.cells #[.int .i64 0, .int .i64 0, .slice none 0 0] 28)) (belA _ (.cells #[.int .i64 0, .int .i64 0, .int .i64 0, .int .i64 0, .int .i64 0, .int .i64 0, .int .i64 0] 32)))
  have HC0 : Hid (CurAt (((w.alloc (.cells #[.int .i64 0, .int .i64 0, .slice none 0 0] 28)).alloc (.cells #[.int .i64 0, .int .i64 0, .int .i64 0, .int .i64 0, .int .i64 0, .int .i64 0, .int .i64 0] 32)).alloc (.cells #[.slice a zs.length cap, .int .i64 0, .int .u64 0] 85)) ((w.alloc (.cells #[.int .i64 0, .int .i64 0, .slice none 0 0] 28)).alloc (.cells #[.int .i64 0, .int .i64 0, .int .i64 0, .int .i64 0, .int .i64 0, .int .i64 0, .int .i64 0] 32)).heap.size 0 a cap zs) := hc0
  clear hc0 hr
  go_enter Try.func25, Try.ntmps25
  go_wp2_with fail
  refine (walk_any _ _ _ _ _ _ (by simpa using HC0.out) (by omega)).mono ?_
  rintro e w1 ⟨b, d, ap, cp, ps, k, ⟨va, vi, vl, vp, vs, vt, vo⟩, rfl, ow1, l16, mv1, hc1⟩
  have hs1 := mv1.size
  simp at ow1 hs1
  dsimp only
  have D10 : S4 w ((w1.alloc (.cells #[.int .i64 b, .int .i64 d, .slice ap ps.length cp] 28)).alloc (.cells #[.int .i64 va, .int .i64 vi, .int .i64 vl, .int .i64 vp, .int .i64 vs, .int .i64 vt, .int .i64 vo] 32)) 340 a cap zs b d ap cp ps w1.heap.size va vi vl vp vs vt vo := by
    have hb1 : Below w.heap.size w w1 := mv1.below (belt (belA _ _) (belt (belA _ _) (belA _ _))) (by omega)
    have hbA := belt (belA w1 (.cells #[.int .i64 b, .int .i64 d, .slice ap ps.length cp] 28)) (belA _ (.cells #[.int .i64 va, .int .i64 vi, .int .i64 vl, .int .i64 vp, .int .i64 vs, .int .i64 vt, .int .i64 vo] 32))
    have ka1 : Bk w1 w.heap.size #[.int .i64 0, .int .i64 0, .slice none 0 0] 28 := (mv1.block _ (by simp; omega) (by omega)).trans (((Bk.new w #[.int .i64 0, .int .i64 0, .slice none 0 0] 28).alloc _).alloc _)
    have kb1 : Bk w1 (w.heap.size + 1) #[.int .i64 0, .int .i64 0, .int .i64 0, .int .i64 0, .int .i64 0, .int .i64 0, .int .i64 0] 32 := by
      have h2 := (Bk.new (w.alloc (.cells #[.int .i64 0, .int .i64 0, .slice none 0 0] 28)) #[.int .i64 0, .int .i64 0, .int .i64 0, .int .i64 0, .int .i64 0, .int .i64 0, .int .i64 0] 32).alloc (.cells #[.slice a zs.length cap, .int .i64 0, .int .u64 0] 85)
      rw [World.size_alloc] at h2
      exact (mv1.block _ (by simp) (by omega)).trans h2
    have kw1 := Bk.new (w1.alloc (.cells #[.int .i64 b, .int .i64 d, .slice ap ps.length cp] 28)) #[.int .i64 va, .int .i64 vi, .int .i64 vl, .int .i64 vp, .int .i64 vs, .int .i64 vt, .int .i64 vo] 32
    rw [World.size_alloc] at kw1
    exact ⟨belt hb1 hbA, hc1.keep hbA, ka1.keep hbA, kb1.keep hbA, (Bk.new _ _ _).alloc _, kw1, by omega, ow1.keep hbA⟩
  have D1 : Hid _ := D10
  clear D10 HC0 mv1 hc1 ow1 hs1
  go_upto_region 3 with (fail)
  generalize (w1.alloc (.cells #[.int .i64 b, .int .i64 d, .slice ap ps.length cp] 28)).alloc (.cells #[.int .i64 va, .int .i64 vi, .int .i64 vl, .int .i64 vp, .int .i64 vs, .int .i64 vt, .int .i64 vo] 32) = w2 at *
  generalize w1.heap.size = X at *
  have sta := D1.out.drew
  have stA := (D1.out.keep (belA _ (.cells #[.int .i64 1000, .int .i64 1000, .int .i64 20, .int .i64 3, .int .i64 1, .int .i64 0, .int .i64 (-1)] 3))).drew
  have hX := D1.out.hX
  have hXl := D1.out.kw.lt
  have CA : Calls Try.prog 50 #[.pointer (some ⟨w.heap.size + 2, 0, none⟩), .slice (some ⟨w2.heap.size, 0, none⟩) 7 7] (w2.alloc (.cells #[.int .i64 1000, .int .i64 1000, .int .i64 20, .int .i64 3, .int .i64 1, .int .i64 0, .int .i64 (-1)] 3)).drew fun e w' => ∃ v : Int, e = .returned (.int .i64 v) ∧ S4 w w' 342 a cap zs b d ap cp ps X va vi vl vp vs vt vo := by
    refine (among_any [1000, 1000, 20, 3, 1, 0, -1] w2.heap.size 7 _ _ _ _ _ _ stA.cur (by omega) (by simp) (by simp) (by show w2.heap.size < (w2.alloc _).heap.size; simp) (by omega) ?hy).mono ?_
    case hy =>
      intro i hi
      match i, hi with
      | 0, _ => exact (Bk.new _ _ _).cell 0
      | 1, _ => exact (Bk.new _ _ _).cell 1
      | 2, _ => exact (Bk.new _ _ _).cell 2
      | 3, _ => exact (Bk.new _ _ _).cell 3
      | 4, _ => exact (Bk.new _ _ _).cell 4
      | 5, _ => exact (Bk.new _ _ _).cell 5
      | 6, _ => exact (Bk.new _ _ _).cell 6
    rintro e wd ⟨y, rfl, _, mvd, hcd⟩
    exact ⟨y, rfl, stA.step mvd hcd⟩
  go_wp2_with fail
  go_region_held (fun w' => w'.cell? ⟨X, 0, none⟩ = some (.int .i64 b) ∧ w'.cell? ⟨X, 1, none⟩ = some (.int .i64 d) ∧ w'.cell? ⟨X, 2, none⟩ = some (.slice ap ps.length cp) ∧ w'.cell? ⟨X + 1, 0, none⟩ = some (.int .i64 va) ∧ w'.cell? ⟨X + 1, 1, none⟩ = some (.int .i64 vi) ∧ w'.cell? ⟨X + 1, 2, none⟩ = some (.int .i64 vl) ∧ w'.cell? ⟨X + 1, 3, none⟩ = some (.int .i64 vp) ∧ w'.cell? ⟨X + 1, 4, none⟩ = some (.int .i64 vs) ∧ w'.cell? ⟨X + 1, 5, none⟩ = some (.int .i64 vt) ∧ w'.cell? ⟨X + 1, 6, none⟩ = some (.int .i64 vo)) (with_reducible (first | exact sta.q | exact stA.q | exact stb.q | exact stb.e _ _ _ | exact stb.f _ _ _ _ _ _ _ _ _ _)) ((go_at_call 50; refine CA.mono ?_; rintro e wa ⟨xa, rfl, stb⟩; obtain ⟨r0, r1, r2⟩ := Bk.c3 stb.ka; obtain ⟨f0, f1, f2, _⟩ := stb.ka.f4; obtain ⟨s0, s1, s2, s3, s4, s5, s6⟩ := Bk.c7 stb.kb; obtain ⟨e0, e1, e2, e3, e4, e5, e6⟩ := stb.kb.f7))
  go_wp2_with fail
  obtain ⟨KA, KW, KB, KO⟩ := stb.ends
  exact bodyPost_ret (res_c2c Try.results25 _ _ w.heap.size (w.heap.size + 1) _ _ _ _ _ _ _ _ _ _ rfl rfl rfl rfl KA KW Try.underlying28 rfl (by kernel_rfl) Try.underlying32 rfl (by kernel_rfl)) rfl ⟨b, d, ap, cp, ps, k, xa, ⟨va, vi, vl, vp, vs, vt, vo⟩, rfl, KO, l16, KB⟩
end Go.Proofs.Ytejajlloipkkhaa
