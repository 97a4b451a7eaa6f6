/- Peers that are drawn. -/
import Derived.Test.YtgmdbihdnacpjaaY0
namespace Go.Proofs.Ytgmdbihdnacpjaa
open Go.RowKit Go.Deep
set_option linter.unusedVariables false
/-- the cursor, the answer's box, the space's box and the ring -/
structure PS0 (w wr : World) (g N : Nat) (a : Option Addr) (cap : Nat) (zs : List Int) (b d : Int) (Q : Nat) (am : Option Addr) (ms : List Int) : Prop where
  mv : Mv g w wr
  cur : CurAt wr g N a cap zs
  r : wr.heap[w.heap.size]? = some (.cells #[.int .i64 0, .int .i64 0, .slice none 0 0] 28 (0, 0))
  s : wr.heap[Q]? = some (.cells #[.int .i64 b, .int .i64 d] 25 (0, 0))
  qlo : w.heap.size < Q
  m : ms = [] ∨ ∃ bm om, am = some ⟨bm, om, none⟩ ∧ w.heap.size < bm ∧ bm < Q ∧ ∀ i, i < ms.length → wr.cell? ⟨bm, om + i, none⟩ = some (.int .i64 (ms.getD i 0))
  gl : g < w.heap.size
  row : RowU w g a zs
section
variable {w wr : World} {g N : Nat} {a : Option Addr} {cap : Nat} {zs : List Int} {b d : Int} {Q : Nat} {am : Option Addr} {ms : List Int}
theorem PS0.hiQ (h : PS0 w wr g N a cap zs b d Q am ms) : Q < wr.heap.size := (Array.getElem?_eq_some_iff.1 h.s).1
theorem PS0.chg {w1 : World} {M : Nat} (h : PS0 w wr g N a cap zs b d Q am ms) (mv1 : Mv g w w1) (hc : CurAt w1 g M a cap zs) (hk : ∀ k, k ≤ Q → ¬ k = g → w1.heap[k]? = wr.heap[k]?) : PS0 w w1 g M a cap zs b d Q am ms := by
  have := h.qlo
  have := h.gl
  refine ⟨mv1, hc, (hk _ (by omega) (by omega)).trans h.r, (hk _ (Nat.le_refl _) (by omega)).trans h.s, h.qlo, ?_, h.gl, h.row⟩
  rcases h.m with hm | ⟨bm, om, ha, h1, h2, h3⟩
  · exact .inl hm
  · exact .inr ⟨bm, om, ha, h1, h2, fun i hi => (World.cell?_of_block (a := ⟨bm, om + i, none⟩) (hk bm (by omega) (by omega))).trans (h3 i hi)⟩
theorem PS0.step {w1 : World} {M : Nat} (h : PS0 w wr g N a cap zs b d Q am ms) (mv1 : Mv g wr w1) (hc : CurAt w1 g M a cap zs) : PS0 w w1 g M a cap zs b d Q am ms :=
  h.chg (h.mv.trans mv1) hc (fun k hk hg => mv1.block k (by have := h.hiQ; omega) hg)
theorem PS0.keep {w1 : World} (h : PS0 w wr g N a cap zs b d Q am ms) (hb : Below wr.heap.size wr w1) : PS0 w w1 g N a cap zs b d Q am ms := h.step (Mv.of_below hb) (h.cur.keep hb)
theorem PS0.qc (h : PS0 w wr g N a cap zs b d Q am ms) : wr.cell? ⟨Q, 0, none⟩ = some (.int .i64 b) ∧ wr.cell? ⟨Q, 1, none⟩ = some (.int .i64 d) :=
  ⟨(cell_of_row wr _ _ _ _ _ h.s).trans rfl, (cell_of_row wr _ _ _ _ _ h.s).trans rfl⟩
theorem PS0.rc (h : PS0 w wr g N a cap zs b d Q am ms) : wr.cell? ⟨w.heap.size, 0, none⟩ = some (.int .i64 0) ∧ wr.cell? ⟨w.heap.size, 1, none⟩ = some (.int .i64 0) ∧ wr.cell? ⟨w.heap.size, 2, none⟩ = some (.slice none 0 0) ∧
    wr.frozen? ⟨w.heap.size, 0, none⟩ = false ∧ wr.frozen? ⟨w.heap.size, 1, none⟩ = false ∧ wr.frozen? ⟨w.heap.size, 2, none⟩ = false :=
  ⟨(cell_of_row wr _ _ _ _ _ h.r).trans rfl, (cell_of_row wr _ _ _ _ _ h.r).trans rfl, (cell_of_row wr _ _ _ _ _ h.r).trans rfl, frozen_of_row wr _ _ _ _ h.r, frozen_of_row wr _ _ _ _ h.r, frozen_of_row wr _ _ _ _ h.r⟩
theorem PS0.rowAt (h : PS0 w wr g N a cap zs b d Q am ms) : RowAt wr am ms := by
  rcases h.m with hm | ⟨bm, om, ha, h1, h2, h3⟩
  · exact .inl hm
  · exact .inr ⟨bm, om, ha, by have := h.hiQ; omega, h3⟩
/-- beside them a box of peers at X -/
structure PX (w wr : World) (g N : Nat) (a : Option Addr) (cap : Nat) (zs : List Int) (b d : Int) (Q : Nat) (am : Option Addr) (ms : List Int) (X : Nat) : Prop where
  st : PS0 w wr g N a cap zs b d Q am ms
  lo : Q < X
  x : wr.heap[X]? = some (.cells #[.int .i64 0, .int .i64 0, .slice none 0 0] 28 (0, 0))
theorem PX.hi {X : Nat} (h : PX w wr g N a cap zs b d Q am ms X) : X < wr.heap.size := (Array.getElem?_eq_some_iff.1 h.x).1
theorem PX.step {w1 : World} {M X : Nat} (h : PX w wr g N a cap zs b d Q am ms X) (mv1 : Mv g wr w1) (hc : CurAt w1 g M a cap zs) : PX w w1 g M a cap zs b d Q am ms X :=
  ⟨h.st.step mv1 hc, h.lo, (mv1.block X h.hi (by have := h.lo; have := h.st.qlo; have := h.st.gl; omega)).trans h.x⟩
theorem PX.keep {w1 : World} {X : Nat} (h : PX w wr g N a cap zs b d Q am ms X) (hb : Below wr.heap.size wr w1) : PX w w1 g N a cap zs b d Q am ms X := h.step (Mv.of_below hb) (h.st.cur.keep hb)
theorem px_new (h : PS0 w wr g N a cap zs b d Q am ms) : PX w (wr.alloc (.cells #[.int .i64 0, .int .i64 0, .slice none 0 0] 28)) g N a cap zs b d Q am ms wr.heap.size :=
  ⟨h.keep (belA _ _), h.hiQ, heap_alloc_new _ _⟩
theorem PX.cells {X : Nat} (h : PX w wr g N a cap zs b d Q am ms X) : wr.cell? ⟨X, 0, none⟩ = some (.int .i64 0) ∧ wr.cell? ⟨X, 1, none⟩ = some (.int .i64 0) ∧ wr.cell? ⟨X, 2, none⟩ = some (.slice none 0 0) ∧
    wr.frozen? ⟨X, 0, none⟩ = false ∧ wr.frozen? ⟨X, 1, none⟩ = false ∧ wr.frozen? ⟨X, 2, none⟩ = false :=
  ⟨(cell_of_row wr _ _ _ _ _ h.x).trans rfl, (cell_of_row wr _ _ _ _ _ h.x).trans rfl, (cell_of_row wr _ _ _ _ _ h.x).trans rfl, frozen_of_row wr _ _ _ _ h.x, frozen_of_row wr _ _ _ _ h.x, frozen_of_row wr _ _ _ _ h.x⟩
theorem PX.qc3 {X : Nat} (h : PX w wr g N a cap zs b d Q am ms X) (v0 v1 v2 : Value) : (((wr.setCell ⟨X, 0, none⟩ v0).setCell ⟨X, 1, none⟩ v1).setCell ⟨X, 2, none⟩ v2).cell? ⟨Q, 0, none⟩ = some (.int .i64 b) ∧ (((wr.setCell ⟨X, 0, none⟩ v0).setCell ⟨X, 1, none⟩ v1).setCell ⟨X, 2, none⟩ v2).cell? ⟨Q, 1, none⟩ = some (.int .i64 d) := by
  have hn : ¬ Q = X := by have := h.lo; omega
  obtain ⟨k0, k1⟩ := h.st.qc
  exact ⟨(World.cell?_of_block (a := ⟨Q, 0, none⟩) (set3_block (x := v0) (y := v1) (v := v2) hn)).trans k0, (World.cell?_of_block (a := ⟨Q, 1, none⟩) (set3_block (x := v0) (y := v1) (v := v2) hn)).trans k1⟩
/-- what the drawing of peers goes on with: ideal peers, or none -/
def PGo (w wr : World) (g N : Nat) (a : Option Addr) (cap : Nat) (zs : List Int) (b d : Int) (Q : Nat) (am : Option Addr) (ms : List Int) (X : Nat) (ok : Bool) : Prop :=
  PS0 w wr g N a cap zs b d Q am ms ∧ (ok = true → ∃ bm om G c L, am = some ⟨bm, om, none⟩ ∧ 1 ≤ L.length ∧ L.length ≤ 16 ∧ 1 ≤ ms.length ∧ PSt w wr g N a cap zs b d Q X G c (Q + 1) bm om ms L)
theorem PS0.ring (h : PS0 w wr g N a cap zs b d Q am ms) (hm : 1 ≤ ms.length) : ∃ bm om, am = some ⟨bm, om, none⟩ ∧ w.heap.size < bm ∧ bm < Q ∧ ∀ i, i < ms.length → wr.cell? ⟨bm, om + i, none⟩ = some (.int .i64 (ms.getD i 0)) := by
  rcases h.m with h | h
  · rw [h] at hm; simp at hm
  · exact h
theorem few_ideal {n : Int} {L : List (Pr × Value)} (hn : idlOk b d ms n = true) (hL : L.map (·.1) = idealL b d ms n.toNat) : Few L ∧ L.length = ms.length ∧ 1 ≤ ms.length ∧ ms.length ≤ 16 := by
  unfold idlOk at hn
  rw [Bool.and_eq_true] at hn
  have R := ringB_true hn.1
  obtain ⟨n1, n2⟩ := inB_true hn.2
  have hl : L.length = ms.length := by rw [← List.length_map (f := (·.1)), hL, idealL_len]
  refine ⟨fun i hi => ?_, hl, R.l1, R.l2⟩
  have e : (L.getD i d0).1 = (idealL b d ms n.toNat).getD i pr0 := by
    rw [← hL]
    simp [List.getD_eq_getElem?_getD, List.getElem?_eq_getElem hi]
  rw [e]
  unfold idealL
  rw [hl] at hi
  simp only [List.getD_eq_getElem?_getD, List.getElem?_map, List.getElem?_eq_getElem hi, Option.map_some, Option.getD_some]
  show (bckL ms _ n.toNat).length ≤ 3
  rw [bckL_len]
  omega
theorem pgo_none {X : Nat} (h : PS0 w wr g N a cap zs b d Q am ms) : PGo w wr g N a cap zs b d Q am ms X false := ⟨h, fun h => by cases h⟩
theorem pgo_new {n : Int} {B : Nat} {vl : Value} {L : List (Pr × Value)} (h : PS0 w wr g N a cap zs b d Q am ms) (hn : idlOk b d ms n = true) (hL : L.map (·.1) = idealL b d ms n.toNat) (lp : ListP B wr vl L) (hB : Q < B) :
    PGo w (wr.alloc (.cells #[.int .i64 b, .int .i64 d, vl] 28)) g N a cap zs b d Q am ms wr.heap.size true := by
  obtain ⟨hf, hl, m1, m2⟩ := few_ideal hn hL
  obtain ⟨G, c, hv⟩ := Joins.ownsRow_form lp.own (by omega)
  subst hv
  have h1 := h.keep (belA wr (.cells #[.int .i64 b, .int .i64 d, .slice (some ⟨G, 0, none⟩) L.length c] 28))
  refine ⟨h1, fun _ => ?_⟩
  obtain ⟨bm, om, ha, b1, b2, b3⟩ := h1.ring m1
  exact ⟨bm, om, G, c, L, ha, by omega, by omega, m1, h1.mv, h1.cur, h1.r, h1.s, b3, heap_alloc_new _ _, ((lp.ownP.keep (belA _ _)).wide (by simp)).mono hB, hf, h1.qlo, by omega, b1, by omega, h.hiQ, h1.gl, h1.row⟩
theorem pgo_set {n : Int} {B X : Nat} {vl : Value} {L : List (Pr × Value)} (h : PX w wr g N a cap zs b d Q am ms X) (hn : idlOk b d ms n = true) (hL : L.map (·.1) = idealL b d ms n.toNat) (lp : ListP B wr vl L) (hB : X < B) :
    PGo w (set3 wr X (.int .i64 b) (.int .i64 d) vl) g N a cap zs b d Q am ms X true := by
  obtain ⟨hf, hl, m1, m2⟩ := few_ideal hn hL
  obtain ⟨G, c, hv⟩ := Joins.ownsRow_form lp.own (by omega)
  subst hv
  have hlo := h.lo
  have hq := h.st.qlo
  have hg := h.st.gl
  have mv1 : Mv g w (set3 wr X (.int .i64 b) (.int .i64 d) (.slice (some ⟨G, 0, none⟩) L.length c)) := ((h.st.mv.put (q := X) (by omega) 0 _).put (q := X) (by omega) 1 _).put (q := X) (by omega) 2 _
  have h1 := h.st.chg mv1 (h.st.cur.blocks h.st.row mv1 (set3_block (by omega))) (fun k hk _ => set3_block (by omega))
  refine ⟨h1, fun _ => ?_⟩
  obtain ⟨bm, om, ha, b1, b2, b3⟩ := h1.ring m1
  refine ⟨bm, om, G, c, L, ha, by omega, by omega, m1, h1.mv, h1.cur, h1.r, h1.s, b3, set3_row h.x, ?_, hf, h1.qlo, by omega, b1, by omega, hlo, h1.gl, h1.row⟩
  rw [set3_size]
  exact ((lp.ownP).blocks (fun k hk _ _ => set3_block (by omega))).mono (by omega)
theorem pgo_zero_new (h : PS0 w wr g N a cap zs b d Q am ms) (o : Obj) : PGo w (wr.alloc o) g N a cap zs b d Q am ms wr.heap.size false := pgo_none (h.keep (belA _ _))
theorem pgo_zero_set {X : Nat} {v0 v1 v2 : Value} (h : PX w wr g N a cap zs b d Q am ms X) : PGo w (set3 wr X v0 v1 v2) g N a cap zs b d Q am ms X false := by
  have hlo := h.lo
  have hq := h.st.qlo
  have hg := h.st.gl
  have mv1 : Mv g w (set3 wr X v0 v1 v2) := ((h.st.mv.put (q := X) (by omega) 0 _).put (q := X) (by omega) 1 _).put (q := X) (by omega) 2 _
  exact pgo_none (h.st.chg mv1 (h.st.cur.blocks h.st.row mv1 (set3_block (by omega))) (fun k hk _ => set3_block (by omega)))
/-- what the specification's IdealPeers answers, in one form -/
def IdlR (B : Nat) (w' : World) (b d n : Int) (ms : List Int) (b' d' : Int) (al : Option Addr) (nl cl : Nat) (ok : Bool) : Prop :=
  ok = true → b' = b ∧ d' = d ∧ idlOk b d ms n = true ∧ ∃ L, L.map (·.1) = idealL b d ms n.toNat ∧ ListP B w' (.slice al nl cl) L
theorem pgo_new' {n b' d' : Int} {B : Nat} {al : Option Addr} {nl cl : Nat} {ok : Bool} (h : PS0 w wr g N a cap zs b d Q am ms) (hr : IdlR B wr b d n ms b' d' al nl cl ok) (hB : Q < B) :
    PGo w (wr.alloc (.cells #[.int .i64 b', .int .i64 d', .slice al nl cl] 28)) g N a cap zs b d Q am ms wr.heap.size ok := by
  cases ok
  · exact pgo_zero_new h _
  · obtain ⟨rfl, rfl, hn, L, hL, lp⟩ := hr rfl
    exact pgo_new h hn hL lp hB
theorem pgo_set' {n b' d' : Int} {B X : Nat} {al : Option Addr} {nl cl : Nat} {ok : Bool} (h : PX w wr g N a cap zs b d Q am ms X) (hr : IdlR B wr b d n ms b' d' al nl cl ok) (hB : X < B) :
    PGo w (set3 wr X (.int .i64 b') (.int .i64 d') (.slice al nl cl)) g N a cap zs b d Q am ms X ok := by
  cases ok
  · exact pgo_zero_set h
  · obtain ⟨rfl, rfl, hn, L, hL, lp⟩ := hr rfl
    exact pgo_set h hn hL lp hB
theorem lIdealPeers_uni (b d : Int) (n : Int) (a : Option Addr) (cap : Nat) (zs : List Int) (w : World) (hm : zs.length ≤ maxLen) (hr : RowAt w a zs) :
    Calls Try.prog 25 #[.agg #[.int .i64 b, .int .i64 d], .slice a zs.length cap, .int .i64 n] w fun e w' => ∃ b' d' al nl cl ok, e = .returned (.tuple #[.agg #[.int .i64 b', .int .i64 d', .slice al nl cl], .bool ok]) ∧ Below w.heap.size w w' ∧ IdlR w.heap.size w' b d n zs b' d' al nl cl ok := by
  refine (lIdealPeers_list b d n a cap zs w hm hr).mono ?_
  rintro e w1 ⟨v, rfl, hw, ⟨hok, rfl⟩ | ⟨hok, vl, L, rfl, hL, lp⟩⟩
  · exact ⟨0, 0, none, 0, 0, false, rfl, hw, fun h => by cases h⟩
  · obtain ⟨al, cl, rfl, _⟩ := lp.form
    exact ⟨b, d, al, _, cl, true, rfl, hw, fun _ => ⟨rfl, rfl, hok, L, hL, lp⟩⟩
/-- the space's and the ring's cells, kept while a cell of the list or of backs is written -/
theorem PSt.mc {X G c B0 bm om : Nat} {L : List (Pr × Value)} (h : PSt w wr g N a cap zs b d Q X G c B0 bm om ms L) : wr.cell? ⟨X, 2, none⟩ = some (.slice (some ⟨G, 0, none⟩) L.length c) ∧ ∀ i, i < ms.length → wr.cell? ⟨bm, om + i, none⟩ = some (.int .i64 (ms.getD i 0)) := ⟨h.xc.2.2, h.m⟩
theorem PSt.mc1 {X G c B0 bm om : Nat} {L : List (Pr × Value)} (h : PSt w wr g N a cap zs b d Q X G c B0 bm om ms L) {q : Nat} (hq : B0 ≤ q) (hn : ¬ X = q) (j : Nat) (v : Value) : (wr.setCell ⟨q, j, none⟩ v).cell? ⟨X, 2, none⟩ = some (.slice (some ⟨G, 0, none⟩) L.length c) ∧ ∀ i, i < ms.length → (wr.setCell ⟨q, j, none⟩ v).cell? ⟨bm, om + i, none⟩ = some (.int .i64 (ms.getD i 0)) :=
  ⟨(cell_far hn).trans h.xc.2.2, fun i hi => (cell_far (by have := h.mhi; omega)).trans (h.m i hi)⟩
theorem PSt.bk2 {X G c B0 bm om : Nat} {L : List (Pr × Value)} (h : PSt w wr g N a cap zs b d Q X G c B0 bm om ms L) {k j nb cb : Nat} {ab : Option Addr} (hk : k < L.length) (hv : (L.getD k d0).2 = .slice ab nb cb) (hn : (L.getD k d0).1.backs.length = nb) (hj : j < nb) :
    ∃ gb, ab = some ⟨gb, 0, none⟩ ∧ B0 ≤ gb ∧ ¬ X = gb ∧ ¬ G = gb := by
  obtain ⟨ab', cb', hv', _, _, ho⟩ := h.ow.val k hk
  rw [hv] at hv'
  simp at hv'
  obtain ⟨rfl, _, rfl⟩ := hv'
  rcases ho with ho | ⟨gb, ha, _, os⟩
  · rw [ho] at hn; simp at hn; omega
  · obtain ⟨cur, hc⟩ := h.ow.blk
    refine ⟨gb, ha, os.lo, fun he => ?_, fun he => os.ne_peer hc he.symm⟩
    obtain ⟨cj, hcj, _⟩ := os.row
    have hx := h.x
    rw [he, hcj] at hx
    simp at hx
theorem PSt.bk3 {X G c B0 bm om : Nat} {L : List (Pr × Value)} (h : PSt w wr g N a cap zs b d Q X G c B0 bm om ms L) {k j nb cb gb : Nat} (hk : k < L.length) (hv : (L.getD k d0).2 = .slice (some ⟨gb, 0, none⟩) nb cb) (hn : (L.getD k d0).1.backs.length = nb) (hj : j < nb) :
    (∃ z, wr.cell? ⟨gb, j, none⟩ = some (.int .i64 z)) ∧ wr.frozen? ⟨gb, j, none⟩ = false := by
  obtain ⟨ab', cb', hv', _, _, ho⟩ := h.ow.val k hk
  rw [hv] at hv'
  simp at hv'
  obtain ⟨rfl, _, rfl⟩ := hv'
  rcases ho with ho | ⟨gb', ha, _, os⟩
  · rw [ho] at hn; simp at hn; omega
  · simp at ha
    subst ha
    obtain ⟨k0, k1⟩ := os.at j (by omega)
    exact ⟨⟨_, k0⟩, k1⟩
theorem PSt.m3 {X G c B0 bm om : Nat} {L : List (Pr × Value)} (h : PSt w wr g N a cap zs b d Q X G c B0 bm om ms L) {k : Nat} {v : Value} (hk : k < L.length) (hv : (L.getD k d0).2 = v) : wr.cell? ⟨X, 2, none⟩ = some (.slice (some ⟨G, 0, none⟩) L.length c) ∧ wr.cell? ⟨G, k * 4 + 3, none⟩ = some v ∧ ∀ i, i < ms.length → wr.cell? ⟨bm, om + i, none⟩ = some (.int .i64 (ms.getD i 0)) := ⟨h.xc.2.2, by rw [← hv]; exact (h.ow.cel k hk).c3, h.m⟩
theorem PSt.m4 {X G c B0 bm om : Nat} {L : List (Pr × Value)} (h : PSt w wr g N a cap zs b d Q X G c B0 bm om ms L) {k q : Nat} {v : Value} (hk : k < L.length) (hv : (L.getD k d0).2 = v) (hq : B0 ≤ q) (hn : ¬ X = q) (hg : ¬ G = q) (j : Nat) (u : Value) : (wr.setCell ⟨q, j, none⟩ u).cell? ⟨X, 2, none⟩ = some (.slice (some ⟨G, 0, none⟩) L.length c) ∧ (wr.setCell ⟨q, j, none⟩ u).cell? ⟨G, k * 4 + 3, none⟩ = some v ∧ ∀ i, i < ms.length → (wr.setCell ⟨q, j, none⟩ u).cell? ⟨bm, om + i, none⟩ = some (.int .i64 (ms.getD i 0)) :=
  ⟨(cell_far hn).trans (h.m3 hk hv).1, (cell_far hg).trans (h.m3 hk hv).2.1, fun i hi => (cell_far (by have := h.mhi; omega)).trans (h.m i hi)⟩
/-- two boxes that a number of a space is drawn by -/
theorem PSt.n3 {X G c B0 bm om : Nat} {L : List (Pr × Value)} (h : PSt w wr g N a cap zs b d Q X G c B0 bm om ms L) : wr.cell? ⟨X, 2, none⟩ = some (.slice (some ⟨G, 0, none⟩) L.length c) ∧ wr.cell? ⟨Q, 0, none⟩ = some (.int .i64 b) ∧ wr.cell? ⟨Q, 1, none⟩ = some (.int .i64 d) := ⟨h.xc.2.2, h.qc.1, h.qc.2⟩
theorem PSt.n4 {X G c B0 bm om : Nat} {L : List (Pr × Value)} (h : PSt w wr g N a cap zs b d Q X G c B0 bm om ms L) (j : Nat) (u : Value) : (wr.setCell ⟨G, j, none⟩ u).cell? ⟨X, 2, none⟩ = some (.slice (some ⟨G, 0, none⟩) L.length c) ∧ (wr.setCell ⟨G, j, none⟩ u).cell? ⟨Q, 0, none⟩ = some (.int .i64 b) ∧ (wr.setCell ⟨G, j, none⟩ u).cell? ⟨Q, 1, none⟩ = some (.int .i64 d) :=
  have hq : ¬ Q = G := by have := h.qhi; have := h.ow.lo; omega
  ⟨(cell_far h.ne).trans h.xc.2.2, (cell_far hq).trans h.qc.1, (cell_far hq).trans h.qc.2⟩
theorem PSt.fin {X G c B0 bm om M : Nat} {L : List (Pr × Value)} (h : PSt w wr g N a cap zs b d Q X G c B0 bm om ms L) (hl : L.length ≤ 16) (hN : N ≤ M) :
    OwnPs w.heap.size (set3 wr w.heap.size (.int .i64 b) (.int .i64 d) (.slice (some ⟨G, 0, none⟩) L.length c)).heap.size (set3 wr w.heap.size (.int .i64 b) (.int .i64 d) (.slice (some ⟨G, 0, none⟩) L.length c)) (some ⟨G, 0, none⟩) (L.map (·.1)).length (L.map (·.1)) ∧ (L.map (·.1)).length ≤ 16 ∧ (∀ i, i < (L.map (·.1)).length → ((L.map (·.1)).getD i pr0).backs.length ≤ 3) ∧
    Mv g w (set3 wr w.heap.size (.int .i64 b) (.int .i64 d) (.slice (some ⟨G, 0, none⟩) L.length c)) ∧ CurAt (set3 wr w.heap.size (.int .i64 b) (.int .i64 d) (.slice (some ⟨G, 0, none⟩) L.length c)) g M a cap zs := by
  have hq := h.qlo
  have hg := h.gl
  have hq2 := h.qhi
  have mv1 : Mv g w (set3 wr w.heap.size (.int .i64 b) (.int .i64 d) (.slice (some ⟨G, 0, none⟩) L.length c)) := ((h.mv.put (q := w.heap.size) (Nat.le_refl _) 0 _).put (q := w.heap.size) (Nat.le_refl _) 1 _).put (q := w.heap.size) (Nat.le_refl _) 2 _
  refine ⟨⟨rfl, .inr ⟨G, L, rfl, rfl, ?_⟩⟩, by simpa using hl, fun i hi => ?_, mv1, (h.cur.blocks h.row mv1 (set3_block (by omega))).more hN⟩
  · rw [set3_size]
    exact (h.ow.blocks (fun k hk _ _ => set3_block (by omega))).mono (by omega)
  · rw [List.length_map] at hi
    have := h.few i hi
    simpa [List.getD_eq_getElem?_getD, List.getElem?_eq_getElem hi] using this
end
end Go.Proofs.Ytgmdbihdnacpjaa
