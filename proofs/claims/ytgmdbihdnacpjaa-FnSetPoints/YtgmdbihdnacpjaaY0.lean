/- Peers that are drawn: what is kept meanwhile. -/
import Derived.Test.YtgmdbihdnacpjaaQ9
import Derived.Test.YtgmdbihdnacpjaaT2
namespace Go.Proofs.Ytgmdbihdnacpjaa
open Go.RowKit Go.Deep
set_option linter.unusedVariables false
set_option maxHeartbeats 1600000 in
theorem lIdealPeers_list (b d : Int) (n : Int) (a : Option Addr) (cap : Nat) (zs : List Int) (w : World) (hm : zs.length ≤ maxLen) (hr : RowAt w a zs) :
    Calls Try.prog 25 #[.agg #[.int .i64 b, .int .i64 d], .slice a zs.length cap, .int .i64 n] w fun e w' => ∃ v, e = .returned v ∧ Below w.heap.size w w' ∧
      ((idlOk b d zs n = false ∧ v = .tuple #[.agg #[.int .i64 0, .int .i64 0, .slice none 0 0], .bool false]) ∨ (idlOk b d zs n = true ∧ ∃ vl L, v = .tuple #[.agg #[.int .i64 b, .int .i64 d, vl], .bool true] ∧ L.map (·.1) = idealL b d zs n.toNat ∧ ListP w.heap.size w' vl L)) := by
  have rb := rb0 w #[.int .i64 b, .int .i64 d] 25
  have CR := lring_any b d a cap zs _ hm (hr.keep rb.bel)
  have HR : Hid (RowAt w a zs) := hr
  have RB0 : Hid _ := rb
  cases hok : idlOk b d zs n
  · refine (lIdealPeers_any b d n a cap zs w hm hr).mono ?_
    rintro e w1 ⟨v, rfl, hw, ⟨_, rfl⟩ | ⟨h, _⟩⟩
    · exact ⟨_, rfl, hw, .inl ⟨rfl, rfl⟩⟩
    · rw [hok] at h; cases h
  · unfold idlOk at hok
    rw [Bool.and_eq_true] at hok
    obtain ⟨hg, hn⟩ := hok
    rw [hg] at CR
    have CN : ∀ w1, Calls Try.prog 78 #[.int .i64 n, .int .i64 0, .int .i64 3] w1 fun e w' => e = .returned (.bool true) ∧ w' = w1 := fun w1 => by have := lin_any n 0 3 w1; rwa [hn] at this
    obtain ⟨n1, n2⟩ := inB_true hn
    obtain ⟨m, rfl⟩ : ∃ m : Nat, n = (m : Int) := ⟨n.toNat, by omega⟩
    have R := ringB_true hg
    have RR : Hid (Ring b d zs) := R
    clear hg hn n1 R hr rb
    go_enter Try.func25, Try.ntmps25
    go_wp2_with fail
    refine CR.mono ?_
    rintro e w1 ⟨rfl, hw1⟩
    have RB1 : Hid (RB w w1 #[.int .i64 b, .int .i64 d] 25) := RB0.out.keep hw1
    obtain ⟨s0, s1⟩ := RB1.out.arg2
    clear CR hw1
    go_wp2_with fail
    refine (CN _).mono ?_
    rintro e w2 ⟨rfl, he2⟩
    subst he2
    go_wp2_with fail
    refine (lideal_any b d m a cap zs _ RR.out (HR.out.keep RB1.out.bel) (by omega)).mono ?_
    rintro e w3 ⟨vl, L, rfl, hL, lp, hw3⟩
    have RB3 : Hid (RB w w3 #[.int .i64 b, .int .i64 d] 25) := RB1.out.keep hw3
    obtain ⟨r0, r1, r2, q0, q1, q2⟩ := RB3.out.cells
    obtain ⟨al, cl, rfl, hcl⟩ := lp.form
    have lp2 := lp.blocks (w1 := set3 w3 (w.heap.size + 1) (.int .i64 b) (.int .i64 d) (.slice al L.length cl)) (by rw [set3_size]; exact Nat.le_refl _) (fun k hk _ => set3_block (by have := RB1.out.lt; omega))
    have LP2 : Hid (ListP w.heap.size (set3 w3 (w.heap.size + 1) (.int .i64 b) (.int .i64 d) (.slice al L.length cl)) (.slice al L.length cl) L) := lp2.lower (by have := RB1.out.lt; omega)
    clear lp2 lp hw3 hcl
    go_wp2
    exact bodyPost_ret (results_cell_tmp Try.results25 _ _ (w.heap.size + 1) _ _ _ _ _ rfl rfl (set3_row RB3.out.r) Try.underlying28 rfl (by kernel_rfl)) rfl ⟨_, rfl, set3_below RB3.out.bel (by omega), .inr ⟨trivial, _, L, rfl, hL, LP2.out⟩⟩

theorem CurAt.blocks {w wr w1 : World} {g n : Nat} {a : Option Addr} {cap : Nat} {zs : List Int} (h : CurAt wr g n a cap zs) (h0 : RowU w g a zs) (mv : Mv g w w1) (hg : w1.heap[g]? = wr.heap[g]?) : CurAt w1 g n a cap zs := by
  obtain ⟨k, sd, hB, hk, hw⟩ := h.st
  exact ⟨⟨k, sd, hg.trans hB, hk, hw⟩, h0.keep mv, h.len⟩
/-- each peer has three backs at most -/
def Few (L : List (Pr × Value)) : Prop := ∀ i, i < L.length → (L.getD i d0).1.backs.length ≤ 3
theorem Few.set {L : List (Pr × Value)} {k : Nat} {e : Pr × Value} (h : Few L) (he : e.1.backs.length ≤ 3) : Few (L.set k e) := fun i hi => by
  rw [List.length_set] at hi
  rw [getD_set hi]
  split
  · exact he
  · exact h i hi
/-- the cursor, the answer's box, the space's box, the ring, the box of peers at X with their list at G -/
structure PSt (w wr : World) (g N : Nat) (a : Option Addr) (cap : Nat) (zs : List Int) (b d : Int) (Q X G c B0 bm om : Nat) (ms : List Int) (L : List (Pr × Value)) : Prop where
  mv : Mv g w wr
  cur : CurAt wr g N a cap zs
  r : wr.heap[w.heap.size]? = some (.cells #[.int .i64 0, .int .i64 0, .slice none 0 0] 28 (0, 0))
  s : wr.heap[Q]? = some (.cells #[.int .i64 b, .int .i64 d] 25 (0, 0))
  m : ∀ i, i < ms.length → wr.cell? ⟨bm, om + i, none⟩ = some (.int .i64 (ms.getD i 0))
  x : wr.heap[X]? = some (.cells #[.int .i64 b, .int .i64 d, .slice (some ⟨G, 0, none⟩) L.length c] 28 (0, 0))
  ow : OwnP B0 wr.heap.size wr G L
  few : Few L
  qlo : w.heap.size < Q
  qhi : Q < B0
  mlo : w.heap.size < bm
  mhi : bm < B0
  xlo : B0 ≤ X
  gl : g < w.heap.size
  row : RowU w g a zs
section
variable {w wr : World} {g N : Nat} {a : Option Addr} {cap : Nat} {zs : List Int} {b d : Int} {Q X G c B0 bm om : Nat} {ms : List Int} {L : List (Pr × Value)}
theorem PSt.hiX (h : PSt w wr g N a cap zs b d Q X G c B0 bm om ms L) : X < wr.heap.size := (Array.getElem?_eq_some_iff.1 h.x).1
theorem PSt.ne (h : PSt w wr g N a cap zs b d Q X G c B0 bm om ms L) : ¬ X = G := fun he => by
  obtain ⟨cur, hc⟩ := h.ow.blk
  have hp := h.x
  rw [he, hc] at hp
  simp at hp
/-- whatever changes beyond B0 but the box of peers -/
theorem PSt.chg {w1 : World} {N' : Nat} {L' : List (Pr × Value)} (h : PSt w wr g N a cap zs b d Q X G c B0 bm om ms L) (mv1 : Mv g w w1) (hc : CurAt w1 g N' a cap zs) (hs : wr.heap.size ≤ w1.heap.size) (hk : ∀ k, k < B0 → ¬ k = g → w1.heap[k]? = wr.heap[k]?) (hx : w1.heap[X]? = wr.heap[X]?)
    (ow : OwnP B0 w1.heap.size w1 G L') (hf : Few L') (hl : L'.length = L.length) : PSt w w1 g N' a cap zs b d Q X G c B0 bm om ms L' := by
  have := h.qlo
  have := h.gl
  have := h.mlo
  have := h.qhi
  have := h.mhi
  refine ⟨mv1, hc, (hk _ (by omega) (by omega)).trans h.r, (hk _ h.qhi (by omega)).trans h.s, fun i hi => ?_, by rw [hl]; exact hx.trans h.x, ow, hf, h.qlo, h.qhi, h.mlo, h.mhi, h.xlo, h.gl, h.row⟩
  exact (World.cell?_of_block (a := ⟨bm, om + i, none⟩) (hk bm h.mhi (by omega))).trans (h.m i hi)
/-- the cursor moves -/
theorem PSt.step {w1 : World} {N' : Nat} (h : PSt w wr g N a cap zs b d Q X G c B0 bm om ms L) (mv1 : Mv g wr w1) (hc : CurAt w1 g N' a cap zs) : PSt w w1 g N' a cap zs b d Q X G c B0 bm om ms L := by
  have := h.qlo
  have := h.gl
  have := h.xlo
  have := h.qhi
  have := h.hiX
  exact h.chg (h.mv.trans mv1) hc mv1.size (fun k hk hg => mv1.block k (by omega) hg) (mv1.block X h.hiX (by omega)) ((h.ow.blocks (fun k h1 _ h3 => mv1.block k h3 (by omega))).wide mv1.size) h.few rfl
theorem PSt.keep {w1 : World} (h : PSt w wr g N a cap zs b d Q X G c B0 bm om ms L) (hb : Below wr.heap.size wr w1) : PSt w w1 g N a cap zs b d Q X G c B0 bm om ms L := h.step (Mv.of_below hb) (h.cur.keep hb)
theorem PSt.more {M : Nat} (h : PSt w wr g N a cap zs b d Q X G c B0 bm om ms L) (hM : N ≤ M) : PSt w wr g M a cap zs b d Q X G c B0 bm om ms L :=
  h.chg h.mv (h.cur.more hM) (Nat.le_refl _) (fun _ _ _ => rfl) rfl h.ow h.few rfl
/-- a cell of the list, or of a list of backs, is written -/
theorem PSt.put {q j : Nat} {v : Value} {L' : List (Pr × Value)} (h : PSt w wr g N a cap zs b d Q X G c B0 bm om ms L) (hq : B0 ≤ q) (hn : ¬ X = q) (ho : OwnP B0 wr.heap.size (wr.setCell ⟨q, j, none⟩ v) G L') (hf : Few L') (hl : L'.length = L.length) : PSt w (wr.setCell ⟨q, j, none⟩ v) g N a cap zs b d Q X G c B0 bm om ms L' := by
  have := h.qlo
  have := h.gl
  have := h.qhi
  have mv1 : Mv g w (wr.setCell ⟨q, j, none⟩ v) := h.mv.put (by omega) j v
  refine h.chg mv1 (h.cur.blocks h.row mv1 (heap_setCell_other _ _ _ _ (by simp; omega))) (by simp [World.setCell]) (fun k hk _ => heap_setCell_other _ _ _ _ (by simp; omega)) (heap_setCell_other _ _ _ _ (by simpa using hn)) ?_ hf hl
  rw [heap_size_setCell]
  exact ho
theorem PSt.num (h : PSt w wr g N a cap zs b d Q X G c B0 bm om ms L) {i : Nat} (hi : i < L.length) (f : Nat) (hf : f < 3) (z : Int) :
    PSt w (wr.setCell ⟨G, i * 4 + f, none⟩ (.int .i64 z)) g N a cap zs b d Q X G c B0 bm om ms (L.set i (setF f (L.getD i d0).1 z, (L.getD i d0).2)) :=
  h.put h.ow.lo h.ne (h.ow.num hi f hf z) (h.few.set (by rw [setF_backs]; exact h.few i hi)) (by simp)
theorem PSt.backs {w1 : World} (h : PSt w wr g N a cap zs b d Q X G c B0 bm om ms L) (hb : Below wr.heap.size wr w1) {i : Nat} (hi : i < L.length) {bs : List Int} {gb cb : Nat} (hm : bs.length ≤ 3) (hcb : bs.length ≤ cb) (os : OwnS wr.heap.size w1 gb bs) :
    PSt w (w1.setCell ⟨G, i * 4 + 3, none⟩ (.slice (some ⟨gb, 0, none⟩) bs.length cb)) g N a cap zs b d Q X G c B0 bm om ms (L.set i (⟨(L.getD i d0).1.id, (L.getD i d0).1.succ, (L.getD i d0).1.point, bs⟩, .slice (some ⟨gb, 0, none⟩) bs.length cb)) :=
  (h.keep hb).put h.ow.lo h.ne (h.ow.backs rfl hb hi (by omega) hcb os) (h.few.set hm) (by simp)
/-- one of the backs is written where it lies -/
theorem PSt.back (h : PSt w wr g N a cap zs b d Q X G c B0 bm om ms L) {i j gb : Nat} (hi : i < L.length) (hj : j < (L.getD i d0).1.backs.length) (hv : (L.getD i d0).2.ownBlock = some gb) (z : Int) :
    ∃ L', PSt w (wr.setCell ⟨gb, j, none⟩ (.int .i64 z)) g N a cap zs b d Q X G c B0 bm om ms L' ∧ L'.length = L.length ∧ (∀ k, (L'.getD k d0).2 = (L.getD k d0).2 ∧ (L'.getD k d0).1.backs.length = (L.getD k d0).1.backs.length) := by
  have hn : ¬ (L.getD i d0).1.backs = [] := fun e => by rw [e] at hj; simp at hj
  obtain ⟨ab, cb, hvi, hcb, hm, ho⟩ := h.ow.val i hi
  rcases ho with ho | ⟨gi, ha, ht, os⟩
  · exact absurd ho hn
  · have e : gi = gb := by rw [hvi, ha] at hv; simpa [Value.ownBlock] using hv
    subst e
    have hlo := os.lo
    have on : Only gi wr (wr.setCell ⟨gi, j, none⟩ (.int .i64 z)) := (Only.refl gi wr).put j _
    have o2 := h.ow.tail hi (l := (L.getD i d0).1.backs.set j z) (by simp) hn hv (os.put j hj z) on
    have hne : ¬ X = gi := fun he => by
      obtain ⟨cj, hcj, _⟩ := os.row
      have hx := h.x
      rw [he, hcj] at hx
      simp at hx
    refine ⟨_, h.put hlo hne o2 (h.few.set (by simpa using h.few i hi)) (by simp), by simp, fun k => ?_⟩
    by_cases hk : k < L.length
    · rw [getD_set hk]
      by_cases hik : i = k
      · subst hik; rw [if_pos rfl]; simp
      · rw [if_neg hik]; simp
    · have h1 : (L.set i (⟨(L.getD i d0).1.id, (L.getD i d0).1.succ, (L.getD i d0).1.point, (L.getD i d0).1.backs.set j z⟩, (L.getD i d0).2)).getD k d0 = d0 := by
        rw [List.getD_eq_getElem?_getD, List.getElem?_eq_none (by simp; omega)]; rfl
      have h2 : L.getD k d0 = d0 := by rw [List.getD_eq_getElem?_getD, List.getElem?_eq_none (by omega)]; rfl
      rw [h1, h2]; exact ⟨rfl, rfl⟩
theorem PSt.xc (h : PSt w wr g N a cap zs b d Q X G c B0 bm om ms L) : wr.cell? ⟨X, 0, none⟩ = some (.int .i64 b) ∧ wr.cell? ⟨X, 1, none⟩ = some (.int .i64 d) ∧ wr.cell? ⟨X, 2, none⟩ = some (.slice (some ⟨G, 0, none⟩) L.length c) :=
  ⟨(cell_of_row wr _ _ _ _ _ h.x).trans rfl, (cell_of_row wr _ _ _ _ _ h.x).trans rfl, (cell_of_row wr _ _ _ _ _ h.x).trans rfl⟩
theorem PSt.qc (h : PSt w wr g N a cap zs b d Q X G c B0 bm om ms L) : wr.cell? ⟨Q, 0, none⟩ = some (.int .i64 b) ∧ wr.cell? ⟨Q, 1, none⟩ = some (.int .i64 d) :=
  ⟨(cell_of_row wr _ _ _ _ _ h.s).trans rfl, (cell_of_row wr _ _ _ _ _ h.s).trans rfl⟩
theorem PSt.fz (h : PSt w wr g N a cap zs b d Q X G c B0 bm om ms L) (j : Nat) : wr.frozen? ⟨G, j, none⟩ = false := by
  obtain ⟨cur, hc⟩ := h.ow.blk
  exact frozen_of_row wr _ _ _ _ hc
theorem PSt.rc (h : PSt w wr g N a cap zs b d Q X G c B0 bm om ms L) : wr.cell? ⟨w.heap.size, 0, none⟩ = some (.int .i64 0) ∧ wr.cell? ⟨w.heap.size, 1, none⟩ = some (.int .i64 0) ∧ wr.cell? ⟨w.heap.size, 2, none⟩ = some (.slice none 0 0) ∧
    wr.frozen? ⟨w.heap.size, 0, none⟩ = false ∧ wr.frozen? ⟨w.heap.size, 1, none⟩ = false ∧ wr.frozen? ⟨w.heap.size, 2, none⟩ = false :=
  ⟨(cell_of_row wr _ _ _ _ _ h.r).trans rfl, (cell_of_row wr _ _ _ _ _ h.r).trans rfl, (cell_of_row wr _ _ _ _ _ h.r).trans rfl, frozen_of_row wr _ _ _ _ h.r, frozen_of_row wr _ _ _ _ h.r, frozen_of_row wr _ _ _ _ h.r⟩
/-- what is read at peer i, its backs too -/
theorem PSt.bk (h : PSt w wr g N a cap zs b d Q X G c B0 bm om ms L) {i : Nat} (hi : i < L.length) : ∃ ab cb, (L.getD i d0).2 = .slice ab (L.getD i d0).1.backs.length cb ∧ wr.cell? ⟨G, i * 4 + 3, none⟩ = some (.slice ab (L.getD i d0).1.backs.length cb) ∧ (∀ j, j < (L.getD i d0).1.backs.length → ∃ gb z, ab = some ⟨gb, 0, none⟩ ∧ B0 ≤ gb ∧ wr.cell? ⟨gb, j, none⟩ = some (.int .i64 z) ∧ wr.frozen? ⟨gb, j, none⟩ = false) := by
  obtain ⟨ab, cb, hv, _, _, ho⟩ := h.ow.val i hi
  refine ⟨ab, cb, hv, by rw [← hv]; exact (h.ow.cel i hi).c3, fun j hj => ?_⟩
  rcases ho with ho | ⟨gb, ha, _, os⟩
  · rw [ho] at hj; simp at hj
  · obtain ⟨k0, k1⟩ := os.at j hj
    exact ⟨gb, _, ha, os.lo, k0, k1⟩
end
end Go.Proofs.Ytgmdbihdnacpjaa
