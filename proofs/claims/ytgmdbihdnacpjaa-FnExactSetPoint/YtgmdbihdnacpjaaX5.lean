/- The program's copies: of a list, of peers. -/
import Derived.Test.YtgmdbihdnacpjaaX2
import Derived.Laws.CopyOwn
import Derived.Deep.Slices
namespace Go.Proofs.Ytgmdbihdnacpjaa
open Go.RowKit Go.Deep
set_option linter.unusedVariables false
theorem size_int1 : (Try.prog.info? 3).map (·.size) = some 1 := by kernel_rfl
theorem size_peer4 : (Try.prog.info? 37).map (·.size) = some 4 := by kernel_rfl
theorem ints_one1 (l : List Int) : ∀ v ∈ l.map (Value.int .i64), v.oneCell' = true := by
  intro v hv
  simp at hv
  obtain ⟨a, _, rfl⟩ := hv
  rfl
theorem splice_all1 {l m : List Int} (h : l.length = m.length) : splice (l.map (Value.int .i64)) 0 (m.map (Value.int .i64)) = m.map (Value.int .i64) := by
  simp [splice, h]
theorem row_src1 {w : World} {a : Option Addr} {zs : List Int} (h : RowAt w a zs) (hz : 0 < (zs.map (Value.int .i64)).length) (o : Obj) : ∃ ad, a = some ad ∧ ∀ j v, (zs.map (Value.int .i64))[j]? = some v → (w.alloc o).cell? (ad.add j) = some v := by
  rw [List.length_map] at hz
  obtain ⟨bk, off, rfl⟩ := rowAt_form h hz
  obtain ⟨hb, hc⟩ := rowAt_cell (h.alloc o) hz
  refine ⟨_, rfl, fun j v hv => ?_⟩
  rw [add_none']
  have hj : j < zs.length := by
    have := (List.getElem?_eq_some_iff.1 hv).1
    simpa using this
  rw [hc j hj]
  simp [List.getElem?_eq_getElem hj] at hv
  rw [← hv]
  simp [List.getD_eq_getElem?_getD, hj]
set_option maxHeartbeats 800000 in
theorem copyList_any (a : Option Addr) (cap : Nat) (zs : List Int) (w : World) (hm : zs.length ≤ 1048576) (hr : RowAt w a zs) :
    Calls Try.prog 49 #[.slice a zs.length cap] w fun e w' => e = .returned (.slice (some ⟨w.heap.size, 0, none⟩) zs.length zs.length) ∧ OwnZ w w' w.heap.size zs := by
  have hmk := make_ints zs.length hm
  have HS : Hid (0 < (zs.map (Value.int .i64)).length → (some (⟨w.heap.size, 0, none⟩ : Addr)) = some ⟨w.heap.size, 0, none⟩ ∧ ∃ ad, a = some ad ∧ ∀ j v, (zs.map (Value.int .i64))[j]? = some v → (w.alloc (.cells (zv (List.replicate zs.length 0)) 3)).cell? (ad.add j) = some v) := fun hz => ⟨rfl, row_src1 hr hz _⟩
  have HL : Hid ((zs.map (Value.int .i64)).length = Nat.min zs.length zs.length) := by show _ = min _ _; simp
  have HF : Hid (0 + (zs.map (Value.int .i64)).length ≤ ((List.replicate zs.length 0).map (Value.int .i64)).length) := by unfold Hid; simp
  clear hr
  go_enter Try.func49, Try.ntmps49
  go_wp2_with (refine wpList_copy_splice rfl (.tmp 7) (.tmp 8) 29 29 rfl 3 Try.underlying29 size_int1 _ _ _ _ _ _ rfl rfl w.heap.size 0 ((List.replicate zs.length 0).map (Value.int .i64)) 3 (heap_alloc_new _ _) (zs.map (Value.int .i64)) HL.out HS.out HF.out (ints_one1 zs) w.heap.size w (belA _ _) (Nat.le_refl _) ?_; intro w1 hw1 hb1)
  go_ret
  refine ⟨rfl, hb1, Nat.le_refl _, ?_⟩
  have := hw1.out
  rw [splice_all1 (by simp)] at this
  exact this

/-- a copy of elements of several cells into a row of one's own -/
theorem run_copy_many {P : Program} (w : World) (dT sT ty elem : TypeId) (g o dLen dCap : Nat) (a : Addr) (sLen sCap : Nat) (cur : Array Value) (t : TypeId) (cs : List Value) (z n : Nat)
    (hu : P.underlying dT = some (.slice elem)) (hs : (P.info? elem).map (·.size) = some z)
    (hg : w.heap[g]? = some (.cells cur t (0, 0))) (hn : Nat.min sLen dLen = n) (hc : cs.length = n * z)
    (hsrc : ∀ j v, cs[j]? = some v → w.cell? (a.add j) = some v) (hfit : o + cs.length ≤ cur.size) (h1 : ∀ v ∈ cs, v.oneCell' = true) :
    (Builtin.copy_ #[dT, sT] ty #[.slice (some ⟨g, o, none⟩) dLen dCap, .slice (some a) sLen sCap]).run P w =
      .ok (goInt n) (w.setRow g (cur.toList.take o ++ cs ++ cur.toList.drop (o + cs.length)).toArray) := by
  have hl := run_loadCells_list (P := P) w a cs hsrc
  have hst := run_storeCells_at P g o t cs 0 cur w hg (by simpa using hfit) h1
  rw [hc] at hl
  cases hq : P.info? elem with
  | none => simp [hq] at hs
  | some i =>
    have hi : i.size = z := by simpa [hq] using hs
    simp [Builtin.copy_, run_underlying hu, Builtin.lenOf, Builtin.firstCells, sizeOf, typeInfo, hq, hi, hn, hl, hst]
theorem wpList_copy_many {P : Program} {w : World} {ops : Array Oper} {rest : List Oper} {o : Oper} {a : Act} {Q : Exit → Act → World → Prop} (hgd : o.guard = none) (d s : Operand) (dT sT : TypeId)
    (ho : o.op = .call { callee := .builtin .copy, args := #[d, s], argTypes := #[dT, sT] }) (elem : TypeId) (z n : Nat) (hu : P.underlying dT = some (.slice elem)) (hsz : (P.info? elem).map (·.size) = some z)
    (g off dLen dCap : Nat) (ad : Addr) (sLen sCap : Nat) (hd : a.eval d = .slice (some ⟨g, off, none⟩) dLen dCap) (hs : a.eval s = .slice (some ad) sLen sCap)
    (cur : Array Value) (t : TypeId) (hg : w.heap[g]? = some (.cells cur t (0, 0))) (cs : List Value) (hn : Nat.min sLen dLen = n) (hc : cs.length = n * z)
    (hsrc : ∀ j v, cs[j]? = some v → w.cell? (ad.add j) = some v) (hfit : off + cs.length ≤ cur.size) (h1 : ∀ v ∈ cs, v.oneCell' = true) (B : Nat) (w0 : World) (hb : Below B w0 w) (hBg : B ≤ g)
    (h : ∀ w', Hid (w'.heap[g]? = some (.cells (cur.toList.take off ++ cs ++ cur.toList.drop (off + cs.length)).toArray t (0, 0))) → Hid (Below B w0 w') → Hid (w'.heap.size = w.heap.size ∧ ∀ k, ¬ k = g → w'.heap[k]? = w.heap[k]?) → wpList P ops Q rest (a.put o.dst (goInt n)) w') : wpList P ops Q (o :: rest) a w := by
  refine wpList_plain hgd fun K hK => ?_
  have hrun := run_copy_many (P := P) w dT sT o.type elem g off dLen dCap ad sLen sCap cur t cs z n hu hsz hg hn hc hsrc hfit h1
  unfold Oper.wp
  simp [execOp, ho, resolve, invoke, builtin, hd, hs, hrun, Result.andThen]
  refine hK _ _ ?_
  have := h _ (setRow_heap w g cur _ t _ hg) (below_setRow hb hBg _) ⟨by simp, fun k hk => setRow_other w g k _ hk⟩
  simpa using this
/-- the cells of peers that came in -/
theorem peers_src {w : World} {bk off : Nat} {ps : List Pr} (h : PeersAt w (some ⟨bk, off, none⟩) ps) (hz : 0 < ps.length) :
    ∃ L0 : List (Pr × Value), L0.map (·.1) = ps ∧ L0.length = ps.length ∧ (∀ j v, (flatP L0)[j]? = some v → w.cell? ⟨bk, off + j, none⟩ = some v) ∧ (∀ v ∈ flatP L0, v.oneCell' = true) ∧
      ∀ i, i < ps.length → (L0.getD i d0).1 = ps.getD i pr0 ∧ ∃ ab cb, (L0.getD i d0).2 = .slice ab (ps.getD i pr0).backs.length cb ∧ RowAt w ab (ps.getD i pr0).backs := by
  obtain ⟨hb, hc⟩ := peersAt_cell h hz
  have key : ∀ i, i < ps.length → ∃ v : Value, w.cell? ⟨bk, off + i * 4 + 3, none⟩ = some v ∧ ∃ ab cb, v = .slice ab (ps.getD i pr0).backs.length cb ∧ RowAt w ab (ps.getD i pr0).backs := fun i hi => by
    obtain ⟨_, _, _, ab, cb, c3, hr, _, _⟩ := hc i hi
    exact ⟨_, c3, ab, cb, rfl, hr⟩
  obtain ⟨f, hf⟩ := @choose_lt Value ⟨.bool false⟩ _ _ key
  have hL : ∀ i, i < ps.length → ((List.range ps.length).map (fun i => (ps.getD i pr0, f i))).getD i d0 = (ps.getD i pr0, f i) := fun i hi => by simp [List.getD_eq_getElem?_getD, hi]
  refine ⟨(List.range ps.length).map (fun i => (ps.getD i pr0, f i)), ?_, by simp, ?_, ?_, ?_⟩
  · refine List.ext_getElem (by simp) (fun i h1 h2 => ?_)
    simp [List.getD_eq_getElem?_getD, h2]
  · intro j v hj
    have hjl : j < ((List.range ps.length).map (fun i => (ps.getD i pr0, f i))).length * 4 := by
      have := (List.getElem?_eq_some_iff.1 hj).1
      rwa [flatP_len] at this
    have hi : j / 4 < ((List.range ps.length).map (fun i => (ps.getD i pr0, f i))).length := by omega
    obtain ⟨g0, g1, g2, g3⟩ := flatP_get _ (j / 4) hi
    have hi' : j / 4 < ps.length := by simpa using hi
    rw [hL _ hi'] at g0 g1 g2 g3
    obtain ⟨c0, c1, c2, _⟩ := hc (j / 4) hi'
    have c3 := (hf (j / 4) hi').1
    have hm : j % 4 = 0 ∨ j % 4 = 1 ∨ j % 4 = 2 ∨ j % 4 = 3 := by omega
    rcases hm with hm | hm | hm | hm
    · have e : j = j / 4 * 4 := by omega
      rw [e] at hj ⊢
      rw [g0] at hj
      rw [← hj]; exact c0
    · have e : j = j / 4 * 4 + 1 := by omega
      rw [e] at hj ⊢
      rw [g1] at hj
      rw [← hj, ← Nat.add_assoc]; exact c1
    · have e : j = j / 4 * 4 + 2 := by omega
      rw [e] at hj ⊢
      rw [g2] at hj
      rw [← hj, ← Nat.add_assoc]; exact c2
    · have e : j = j / 4 * 4 + 3 := by omega
      rw [e] at hj ⊢
      rw [g3] at hj
      rw [← hj, ← Nat.add_assoc]; exact c3
  · intro v hv
    have one : ∀ L : List (Pr × Value), (∀ e ∈ L, e.2.oneCell' = true) → ∀ v ∈ flatP L, v.oneCell' = true := fun L => by
      induction L with
      | nil => intro _ v hv; simp [flatP] at hv
      | cons e L ih =>
        intro h v hv
        simp only [flatP, List.mem_cons] at hv
        rcases hv with rfl | rfl | rfl | rfl | hv
        · rfl
        · rfl
        · rfl
        · exact h _ (by simp)
        · exact ih (fun e he => h e (by simp [he])) v hv
    refine one _ (fun e he => ?_) v hv
    simp only [List.mem_map, List.mem_range] at he
    obtain ⟨i, hi, rfl⟩ := he
    obtain ⟨_, ab, cb, hv, _⟩ := hf i hi
    show (f i).oneCell' = true
    rw [hv]; rfl
  · intro i hi
    rw [hL i hi]
    obtain ⟨_, ab, cb, hv, hr⟩ := hf i hi
    exact ⟨rfl, ab, cb, hv, hr⟩
theorem flatP_set (v : Value) : ∀ (L : List (Pr × Value)) (i : Nat), i < L.length → (flatP L).set (i * 4 + 3) v = flatP (L.set i ((L.getD i d0).1, v))
  | [], i, h => by simp at h
  | e :: L, 0, h => by simp [flatP]
  | e :: L, i + 1, h => by
    have := flatP_set v L i (by simpa using h)
    have e0 : (i + 1) * 4 + 3 = i * 4 + 3 + 4 := by omega
    rw [e0]
    simp only [flatP, List.getD_cons_succ, List.set_cons_succ, List.set]
    rw [this]
/-- peers on the way into new memory: the first k have lists of their own -/
structure CPS (w wr : World) (L0 M : List (Pr × Value)) (k : Nat) : Prop where
  bel : Below w.heap.size w wr
  r : wr.heap[w.heap.size]? = some (.cells #[.int .i64 0, .int .i64 0, .slice none 0 0] 28 (0, 0))
  row : wr.heap[w.heap.size + 1]? = some (.cells (flatP M).toArray 37 (0, 0))
  len : M.length = L0.length
  fst : ∀ i, i < L0.length → (M.getD i d0).1 = (L0.getD i d0).1
  old : ∀ i, k ≤ i → i < L0.length → M.getD i d0 = L0.getD i d0
  val : ∀ i, i < k → i < L0.length → ValOk (w.heap.size + 2) wr.heap.size wr (M.getD i d0)
  sep : ∀ i j, i < j → j < k → j < L0.length → ¬ (M.getD i d0).1.backs = [] → ¬ (M.getD j d0).1.backs = [] → ¬ (M.getD i d0).2.ownBlock = (M.getD j d0).2.ownBlock
theorem CPS.lt {w wr : World} {L0 M : List (Pr × Value)} {k : Nat} (h : CPS w wr L0 M k) : w.heap.size + 1 < wr.heap.size := (Array.getElem?_eq_some_iff.1 h.row).1
theorem CPS.cell {w wr : World} {L0 M : List (Pr × Value)} {k : Nat} (h : CPS w wr L0 M k) {i : Nat} (hi : i < L0.length) : wr.cell? ⟨w.heap.size + 1, i * 4 + 3, none⟩ = some (M.getD i d0).2 ∧ wr.frozen? ⟨w.heap.size + 1, i * 4 + 3, none⟩ = false := by
  refine ⟨(cell_of_row wr _ _ _ _ _ h.row).trans ?_, frozen_of_row wr _ _ _ _ h.row⟩
  have := (flatP_get M i (by rw [h.len]; exact hi)).2.2.2
  simpa using this
theorem CPS.step {w wr w1 : World} {L0 M : List (Pr × Value)} {k gb : Nat} {bs : List Int} (h : CPS w wr L0 M k) (hk : k < L0.length) (hb : Below wr.heap.size wr w1) (hbs : bs = (M.getD k d0).1.backs) (hm : bs.length ≤ 1048576) (os : OwnS wr.heap.size w1 gb bs) :
    CPS w (w1.setCell ⟨w.heap.size + 1, k * 4 + 3, none⟩ (.slice (some ⟨gb, 0, none⟩) bs.length bs.length)) L0 (M.set k ((M.getD k d0).1, .slice (some ⟨gb, 0, none⟩) bs.length bs.length)) (k + 1) := by
  have hlt := h.lt
  have hkM : k < M.length := by rw [h.len]; exact hk
  have hblk : ∀ q, ¬ q = w.heap.size + 1 → q < wr.heap.size → (w1.setCell ⟨w.heap.size + 1, k * 4 + 3, none⟩ (.slice (some ⟨gb, 0, none⟩) bs.length bs.length)).heap[q]? = wr.heap[q]? := fun q hq hl => (heap_setCell_other _ _ _ _ (by simpa using hq)).trans (hb.block q hl)
  have hss : (w1.setCell ⟨w.heap.size + 1, k * 4 + 3, none⟩ (.slice (some ⟨gb, 0, none⟩) bs.length bs.length)).heap.size = w1.heap.size := by simp [World.setCell]
  have hslo := os.lo
  have hslt := os.lt
  have vold : ∀ e, ValOk (w.heap.size + 2) wr.heap.size wr e → ValOk (w.heap.size + 2) w1.heap.size (w1.setCell ⟨w.heap.size + 1, k * 4 + 3, none⟩ (.slice (some ⟨gb, 0, none⟩) bs.length bs.length)) e := fun e he =>
    (he.blocks (fun q h1 h2 h3 => hblk q (by omega) h3)).wide hb.size
  refine ⟨(belt h.bel hb).setCell (p := ⟨w.heap.size + 1, k * 4 + 3, none⟩) (by simp) _, (hblk _ (by omega) (by omega)).trans h.r, ?_, by rw [List.length_set]; exact h.len, fun i hi => ?_, fun i h1 h2 => ?_, fun i h1 h2 => ?_, fun i j hij h1 h2 => ?_⟩
  · rw [heap_setCell_same _ _ _ _ _ _ ((hb.block _ hlt).trans h.row)]
    rw [← flatP_set _ M k hkM]
    simp
  · rw [getD_set (by rw [h.len]; exact hi)]
    by_cases he : k = i
    · subst he; rw [if_pos rfl]; exact h.fst k hk
    · rw [if_neg he]; exact h.fst i hi
  · rw [getD_set (by rw [h.len]; exact h2), if_neg (by omega)]
    exact h.old i (by omega) h2
  · rw [hss, getD_set (by rw [h.len]; exact h2)]
    by_cases he : k = i
    · subst he
      rw [if_pos rfl]
      subst hbs
      exact ⟨_, _, rfl, ⟨Nat.le_refl _, fun h => by cases h⟩, hm, .inr ⟨gb, rfl, hslt, (os.mono (by omega)).of_block (heap_setCell_other _ _ _ _ (by simp; omega))⟩⟩
    · rw [if_neg he]
      exact vold _ (h.val i (by omega) h2)
  · rw [getD_set (by rw [h.len]; omega), getD_set (by rw [h.len]; exact h2), if_neg (by omega)]
    by_cases he : k = j
    · subst he
      rw [if_pos rfl]
      intro hn1 _ hq
      obtain ⟨ab, cb, hv, _, _, ho⟩ := h.val i hij (by omega)
      rcases ho with ho | ⟨gi, ha, hl, _⟩
      · exact hn1 ho
      · rw [hv, ha] at hq
        simp [Value.ownBlock] at hq
        omega
    · rw [if_neg he]
      exact h.sep i j hij (by omega) h2
theorem CPS.done {w wr : World} {L0 M : List (Pr × Value)} (h : CPS w wr L0 M L0.length) : OwnP (w.heap.size + 1) wr.heap.size wr (w.heap.size + 1) M := by
  have get : ∀ j v, (flatP M)[j]? = some v → wr.cell? ⟨w.heap.size + 1, j, none⟩ = some v := fun j v hj => by
    rw [cell_of_row wr _ _ _ _ _ h.row]; simpa using hj
  refine ⟨Nat.le_refl _, h.lt, ⟨_, h.row⟩, fun i hi => ?_, fun i hi => ?_, fun i j hij hj => h.sep i j hij (by rw [← h.len]; exact hj) (by rw [← h.len]; exact hj)⟩
  · obtain ⟨f0, f1, f2, f3⟩ := flatP_get M i hi
    exact ⟨get _ _ f0, get _ _ f1, get _ _ f2, get _ _ f3⟩
  · obtain ⟨ab, cb, hv, hc, hm, ho⟩ := h.val i (by rw [← h.len]; exact hi) (by rw [← h.len]; exact hi)
    refine ⟨ab, cb, hv, hc, hm, ?_⟩
    rcases ho with ho | ⟨gb, ha, hl, os⟩
    · exact .inl ho
    · exact .inr ⟨gb, ha, hl, os.mono (by omega)⟩
end Go.Proofs.Ytgmdbihdnacpjaa
