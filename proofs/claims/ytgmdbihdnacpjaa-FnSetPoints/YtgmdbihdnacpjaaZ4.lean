/- The program's copies: of a list, of peers. The program's copy of peers; the mathematics of a pointer that is set. The program's SetPoint. The specification's SetPoint. SetPoint's answers in one form. A number put to its place in a list that the call owns, also in none. The cursor that draws from bytes: each number that is drawn lies in its bounds, and nothing but the cursor turns. What the cursor draws: a space, and a number of it, mostly. -/
import Derived.Laws.CopyOwn
import Derived.Deep.Slices
import Derived.Laws.Rows
import Derived.Laws.Tables
import Derived.OpenShut
import Derived.WalkSmall
import Derived.Laws.Bits64b
import Derived.Test.YtgmdbihdnacpjaaZ0
import Derived.Test.YtgmdbihdnacpjaaZ1
import Derived.Test.YtgmdbihdnacpjaaZ2
import Derived.Test.YtgmdbihdnacpjaaZ3
namespace Go.Proofs.Ytgmdbihdnacpjaa
open Go.RowKit Go.Deep
set_option linter.unusedVariables false
theorem size_int1 : (Try.prog.info? 3).map (·.size) = some 1 := by kernel_rfl
theorem size_peer4 : (Try.prog.info? 37).map (·.size) = some 4 := by kernel_rfl
theorem ints_one1 (l : List Int) : ∀ v ∈ l.map (Value.int .i64), v.oneCell' = true := by
  intro v hv
  simp at hv
  obtain ⟨a, _, rfl⟩ := hv
  rfl
theorem splice_all1 {l m : List Int} (h : l.length = m.length) : splice (l.map (Value.int .i64)) 0 (m.map (Value.int .i64)) = m.map (Value.int .i64) := by
  simp [splice, h]
theorem row_src1 {w : World} {a : Option Addr} {zs : List Int} (h : RowAt w a zs) (hz : 0 < (zs.map (Value.int .i64)).length) (o : Obj) : ∃ ad, a = some ad ∧ ∀ j v, (zs.map (Value.int .i64))[j]? = some v → (w.alloc o).cell? (ad.add j) = some v := by
  rw [List.length_map] at hz
  obtain ⟨bk, off, rfl⟩ := rowAt_form h hz
  obtain ⟨hb, hc⟩ := rowAt_cell (h.alloc o) hz
  refine ⟨_, rfl, fun j v hv => ?_⟩
  rw [add_none']
  have hj : j < zs.length := by
    have := (List.getElem?_eq_some_iff.1 hv).1
    simpa using this
  rw [hc j hj]
  simp [List.getElem?_eq_getElem hj] at hv
  rw [← hv]
  simp [List.getD_eq_getElem?_getD, hj]
set_option maxHeartbeats 800000 in
theorem copyList_any (a : Option Addr) (cap : Nat) (zs : List Int) (w : World) (hm : zs.length ≤ 1048576) (hr : RowAt w a zs) :
    Calls Try.prog 49 #[.slice a zs.length cap] w fun e w' => e = .returned (.slice (some ⟨w.heap.size, 0, none⟩) zs.length zs.length) ∧ OwnZ w w' w.heap.size zs := by
  have hmk := make_ints zs.length hm
  have HS : Hid (0 < (zs.map (Value.int .i64)).length → (some (⟨w.heap.size, 0, none⟩ : Addr)) = some ⟨w.heap.size, 0, none⟩ ∧ ∃ ad, a = some ad ∧ ∀ j v, (zs.map (Value.int .i64))[j]? = some v → (w.alloc (.cells (zv (List.replicate zs.length 0)) 3)).cell? (ad.add j) = some v) := fun hz => ⟨rfl, row_src1 hr hz _⟩
  have HL : Hid ((zs.map (Value.int .i64)).length = Nat.min zs.length zs.length) := by show _ = min _ _; simp
  have HF : Hid (0 + (zs.map (Value.int .i64)).length ≤ ((List.replicate zs.length 0).map (Value.int .i64)).length) := by unfold Hid; simp
  clear hr
  go_enter Try.func49, Try.ntmps49
  go_wp2_with (refine wpList_copy_splice rfl (.tmp 7) (.tmp 8) 29 29 rfl 3 Try.underlying29 size_int1 _ _ _ _ _ _ rfl rfl w.heap.size 0 ((List.replicate zs.length 0).map (Value.int .i64)) 3 (heap_alloc_new _ _) (zs.map (Value.int .i64)) HL.out HS.out HF.out (ints_one1 zs) w.heap.size w (belA _ _) (Nat.le_refl _) ?_; intro w1 hw1 hb1)
  go_ret
  refine ⟨rfl, hb1, Nat.le_refl _, ?_⟩
  have := hw1.out
  rw [splice_all1 (by simp)] at this
  exact this

/-- a copy of elements of several cells into a row of one's own -/
theorem run_copy_many {P : Program} (w : World) (dT sT ty elem : TypeId) (g o dLen dCap : Nat) (a : Addr) (sLen sCap : Nat) (cur : Array Value) (t : TypeId) (cs : List Value) (z n : Nat)
    (hu : P.underlying dT = some (.slice elem)) (hs : (P.info? elem).map (·.size) = some z)
    (hg : w.heap[g]? = some (.cells cur t (0, 0))) (hn : Nat.min sLen dLen = n) (hc : cs.length = n * z)
    (hsrc : ∀ j v, cs[j]? = some v → w.cell? (a.add j) = some v) (hfit : o + cs.length ≤ cur.size) (h1 : ∀ v ∈ cs, v.oneCell' = true) :
    (Builtin.copy_ #[dT, sT] ty #[.slice (some ⟨g, o, none⟩) dLen dCap, .slice (some a) sLen sCap]).run P w =
      .ok (goInt n) (w.setRow g (cur.toList.take o ++ cs ++ cur.toList.drop (o + cs.length)).toArray) := by
  have hl := run_loadCells_list (P := P) w a cs hsrc
  have hst := run_storeCells_at P g o t cs 0 cur w hg (by simpa using hfit) h1
  rw [hc] at hl
  cases hq : P.info? elem with
  | none => simp [hq] at hs
  | some i =>
    have hi : i.size = z := by simpa [hq] using hs
    simp [Builtin.copy_, run_underlying hu, Builtin.lenOf, Builtin.firstCells, sizeOf, typeInfo, hq, hi, hn, hl, hst]
theorem wpList_copy_many {P : Program} {w : World} {ops : Array Oper} {rest : List Oper} {o : Oper} {a : Act} {Q : Exit → Act → World → Prop} (hgd : o.guard = none) (d s : Operand) (dT sT : TypeId)
    (ho : o.op = .call { callee := .builtin .copy, args := #[d, s], argTypes := #[dT, sT] }) (elem : TypeId) (z n : Nat) (hu : P.underlying dT = some (.slice elem)) (hsz : (P.info? elem).map (·.size) = some z)
    (g off dLen dCap : Nat) (ad : Addr) (sLen sCap : Nat) (hd : a.eval d = .slice (some ⟨g, off, none⟩) dLen dCap) (hs : a.eval s = .slice (some ad) sLen sCap)
    (cur : Array Value) (t : TypeId) (hg : w.heap[g]? = some (.cells cur t (0, 0))) (cs : List Value) (hn : Nat.min sLen dLen = n) (hc : cs.length = n * z)
    (hsrc : ∀ j v, cs[j]? = some v → w.cell? (ad.add j) = some v) (hfit : off + cs.length ≤ cur.size) (h1 : ∀ v ∈ cs, v.oneCell' = true) (B : Nat) (w0 : World) (hb : Below B w0 w) (hBg : B ≤ g)
    (h : ∀ w', Hid (w'.heap[g]? = some (.cells (cur.toList.take off ++ cs ++ cur.toList.drop (off + cs.length)).toArray t (0, 0))) → Hid (Below B w0 w') → Hid (w'.heap.size = w.heap.size ∧ ∀ k, ¬ k = g → w'.heap[k]? = w.heap[k]?) → wpList P ops Q rest (a.put o.dst (goInt n)) w') : wpList P ops Q (o :: rest) a w := by
  refine wpList_plain hgd fun K hK => ?_
  have hrun := run_copy_many (P := P) w dT sT o.type elem g off dLen dCap ad sLen sCap cur t cs z n hu hsz hg hn hc hsrc hfit h1
  unfold Oper.wp
  simp [execOp, ho, resolve, invoke, builtin, hd, hs, hrun, Result.andThen]
  refine hK _ _ ?_
  have := h _ (setRow_heap w g cur _ t _ hg) (below_setRow hb hBg _) ⟨by simp, fun k hk => setRow_other w g k _ hk⟩
  simpa using this
/-- the cells of peers that came in -/
theorem peers_src {w : World} {bk off : Nat} {ps : List Pr} (h : PeersAt w (some ⟨bk, off, none⟩) ps) (hz : 0 < ps.length) :
    ∃ L0 : List (Pr × Value), L0.map (·.1) = ps ∧ L0.length = ps.length ∧ (∀ j v, (flatP L0)[j]? = some v → w.cell? ⟨bk, off + j, none⟩ = some v) ∧ (∀ v ∈ flatP L0, v.oneCell' = true) ∧
      ∀ i, i < ps.length → (L0.getD i d0).1 = ps.getD i pr0 ∧ ∃ ab cb, (L0.getD i d0).2 = .slice ab (ps.getD i pr0).backs.length cb ∧ RowAt w ab (ps.getD i pr0).backs := by
  obtain ⟨hb, hc⟩ := peersAt_cell h hz
  have key : ∀ i, i < ps.length → ∃ v : Value, w.cell? ⟨bk, off + i * 4 + 3, none⟩ = some v ∧ ∃ ab cb, v = .slice ab (ps.getD i pr0).backs.length cb ∧ RowAt w ab (ps.getD i pr0).backs := fun i hi => by
    obtain ⟨_, _, _, ab, cb, c3, hr, _, _⟩ := hc i hi
    exact ⟨_, c3, ab, cb, rfl, hr⟩
  obtain ⟨f, hf⟩ := @choose_lt Value ⟨.bool false⟩ _ _ key
  have hL : ∀ i, i < ps.length → ((List.range ps.length).map (fun i => (ps.getD i pr0, f i))).getD i d0 = (ps.getD i pr0, f i) := fun i hi => by simp [List.getD_eq_getElem?_getD, hi]
  refine ⟨(List.range ps.length).map (fun i => (ps.getD i pr0, f i)), ?_, by simp, ?_, ?_, ?_⟩
  · refine List.ext_getElem (by simp) (fun i h1 h2 => ?_)
    simp [List.getD_eq_getElem?_getD, h2]
  · intro j v hj
    have hjl : j < ((List.range ps.length).map (fun i => (ps.getD i pr0, f i))).length * 4 := by
      have := (List.getElem?_eq_some_iff.1 hj).1
      rwa [flatP_len] at this
    have hi : j / 4 < ((List.range ps.length).map (fun i => (ps.getD i pr0, f i))).length := by omega
    obtain ⟨g0, g1, g2, g3⟩ := flatP_get _ (j / 4) hi
    have hi' : j / 4 < ps.length := by simpa using hi
    rw [hL _ hi'] at g0 g1 g2 g3
    obtain ⟨c0, c1, c2, _⟩ := hc (j / 4) hi'
    have c3 := (hf (j / 4) hi').1
    have hm : j % 4 = 0 ∨ j % 4 = 1 ∨ j % 4 = 2 ∨ j % 4 = 3 := by omega
    rcases hm with hm | hm | hm | hm
    · have e : j = j / 4 * 4 := by omega
      rw [e] at hj ⊢
      rw [g0] at hj
      rw [← hj]; exact c0
    · have e : j = j / 4 * 4 + 1 := by omega
      rw [e] at hj ⊢
      rw [g1] at hj
      rw [← hj, ← Nat.add_assoc]; exact c1
    · have e : j = j / 4 * 4 + 2 := by omega
      rw [e] at hj ⊢
      rw [g2] at hj
      rw [← hj, ← Nat.add_assoc]; exact c2
    · have e : j = j / 4 * 4 + 3 := by omega
      rw [e] at hj ⊢
      rw [g3] at hj
      rw [← hj, ← Nat.add_assoc]; exact c3
  · intro v hv
    have one : ∀ L : List (Pr × Value), (∀ e ∈ L, e.2.oneCell' = true) → ∀ v ∈ flatP L, v.oneCell' = true := fun L => by
      induction L with
      | nil => intro _ v hv; simp [flatP] at hv
      | cons e L ih =>
        intro h v hv
        simp only [flatP, List.mem_cons] at hv
        rcases hv with rfl | rfl | rfl | rfl | hv
        · rfl
        · rfl
        · rfl
        · exact h _ (by simp)
        · exact ih (fun e he => h e (by simp [he])) v hv
    refine one _ (fun e he => ?_) v hv
    simp only [List.mem_map, List.mem_range] at he
    obtain ⟨i, hi, rfl⟩ := he
    obtain ⟨_, ab, cb, hv, _⟩ := hf i hi
    show (f i).oneCell' = true
    rw [hv]; rfl
  · intro i hi
    rw [hL i hi]
    obtain ⟨_, ab, cb, hv, hr⟩ := hf i hi
    exact ⟨rfl, ab, cb, hv, hr⟩
theorem flatP_set (v : Value) : ∀ (L : List (Pr × Value)) (i : Nat), i < L.length → (flatP L).set (i * 4 + 3) v = flatP (L.set i ((L.getD i d0).1, v))
  | [], i, h => by simp at h
  | e :: L, 0, h => by simp [flatP]
  | e :: L, i + 1, h => by
    have := flatP_set v L i (by simpa using h)
    have e0 : (i + 1) * 4 + 3 = i * 4 + 3 + 4 := by omega
    rw [e0]
    simp only [flatP, List.getD_cons_succ, List.set_cons_succ, List.set]
    rw [this]
/-- peers on the way into new memory: the first k have lists of their own -/
structure CPS (w wr : World) (L0 M : List (Pr × Value)) (k : Nat) : Prop where
  bel : Below w.heap.size w wr
  r : wr.heap[w.heap.size]? = some (.cells #[.int .i64 0, .int .i64 0, .slice none 0 0] 28 (0, 0))
  row : wr.heap[w.heap.size + 1]? = some (.cells (flatP M).toArray 37 (0, 0))
  len : M.length = L0.length
  fst : ∀ i, i < L0.length → (M.getD i d0).1 = (L0.getD i d0).1
  old : ∀ i, k ≤ i → i < L0.length → M.getD i d0 = L0.getD i d0
  val : ∀ i, i < k → i < L0.length → ValOk (w.heap.size + 2) wr.heap.size wr (M.getD i d0)
  sep : ∀ i j, i < j → j < k → j < L0.length → ¬ (M.getD i d0).1.backs = [] → ¬ (M.getD j d0).1.backs = [] → ¬ (M.getD i d0).2.ownBlock = (M.getD j d0).2.ownBlock
theorem CPS.lt {w wr : World} {L0 M : List (Pr × Value)} {k : Nat} (h : CPS w wr L0 M k) : w.heap.size + 1 < wr.heap.size := (Array.getElem?_eq_some_iff.1 h.row).1
theorem CPS.cell {w wr : World} {L0 M : List (Pr × Value)} {k : Nat} (h : CPS w wr L0 M k) {i : Nat} (hi : i < L0.length) : wr.cell? ⟨w.heap.size + 1, i * 4 + 3, none⟩ = some (M.getD i d0).2 ∧ wr.frozen? ⟨w.heap.size + 1, i * 4 + 3, none⟩ = false := by
  refine ⟨(cell_of_row wr _ _ _ _ _ h.row).trans ?_, frozen_of_row wr _ _ _ _ h.row⟩
  have := (flatP_get M i (by rw [h.len]; exact hi)).2.2.2
  simpa using this
theorem CPS.step {w wr w1 : World} {L0 M : List (Pr × Value)} {k gb : Nat} {bs : List Int} (h : CPS w wr L0 M k) (hk : k < L0.length) (hb : Below wr.heap.size wr w1) (hbs : bs = (M.getD k d0).1.backs) (hm : bs.length ≤ 1048576) (os : OwnS wr.heap.size w1 gb bs) :
    CPS w (w1.setCell ⟨w.heap.size + 1, k * 4 + 3, none⟩ (.slice (some ⟨gb, 0, none⟩) bs.length bs.length)) L0 (M.set k ((M.getD k d0).1, .slice (some ⟨gb, 0, none⟩) bs.length bs.length)) (k + 1) := by
  have hlt := h.lt
  have hkM : k < M.length := by rw [h.len]; exact hk
  have hblk : ∀ q, ¬ q = w.heap.size + 1 → q < wr.heap.size → (w1.setCell ⟨w.heap.size + 1, k * 4 + 3, none⟩ (.slice (some ⟨gb, 0, none⟩) bs.length bs.length)).heap[q]? = wr.heap[q]? := fun q hq hl => (heap_setCell_other _ _ _ _ (by simpa using hq)).trans (hb.block q hl)
  have hss : (w1.setCell ⟨w.heap.size + 1, k * 4 + 3, none⟩ (.slice (some ⟨gb, 0, none⟩) bs.length bs.length)).heap.size = w1.heap.size := by simp [World.setCell]
  have hslo := os.lo
  have hslt := os.lt
  have vold : ∀ e, ValOk (w.heap.size + 2) wr.heap.size wr e → ValOk (w.heap.size + 2) w1.heap.size (w1.setCell ⟨w.heap.size + 1, k * 4 + 3, none⟩ (.slice (some ⟨gb, 0, none⟩) bs.length bs.length)) e := fun e he =>
    (he.blocks (fun q h1 h2 h3 => hblk q (by omega) h3)).wide hb.size
  refine ⟨(belt h.bel hb).setCell (p := ⟨w.heap.size + 1, k * 4 + 3, none⟩) (by simp) _, (hblk _ (by omega) (by omega)).trans h.r, ?_, by rw [List.length_set]; exact h.len, fun i hi => ?_, fun i h1 h2 => ?_, fun i h1 h2 => ?_, fun i j hij h1 h2 => ?_⟩
  · rw [heap_setCell_same _ _ _ _ _ _ ((hb.block _ hlt).trans h.row)]
    rw [← flatP_set _ M k hkM]
    simp
  · rw [getD_set (by rw [h.len]; exact hi)]
    by_cases he : k = i
    · subst he; rw [if_pos rfl]; exact h.fst k hk
    · rw [if_neg he]; exact h.fst i hi
  · rw [getD_set (by rw [h.len]; exact h2), if_neg (by omega)]
    exact h.old i (by omega) h2
  · rw [hss, getD_set (by rw [h.len]; exact h2)]
    by_cases he : k = i
    · subst he
      rw [if_pos rfl]
      subst hbs
      exact ⟨_, _, rfl, ⟨Nat.le_refl _, fun h => by cases h⟩, hm, .inr ⟨gb, rfl, hslt, (os.mono (by omega)).of_block (heap_setCell_other _ _ _ _ (by simp; omega))⟩⟩
    · rw [if_neg he]
      exact vold _ (h.val i (by omega) h2)
  · rw [getD_set (by rw [h.len]; omega), getD_set (by rw [h.len]; exact h2), if_neg (by omega)]
    by_cases he : k = j
    · subst he
      rw [if_pos rfl]
      intro hn1 _ hq
      obtain ⟨ab, cb, hv, _, _, ho⟩ := h.val i hij (by omega)
      rcases ho with ho | ⟨gi, ha, hl, _⟩
      · exact hn1 ho
      · rw [hv, ha] at hq
        simp [Value.ownBlock] at hq
        omega
    · rw [if_neg he]
      exact h.sep i j hij (by omega) h2
theorem CPS.done {w wr : World} {L0 M : List (Pr × Value)} (h : CPS w wr L0 M L0.length) : OwnP (w.heap.size + 1) wr.heap.size wr (w.heap.size + 1) M := by
  have get : ∀ j v, (flatP M)[j]? = some v → wr.cell? ⟨w.heap.size + 1, j, none⟩ = some v := fun j v hj => by
    rw [cell_of_row wr _ _ _ _ _ h.row]; simpa using hj
  refine ⟨Nat.le_refl _, h.lt, ⟨_, h.row⟩, fun i hi => ?_, fun i hi => ?_, fun i j hij hj => h.sep i j hij (by rw [← h.len]; exact hj) (by rw [← h.len]; exact hj)⟩
  · obtain ⟨f0, f1, f2, f3⟩ := flatP_get M i hi
    exact ⟨get _ _ f0, get _ _ f1, get _ _ f2, get _ _ f3⟩
  · obtain ⟨ab, cb, hv, hc, hm, ho⟩ := h.val i (by rw [← h.len]; exact hi) (by rw [← h.len]; exact hi)
    refine ⟨ab, cb, hv, hc, hm, ?_⟩
    rcases ho with ho | ⟨gb, ha, hl, os⟩
    · exact .inl ho
    · exact .inr ⟨gb, ha, hl, os.mono (by omega)⟩
end Go.Proofs.Ytgmdbihdnacpjaa
namespace Go.Proofs.Ytgmdbihdnacpjaa
open Go.RowKit Go.Deep
set_option linter.unusedVariables false
theorem made_len (n : Nat) : (madeCells #[Value.int .i64 0, .int .i64 0, .int .i64 0, .slice none 0 0] (n * 4)).size = n * 4 := by simp [size_madeCells]
set_option maxHeartbeats 3200000 in
theorem copyPeers_any (q : Nat) (b d : Int) (a : Option Addr) (cap : Nat) (ps : List Pr) (w : World) (hz : 0 < ps.length) (hm : ps.length ≤ 16) (h3 : ∀ i, i < ps.length → (ps.getD i pr0).backs.length ≤ 3) (hq : q < w.heap.size) (c0 : w.cell? ⟨q, 0, none⟩ = some (.int .i64 b)) (c1 : w.cell? ⟨q, 1, none⟩ = some (.int .i64 d)) (c2 : w.cell? ⟨q, 2, none⟩ = some (.slice a ps.length cap)) (hr : PeersAt w a ps) :
    Calls Try.prog 47 #[.pointer (some ⟨q, 0, none⟩)] w fun e w' => ∃ g L, e = .returned (.agg #[.int .i64 b, .int .i64 d, .slice (some ⟨g, 0, none⟩) ps.length ps.length]) ∧ L.map (·.1) = ps ∧ OwnP w.heap.size w'.heap.size w' g L ∧ Below w.heap.size w w' := by
  obtain ⟨bk, off, rfl⟩ := peersAt_form hr hz
  obtain ⟨L0, hL0, hl0, hsrc, hone, hval⟩ := peers_src hr hz
  have hmk := make_peers ps.length (by omega)
  have hbk := (peersAt_cell hr hz).1
  have hA1 : Below w.heap.size w (w.alloc (.cells #[.int .i64 0, .int .i64 0, .slice none 0 0] 28)) := belA _ _
  have hA2 : Below w.heap.size w ((w.alloc (.cells #[.int .i64 0, .int .i64 0, .slice none 0 0] 28)).alloc (.cells (madeCells #[.int .i64 0, .int .i64 0, .int .i64 0, .slice none 0 0] (ps.length * 4)) 37)) := belt hA1 (belA _ _)
  have k2 : (w.alloc (.cells #[.int .i64 0, .int .i64 0, .slice none 0 0] 28)).cell? ⟨q, 2, none⟩ = some (.slice (some ⟨bk, off, none⟩) ps.length cap) := (hA1.cell (p := ⟨q, 2, none⟩) hq).trans c2
  have e2 : ((w.alloc (.cells #[.int .i64 0, .int .i64 0, .slice none 0 0] 28)).alloc (.cells (madeCells #[.int .i64 0, .int .i64 0, .int .i64 0, .slice none 0 0] (ps.length * 4)) 37)).cell? ⟨q, 2, none⟩ = some (.slice (some ⟨bk, off, none⟩) ps.length cap) := (hA2.cell (p := ⟨q, 2, none⟩) hq).trans c2
  have HSRC : Hid (∀ j v, (flatP L0)[j]? = some v → ((w.alloc (.cells #[.int .i64 0, .int .i64 0, .slice none 0 0] 28)).alloc (.cells (madeCells #[.int .i64 0, .int .i64 0, .int .i64 0, .slice none 0 0] (ps.length * 4)) 37)).cell? ((⟨bk, off, none⟩ : Addr).add j) = some v) := fun j v hj => by
    rw [add_none']
    exact (hA2.cell (p := ⟨bk, off + j, none⟩) hbk).trans (hsrc j v hj)
  have HMIN : Hid (Nat.min ps.length ps.length = ps.length) := by show min _ _ = _; simp
  have HCL : Hid ((flatP L0).length = ps.length * 4) := by unfold Hid; rw [flatP_len, hl0]
  have HFIT : Hid (0 + (flatP L0).length ≤ (madeCells #[.int .i64 0, .int .i64 0, .int .i64 0, .slice none 0 0] (ps.length * 4)).size) := by unfold Hid; rw [HCL.out, made_len]; omega
  have HONE : Hid (∀ v ∈ flatP L0, v.oneCell' = true) := hone
  have HG : Hid (((w.alloc (.cells #[.int .i64 0, .int .i64 0, .slice none 0 0] 28)).alloc (.cells (madeCells #[.int .i64 0, .int .i64 0, .int .i64 0, .slice none 0 0] (ps.length * 4)) 37)).heap[w.heap.size + 1]? = some (.cells (madeCells #[.int .i64 0, .int .i64 0, .int .i64 0, .slice none 0 0] (ps.length * 4)) 37 (0, 0))) := by
    have := heap_alloc_new (w.alloc (.cells #[.int .i64 0, .int .i64 0, .slice none 0 0] 28)) (.cells (madeCells #[.int .i64 0, .int .i64 0, .int .i64 0, .slice none 0 0] (ps.length * 4)) 37)
    unfold Hid
    simpa using this
  have HR0 : Hid (((w.alloc (.cells #[.int .i64 0, .int .i64 0, .slice none 0 0] 28)).alloc (.cells (madeCells #[.int .i64 0, .int .i64 0, .int .i64 0, .slice none 0 0] (ps.length * 4)) 37)).heap[w.heap.size]? = some (.cells #[.int .i64 0, .int .i64 0, .slice none 0 0] 28 (0, 0))) := by
    unfold Hid
    rw [heap_alloc_old _ _ (by simp)]
    exact heap_alloc_new _ _
  have HB2 : Hid (Below w.heap.size w ((w.alloc (.cells #[.int .i64 0, .int .i64 0, .slice none 0 0] 28)).alloc (.cells (madeCells #[.int .i64 0, .int .i64 0, .int .i64 0, .slice none 0 0] (ps.length * 4)) 37))) := hA2
  have HVAL : Hid (∀ i, i < ps.length → (L0.getD i d0).1 = ps.getD i pr0 ∧ ∃ ab cb, (L0.getD i d0).2 = .slice ab (ps.getD i pr0).backs.length cb ∧ RowAt w ab (ps.getD i pr0).backs) := hval
  have HL0 : Hid (L0.map (·.1) = ps) := hL0
  have HLL : Hid (L0.length = ps.length) := hl0
  have H3 : Hid (∀ i, i < ps.length → (ps.getD i pr0).backs.length ≤ 3) := h3
  have C0 : Hid (w.cell? ⟨q, 0, none⟩ = some (.int .i64 b)) := c0
  have C1 : Hid (w.cell? ⟨q, 1, none⟩ = some (.int .i64 d)) := c1
  clear hr hL0 hl0 hsrc hone hval hbk hA1 hA2 h3 c0 c1 c2
  go_enter Try.func47, Try.ntmps47
  go_wp2_with (refine wpList_copy_many rfl (.tmp 12) (.tmp 16) 26 26 rfl 37 4 ps.length Try.underlying26 size_peer4 (w.heap.size + 1) 0 ps.length ps.length ⟨bk, off, none⟩ ps.length cap rfl rfl (madeCells #[.int .i64 0, .int .i64 0, .int .i64 0, .slice none 0 0] (ps.length * 4)) 37 HG.out (flatP L0) HMIN.out HCL.out HSRC.out HFIT.out HONE.out w.heap.size w HB2.out (by omega) ?_; intro w1 hrow1 hb1 hk1; have ST0 : Hid (CPS w w1 L0 L0 0) := ⟨hb1.out, (hk1.out.2 _ (by omega)).trans HR0.out, by rw [hrow1.out]; simp [HCL.out, made_len], rfl, fun _ _ => rfl, fun _ _ _ => rfl, fun i hi _ => by omega, fun i j _ hj _ => by omega⟩; clear hrow1 hb1 hk1 hmk k2 e2)
  clear HSRC HMIN HCL HFIT HONE HG HR0 HB2
  go_loopw [20] (fun vi wr => ∃ (k : Nat) (M : List (Pr × Value)), k ≤ ps.length ∧ vi = .int .i64 k ∧ Hid (CPS w wr L0 M k)) (fun vi _ => ps.length - (intOf vi).toNat)
  case atStart => exact ⟨0, L0, Nat.zero_le _, rfl, ST0⟩
  case round =>
    obtain ⟨k, M, hk, rfl, ST⟩ := hrel
    clear ST0
    by_cases hlt : k < ps.length
    · have hk0 : k < L0.length := by rw [HLL.out]; exact hlt
      obtain ⟨g3, f3⟩ := ST.out.cell hk0
      obtain ⟨hv1, ab, cb, hv2, hrow⟩ := HVAL.out k hlt
      rw [ST.out.old k (Nat.le_refl _) hk0, hv2] at g3
      have hb3 := H3.out k hlt
      have hbs : (ps.getD k pr0).backs = (M.getD k d0).1.backs := by rw [ST.out.old k (Nat.le_refl _) hk0, hv1]
      have HBS : Hid ((ps.getD k pr0).backs = (M.getD k d0).1.backs) := hbs
      have hsz := ST.out.lt
      have HRW : Hid (RowAt w ab (ps.getD k pr0).backs) := hrow
      have hge : Hid ((M.getD k d0).1 = ps.getD k pr0) := by unfold Hid; rw [ST.out.old k (Nat.le_refl _) hk0, hv1]
      clear hv1 hv2 hbs hrow
      generalize (ps.getD k pr0).backs = bs at g3 hb3 HBS HRW
      have C := copyList_any ab cb bs wr (by omega) (HRW.out.keep ST.out.bel)
      go_wp2_with fail
      refine C.mono ?_
      rintro e w2 ⟨rfl, ow⟩
      have ST2 : Hid _ := ST.out.step hk0 ow.bel HBS.out (by omega) ow.owns
      have g4 : w2.cell? ⟨w.heap.size + 1, k * 4 + 3, none⟩ = some (.slice ab bs.length cb) := (ow.bel.cell (p := ⟨w.heap.size + 1, k * 4 + 3, none⟩) hsz).trans g3
      have f4 : w2.frozen? ⟨w.heap.size + 1, k * 4 + 3, none⟩ = false := frozen_of_row w2 _ _ _ _ ((ow.bel.block _ hsz).trans ST.out.row)
      clear ow C g3 f3 ST
      go_wp2_with fail
      go_roundw
      case rel => exact ⟨k + 1, _, by omega, by go_num, ST2⟩
      case measure => simp [intOf]; omega
    · obtain rfl : k = ps.length := by omega
      have hsz := ST.out.lt
      have r0 : wr.cell? ⟨w.heap.size, 0, none⟩ = some (.int .i64 0) := (cell_of_row wr _ _ _ _ _ ST.out.r).trans rfl
      have r1 : wr.cell? ⟨w.heap.size, 1, none⟩ = some (.int .i64 0) := (cell_of_row wr _ _ _ _ _ ST.out.r).trans rfl
      have r2 : wr.cell? ⟨w.heap.size, 2, none⟩ = some (.slice none 0 0) := (cell_of_row wr _ _ _ _ _ ST.out.r).trans rfl
      have q0 : wr.frozen? ⟨w.heap.size, 0, none⟩ = false := frozen_of_row wr _ _ _ _ ST.out.r
      have q1 : wr.frozen? ⟨w.heap.size, 1, none⟩ = false := frozen_of_row wr _ _ _ _ ST.out.r
      have q2 : wr.frozen? ⟨w.heap.size, 2, none⟩ = false := frozen_of_row wr _ _ _ _ ST.out.r
      have k0 : wr.cell? ⟨q, 0, none⟩ = some (.int .i64 b) := (ST.out.bel.cell (p := ⟨q, 0, none⟩) hq).trans C0.out
      have k1 : wr.cell? ⟨q, 1, none⟩ = some (.int .i64 d) := (ST.out.bel.cell (p := ⟨q, 1, none⟩) hq).trans C1.out
      have HM : Hid (M.map (·.1) = ps) := map_getD (by rw [ST.out.len, HLL.out]) (fun j hj => by rw [ST.out.fst j (by rw [HLL.out]; exact hj)]; exact (HVAL.out j hj).1)
      have OW : Hid (OwnP w.heap.size (set3 wr w.heap.size (.int .i64 b) (.int .i64 d) (.slice (some ⟨w.heap.size + 1, 0, none⟩) ps.length ps.length)).heap.size (set3 wr w.heap.size (.int .i64 b) (.int .i64 d) (.slice (some ⟨w.heap.size + 1, 0, none⟩) ps.length ps.length)) (w.heap.size + 1) M) := by
        unfold Hid
        rw [set3_size]
        have := ST.out
        rw [← HLL.out] at this
        exact (this.done.blocks (fun k hk _ _ => set3_block (by omega))).mono (by omega)
      go_wp2
      refine bodyPost_ret (results_cell_row Try.results47 _ _ w.heap.size _ _ _ _ rfl (set3_row ST.out.r) Try.underlying28 rfl (by kernel_rfl)) rfl ⟨w.heap.size + 1, M, rfl, HM.out, OW.out, set3_below ST.out.bel (Nat.le_refl _)⟩

def spL (ps : List Pr) (x pt : Int) (bs : List Int) : List Pr := ps.map (fun p => if p.id = x then ⟨p.id, p.succ, pt, bs⟩ else p)
def spOk (b d : Int) (ps : List Pr) (x pt : Int) (bs : List Int) : Bool := goodP b d ps && memI (idsP ps) x && memI (idsP ps) pt && bokB (idsP ps) bs
theorem spL_len (ps : List Pr) (x pt : Int) (bs : List Int) : (spL ps x pt bs).length = ps.length := by simp [spL]
theorem spL_get {ps : List Pr} {x pt : Int} {bs : List Int} {i : Nat} (hi : i < ps.length) : (spL ps x pt bs).getD i pr0 = if (ps.getD i pr0).id = x then ⟨(ps.getD i pr0).id, (ps.getD i pr0).succ, pt, bs⟩ else ps.getD i pr0 := by
  simp [spL, List.getD_eq_getElem?_getD, hi]
/-- in a ring the member below whom as many are as the place tells is one alone -/
theorem blw_one {b d : Int} {zs : List Int} (R : Ring b d zs) {x : Int} (hx : memI zs x = true) {i : Nat} (hi : i < zs.length) : zs.getD i 0 = x ↔ i = blw zs x := by
  have h := of_decide_eq_true hx
  constructor
  · intro he
    by_cases h1 : i < blw zs x
    · have := R.ris i (blw zs x) h1 h.1
      omega
    · by_cases h2 : blw zs x < i
      · have := R.ris (blw zs x) i h2 hi
        omega
      · omega
  · intro he
    rw [he]; exact h.2
end Go.Proofs.Ytgmdbihdnacpjaa
namespace Go.Proofs.Ytgmdbihdnacpjaa
open Go.RowKit Go.Deep
set_option linter.unusedVariables false
/-- the argument's box, the answer's box, the box of peers at X, their list at G -/
structure SPS (w wr : World) (S0 : Array Value) (T0 : TypeId) (b d : Int) (X G n c : Nat) (L : List (Pr × Value)) : Prop where
  rb : RB w wr S0 T0
  lo : w.heap.size + 2 ≤ X
  p : wr.heap[X]? = some (.cells #[.int .i64 b, .int .i64 d, .slice (some ⟨G, 0, none⟩) n c] 28 (0, 0))
  ow : OwnP (w.heap.size + 2) wr.heap.size wr G L
theorem SPS.hi {w wr : World} {S0 : Array Value} {T0 : TypeId} {b d : Int} {X G n c : Nat} {L : List (Pr × Value)} (h : SPS w wr S0 T0 b d X G n c L) : X < wr.heap.size := (Array.getElem?_eq_some_iff.1 h.p).1
theorem SPS.ne {w wr : World} {S0 : Array Value} {T0 : TypeId} {b d : Int} {X G n c : Nat} {L : List (Pr × Value)} (h : SPS w wr S0 T0 b d X G n c L) : ¬ X = G := fun he => by
  obtain ⟨cur, hc⟩ := h.ow.blk
  have hp := h.p
  rw [he, hc] at hp
  simp at hp
theorem SPS.keep {w wr w1 : World} {S0 : Array Value} {T0 : TypeId} {b d : Int} {X G n c : Nat} {L : List (Pr × Value)} (h : SPS w wr S0 T0 b d X G n c L) (hb : Below wr.heap.size wr w1) : SPS w w1 S0 T0 b d X G n c L :=
  ⟨h.rb.keep hb, h.lo, (hb.block X h.hi).trans h.p, (h.ow.keep hb).wide hb.size⟩
theorem SPS.put {w wr : World} {S0 : Array Value} {T0 : TypeId} {b d : Int} {X G n c : Nat} {L L' : List (Pr × Value)} {j : Nat} {v : Value} (h : SPS w wr S0 T0 b d X G n c L) (ho : OwnP (w.heap.size + 2) wr.heap.size (wr.setCell ⟨G, j, none⟩ v) G L') : SPS w (wr.setCell ⟨G, j, none⟩ v) S0 T0 b d X G n c L' := by
  have hlo := h.ow.lo
  refine ⟨h.rb.blocks (h.rb.bel.setCell (p := ⟨G, j, none⟩) (by simp; omega) _) (by simp [World.setCell]) (fun k hk => heap_setCell_other _ _ _ _ (by simp; omega)), h.lo, (heap_setCell_other _ _ _ _ (by simpa using h.ne)).trans h.p, ?_⟩
  rw [heap_size_setCell]
  exact ho
theorem SPS.num {w wr : World} {S0 : Array Value} {T0 : TypeId} {b d : Int} {X G n c : Nat} {L : List (Pr × Value)} (h : SPS w wr S0 T0 b d X G n c L) {i : Nat} (hi : i < L.length) (f : Nat) (hf : f < 3) (z : Int) :
    SPS w (wr.setCell ⟨G, i * 4 + f, none⟩ (.int .i64 z)) S0 T0 b d X G n c (L.set i (setF f (L.getD i d0).1 z, (L.getD i d0).2)) := h.put (h.ow.num hi f hf z)
theorem SPS.backs {w wr w1 : World} {S0 : Array Value} {T0 : TypeId} {b d : Int} {X G n c : Nat} {L : List (Pr × Value)} (h : SPS w wr S0 T0 b d X G n c L) (hb : Below wr.heap.size wr w1) {i : Nat} (hi : i < L.length) {bs : List Int} {gb cb : Nat} (hm : bs.length ≤ 1048576) (hcb : bs.length ≤ cb) (os : OwnS wr.heap.size w1 gb bs) :
    SPS w (w1.setCell ⟨G, i * 4 + 3, none⟩ (.slice (some ⟨gb, 0, none⟩) bs.length cb)) S0 T0 b d X G n c (L.set i (⟨(L.getD i d0).1.id, (L.getD i d0).1.succ, (L.getD i d0).1.point, bs⟩, .slice (some ⟨gb, 0, none⟩) bs.length cb)) :=
  (h.keep hb).put (h.ow.backs rfl hb hi hm hcb os)
theorem SPS.cell {w wr : World} {S0 : Array Value} {T0 : TypeId} {b d : Int} {X G n c : Nat} {L : List (Pr × Value)} (h : SPS w wr S0 T0 b d X G n c L) : wr.cell? ⟨X, 0, none⟩ = some (.int .i64 b) ∧ wr.cell? ⟨X, 1, none⟩ = some (.int .i64 d) ∧ wr.cell? ⟨X, 2, none⟩ = some (.slice (some ⟨G, 0, none⟩) n c) :=
  ⟨(cell_of_row wr _ _ _ _ _ h.p).trans rfl, (cell_of_row wr _ _ _ _ _ h.p).trans rfl, (cell_of_row wr _ _ _ _ _ h.p).trans rfl⟩
theorem SPS.at {w wr : World} {S0 : Array Value} {T0 : TypeId} {b d : Int} {X G n c : Nat} {L : List (Pr × Value)} (h : SPS w wr S0 T0 b d X G n c L) (j : Nat) : wr.frozen? ⟨G, j, none⟩ = false := by
  obtain ⟨cur, hc⟩ := h.ow.blk
  exact frozen_of_row wr _ _ _ _ hc
theorem sps0 {w wa : World} {S0 : Array Value} {T0 : TypeId} {B : Nat} {b d : Int} {G n c : Nat} {L : List (Pr × Value)} (h : RB w wa S0 T0) (ow : OwnP B wa.heap.size wa G L) (hB : w.heap.size + 2 ≤ B) :
    SPS w (wa.alloc (.cells #[.int .i64 b, .int .i64 d, .slice (some ⟨G, 0, none⟩) n c] 28)) S0 T0 b d wa.heap.size G n c L := by
  refine ⟨h.keep (belA _ _), h.lt, heap_alloc_new _ _, ?_⟩
  exact ((ow.keep (belA _ _)).wide (by simp)).mono hB
theorem sp_map {b d : Int} {ps : List Pr} {L : List (Pr × Value)} {x pt : Int} {bs : List Int} {v : Value} {q : Pr} (R : Ring b d (idsP ps)) (hx : memI (idsP ps) x = true) (hL : L.map (·.1) = ps)
    (hq : q = ⟨(L.getD (blw (idsP ps) x) d0).1.id, (L.getD (blw (idsP ps) x) d0).1.succ, pt, bs⟩) : (L.set (blw (idsP ps) x) (q, v)).map (·.1) = spL ps x pt bs := by
  have hl : L.length = ps.length := by rw [← hL, List.length_map]
  have hlg : ∀ i, i < ps.length → (L.getD i d0).1 = ps.getD i pr0 := fun i hi => by
    rw [← hL]
    simp [List.getD_eq_getElem?_getD, List.getElem?_eq_getElem (show i < L.length by omega)]
  refine map_getD (by rw [List.length_set, spL_len, hl]) (fun j hj => ?_)
  rw [spL_len] at hj
  have hj' : j < (idsP ps).length := by rw [idsP_len]; exact hj
  have h1 := blw_one R hx hj'
  rw [idsP_get] at h1
  rw [getD_set (by omega), spL_get hj]
  by_cases he : blw (idsP ps) x = j
  · rw [if_pos he, if_pos (h1.2 he.symm), hq, he, hlg j hj]
  · rw [if_neg he, if_neg (fun h => he (h1.1 h).symm), hlg j hj]
theorem spOk_false {b d : Int} {ps : List Pr} {x pt : Int} {bs : List Int} (h : goodP b d ps = false ∨ memI (idsP ps) x = false ∨ memI (idsP ps) pt = false ∨ bokB (idsP ps) bs = false) : spOk b d ps x pt bs = false := by
  unfold spOk
  rcases h with h | h | h | h <;> rw [h] <;> simp

set_option maxRecDepth 100000 in
set_option maxHeartbeats 6400000 in
theorem SetPoint_any (b d : Int) (a : Option Addr) (cap : Nat) (ps : List Pr) (x pt : Int) (ab : Option Addr) (cb : Nat) (bs : List Int) (w : World) (hm : ps.length ≤ 1048576) (hr : PeersAt w a ps) (hmb : bs.length ≤ 1048576) (hrb : RowAt w ab bs) :
    Calls Try.prog 13 #[.agg #[.int .i64 b, .int .i64 d, .slice a ps.length cap], .int .i64 x, .int .i64 pt, .slice ab bs.length cb] w fun e w' => ∃ v, e = .returned v ∧ Below w.heap.size w w' ∧
      ((spOk b d ps x pt bs = false ∧ v = .tuple #[.agg #[.int .i64 0, .int .i64 0, .slice none 0 0], .bool false]) ∨ (spOk b d ps x pt bs = true ∧ ∃ g L, v = .tuple #[.agg #[.int .i64 b, .int .i64 d, .slice (some ⟨g, 0, none⟩) ps.length ps.length], .bool true] ∧ L.map (·.1) = spL ps x pt bs ∧ OwnP w.heap.size w'.heap.size w' g L)) := by
  have rb := rb0 w #[.int .i64 b, .int .i64 d, .slice a ps.length cap] 28
  have CG := GoodPeers_any b d a cap ps _ hm (hr.keep rb.bel)
  have HR : Hid (PeersAt w a ps) := hr
  have HRB : Hid (RowAt w ab bs) := hrb
  have RB0 : Hid (RB w _ #[.int .i64 b, .int .i64 d, .slice a ps.length cap] 28) := rb
  have hil := idsP_len ps
  clear hr rb hrb
  cases hg : goodP b d ps
  · have hv : Hid (spOk b d ps x pt bs = false) := spOk_false (.inl hg)
    rw [hg] at CG
    go_enter Try.func13, Try.ntmps13
    go_wp2_with fail
    refine CG.mono ?_
    rintro e w1 ⟨rfl, hw1⟩
    have RB1 : Hid (RB w w1 #[.int .i64 b, .int .i64 d, .slice a ps.length cap] 28) := RB0.out.keep hw1
    clear CG hw1
    obtain ⟨r0, r1, r2, q0, q1, q2⟩ := RB1.out.cells
    go_wp2
    refine bodyPost_ret (results_cell_tmp Try.results13 _ _ (w.heap.size + 1) _ _ _ _ _ rfl rfl (set3_row RB1.out.r) Try.underlying28 rfl (by kernel_rfl)) rfl ⟨_, rfl, set3_below RB1.out.bel (by omega), .inl ⟨hv.out, rfl⟩⟩
  · rw [hg] at CG
    obtain ⟨R, hp⟩ := goodP_true hg
    have l1 : 1 ≤ ps.length := by have := R.l1; rwa [idsP_len] at this
    have l2 : ps.length ≤ 16 := by have := R.l2; rwa [idsP_len] at this
    have RR : Hid (Ring b d (idsP ps)) := R
    have HB3 : Hid (∀ i, i < ps.length → (ps.getD i pr0).backs.length ≤ 3) := fun i hi => (prB_parts.1 (hp i hi)).2.2.1
    clear R hp
    cases hx : memI (idsP ps) x
    ·
      have hv : Hid (spOk b d ps x pt bs = false) := spOk_false (.inr (.inl hx))
      have CMx : ∀ g w1, RowAt w1 (some ⟨g, 0, none⟩) (idsP ps) → Calls Try.prog 45 #[.slice (some ⟨g, 0, none⟩) ps.length ps.length, .int .i64 x] w1 fun e w' => e = .returned (.bool false) ∧ w' = w1 := fun g w1 h => by
        have := isMember_any (some ⟨g, 0, none⟩) ps.length (idsP ps) x w1 (by rw [hil]; unfold maxLen; omega) h
        rwa [hil, hx] at this
      go_enter Try.func13, Try.ntmps13
      go_wp2_with fail
      refine CG.mono ?_
      rintro e w1 ⟨rfl, hw1⟩
      have RB1 : Hid (RB w w1 #[.int .i64 b, .int .i64 d, .slice a ps.length cap] 28) := RB0.out.keep hw1
      clear CG hw1
      obtain ⟨s0, s1, s2⟩ := RB1.out.arg3
      have hlt1 := RB1.out.lt
      go_wp2_with fail
      refine (idsOf_any w.heap.size a cap ps w1 hm (by omega) s2 (HR.out.keep RB1.out.bel)).mono ?_
      rintro e w2 ⟨rfl, ow2⟩
      have RB2 : Hid (RB w w2 #[.int .i64 b, .int .i64 d, .slice a ps.length cap] 28) := RB1.out.keep ow2.bel
      have ROW : Hid (RowAt w2 (some ⟨w1.heap.size, 0, none⟩) (idsP ps)) := rowAt_of_row ow2.row
      have HZ2 : Hid (w1.heap.size < w2.heap.size) := ow2.lt
      clear s0 s1 s2 ow2
      have Cx := CMx _ w2 ROW.out
      go_wp2_with fail
      refine Cx.mono ?_
      rintro e wz0 ⟨rfl, he0⟩
      have he0 := he0.symm
      subst he0
      obtain ⟨r0, r1, r2, q0, q1, q2⟩ := RB2.out.cells
      go_wp2
      refine bodyPost_ret (results_cell_tmp Try.results13 _ _ (w.heap.size + 1) _ _ _ _ _ rfl rfl (set3_row RB2.out.r) Try.underlying28 rfl (by kernel_rfl)) rfl ⟨_, rfl, set3_below RB2.out.bel (by omega), .inl ⟨hv.out, rfl⟩⟩
    ·
      cases hpt : memI (idsP ps) pt
      ·
        have hv : Hid (spOk b d ps x pt bs = false) := spOk_false (.inr (.inr (.inl hpt)))
        have CMx : ∀ g w1, RowAt w1 (some ⟨g, 0, none⟩) (idsP ps) → Calls Try.prog 45 #[.slice (some ⟨g, 0, none⟩) ps.length ps.length, .int .i64 x] w1 fun e w' => e = .returned (.bool true) ∧ w' = w1 := fun g w1 h => by
          have := isMember_any (some ⟨g, 0, none⟩) ps.length (idsP ps) x w1 (by rw [hil]; unfold maxLen; omega) h
          rwa [hil, hx] at this
        have CMp : ∀ g w1, RowAt w1 (some ⟨g, 0, none⟩) (idsP ps) → Calls Try.prog 45 #[.slice (some ⟨g, 0, none⟩) ps.length ps.length, .int .i64 pt] w1 fun e w' => e = .returned (.bool false) ∧ w' = w1 := fun g w1 h => by
          have := isMember_any (some ⟨g, 0, none⟩) ps.length (idsP ps) pt w1 (by rw [hil]; unfold maxLen; omega) h
          rwa [hil, hpt] at this
        go_enter Try.func13, Try.ntmps13
        go_wp2_with fail
        refine CG.mono ?_
        rintro e w1 ⟨rfl, hw1⟩
        have RB1 : Hid (RB w w1 #[.int .i64 b, .int .i64 d, .slice a ps.length cap] 28) := RB0.out.keep hw1
        clear CG hw1
        obtain ⟨s0, s1, s2⟩ := RB1.out.arg3
        have hlt1 := RB1.out.lt
        go_wp2_with fail
        refine (idsOf_any w.heap.size a cap ps w1 hm (by omega) s2 (HR.out.keep RB1.out.bel)).mono ?_
        rintro e w2 ⟨rfl, ow2⟩
        have RB2 : Hid (RB w w2 #[.int .i64 b, .int .i64 d, .slice a ps.length cap] 28) := RB1.out.keep ow2.bel
        have ROW : Hid (RowAt w2 (some ⟨w1.heap.size, 0, none⟩) (idsP ps)) := rowAt_of_row ow2.row
        have HZ2 : Hid (w1.heap.size < w2.heap.size) := ow2.lt
        clear s0 s1 s2 ow2
        have Cx := CMx _ w2 ROW.out
        go_wp2_with fail
        refine Cx.mono ?_
        rintro e wz0 ⟨rfl, he0⟩
        have he0 := he0.symm
        subst he0
        have Cp := CMp _ w2 ROW.out
        go_wp2_with fail
        refine Cp.mono ?_
        rintro e wz1 ⟨rfl, he1⟩
        have he1 := he1.symm
        subst he1
        obtain ⟨r0, r1, r2, q0, q1, q2⟩ := RB2.out.cells
        go_wp2
        refine bodyPost_ret (results_cell_tmp Try.results13 _ _ (w.heap.size + 1) _ _ _ _ _ rfl rfl (set3_row RB2.out.r) Try.underlying28 rfl (by kernel_rfl)) rfl ⟨_, rfl, set3_below RB2.out.bel (by omega), .inl ⟨hv.out, rfl⟩⟩
      ·
        cases hbk : bokB (idsP ps) bs
        ·
          have hv : Hid (spOk b d ps x pt bs = false) := spOk_false (.inr (.inr (.inr hbk)))
          have CMx : ∀ g w1, RowAt w1 (some ⟨g, 0, none⟩) (idsP ps) → Calls Try.prog 45 #[.slice (some ⟨g, 0, none⟩) ps.length ps.length, .int .i64 x] w1 fun e w' => e = .returned (.bool true) ∧ w' = w1 := fun g w1 h => by
            have := isMember_any (some ⟨g, 0, none⟩) ps.length (idsP ps) x w1 (by rw [hil]; unfold maxLen; omega) h
            rwa [hil, hx] at this
          have CMp : ∀ g w1, RowAt w1 (some ⟨g, 0, none⟩) (idsP ps) → Calls Try.prog 45 #[.slice (some ⟨g, 0, none⟩) ps.length ps.length, .int .i64 pt] w1 fun e w' => e = .returned (.bool true) ∧ w' = w1 := fun g w1 h => by
            have := isMember_any (some ⟨g, 0, none⟩) ps.length (idsP ps) pt w1 (by rw [hil]; unfold maxLen; omega) h
            rwa [hil, hpt] at this
          have CMb : ∀ g w1, RowAt w1 (some ⟨g, 0, none⟩) (idsP ps) → RowAt w1 ab bs → Calls Try.prog 46 #[.slice (some ⟨g, 0, none⟩) ps.length ps.length, .slice ab bs.length cb] w1 fun e w' => e = .returned (.bool false) ∧ w' = w1 := fun g w1 h h' => by
            have := areBacks_any (some ⟨g, 0, none⟩) ab ps.length cb (idsP ps) bs w1 (by rw [hil]; unfold maxLen; omega) (by unfold maxLen; omega) h h'
            rwa [hil, hbk] at this
          go_enter Try.func13, Try.ntmps13
          go_wp2_with fail
          refine CG.mono ?_
          rintro e w1 ⟨rfl, hw1⟩
          have RB1 : Hid (RB w w1 #[.int .i64 b, .int .i64 d, .slice a ps.length cap] 28) := RB0.out.keep hw1
          clear CG hw1
          obtain ⟨s0, s1, s2⟩ := RB1.out.arg3
          have hlt1 := RB1.out.lt
          go_wp2_with fail
          refine (idsOf_any w.heap.size a cap ps w1 hm (by omega) s2 (HR.out.keep RB1.out.bel)).mono ?_
          rintro e w2 ⟨rfl, ow2⟩
          have RB2 : Hid (RB w w2 #[.int .i64 b, .int .i64 d, .slice a ps.length cap] 28) := RB1.out.keep ow2.bel
          have ROW : Hid (RowAt w2 (some ⟨w1.heap.size, 0, none⟩) (idsP ps)) := rowAt_of_row ow2.row
          have HZ2 : Hid (w1.heap.size < w2.heap.size) := ow2.lt
          clear s0 s1 s2 ow2
          have Cx := CMx _ w2 ROW.out
          go_wp2_with fail
          refine Cx.mono ?_
          rintro e wz0 ⟨rfl, he0⟩
          have he0 := he0.symm
          subst he0
          have Cp := CMp _ w2 ROW.out
          go_wp2_with fail
          refine Cp.mono ?_
          rintro e wz1 ⟨rfl, he1⟩
          have he1 := he1.symm
          subst he1
          have Cb := CMb _ w2 ROW.out (HRB.out.keep RB2.out.bel)
          go_wp2_with fail
          refine Cb.mono ?_
          rintro e wz2 ⟨rfl, he2⟩
          have he2 := he2.symm
          subst he2
          obtain ⟨r0, r1, r2, q0, q1, q2⟩ := RB2.out.cells
          go_wp2
          refine bodyPost_ret (results_cell_tmp Try.results13 _ _ (w.heap.size + 1) _ _ _ _ _ rfl rfl (set3_row RB2.out.r) Try.underlying28 rfl (by kernel_rfl)) rfl ⟨_, rfl, set3_below RB2.out.bel (by omega), .inl ⟨hv.out, rfl⟩⟩
        ·
          have hv : Hid (spOk b d ps x pt bs = true) := by unfold Hid spOk; rw [hg, hx, hpt, hbk]; rfl
          have CMx : ∀ g w1, RowAt w1 (some ⟨g, 0, none⟩) (idsP ps) → Calls Try.prog 45 #[.slice (some ⟨g, 0, none⟩) ps.length ps.length, .int .i64 x] w1 fun e w' => e = .returned (.bool true) ∧ w' = w1 := fun g w1 h => by
            have := isMember_any (some ⟨g, 0, none⟩) ps.length (idsP ps) x w1 (by rw [hil]; unfold maxLen; omega) h
            rwa [hil, hx] at this
          have CMp : ∀ g w1, RowAt w1 (some ⟨g, 0, none⟩) (idsP ps) → Calls Try.prog 45 #[.slice (some ⟨g, 0, none⟩) ps.length ps.length, .int .i64 pt] w1 fun e w' => e = .returned (.bool true) ∧ w' = w1 := fun g w1 h => by
            have := isMember_any (some ⟨g, 0, none⟩) ps.length (idsP ps) pt w1 (by rw [hil]; unfold maxLen; omega) h
            rwa [hil, hpt] at this
          have CMb : ∀ g w1, RowAt w1 (some ⟨g, 0, none⟩) (idsP ps) → RowAt w1 ab bs → Calls Try.prog 46 #[.slice (some ⟨g, 0, none⟩) ps.length ps.length, .slice ab bs.length cb] w1 fun e w' => e = .returned (.bool true) ∧ w' = w1 := fun g w1 h h' => by
            have := areBacks_any (some ⟨g, 0, none⟩) ab ps.length cb (idsP ps) bs w1 (by rw [hil]; unfold maxLen; omega) (by unfold maxLen; omega) h h'
            rwa [hil, hbk] at this
          go_enter Try.func13, Try.ntmps13
          go_wp2_with fail
          refine CG.mono ?_
          rintro e w1 ⟨rfl, hw1⟩
          have RB1 : Hid (RB w w1 #[.int .i64 b, .int .i64 d, .slice a ps.length cap] 28) := RB0.out.keep hw1
          clear CG hw1
          obtain ⟨s0, s1, s2⟩ := RB1.out.arg3
          have hlt1 := RB1.out.lt
          go_wp2_with fail
          refine (idsOf_any w.heap.size a cap ps w1 hm (by omega) s2 (HR.out.keep RB1.out.bel)).mono ?_
          rintro e w2 ⟨rfl, ow2⟩
          have RB2 : Hid (RB w w2 #[.int .i64 b, .int .i64 d, .slice a ps.length cap] 28) := RB1.out.keep ow2.bel
          have ROW : Hid (RowAt w2 (some ⟨w1.heap.size, 0, none⟩) (idsP ps)) := rowAt_of_row ow2.row
          have HZ2 : Hid (w1.heap.size < w2.heap.size) := ow2.lt
          clear s0 s1 s2 ow2
          have Cx := CMx _ w2 ROW.out
          go_wp2_with fail
          refine Cx.mono ?_
          rintro e wz0 ⟨rfl, he0⟩
          have he0 := he0.symm
          subst he0
          have Cp := CMp _ w2 ROW.out
          go_wp2_with fail
          refine Cp.mono ?_
          rintro e wz1 ⟨rfl, he1⟩
          have he1 := he1.symm
          subst he1
          have Cb := CMb _ w2 ROW.out (HRB.out.keep RB2.out.bel)
          go_wp2_with fail
          refine Cb.mono ?_
          rintro e wz2 ⟨rfl, he2⟩
          have he2 := he2.symm
          subst he2
          clear CMx CMp CMb Cx Cp Cb
          obtain ⟨s0, s1, s2⟩ := RB2.out.arg3
          have hlt2 := RB2.out.lt
          have CC := copyPeers_any w.heap.size b d a cap ps w2 (by omega) l2 HB3.out (by omega) s0 s1 s2 (HR.out.keep RB2.out.bel)
          clear s0 s1 s2
          go_wp2_with fail
          refine CC.mono ?_
          rintro e w3 ⟨G, L, rfl, hL, ow3, hw3⟩
          have RB3 : Hid (RB w w3 #[.int .i64 b, .int .i64 d, .slice a ps.length cap] 28) := RB2.out.keep hw3
          have S3 := sps0 (b := b) (d := d) (n := ps.length) (c := ps.length) RB3.out ow3 (by omega)
          have S4 : Hid _ := S3
          have ROW4 : Hid (RowAt (w3.alloc (.cells #[.int .i64 b, .int .i64 d, .slice (some ⟨G, 0, none⟩) ps.length ps.length] 28)) (some ⟨w1.heap.size, 0, none⟩) (idsP ps)) := (ROW.out.keep hw3).alloc _
          have HL : Hid (L.map (·.1) = ps) := hL
          have hLl : L.length = ps.length := by rw [← hL, List.length_map]
          have HLL : Hid (L.length = ps.length) := hLl
          clear CC S3 hL hLl ow3 hw3 ROW RB3 HZ2 RB1
          have hlt3 := S4.out.rb.lt
          obtain ⟨x0, x1, x2⟩ := S4.out.cell
          have hX4 := S4.out.hi
          go_wp2_with fail
          obtain ⟨w4, hw4⟩ : ∃ w4, w4 = w3.alloc (.cells #[.int .i64 b, .int .i64 d, .slice (some ⟨G, 0, none⟩) ps.length ps.length] 28) := ⟨_, rfl⟩
          obtain ⟨X, hX⟩ : ∃ X, X = w3.heap.size := ⟨_, rfl⟩
          rw [← hw4, ← hX] at S4 x2 hX4
          rw [← hw4] at ROW4 hlt3
          rw [← hw4, ← hX]
          clear hw4 hX x0 x1
          have z2 : ∀ k : Kin w4.heap.size w4, k.v.cell? ⟨X, 2, none⟩ = some (.slice (some ⟨G, 0, none⟩) ps.length ps.length) := kin_cell hX4 x2
          have CK : ∀ w5, Below w4.heap.size w4 w5 → Calls Try.prog 48 #[.slice (some ⟨w1.heap.size, 0, none⟩) ps.length ps.length, .int .i64 x] w5 fun e w' => e = .returned (.int .i64 (blw (idsP ps) x)) ∧ w' = w5 := fun w5 h => by
            have := below_any (some ⟨w1.heap.size, 0, none⟩) ps.length (idsP ps) x w5 (by rw [hil]; unfold maxLen; omega) (ROW4.out.keep h)
            rwa [hil] at this
          have hkb : blw (idsP ps) x < ps.length := by have := (of_decide_eq_true hx).1; rwa [hil] at this
          have HXM : Hid (memI (idsP ps) x = true) := hx
          clear hx x2
          obtain ⟨k, hkk⟩ : ∃ k, k = blw (idsP ps) x := ⟨_, rfl⟩
          rw [← hkk] at CK hkb
          have HK : Hid (k = blw (idsP ps) x) := hkk
          clear hkk
          refine region_kin w4.heap.size (by kernel_rfl) (by kernel_rfl) (fun hne => ?_)
          repeat (go_big_quiet_step ((go_at_call 48; exact kin_same (CK _ (Kin.bel _)))))
          refine wpQuiet_nil ?_
          intro w5 hw'
          obtain ⟨⟨w6, hw5⟩, hw''⟩ := hw'
          obtain rfl : w5 = w6 := hw''
          have S5 : Hid (SPS w w5 #[.int .i64 b, .int .i64 d, .slice a ps.length cap] 28 b d X G ps.length ps.length L) := S4.out.keep hw5
          clear z2 hne S4 CK hw5 ROW4 hX4 hlt3
          have hkL : k < L.length := by rw [HLL.out]; exact hkb
          obtain ⟨_, _, c2, _⟩ := S5.out.ow.cel k hkL
          have f2 := S5.out.at (k * 4 + 2)
          have S6 : Hid _ := S5.out.num hkL 2 (by omega) pt
          have RB5 := S6.out.rb.bel
          generalize (L.getD k d0).1.point = o2 at c2
          go_wp2_with fail
          refine (copyList_any ab cb bs _ hmb (HRB.out.keep RB5)).mono ?_
          rintro e w7 ⟨rfl, ow7⟩
          have hk6 : k < (L.set k (setF 2 (L.getD k d0).1 pt, (L.getD k d0).2)).length := by rw [List.length_set]; exact hkL
          have S70 := S6.out.keep ow7.bel
          have S71 := S6.out.backs ow7.bel hk6 hmb (Nat.le_refl _) ow7.owns
          rw [getD_same hkL, List.set_set] at S71
          have S7 : Hid _ := S71
          obtain ⟨_, _, _, c3⟩ := S70.ow.cel k hk6
          have f3 := S70.at (k * 4 + 3)
          simp only [heap_size_setCell] at S7 c3 f3
          generalize ((L.set k (setF 2 (L.getD k d0).1 pt, (L.getD k d0).2)).getD k d0).2 = o3 at c3
          have HMAP : Hid (List.map (·.1) (L.set k (⟨(setF 2 (L.getD k d0).1 pt).id, (setF 2 (L.getD k d0).1 pt).succ, (setF 2 (L.getD k d0).1 pt).point, bs⟩, .slice (some ⟨w5.heap.size, 0, none⟩) bs.length bs.length)) = spL ps x pt bs) := by
            unfold Hid
            rw [HK.out]
            exact sp_map RR.out HXM.out HL.out rfl
          generalize L.set k (⟨(setF 2 (L.getD k d0).1 pt).id, (setF 2 (L.getD k d0).1 pt).succ, (setF 2 (L.getD k d0).1 pt).point, bs⟩, .slice (some ⟨w5.heap.size, 0, none⟩) bs.length bs.length) = L2 at S7 HMAP
          obtain ⟨x0, x1, x2⟩ := S7.out.cell
          obtain ⟨r0, r1, r2, q0, q1, q2⟩ := S7.out.rb.cells
          obtain ⟨y0, y1, y2⟩ := S70.cell
          obtain ⟨t0, t1, t2, p0, p1, p2⟩ := S70.rb.cells
          have hlo := S7.out.lo
          have hG := S7.out.ow.lo
          have hne := S7.out.ne
          clear S70 S71 S6 S5 ow7 RB5
          have OW : Hid (OwnP w.heap.size (set3 (w7.setCell ⟨G, k * 4 + 3, none⟩ (.slice (some ⟨w5.heap.size, 0, none⟩) bs.length bs.length)) (w.heap.size + 1) (.int .i64 b) (.int .i64 d) (.slice (some ⟨G, 0, none⟩) ps.length ps.length)).heap.size (set3 (w7.setCell ⟨G, k * 4 + 3, none⟩ (.slice (some ⟨w5.heap.size, 0, none⟩) bs.length bs.length)) (w.heap.size + 1) (.int .i64 b) (.int .i64 d) (.slice (some ⟨G, 0, none⟩) ps.length ps.length)) G L2) := by
            unfold Hid
            rw [set3_size]
            exact (S7.out.ow.blocks (fun k hk _ _ => set3_block (by omega))).mono (by omega)
          go_wp2
          refine bodyPost_ret (results_cell_tmp Try.results13 _ _ (w.heap.size + 1) _ _ _ _ _ rfl rfl (set3_row S7.out.rb.r) Try.underlying28 rfl (by kernel_rfl)) rfl ⟨_, rfl, set3_below S7.out.rb.bel (by omega), .inr ⟨hv.out, G, L2, rfl, HMAP.out, OW.out⟩⟩
end Go.Proofs.Ytgmdbihdnacpjaa
namespace Go.Proofs.Ytgmdbihdnacpjaa
open Go.RowKit Go.Deep
set_option linter.unusedVariables false
theorem spL_ids (ps : List Pr) (x pt : Int) (bs : List Int) : idsP (spL ps x pt bs) = idsP ps := by
  unfold idsP spL
  rw [List.map_map]
  refine List.map_congr_left (fun p _ => ?_)
  show (if p.id = x then (⟨p.id, p.succ, pt, bs⟩ : Pr) else p).id = p.id
  split <;> rfl
theorem goodP_ring' {b d : Int} {ps : List Pr} (h : goodP b d ps = true) : ringB b d (idsP ps) = true := by
  unfold goodP at h
  rw [Bool.and_eq_true] at h
  exact h.1
theorem sp_good {b d : Int} {ps : List Pr} {x pt : Int} {bs : List Int} (hg : goodP b d ps = true) (hx : memI (idsP ps) x = true) : goodP b d (spL ps x pt bs) = (memI (idsP ps) pt && bokB (idsP ps) bs) := by
  obtain ⟨R, hp⟩ := goodP_true hg
  have hil := idsP_len ps
  have hk : blw (idsP ps) x < ps.length := by have := (of_decide_eq_true hx).1; rwa [hil] at this
  have one : ∀ i, i < ps.length → ((ps.getD i pr0).id = x ↔ i = blw (idsP ps) x) := fun i hi => by
    have := blw_one R hx (i := i) (by rw [hil]; exact hi)
    rwa [idsP_get] at this
  have hq : prB (idsP ps) ((spL ps x pt bs).getD (blw (idsP ps) x) pr0) = (memI (idsP ps) pt && bokB (idsP ps) bs) := by
    rw [spL_get hk, if_pos ((one _ hk).2 rfl), ← prI_eq R]
    have := (prB_parts.1 (hp _ hk)).1
    unfold prI
    show (decide (_ = _) && memI (idsP ps) pt && bokB (idsP ps) bs) = _
    rw [decide_eq_true this]; rfl
  cases hv : (memI (idsP ps) pt && bokB (idsP ps) bs)
  · rw [hv] at hq
    exact goodP_no (k := blw (idsP ps) x) (by rw [spL_len]; exact hk) (by rw [spL_ids, hq]; simp)
  · rw [hv] at hq
    refine goodP_yes (by rw [spL_ids]; exact goodP_ring' hg) (fun i hi => ?_)
    rw [spL_len] at hi
    rw [spL_ids]
    by_cases he : i = blw (idsP ps) x
    · rw [he]; exact hq
    · rw [spL_get hi, if_neg (fun h => he ((one i hi).1 h))]
      exact hp i hi
set_option maxRecDepth 100000 in
set_option maxHeartbeats 12800000 in
theorem lSetPoint_any (b d : Int) (a : Option Addr) (cap : Nat) (ps : List Pr) (x pt : Int) (ab : Option Addr) (cb : Nat) (bs : List Int) (w : World) (hm : ps.length ≤ 1048576) (hr : PeersAt w a ps) (hmb : bs.length ≤ 1048576) (hrb : RowAt w ab bs) (hnb : ab = none → cb = 0) :
    Calls Try.prog 14 #[.agg #[.int .i64 b, .int .i64 d, .slice a ps.length cap], .int .i64 x, .int .i64 pt, .slice ab bs.length cb] w fun e w' => ∃ v, e = .returned v ∧ Below w.heap.size w w' ∧
      ((spOk b d ps x pt bs = false ∧ v = .tuple #[.agg #[.int .i64 0, .int .i64 0, .slice none 0 0], .bool false]) ∨ (spOk b d ps x pt bs = true ∧ ∃ a0 cp, v = .tuple #[.agg #[.int .i64 b, .int .i64 d, .slice a0 ps.length cp], .bool true] ∧ PeersAt w' a0 (spL ps x pt bs))) := by
  have rb := rb0 w #[.int .i64 b, .int .i64 d, .slice a ps.length cap] 28
  have CG := lgood_any b d a cap ps _ hm (hr.keep rb.bel)
  have HR : Hid (PeersAt w a ps) := hr
  have HRB : Hid (RowAt w ab bs) := hrb
  have HNB : Hid (ab = none → cb = 0) := hnb
  have RB0 : Hid (RB w _ #[.int .i64 b, .int .i64 d, .slice a ps.length cap] 28) := rb
  have hil := idsP_len ps
  clear hr rb hrb hnb
  cases hg : goodP b d ps
  · have hv : Hid (spOk b d ps x pt bs = false) := spOk_false (.inl hg)
    rw [hg] at CG
    go_enter Try.func14, Try.ntmps14
    go_wp2_with fail
    refine CG.mono ?_
    rintro e w1 ⟨rfl, hw1⟩
    have RB1 : Hid (RB w w1 #[.int .i64 b, .int .i64 d, .slice a ps.length cap] 28) := RB0.out.keep hw1
    clear CG hw1
    obtain ⟨r0, r1, r2, q0, q1, q2⟩ := RB1.out.cells
    go_wp2
    refine bodyPost_ret (results_cell_tmp Try.results14 _ _ (w.heap.size + 1) _ _ _ _ _ rfl rfl (set3_row RB1.out.r) Try.underlying28 rfl (by kernel_rfl)) rfl ⟨_, rfl, set3_below RB1.out.bel (by omega), .inl ⟨hv.out, rfl⟩⟩
  · rw [hg] at CG
    obtain ⟨R, hp⟩ := goodP_true hg
    have l1 : 1 ≤ ps.length := by have := R.l1; rwa [idsP_len] at this
    have l2 : ps.length ≤ 16 := by have := R.l2; rwa [idsP_len] at this
    have RR : Hid (Ring b d (idsP ps)) := R
    have HG : Hid (goodP b d ps = true) := hg
    have HB3 : Hid (∀ i, i < ps.length → (ps.getD i pr0).backs.length ≤ 1048576) := fun i hi => by have := (prB_parts.1 (hp i hi)).2.2.1; omega
    clear R hp hg
    go_enter Try.func14, Try.ntmps14
    go_wp2_with fail
    refine CG.mono ?_
    rintro e w1 ⟨rfl, hw1⟩
    have RB1 : Hid (RB w w1 #[.int .i64 b, .int .i64 d, .slice a ps.length cap] 28) := RB0.out.keep hw1
    clear CG hw1
    obtain ⟨s0, s1, s2⟩ := RB1.out.arg3
    have hlt1 := RB1.out.lt
    go_wp2_with fail
    refine (lownP_any b d a cap ps w1 hm HB3.out (HR.out.keep RB1.out.bel)).mono ?_
    rintro e w2 ⟨vl, L, rfl, hL, lp, hw2⟩
    have RB2 : Hid (RB w w2 #[.int .i64 b, .int .i64 d, .slice a ps.length cap] 28) := RB1.out.keep hw2
    obtain ⟨al, cl, rfl, hcl⟩ := lp.form
    have hLl : L.length = ps.length := by rw [← hL, List.length_map]
    obtain ⟨G, cl', hvl⟩ := Joins.ownsRow_form lp.own (by omega)
    simp at hvl
    obtain ⟨rfl, rfl⟩ := hvl
    have S20 := sps0 (b := b) (d := d) (n := L.length) (c := cl) RB2.out lp.ownP (by omega)
    rw [hLl] at S20 ⊢
    have S2 : Hid (SPS w _ #[.int .i64 b, .int .i64 d, .slice a ps.length cap] 28 b d w2.heap.size G ps.length cl L) := S20
    have HL0 : Hid (∀ j, j < ps.length → (L.getD j d0).1 = ps.getD j pr0) := fun j hj => by
      rw [← hL]
      simp [List.getD_eq_getElem?_getD, List.getElem?_eq_getElem (show j < L.length by omega)]
    have HLL0 : Hid (L.length = ps.length) := hLl
    clear S20 s0 s1 s2 lp hw2 hL hLl hcl RB1 RB2 hlt1
    obtain ⟨x0, x1, x2⟩ := S2.out.cell
    go_wp2_with fail
    clear x0 x1 x2
    obtain ⟨X, hX⟩ : ∃ X, X = w2.heap.size := ⟨_, rfl⟩
    rw [← hX] at S2
    rw [← hX]
    clear hX
    go_loopw [22] (fun vi wr => ∃ (k : Nat) (M : List (Pr × Value)), k ≤ ps.length ∧ vi = .int .i64 k ∧ Hid (SPS w wr #[.int .i64 b, .int .i64 d, .slice a ps.length cap] 28 b d X G ps.length cl M) ∧ Hid (M.length = ps.length) ∧ Hid (∀ j, j < ps.length → (M.getD j d0).1 = if j < k then (spL ps x pt bs).getD j pr0 else ps.getD j pr0)) (fun vi _ => ps.length - (intOf vi).toNat)
    case atStart => exact ⟨0, L, Nat.zero_le _, rfl, S2, HLL0, fun j hj => by rw [if_neg (by omega)]; exact HL0.out j hj⟩
    case round =>
      obtain ⟨k, M, hk, rfl, ST, HML, HS⟩ := hrel
      clear S2 HL0 HLL0
      by_cases hlt : k < ps.length
      · have hkM : k < M.length := by rw [HML.out]; exact hlt
        obtain ⟨c0, c1, c2, c3⟩ := ST.out.ow.cel k hkM
        obtain ⟨av, cv, hv3, _⟩ := ST.out.ow.val k hkM
        rw [hv3] at c3
        have hMk := HS.out k hlt
        rw [if_neg (by omega)] at hMk
        have HSP : Hid ((spL ps x pt bs).getD k pr0 = if (ps.getD k pr0).id = x then ⟨(ps.getD k pr0).id, (ps.getD k pr0).succ, pt, bs⟩ else ps.getD k pr0) := spL_get hlt
        have HMK : Hid ((M.getD k d0).1 = ps.getD k pr0) := hMk
        rw [hMk] at c0 c1 c2 c3
        clear hv3 hMk
        obtain ⟨z0, hz0⟩ : ∃ z, z = (ps.getD k pr0).id := ⟨_, rfl⟩
        have HZ0 : Hid (z0 = (ps.getD k pr0).id) := hz0
        rw [← hz0] at c0
        clear hz0
        generalize (ps.getD k pr0).succ = z1 at c1
        generalize (ps.getD k pr0).point = z2 at c2
        generalize (ps.getD k pr0).backs.length = z3 at c3
        have hX := ST.out.hi
        have hlo := ST.out.lo
        by_cases he : z0 = x
        · have he' : (z0 == x) = true := beq_iff_eq.2 he
          have HE : Hid ((spL ps x pt bs).getD k pr0 = ⟨(ps.getD k pr0).id, (ps.getD k pr0).succ, pt, bs⟩) := by
            unfold Hid
            rw [HSP.out, if_pos (by rw [← HZ0.out]; exact he)]
          clear he HSP
          have SA := ST.out.keep (belA wr (.cells #[.int .i64 z0, .int .i64 z1, .int .i64 z2, .slice av z3 cv] 37))
          have SB0 := SA.num hkM 2 (by omega) pt
          obtain ⟨wq, hwq⟩ : ∃ wq, wq = (wr.alloc (.cells #[.int .i64 z0, .int .i64 z1, .int .i64 z2, .slice av z3 cv] 37)).setCell ⟨G, k * 4 + 2, none⟩ (.int .i64 pt) := ⟨_, rfl⟩
          rw [← hwq] at SB0
          have SB : Hid _ := SB0
          obtain ⟨y0, y1, y2⟩ := SA.cell
          obtain ⟨_, _, e2, _⟩ := SA.ow.cel k hkM
          have f2 := SA.at (k * 4 + 2)
          have hne := SA.ne
          have hGlt := SA.ow.lt
          rw [HMK.out] at e2
          generalize (ps.getD k pr0).point = z2' at e2
          obtain ⟨p0, p1, p2⟩ := ST.out.cell
          clear SA SB0
          go_wp2_with fail
          rw [← hwq]
          clear hwq y0 y1 y2 e2 f2 c0 c1 c2 c3 p0 p1 p2 hGlt
          have hkM2 : k < (M.set k (setF 2 (M.getD k d0).1 pt, (M.getD k d0).2)).length := by rw [List.length_set]; exact hkM
          have sta := SB.out.keep ((Below.refl _ _).drew)
          have xa := sta.cell.2.2
          go_region_held (fun w' => w'.cell? ⟨X, 2, none⟩ = some (.slice (some ⟨G, 0, none⟩) ps.length cl)) (with_reducible (first | exact xa | exact xb | exact xc _)) (first
            | (go_at_call 52; refine (lownG_any ab cb bs _ hmb (HRB.out.keep sta.rb.bel) HNB.out).mono ?_; rintro e wd ⟨gd, cd, rfl, hcd, osd, hwd⟩; have stb := sta.keep hwd; have xb := stb.cell.2.2; have xc : ∀ v, (wd.setCell ⟨G, k * 4 + 3, none⟩ v).cell? ⟨X, 2, none⟩ = some (.slice (some ⟨G, 0, none⟩) ps.length cl) := fun v => (cell_far hne).trans xb; have d3 := (stb.ow.cel k hkM2).c3; have g3 := stb.at (k * 4 + 3)))
          have S9 := sta.backs hwd hkM2 hmb hcd osd
          rw [getD_same hkM, List.set_set] at S9
          have S9' : Hid _ := S9
          clear d3 g3 xa xb xc osd S9
          go_wp2_with fail
          go_roundw
          case rel => exact ⟨k + 1, _, by omega, by go_num, S9', by unfold Hid; rw [List.length_set]; exact HML.out, fun j hj => by
            rw [getD_set (by rw [HML.out]; exact hj)]
            by_cases hij : k = j
            · subst hij
              rw [if_pos rfl, if_pos (by omega), HE.out, HMK.out]; rfl
            · rw [if_neg hij, HS.out j hj]
              by_cases hjk : j < k
              · rw [if_pos hjk, if_pos (by omega)]
              · rw [if_neg hjk, if_neg (by omega)]⟩
          case measure => simp [intOf]; omega
        · have he' : (z0 == x) = false := by simp only [beq_eq_false_iff_ne, ne_eq]; exact he
          have HE : Hid ((spL ps x pt bs).getD k pr0 = ps.getD k pr0) := by
            unfold Hid
            rw [HSP.out, if_neg (by rw [← HZ0.out]; exact he)]
          clear he HSP
          have SA : Hid _ := ST.out.keep (belA wr (.cells #[.int .i64 z0, .int .i64 z1, .int .i64 z2, .slice av z3 cv] 37))
          go_wp2_with fail
          go_roundw
          case rel => exact ⟨k + 1, M, by omega, by go_num, SA, HML, fun j hj => by
            rw [HS.out j hj]
            by_cases hjk : j < k
            · rw [if_pos hjk, if_pos (by omega)]
            · by_cases hij : j = k
              · subst hij; rw [if_neg hjk, if_pos (by omega), HE.out]
              · rw [if_neg hjk, if_neg (by omega)]⟩
          case measure => simp [intOf]; omega
      · obtain rfl : k = ps.length := by omega
        have HMAP : Hid (M.map (·.1) = spL ps x pt bs) := map_getD (by rw [HML.out, spL_len]) (fun j hj => by
          rw [spL_len] at hj
          rw [HS.out j hj, if_pos hj])
        clear HS
        obtain ⟨s0, s1, s2⟩ := ST.out.rb.arg3
        go_wp2_with fail
        refine (lmembers_any b d a cap ps wr hm (HR.out.keep ST.out.rb.bel)).mono ?_
        rintro e wa ⟨va, rfl, owa, hwa⟩
        obtain ⟨a1, cap1, rfl, hc1, hrow1⟩ := own_rowAt owa
        have STa : Hid (SPS w wa #[.int .i64 b, .int .i64 d, .slice a ps.length cap] 28 b d X G ps.length cl M) := ST.out.keep hwa
        have CX := lhas_any a1 cap1 (idsP ps) x wa (by rw [hil]; unfold maxLen; omega) hrow1
        rw [hil] at CX ⊢
        clear owa hrow1 hc1 hwa ST s0 s1 s2
        cases hx : hasB (idsP ps) x
        · have hv : Hid (spOk b d ps x pt bs = false) := spOk_false (.inr (.inl (by rw [mem_has RR.out]; exact hx)))
          rw [hx] at CX
          go_wp2_with fail
          refine CX.mono ?_
          rintro e wb ⟨rfl, hb⟩
          have hb := hb.symm
          subst hb
          obtain ⟨r0, r1, r2, q0, q1, q2⟩ := STa.out.rb.cells
          go_wp2
          refine bodyPost_ret (results_cell_tmp Try.results14 _ _ (w.heap.size + 1) _ _ _ _ _ rfl rfl (set3_row STa.out.rb.r) Try.underlying28 rfl (by kernel_rfl)) rfl ⟨_, rfl, set3_below STa.out.rb.bel (by omega), .inl ⟨hv.out, rfl⟩⟩
        · rw [hx] at CX
          have hxm : memI (idsP ps) x = true := by rw [mem_has RR.out]; exact hx
          have hsg := sp_good (pt := pt) (bs := bs) HG.out hxm
          obtain ⟨x0, x1, x2⟩ := STa.out.cell
          go_wp2_with fail
          refine CX.mono ?_
          rintro e wb ⟨rfl, hb⟩
          have hb := hb.symm
          subst hb
          have PP := STa.out.ow.peersAt
          rw [HMAP.out] at PP
          have CGG := lgood_any b d (some ⟨G, 0, none⟩) cl (spL ps x pt bs) wa (by rw [spL_len]; exact hm) PP
          rw [spL_len] at CGG
          cases hq : goodP b d (spL ps x pt bs)
          · have hv : Hid (spOk b d ps x pt bs = false) := by
              unfold Hid spOk
              rw [hq] at hsg
              rw [Bool.and_assoc, ← hsg, Bool.and_false]
            rw [hq] at CGG
            clear hsg hq PP
            go_wp2_with fail
            refine CGG.mono ?_
            rintro e wc ⟨rfl, hwc⟩
            have STc : Hid (SPS w wc #[.int .i64 b, .int .i64 d, .slice a ps.length cap] 28 b d X G ps.length cl M) := STa.out.keep hwc
            clear CGG hwc STa x0 x1 x2
            obtain ⟨r0, r1, r2, q0, q1, q2⟩ := STc.out.rb.cells
            go_wp2
            refine bodyPost_ret (results_cell_tmp Try.results14 _ _ (w.heap.size + 1) _ _ _ _ _ rfl rfl (set3_row STc.out.rb.r) Try.underlying28 rfl (by kernel_rfl)) rfl ⟨_, rfl, set3_below STc.out.rb.bel (by omega), .inl ⟨hv.out, rfl⟩⟩
          · rw [hq] at CGG hsg
            have hpp := Bool.and_eq_true_iff.1 hsg.symm
            have hv : Hid (spOk b d ps x pt bs = true) := by
              unfold Hid spOk
              rw [HG.out, hxm, hpp.1, hpp.2]; rfl
            have hptb : hasB (idsP ps) pt = true := by rw [← mem_has RR.out]; exact hpp.1
            clear hsg hq PP hpp
            go_wp2_with fail
            refine CGG.mono ?_
            rintro e wc ⟨rfl, hwc⟩
            have STc : Hid (SPS w wc #[.int .i64 b, .int .i64 d, .slice a ps.length cap] 28 b d X G ps.length cl M) := STa.out.keep hwc
            obtain ⟨s0, s1, s2⟩ := STc.out.rb.arg3
            clear CGG hwc STa x0 x1 x2
            go_wp2_with fail
            refine (lmembers_any b d a cap ps wc hm (HR.out.keep STc.out.rb.bel)).mono ?_
            rintro e wd ⟨vd, rfl, owd, hwd⟩
            obtain ⟨a2, cap2, rfl, hc2, hrow2⟩ := own_rowAt owd
            have STd : Hid (SPS w wd #[.int .i64 b, .int .i64 d, .slice a ps.length cap] 28 b d X G ps.length cl M) := STc.out.keep hwd
            have CY := lhas_any a2 cap2 (idsP ps) pt wd (by rw [hil]; unfold maxLen; omega) hrow2
            rw [hil, hptb] at CY
            rw [hil]
            clear owd hrow2 hc2 hwd STc s0 s1 s2
            go_wp2_with fail
            refine CY.mono ?_
            rintro e we ⟨rfl, hb⟩
            have hb := hb.symm
            subst hb
            obtain ⟨x0, x1, x2⟩ := STd.out.cell
            obtain ⟨r0, r1, r2, q0, q1, q2⟩ := STd.out.rb.cells
            have hlo := STd.out.lo
            have PF : Hid (PeersAt (set3 wd (w.heap.size + 1) (.int .i64 b) (.int .i64 d) (.slice (some ⟨G, 0, none⟩) ps.length cl)) (some ⟨G, 0, none⟩) (spL ps x pt bs)) := by
              have hG := STd.out.ow.lo
              have := (STd.out.ow.blocks (w1 := set3 wd (w.heap.size + 1) (.int .i64 b) (.int .i64 d) (.slice (some ⟨G, 0, none⟩) ps.length cl)) (fun k hk _ _ => set3_block (by omega))).peersAt
              rw [HMAP.out] at this
              exact this
            go_wp2
            refine bodyPost_ret (results_cell_tmp Try.results14 _ _ (w.heap.size + 1) _ _ _ _ _ rfl rfl (set3_row STd.out.rb.r) Try.underlying28 rfl (by kernel_rfl)) rfl ⟨_, rfl, set3_below STd.out.rb.bel (by omega), .inr ⟨hv.out, _, _, rfl, PF.out⟩⟩
end Go.Proofs.Ytgmdbihdnacpjaa
namespace Go.Proofs.Ytgmdbihdnacpjaa
open Go.RowKit
set_option linter.unusedVariables false
def spR (b d : Int) (ps : List Pr) (x pt : Int) (bs : List Int) : List Pr := if spOk b d ps x pt bs = true then spL ps x pt bs else []
theorem spOk_parts {b d : Int} {ps : List Pr} {x pt : Int} {bs : List Int} (h : spOk b d ps x pt bs = true) : goodP b d ps = true ∧ memI (idsP ps) x = true ∧ memI (idsP ps) pt = true ∧ bokB (idsP ps) bs = true := by
  unfold spOk at h
  simp only [Bool.and_eq_true] at h
  exact ⟨h.1.1.1, h.1.1.2, h.1.2, h.2⟩
theorem spL_good {b d : Int} {ps : List Pr} {x pt : Int} {bs : List Int} (h : spOk b d ps x pt bs = true) : goodP b d (spL ps x pt bs) = true := by
  obtain ⟨h1, h2, h3, h4⟩ := spOk_parts h
  rw [sp_good h1 h2, h3, h4]; rfl
theorem goodP_big {b d : Int} {ps : List Pr} (h : goodP b d ps = true) : ps.length + bsum ps ≤ 64 := by
  obtain ⟨R, hp⟩ := goodP_true h
  have l2 := R.l2
  rw [idsP_len] at l2
  have hb := bsum_le (c := 3) (ps := ps) (fun p hp' => by
    obtain ⟨i, hi, rfl⟩ := List.getElem_of_mem hp'
    have := (prB_parts.1 (hp i hi)).2.2.1
    simpa [List.getD_eq_getElem?_getD, hi] using this)
  omega
theorem spR_big (b d : Int) (ps : List Pr) (x pt : Int) (bs : List Int) : (spR b d ps x pt bs).length + bsum (spR b d ps x pt bs) ≤ 1048576 := by
  unfold spR
  split
  · rename_i h
    have := goodP_big (spL_good h)
    omega
  · simp [bsum]
theorem SetPoint_own (b d : Int) (a : Option Addr) (cap : Nat) (ps : List Pr) (x pt : Int) (ab : Option Addr) (cb : Nat) (bs : List Int) (w : World) (hm : ps.length ≤ 1048576) (hr : PeersAt w a ps) (hmb : bs.length ≤ 1048576) (hrb : RowAt w ab bs) :
    Calls Try.prog 13 #[.agg #[.int .i64 b, .int .i64 d, .slice a ps.length cap], .int .i64 x, .int .i64 pt, .slice ab bs.length cb] w fun e w' => ∃ b' d' a' n' c, e = .returned (.tuple #[.agg #[.int .i64 b', .int .i64 d', .slice a' n' c], .bool (spOk b d ps x pt bs)]) ∧ (spR b d ps x pt bs).length = n' ∧ (b', d') = spcOf (spOk b d ps x pt bs) b d ∧ OwnPs w.heap.size w'.heap.size w' a' n' (spR b d ps x pt bs) ∧ Below w.heap.size w w' := by
  refine (SetPoint_any b d a cap ps x pt ab cb bs w hm hr hmb hrb).mono ?_
  rintro e w1 ⟨v, rfl, hw, ⟨hg, rfl⟩ | ⟨hg, g, L, rfl, hL, os⟩⟩
  · rw [hg]
    have e0 : spR b d ps x pt bs = [] := by unfold spR; rw [hg]; rfl
    rw [e0]
    exact ⟨_, _, _, _, _, rfl, rfl, rfl, ownPs_nil _ _ _ _, hw⟩
  · rw [hg]
    have e0 : spR b d ps x pt bs = spL ps x pt bs := by unfold spR; rw [hg]; rfl
    rw [e0]
    exact ⟨_, _, _, _, _, rfl, spL_len _ _ _ _, rfl, ⟨spL_len _ _ _ _, .inr ⟨g, L, rfl, hL, os⟩⟩, hw⟩
theorem row_none {w : World} {bs : List Int} (h : RowAt w none bs) : bs = [] := by
  rcases h with h | ⟨_, _, h, _⟩
  · exact h
  · cases h
theorem lSetPoint_own (b d : Int) (a : Option Addr) (cap : Nat) (ps : List Pr) (x pt : Int) (ab : Option Addr) (cb : Nat) (bs : List Int) (w : World) (hm : ps.length ≤ 1048576) (hr : PeersAt w a ps) (hmb : bs.length ≤ 1048576) (hrb : RowAt w ab bs) :
    Calls Try.prog 14 #[.agg #[.int .i64 b, .int .i64 d, .slice a ps.length cap], .int .i64 x, .int .i64 pt, .slice ab bs.length bs.length] w fun e w' => ∃ b' d' a' n' c, e = .returned (.tuple #[.agg #[.int .i64 b', .int .i64 d', .slice a' n' c], .bool (spOk b d ps x pt bs)]) ∧ (spR b d ps x pt bs).length = n' ∧ (b', d') = spcOf (spOk b d ps x pt bs) b d ∧ PeersAt w' a' (spR b d ps x pt bs) ∧ Below w.heap.size w w' := by
  refine (lSetPoint_any b d a cap ps x pt ab bs.length bs w hm hr hmb hrb (fun h => by subst h; rw [row_none hrb]; rfl)).mono ?_
  rintro e w1 ⟨v, rfl, hw, ⟨hg, rfl⟩ | ⟨hg, a0, cp, rfl, os⟩⟩
  · rw [hg]
    have e0 : spR b d ps x pt bs = [] := by unfold spR; rw [hg]; rfl
    rw [e0]
    exact ⟨_, _, _, _, _, rfl, rfl, rfl, .inl rfl, hw⟩
  · rw [hg]
    have e0 : spR b d ps x pt bs = spL ps x pt bs := by unfold spR; rw [hg]; rfl
    rw [e0]
    exact ⟨_, _, _, _, _, rfl, spL_len _ _ _ _, rfl, os, hw⟩
end Go.Proofs.Ytgmdbihdnacpjaa
namespace Go.Proofs.Ytgmdbihdnacpjaa
open Go.RowKit
set_option linter.unusedVariables false

set_option maxHeartbeats 3200000 in
theorem lputO_any (bk off cap : Nat) (zs : List Int) (x : Int) (w : World) (h1 : 1 ≤ zs.length) (h2 : zs.length ≤ 16) (hcap : zs.length ≤ cap) (hr : RowAt w (some ⟨bk, off, none⟩) zs) :
    Calls Try.prog 92 #[.slice (some ⟨bk, off, none⟩) zs.length cap, .int .i64 x] w fun e w' => (memI zs x = true ∧ e = .returned (.slice (some ⟨bk, off, none⟩) zs.length cap) ∧ w' = w) ∨
      (memI zs x = false ∧ ∃ g cp, e = .returned (.slice (some ⟨g, 0, none⟩) (zs.length + 1) cp) ∧ w'.ownsRow w.heap.size 3 1 (.slice (some ⟨g, 0, none⟩) (zs.length + 1) cp) (zs.length + 1) ((joinL zs x).map (Value.int .i64)) ∧ Below w.heap.size w w') := by
  obtain ⟨i0, hi, hz0, hz1, hz2⟩ := info_parts'
  have own0 : Hid ((w.alloc (.cells #[] 3)).ownsRow w.heap.size 3 1 (.slice (some ⟨w.heap.size, 0, none⟩) 0 0) 0 []) := own_lit0 w
  have HR : Hid (RowAt w (some ⟨bk, off, none⟩) zs) := hr
  clear hr
  go_enter Try.func92, Try.ntmps92
  go_wp2_with fail
  go_loop [5] (fun v => ∃ k : Nat, k ≤ zs.length ∧ v = .int .i64 k ∧ Hid (∀ i, i < k → zs.getD i 0 < x)) (fun v => zs.length - (intOf v).toNat)
  case atStart => exact ⟨0, Nat.zero_le _, rfl, fun i hi => by omega⟩
  case round =>
    obtain ⟨k, hk, rfl, hs⟩ := hrel
    by_cases hlt : k < zs.length
    · have hc1 := (rowAt_cell HR.out (by omega)).2 k hlt
      by_cases hx : zs.getD k 0 < x
      · have hn : Hid (∀ i, i < k + 1 → zs.getD i 0 < x) := fun i hi => by
          by_cases he : i = k
          · subst he; exact hx
          · exact hs.out i (by omega)
        generalize zs.getD k 0 = z at hc1 hx
        go_wp2_with fail
        go_round
        case rel => exact ⟨k + 1, by omega, by go_num, hn⟩
        case measure => simp [intOf]; omega
      · have hv : Hid (k = blw zs x) := (blw_eq (by omega) hs.out (fun _ => hx)).symm
        by_cases he : zs.getD k 0 = x
        · have HM : Hid (memI zs x = true) := decide_eq_true (by rw [← hv.out]; exact ⟨hlt, he⟩)
          have he' : (zs.getD k 0 == x) = true := beq_iff_eq.2 he
          clear he
          generalize zs.getD k 0 = z at hc1 hx he'
          go_wp2
          go_ret
          exact .inl ⟨HM.out, rfl, rfl⟩
        · have HM : Hid (memI zs x = false) := decide_eq_false (fun g => he (by rw [← hv.out] at g; exact g.2))
          have he' : (zs.getD k 0 == x) = false := by simp only [beq_eq_false_iff_ne, ne_eq]; exact he
          clear he
          generalize zs.getD k 0 = z at hc1 hx he'
          have s1 : Hid (((zs.take k).map (Value.int .i64)).length = k * 1) := by simp [Hid]; omega
          have s2 : Hid (((zs.drop k).map (Value.int .i64)).length = (zs.length - k) * 1) := by simp [Hid]
          have s3 : Hid ((zs.take k).map (Value.int .i64) ++ [Value.int .i64 x] ++ (zs.drop k).map (Value.int .i64) = (joinL zs x).map (Value.int .i64)) := by unfold joinL; rw [← hv.out]; simp [Hid]
          have hN : k + 1 + (zs.length - k) = zs.length + 1 := by omega
          have hkc : k ≤ cap := by omega
          have c1 : Hid (∀ (j : Nat) (u : Value), ((zs.take k).map (Value.int .i64))[j]? = some u → (w.alloc (.cells #[] 3)).cell? ((⟨bk, off, none⟩ : Addr).add j) = some u) := olds_cells (HR.out.alloc _) k _ rfl
          go_wp2_with (first | (at_builtin; refine wpList_append_own _ rfl (.tmp 34) (.tmp 37) 29 rfl w.heap.size 3 i0 (.int .i64 0) 1 8 Try.underlying29 hi hz0 hz1 hz2 rfl (by decide) _ _ _ rfl own0.out ⟨bk, off, none⟩ _ _ ((zs.take k).map (Value.int .i64)) rfl s1.out c1.out (ints_oneCell _ _) (by unfold maxLen; omega) (by omega) (by simp) ?_; intro v4 w4 hown4 hgrow4 hnil4; rw [Nat.zero_add, List.nil_append] at hown4; obtain ⟨g4, cp4, rfl⟩ := own_form hown4 (fun h => by have := (hnil4.1 h).1; cases this); have HB4 : Hid (Below w.heap.size w w4) := grown_bel ((Below.refl _ _).alloc (Nat.le_refl _) _) hgrow4 (by simp) (fun k hk => (own0.out.lt k hk).1); have own4 : Hid (w4.ownsRow w.heap.size 3 1 (.slice (some ⟨g4, 0, none⟩) k cp4) k ((zs.take k).map (Value.int .i64))) := hown4; clear hown4 hgrow4 hnil4 c1) | (at_builtin; refine wpList_append_own _ rfl (.tmp 39) (.tmp 41) 29 rfl w.heap.size 3 i0 (.int .i64 0) 1 8 Try.underlying29 hi hz0 hz1 hz2 rfl (by decide) _ _ _ rfl (own4.out.alloc _) ⟨w4.heap.size, 0, none⟩ 1 1 [.int .i64 x] rfl rfl (cell_one_new _ _ _) (by simp [Value.oneCell']) (by unfold maxLen; omega) (by omega) (alloc_size HB4.out) ?_; intro v5 w5 hown5 hgrow5 _; obtain ⟨g5, cp5, rfl⟩ := Joins.ownsRow_form hown5 (Nat.succ_pos _); have HB5 : Hid (Below w.heap.size w w5) := grown_bel (HB4.out.alloc HB4.out.size _) hgrow5 (alloc_size HB4.out) (fun k hk => (own4.out.lt k hk).1); have own5 : Hid (w5.ownsRow w.heap.size 3 1 (.slice (some ⟨g5, 0, none⟩) (k + 1) cp5) (k + 1) ((zs.take k).map (Value.int .i64) ++ [Value.int .i64 x])) := hown5; have c2 : Hid (∀ (j : Nat) (u : Value), ((zs.drop k).map (Value.int .i64))[j]? = some u → w5.cell? ((⟨bk, off + k, none⟩ : Addr).add j) = some u) := tail_cells (HR.out.keep HB5.out) k; clear hown5 hgrow5) | (at_builtin; refine wpList_append_own _ rfl (.tmp 43) (.tmp 46) 29 rfl w.heap.size 3 i0 (.int .i64 0) 1 8 Try.underlying29 hi hz0 hz1 hz2 rfl (by decide) _ _ _ rfl own5.out _ _ _ ((zs.drop k).map (Value.int .i64)) rfl s2.out c2.out (ints_oneCell _ _) (by unfold maxLen; omega) (by omega) HB5.out.size ?_; intro v6 w6 hown6 hgrow6 _; rw [hN, s3.out] at hown6; obtain ⟨g6, cp6, rfl⟩ := Joins.ownsRow_form hown6 (Nat.succ_pos _); have own6 : Hid (w6.ownsRow w.heap.size 3 1 (.slice (some ⟨g6, 0, none⟩) (zs.length + 1) cp6) (zs.length + 1) ((joinL zs x).map (Value.int .i64))) := hown6; have HB6 : Hid (Below w.heap.size w w6) := grown_bel HB5.out hgrow6 HB5.out.size (fun k hk => (own5.out.lt k hk).1); clear hown6 hgrow6))
          go_ret
          exact .inr ⟨HM.out, g6, cp6, rfl, own6.out, HB6.out⟩
    · have hv : Hid (k = blw zs x) := (blw_eq hk hs.out (fun h => absurd h hlt)).symm
      have HM : Hid (memI zs x = false) := decide_eq_false (fun g => by rw [← hv.out] at g; exact hlt g.1)
      have s1 : Hid (((zs.take k).map (Value.int .i64)).length = k * 1) := by simp [Hid]; omega
      have s2 : Hid (((zs.drop k).map (Value.int .i64)).length = (zs.length - k) * 1) := by simp [Hid]
      have s3 : Hid ((zs.take k).map (Value.int .i64) ++ [Value.int .i64 x] ++ (zs.drop k).map (Value.int .i64) = (joinL zs x).map (Value.int .i64)) := by unfold joinL; rw [← hv.out]; simp [Hid]
      have hN : k + 1 + (zs.length - k) = zs.length + 1 := by omega
      have hkc : k ≤ cap := by omega
      obtain ⟨A, hA, hAc⟩ : ∃ A : Addr, (if cap = k then some (⟨bk, off, none⟩ : Addr) else some ⟨bk, off + k, none⟩) = some A ∧ (¬ cap = k → A = ⟨bk, off + k, none⟩) := by
        by_cases hpc : cap = k
        · exact ⟨_, if_pos hpc, fun h => absurd hpc h⟩
        · exact ⟨_, if_neg hpc, fun _ => rfl⟩
      clear hAc
      have HA : Hid ((if cap = k then some (⟨bk, off, none⟩ : Addr) else some ⟨bk, off + k, none⟩) = some A) := hA
      have c1 : Hid (∀ (j : Nat) (u : Value), ((zs.take k).map (Value.int .i64))[j]? = some u → (w.alloc (.cells #[] 3)).cell? ((⟨bk, off, none⟩ : Addr).add j) = some u) := olds_cells (HR.out.alloc _) k _ rfl
      go_wp2_with (first | (at_builtin; refine wpList_append_own _ rfl (.tmp 34) (.tmp 37) 29 rfl w.heap.size 3 i0 (.int .i64 0) 1 8 Try.underlying29 hi hz0 hz1 hz2 rfl (by decide) _ _ _ rfl own0.out ⟨bk, off, none⟩ _ _ ((zs.take k).map (Value.int .i64)) rfl s1.out c1.out (ints_oneCell _ _) (by unfold maxLen; omega) (by omega) (by simp) ?_; intro v4 w4 hown4 hgrow4 hnil4; rw [Nat.zero_add, List.nil_append] at hown4; obtain ⟨g4, cp4, rfl⟩ := own_form hown4 (fun h => by have := (hnil4.1 h).1; cases this); have HB4 : Hid (Below w.heap.size w w4) := grown_bel ((Below.refl _ _).alloc (Nat.le_refl _) _) hgrow4 (by simp) (fun k hk => (own0.out.lt k hk).1); have own4 : Hid (w4.ownsRow w.heap.size 3 1 (.slice (some ⟨g4, 0, none⟩) k cp4) k ((zs.take k).map (Value.int .i64))) := hown4; clear hown4 hgrow4 hnil4 c1) | (at_builtin; refine wpList_append_own _ rfl (.tmp 39) (.tmp 41) 29 rfl w.heap.size 3 i0 (.int .i64 0) 1 8 Try.underlying29 hi hz0 hz1 hz2 rfl (by decide) _ _ _ rfl (own4.out.alloc _) ⟨w4.heap.size, 0, none⟩ 1 1 [.int .i64 x] rfl rfl (cell_one_new _ _ _) (by simp [Value.oneCell']) (by unfold maxLen; omega) (by omega) (alloc_size HB4.out) ?_; intro v5 w5 hown5 hgrow5 _; obtain ⟨g5, cp5, rfl⟩ := Joins.ownsRow_form hown5 (Nat.succ_pos _); have HB5 : Hid (Below w.heap.size w w5) := grown_bel (HB4.out.alloc HB4.out.size _) hgrow5 (alloc_size HB4.out) (fun k hk => (own4.out.lt k hk).1); have own5 : Hid (w5.ownsRow w.heap.size 3 1 (.slice (some ⟨g5, 0, none⟩) (k + 1) cp5) (k + 1) ((zs.take k).map (Value.int .i64) ++ [Value.int .i64 x])) := hown5; have c2 : Hid (∀ (j : Nat) (u : Value), ((zs.drop k).map (Value.int .i64))[j]? = some u → w5.cell? (A.add j) = some u) := tail_if HA.out (HR.out.keep HB5.out) hcap hk; clear hown5 hgrow5) | (at_builtin; refine wpList_append_own _ rfl (.tmp 43) (.tmp 46) 29 rfl w.heap.size 3 i0 (.int .i64 0) 1 8 Try.underlying29 hi hz0 hz1 hz2 rfl (by decide) _ _ _ rfl own5.out _ _ _ ((zs.drop k).map (Value.int .i64)) rfl s2.out c2.out (ints_oneCell _ _) (by unfold maxLen; omega) (by omega) HB5.out.size ?_; intro v6 w6 hown6 hgrow6 _; rw [hN, s3.out] at hown6; obtain ⟨g6, cp6, rfl⟩ := Joins.ownsRow_form hown6 (Nat.succ_pos _); have own6 : Hid (w6.ownsRow w.heap.size 3 1 (.slice (some ⟨g6, 0, none⟩) (zs.length + 1) cp6) (zs.length + 1) ((joinL zs x).map (Value.int .i64))) := hown6; have HB6 : Hid (Below w.heap.size w w6) := grown_bel HB5.out hgrow6 HB5.out.size (fun k hk => (own5.out.lt k hk).1); clear hown6 hgrow6))
      go_ret
      exact .inr ⟨HM.out, g6, cp6, rfl, own6.out, HB6.out⟩


/-- a list of ints that is owned from block B on, or nil -/
def OwnM (B : Nat) (w : World) (v : Value) (l : List Int) : Prop := w.ownsRow B 3 1 v l.length (l.map (Value.int .i64))
theorem OwnM.keep {B : Nat} {w w1 : World} {v : Value} {l : List Int} (h : OwnM B w v l) (hb : Below w.heap.size w w1) : OwnM B w1 v l := by
  obtain ⟨hl, h2⟩ := h
  refine ⟨hl, ?_⟩
  rcases h2 with h2 | ⟨g, cap, cur, hv, hg, hc, rest⟩
  · exact .inl h2
  · exact .inr ⟨g, cap, cur, hv, hg, (hb.block _ (Array.getElem?_eq_some_iff.1 hc).1).trans hc, rest⟩
theorem OwnM.block {B : Nat} {w w1 : World} {v : Value} {l : List Int} (h : OwnM B w v l) (hb : ∀ k, k < w.heap.size → B ≤ k → w1.heap[k]? = w.heap[k]?) : OwnM B w1 v l := by
  obtain ⟨hl, h2⟩ := h
  refine ⟨hl, ?_⟩
  rcases h2 with h2 | ⟨g, cap, cur, hv, hg, hc, rest⟩
  · exact .inl h2
  · exact .inr ⟨g, cap, cur, hv, hg, (hb _ (Array.getElem?_eq_some_iff.1 hc).1 hg).trans hc, rest⟩
theorem OwnM.form {B : Nat} {w : World} {v : Value} {l : List Int} (h : OwnM B w v l) : (v = .slice none 0 0 ∧ l = []) ∨ ∃ g cap, v = .slice (some ⟨g, 0, none⟩) l.length cap ∧ l.length ≤ cap ∧ OwnS B w g l := by
  rcases Joins.ownsRow_forms h with ⟨h1, h2⟩ | ⟨g, cap, rfl⟩
  · exact .inl ⟨h1, List.length_eq_zero_iff.1 h2⟩
  · obtain ⟨os, hl, hc⟩ := OwnS.of_owns h
    exact .inr ⟨g, cap, rfl, hc, os⟩
theorem OwnM.mono {B B' : Nat} {w : World} {v : Value} {l : List Int} (h : OwnM B w v l) (hb : B' ≤ B) : OwnM B' w v l := Joins.ownsRow_le h hb

set_option maxHeartbeats 1600000 in
theorem lput_nil (x : Int) (w : World) :
    Calls Try.prog 92 #[.slice none 0 0, .int .i64 x] w fun e w' => ∃ v, e = .returned v ∧ OwnM w.heap.size w' v [x] ∧ Below w.heap.size w w' := by
  obtain ⟨i0, hi, hz0, hz1, hz2⟩ := info_parts'
  have own0 : Hid ((w.alloc (.cells #[] 3)).ownsRow w.heap.size 3 1 (.slice (some ⟨w.heap.size, 0, none⟩) 0 0) 0 []) := own_lit0 w
  have HB0 : Hid (Below w.heap.size w (w.alloc (.cells #[] 3))) := (Below.refl _ _).alloc (Nat.le_refl _) _
  go_enter Try.func92, Try.ntmps92
  go_wp2_with fail
  go_loop [5] (fun v => v = .int .i64 0) (fun v => 0)
  case atStart => rfl
  case round =>
    subst hrel
    go_wp2_with (first | (at_builtin; refine wpList_append_own_none rfl (.tmp 34) (.tmp 37) 29 rfl w.heap.size 3 i0 1 Try.underlying29 hi _ _ _ rfl own0.out rfl ?_) | (at_builtin; refine wpList_append_own _ rfl (.tmp 39) (.tmp 41) 29 rfl w.heap.size 3 i0 (.int .i64 0) 1 8 Try.underlying29 hi hz0 hz1 hz2 rfl (by decide) _ _ _ rfl (own0.out.alloc _) ⟨w.heap.size + 1, 0, none⟩ 1 1 [.int .i64 x] rfl rfl (by have := cell_one_new (w.alloc (.cells #[] 3)) (.int .i64 x) 3; simpa using this) (by simp [Value.oneCell']) (by unfold maxLen; omega) (by omega) (alloc_size HB0.out) ?_; intro v5 w5 hown5 hgrow5 _; rw [Nat.zero_add, List.nil_append] at hown5; obtain ⟨g5, cp5, rfl⟩ := Joins.ownsRow_form hown5 (Nat.succ_pos _); have HB5 : Hid (Below w.heap.size w w5) := grown_bel (HB0.out.alloc HB0.out.size _) hgrow5 (alloc_size HB0.out) (fun k hk => (own0.out.lt k hk).1); have own5 : Hid (w5.ownsRow w.heap.size 3 1 (.slice (some ⟨g5, 0, none⟩) 1 cp5) 1 [Value.int .i64 x]) := hown5; clear hown5 hgrow5) | (at_builtin; refine wpList_append_own_none rfl (.tmp 43) (.tmp 46) 29 rfl w.heap.size 3 i0 1 Try.underlying29 hi _ _ _ rfl own5.out rfl ?_))
    go_ret
    exact ⟨_, rfl, own5.out, HB5.out⟩

theorem lputM_any (B : Nat) (v : Value) (ms : List Int) (x : Int) (w : World) (hS : OwnM B w v ms) (hN : ms = [] → v = .slice none 0 0) (hl : ms.length ≤ 16) (hB : B ≤ w.heap.size) :
    Calls Try.prog 92 #[v, .int .i64 x] w fun e w' => ∃ (v' : Value) (ms' : List Int), e = .returned v' ∧ OwnM B w' v' ms' ∧ 1 ≤ ms'.length ∧ ms'.length ≤ ms.length + 1 ∧ Below w.heap.size w w' := by
  rcases hS.form with ⟨rfl, rfl⟩ | ⟨g, cap, rfl, hc, os⟩
  · refine (lput_nil x w).mono ?_
    rintro e w1 ⟨v', he, ho, hb⟩
    exact ⟨v', [x], he, ho.mono hB, Nat.le_refl _, Nat.le_refl _, hb⟩
  · by_cases h0 : ms.length = 0
    · have : ms = [] := List.length_eq_zero_iff.1 h0
      exact absurd (hN this) (by simp)
    · refine (lputO_any g 0 cap ms x w (by omega) hl hc os.rowAt).mono ?_
      rintro e w1 (⟨hm, he, hw⟩ | ⟨hm, g2, cp2, he, ho, hb⟩)
      · subst hw
        exact ⟨_, ms, he, hS, by omega, by omega, Below.refl _ _⟩
      · refine ⟨_, joinL ms x, he, ?_, by rw [joinL_len]; omega, by rw [joinL_len]; exact Nat.le_refl _, hb⟩
        unfold OwnM
        rw [joinL_len]
        exact Joins.ownsRow_le ho hB
end Go.Proofs.Ytgmdbihdnacpjaa
namespace Go.Proofs.Ytgmdbihdnacpjaa
open Go.RowKit
set_option linter.unusedVariables false

/-- nothing that was there has turned but block g -/
structure Mv (g : Nat) (w w' : World) : Prop where
  os : w'.os = w.os
  tape : w'.tape = w.tape
  output : w'.output = w.output
  size : w.heap.size ≤ w'.heap.size
  block : ∀ k, k < w.heap.size → ¬ k = g → w'.heap[k]? = w.heap[k]?
theorem Mv.refl (g : Nat) (w : World) : Mv g w w := ⟨rfl, rfl, rfl, Nat.le_refl _, fun _ _ _ => rfl⟩
theorem Mv.of_below {g : Nat} {w w' : World} (h : Below w.heap.size w w') : Mv g w w' := ⟨h.os, h.tape, h.output, h.size, fun k hk _ => h.block k hk⟩
theorem Mv.trans {g : Nat} {a b c : World} (h : Mv g a b) (k : Mv g b c) : Mv g a c :=
  ⟨k.os.trans h.os, k.tape.trans h.tape, k.output.trans h.output, Nat.le_trans h.size k.size, fun i hi hg => (k.block i (Nat.lt_of_lt_of_le hi h.size) hg).trans (h.block i hi hg)⟩
theorem Mv.below {g : Nat} {w0 w w' : World} (h : Mv g w w') (hb : Below w0.heap.size w0 w) (hg : w0.heap.size ≤ g) : Below w0.heap.size w0 w' :=
  hb.trans ⟨h.os, h.tape, h.output, h.size, fun k hk => h.block k (Nat.lt_of_lt_of_le hk hb.size) (by omega)⟩
theorem Mv.drewN {g : Nat} {w w' : World} (h : Mv g w w') (n : Nat) : Mv g w (w'.drewN n) := ⟨h.os, h.tape, h.output, h.size, h.block⟩
theorem Mv.setCell {g : Nat} {w w' : World} (h : Mv g w w') (i : Nat) (v : Value) : Mv g w (w'.setCell ⟨g, i, none⟩ v) :=
  ⟨h.os, h.tape, h.output, by simpa [World.setCell] using h.size, fun k hk hg => (heap_setCell_other _ _ _ _ hg).trans (h.block k hk hg)⟩
theorem Mv.cell {g : Nat} {w w' : World} (h : Mv g w w') {b o : Nat} (hb : b < w.heap.size) (hg : ¬ b = g) : w'.cell? ⟨b, o, none⟩ = w.cell? ⟨b, o, none⟩ := World.cell?_of_block (w := w) (h.block b hb hg)

/-- a row of bytes that is read -/
def RowU (w : World) (g : Nat) (a : Option Addr) (zs : List Int) : Prop :=
  zs = [] ∨ ∃ b off, a = some ⟨b, off, none⟩ ∧ b < w.heap.size ∧ ¬ b = g ∧ ∀ i, i < zs.length → w.cell? ⟨b, off + i, none⟩ = some (.int .u8 (zs.getD i 0)) ∧ 0 ≤ zs.getD i 0 ∧ zs.getD i 0 ≤ 255
theorem RowU.keep {w w1 : World} {g : Nat} {a : Option Addr} {zs : List Int} (h : RowU w g a zs) (hm : Mv g w w1) : RowU w1 g a zs := by
  rcases h with h | ⟨b, off, ha, hl, hg, hc⟩
  · exact .inl h
  · exact .inr ⟨b, off, ha, Nat.lt_of_lt_of_le hl hm.size, hg, fun i hi => ⟨(hm.cell hl hg).trans (hc i hi).1, (hc i hi).2⟩⟩

structure CurAt (w : World) (g n : Nat) (a : Option Addr) (cap : Nat) (zs : List Int) : Prop where
  st : ∃ (k : Nat) (sd : Int), w.heap[g]? = some (.cells #[.slice a zs.length cap, .int .i64 k, .int .u64 sd] 66 (0, 0)) ∧ k ≤ n ∧ (Lit.int .u64 sd).wf = true
  row : RowU w g a zs
  len : zs.length ≤ 1048576

theorem and255 {x : Int} (h : (Lit.int .u64 x).wf = true) : 0 ≤ bits .and .u64 x 255 ∧ bits .and .u64 x 255 ≤ 255 := by
  obtain ⟨h1, h2⟩ := bounds_u64 h
  obtain ⟨n, rfl⟩ := Int.eq_ofNat_of_zero_le h1
  have e := bits_and_u64_nat n 255 (by omega) (by omega)
  rw [show ((255 : Nat) : Int) = 255 from rfl] at e
  rw [e]
  have := @Nat.and_le_right n 255
  omega

theorem next_end {w : World} {g n : Nat} {a : Option Addr} {cap : Nat} {zs : List Int} {k : Nat} {sd : Int} (hB : w.heap[g]? = some (.cells #[.slice a zs.length cap, .int .i64 k, .int .u64 sd] 66 (0, 0))) (hk : k ≤ n) (hR : RowU w g a zs) (hl : zs.length ≤ 1048576) (m1 m2 : Nat) (e : Int) :
    Mv g w ((((w.drewN m1).setCell ⟨g, 1, none⟩ (.int .i64 ((k : Int) + 1))).setCell ⟨g, 2, none⟩ (.int .u64 (IntKind.u64.wrap e))).drewN m2) ∧
    CurAt ((((w.drewN m1).setCell ⟨g, 1, none⟩ (.int .i64 ((k : Int) + 1))).setCell ⟨g, 2, none⟩ (.int .u64 (IntKind.u64.wrap e))).drewN m2) g (n + 1) a cap zs := by
  have hm : Mv g w ((((w.drewN m1).setCell ⟨g, 1, none⟩ (.int .i64 ((k : Int) + 1))).setCell ⟨g, 2, none⟩ (.int .u64 (IntKind.u64.wrap e))).drewN m2) := ((((Mv.refl g w).drewN m1).setCell _ _).setCell _ _).drewN m2
  refine ⟨hm, ⟨k + 1, IntKind.u64.wrap e, ?_, by omega, wf_wrap _ _⟩, hR.keep hm, hl⟩
  have h0 : (w.drewN m1).heap[g]? = some (.cells #[.slice a zs.length cap, .int .i64 k, .int .u64 sd] 66 (0, 0)) := hB
  have h1 := heap_setCell_same _ _ 1 _ _ (.int .i64 ((k : Int) + 1)) h0
  have h2 := heap_setCell_same _ _ 2 _ _ (.int .u64 (IntKind.u64.wrap e)) h1
  exact h2
theorem next_bits {y : Int} (x : Int) (hy : y = IntKind.u64.wrap x / 1099511627776) : 0 ≤ wrap64 (bits .and .u64 y 255) ∧ wrap64 (bits .and .u64 y 255) ≤ 255 := by
  have hw := bounds_u64 (wf_wrap .u64 x)
  have h1 : (Lit.int .u64 y).wf = true := by
    subst hy
    simp [Lit.wf, IntKind.min, IntKind.max, IntKind.signed, IntKind.bits]
    omega
  have h2 := and255 h1
  rw [IntWalk.wrap64_in _ (by omega)]
  exact h2

set_option maxHeartbeats 1600000 in
theorem next_any (w : World) (g n : Nat) (a : Option Addr) (cap : Nat) (zs : List Int) (hc : CurAt w g n a cap zs) (hn : n ≤ 1099511627776) :
    Calls Try.prog 89 #[.pointer (some ⟨g, 0, none⟩)] w fun e w' => ∃ v : Int, e = .returned (.int .i64 v) ∧ 0 ≤ v ∧ v ≤ 255 ∧ Mv g w w' ∧ CurAt w' g (n + 1) a cap zs := by
  obtain ⟨⟨k, sd, hblk, hk, hsd⟩, hrow, hlen⟩ := hc
  have c0 : w.cell? ⟨g, 0, none⟩ = some (.slice a zs.length cap) := (cell_of_row w _ _ _ _ _ hblk).trans rfl
  have c1 : w.cell? ⟨g, 1, none⟩ = some (.int .i64 k) := (cell_of_row w _ _ _ _ _ hblk).trans rfl
  have c2 : w.cell? ⟨g, 2, none⟩ = some (.int .u64 sd) := (cell_of_row w _ _ _ _ _ hblk).trans rfl
  have f1 : w.frozen? ⟨g, 1, none⟩ = false := frozen_of_row w _ _ _ _ hblk
  have f2 : w.frozen? ⟨g, 2, none⟩ = false := frozen_of_row w _ _ _ _ hblk
  have HB : Hid _ := hblk
  have HR : Hid _ := hrow
  have HS : Hid _ := hsd
  clear hblk hrow hsd
  by_cases hlt : k < zs.length
  · obtain ⟨bk, off, rfl⟩ : ∃ bk off, a = some ⟨bk, off, none⟩ := by
      rcases HR.out with h | ⟨b, o, h, _⟩
      · rw [h] at hlt; simp at hlt
      · exact ⟨b, o, h⟩
    have hby : w.cell? ⟨bk, off + k, none⟩ = some (.int .u8 (zs.getD k 0)) ∧ 0 ≤ zs.getD k 0 ∧ zs.getD k 0 ≤ 255 := by
      rcases HR.out with h | ⟨b, o, h, _, _, hc⟩
      · rw [h] at hlt; simp at hlt
      · simp at h; obtain ⟨rfl, rfl⟩ := h; exact hc k hlt
    obtain ⟨hby, z1, z2⟩ := hby
    generalize zs.getD k 0 = z at hby z1 z2
    go_enter Try.func89, Try.ntmps89
    go_wp2_with fail
    go_quiet (fail)
    go_wp2_with fail
    go_quiet (fail)
    go_wp2_with fail
    go_quiet (fail)
    go_wp2
    go_ret
    exact ⟨z, rfl, z1, z2, next_end HB.out hk HR.out hlen _ _ _⟩
  · go_enter Try.func89, Try.ntmps89
    go_wp2_with fail
    go_quiet (fail)
    go_wp2_with fail
    go_quiet (fail)
    go_wp2
    go_ret
    exact ⟨_, rfl, (next_bits _ rfl).1, (next_bits _ rfl).2, next_end HB.out hk HR.out hlen _ _ _⟩

theorem keepM {g : Nat} {W w1 : World} {bk o : Nat} {u : Value} (hm : Mv g W w1) (hl : bk < W.heap.size) (hg : ¬ bk = g) (h : W.cell? ⟨bk, o, none⟩ = some u) : w1.cell? ⟨bk, o, none⟩ = some u := (hm.cell hl hg).trans h
theorem CurAt.lt {w : World} {g n : Nat} {a : Option Addr} {cap : Nat} {zs : List Int} (h : CurAt w g n a cap zs) : g < w.heap.size := by
  obtain ⟨k, sd, hb, _⟩ := h.st
  exact (Array.getElem?_eq_some_iff.1 hb).1
theorem CurAt.keep {w w1 : World} {g n : Nat} {a : Option Addr} {cap : Nat} {zs : List Int} (h : CurAt w g n a cap zs) (hb : Below w.heap.size w w1) : CurAt w1 g n a cap zs := by
  have hlt := h.lt
  obtain ⟨⟨k, sd, hbk, h2⟩, hr, hl⟩ := h
  exact ⟨⟨k, sd, (hb.block g hlt).trans hbk, h2⟩, hr.keep (Mv.of_below hb), hl⟩
theorem CurAt.more {w : World} {g n m : Nat} {a : Option Addr} {cap : Nat} {zs : List Int} (h : CurAt w g n a cap zs) (hm : n ≤ m) : CurAt w g m a cap zs := by
  obtain ⟨⟨k, sd, hbk, h2, h3⟩, hr, hl⟩ := h
  exact ⟨⟨k, sd, hbk, by omega, h3⟩, hr, hl⟩

set_option maxHeartbeats 800000 in
theorem pick_any (m : Int) (w : World) (g n : Nat) (a : Option Addr) (cap : Nat) (zs : List Int) (hc : CurAt w g n a cap zs) (hn : n ≤ 1000000000) (h1 : 1 ≤ m) (h2 : m ≤ 65536) :
    Calls Try.prog 41 #[.pointer (some ⟨g, 0, none⟩), .int .i64 m] w fun e w' => ∃ v : Int, e = .returned (.int .i64 v) ∧ 0 ≤ v ∧ v < m ∧ Mv g w w' ∧ CurAt w' g (n + 2) a cap zs := by
  by_cases hm : m ≤ 1
  · go_enter Try.func41, Try.ntmps41
    go_wp2
    go_ret
    exact ⟨0, rfl, by omega, by omega, Mv.refl _ _, hc.more (by omega)⟩
  · by_cases hb : 200 < m
    · go_enter Try.func41, Try.ntmps41
      go_wp2_with fail
      refine (next_any _ _ _ _ _ _ hc (by omega)).mono ?_
      rintro e w1 ⟨v1, rfl, p1, p2, mv1, hc1⟩
      go_wp2_with fail
      refine (next_any _ _ _ _ _ _ hc1 (by omega)).mono ?_
      rintro e w2 ⟨v2, rfl, p3, p4, mv2, hc2⟩
      go_wp2
      go_ret
      exact ⟨_, rfl, Int.emod_nonneg _ (by omega), Int.emod_lt_of_pos _ (by omega), mv1.trans mv2, hc2⟩
    · go_enter Try.func41, Try.ntmps41
      go_wp2_with fail
      refine (next_any _ _ _ _ _ _ hc (by omega)).mono ?_
      rintro e w1 ⟨v1, rfl, p1, p2, mv1, hc1⟩
      go_wp2
      go_ret
      exact ⟨_, rfl, Int.emod_nonneg _ (by omega), Int.emod_lt_of_pos _ (by omega), mv1, hc1.more (by omega)⟩

theorem one_any (m : Int) (w : World) (g n : Nat) (a : Option Addr) (cap : Nat) (zs : List Int) (hc : CurAt w g n a cap zs) (hn : n ≤ 1000000000) (h1 : 1 ≤ m) (h2 : m ≤ 65536) :
    Calls Try.prog 42 #[.pointer (some ⟨g, 0, none⟩), .int .i64 m] w fun e w' => ∃ v : Bool, e = .returned (.bool v) ∧ Mv g w w' ∧ CurAt w' g (n + 2) a cap zs := by
  go_enter Try.func42, Try.ntmps42
  go_wp2_with fail
  refine (pick_any _ _ _ _ _ _ _ hc hn h1 h2).mono ?_
  rintro e w1 ⟨v1, rfl, p1, p2, mv1, hc1⟩
  go_wp2
  go_ret
  exact ⟨_, rfl, mv1, hc1⟩

/-- one of some numbers that lie in a block of their own -/
theorem among_any (ys : List Int) (q cp : Nat) (w : World) (g n : Nat) (a : Option Addr) (cap : Nat) (zs : List Int) (hc : CurAt w g n a cap zs) (hn : n ≤ 1000000000) (h1 : 1 ≤ ys.length) (h2 : ys.length ≤ 65536)
    (hq : q < w.heap.size) (hg : ¬ q = g) (hy : ∀ i, i < ys.length → w.cell? ⟨q, 0 + i, none⟩ = some (.int .i64 (ys.getD i 0))) :
    Calls Try.prog 90 #[.pointer (some ⟨g, 0, none⟩), .slice (some ⟨q, 0, none⟩) ys.length cp] w fun e w' => ∃ v : Int, e = .returned (.int .i64 v) ∧ v ∈ ys ∧ Mv g w w' ∧ CurAt w' g (n + 2) a cap zs := by
  have HY : Hid _ := hy
  clear hy
  go_enter Try.func90, Try.ntmps90
  go_wp2_with fail
  refine (pick_any _ _ _ _ _ _ _ hc hn (by omega) (by omega)).mono ?_
  rintro e w1 ⟨v1, rfl, p1, p2, mv1, hc1⟩
  obtain ⟨i, rfl⟩ := Int.eq_ofNat_of_zero_le p1
  have hi : i < ys.length := by omega
  have hcell : w1.cell? ⟨q, 0 + i, none⟩ = some (.int .i64 (ys.getD i 0)) := keepM mv1 hq hg (HY.out i hi)
  rw [Nat.zero_add] at hcell
  have hmem : Hid (ys.getD i 0 ∈ ys) := by
    show ys.getD i 0 ∈ ys
    rw [List.getD_eq_getElem?_getD, List.getElem?_eq_getElem hi]
    exact List.getElem_mem hi
  generalize ys.getD i 0 = y at hcell hmem
  go_wp2
  go_ret
  exact ⟨y, rfl, hmem.out, mv1, hc1⟩
end Go.Proofs.Ytgmdbihdnacpjaa
namespace Go.Proofs.Ytgmdbihdnacpjaa
open Go.RowKit
set_option linter.unusedVariables false

theorem least_any (x y : Int) (w : World) :
    Calls Try.prog 59 #[.int .i64 x, .int .i64 y] w fun e w' => e = .returned (.int .i64 (min x y)) ∧ w' = w := by
  by_cases h : x < y
  · rw [show min x y = x from by omega]
    go_enter Try.func59, Try.ntmps59
    go_wp2
    go_ret
    exact ⟨rfl, rfl⟩
  · rw [show min x y = y from by omega]
    go_enter Try.func59, Try.ntmps59
    go_wp2
    go_ret
    exact ⟨rfl, rfl⟩
theorem most_any (x y : Int) (w : World) :
    Calls Try.prog 73 #[.int .i64 x, .int .i64 y] w fun e w' => e = .returned (.int .i64 (max x y)) ∧ w' = w := by
  by_cases h : y < x
  · rw [show max x y = x from by omega]
    go_enter Try.func73, Try.ntmps73
    go_wp2
    go_ret
    exact ⟨rfl, rfl⟩
  · rw [show max x y = y from by omega]
    go_enter Try.func73, Try.ntmps73
    go_wp2
    go_ret
    exact ⟨rfl, rfl⟩
theorem sz_bd0 {b : Int} (h1 : 0 ≤ b) (h2 : b ≤ 12) : 1 ≤ sz b ∧ sz b ≤ 4096 := by
  by_cases h : b = 0
  · subst h; decide +kernel
  · have := sz_bd (by omega : 1 ≤ b) h2; omega
theorem wrap_sz0 {b : Int} (h1 : 0 ≤ b) (h2 : b ≤ 12) : wrap64 (2 ^ b.toNat) = sz b := by
  have h := sz_bd0 h1 h2
  exact IntWalk.wrap64_in (sz b) (by omega)

set_option maxHeartbeats 1600000 in
theorem num_any (b d : Int) (w : World) (g n : Nat) (a : Option Addr) (cap : Nat) (zs : List Int) (hc : CurAt w g n a cap zs) (hn : n ≤ 100000000) :
    Calls Try.prog 43 #[.pointer (some ⟨g, 0, none⟩), .agg #[.int .i64 b, .int .i64 d]] w fun e w' => ∃ v : Int, e = .returned (.int .i64 v) ∧ -1 ≤ v ∧ v ≤ 4096 ∧ Mv g w w' ∧ CurAt w' g (n + 4) a cap zs := by
  have hlt := hc.lt
  go_enter Try.func43, Try.ntmps43
  go_wp2_with fail
  refine (most_any _ _ _).mono ?_
  rintro e w0 ⟨rfl, rfl⟩
  go_wp2_with fail
  refine (least_any _ _ _).mono ?_
  rintro e w0 ⟨rfl, rfl⟩
  have hl1 : 0 ≤ min (max b 0) 12 := by omega
  have hl2 : min (max b 0) 12 ≤ 12 := by omega
  obtain ⟨s1, s2⟩ := sz_bd0 hl1 hl2
  have hw := wrap_sz0 hl1 hl2
  generalize min (max b 0) 12 = lm at hl1 hl2 s1 s2 hw
  go_wp2_with fail
  have mv0 : Mv g w (w.alloc (.cells #[.int .i64 b, .int .i64 d] 25)) := Mv.of_below ((Below.refl _ _).alloc (Nat.le_refl _) _)
  have hc0 := hc.keep ((Below.refl _ _).alloc (Nat.le_refl _) (.cells #[.int .i64 b, .int .i64 d] 25))
  rw [hw]
  clear hw
  generalize sz lm = m at s1 s2
  refine (one_any _ _ _ _ _ _ _ hc0 (by omega) (by omega) (by omega)).mono ?_
  rintro e w1 ⟨v1, rfl, mv1, hc1⟩
  cases v1
  · go_wp2_with fail
    refine (next_any _ _ _ _ _ _ hc1 (by omega)).mono ?_
    rintro e w2 ⟨v2, rfl, p1, p2, mv2, hc2⟩
    go_wp2_with fail
    refine (next_any _ _ _ _ _ _ hc2 (by omega)).mono ?_
    rintro e w3 ⟨v3, rfl, p3, p4, mv3, hc3⟩
    go_wp2
    go_ret
    have q1 : 0 ≤ (v2 * 256 + v3) % m := Int.emod_nonneg _ (by omega)
    have q2 : (v2 * 256 + v3) % m < m := Int.emod_lt_of_pos _ (by omega)
    exact ⟨_, rfl, by omega, by omega, ((mv0.trans mv1).trans mv2).trans mv3, hc3⟩
  · go_wp2_with fail
    have hs1 := mv1.size
    refine (among_any [-1, m] w1.heap.size 2 _ _ _ _ _ _ (hc1.keep ((Below.refl _ _).alloc (Nat.le_refl _) _)) (by omega) (by simp) (by simp) (by simp) (by have := hc1.lt; omega) ?hy).mono ?_
    case hy =>
      intro i hi
      match i, hi with
      | 0, _ => simp
      | 1, _ => simp
    rintro e w2 ⟨v2, rfl, hmem, mv2, hc2⟩
    simp at hmem
    go_wp2
    go_ret
    exact ⟨v2, rfl, by omega, by omega, ((mv0.trans mv1).trans (Mv.of_below ((Below.refl _ _).alloc (Nat.le_refl _) _))).trans mv2, hc2⟩
end Go.Proofs.Ytgmdbihdnacpjaa
