/- The program's copies: of a list, of peers. The program's copy of peers; the mathematics of a pointer that is set. The program's SetPoint. The specification's SetPoint. SetPoint's answers in one form. Peers that are drawn: what is kept meanwhile. Peers that are drawn. Peers that are drawn: the walk. -/
import Derived.Laws.CopyOwn
import Derived.Deep.Slices
import Derived.Test.YtejajlloipkkhaaZ0
import Derived.Test.YtejajlloipkkhaaZ1
import Derived.Test.YtejajlloipkkhaaZ2
import Derived.Test.YtejajlloipkkhaaZ3
import Derived.Test.YtejajlloipkkhaaZ4
namespace Go.Proofs.Ytejajlloipkkhaa
open Go.RowKit Go.Deep
set_option linter.unusedVariables false
theorem size_int1 : (Try.prog.info? 3).map (·.size) = some 1 := by kernel_rfl
theorem size_peer4 : (Try.prog.info? 101).map (·.size) = some 4 := by kernel_rfl
theorem ints_one1 (l : List Int) : ∀ v ∈ l.map (Value.int .i64), v.oneCell' = true := by
  intro v hv
  simp at hv
  obtain ⟨a, _, rfl⟩ := hv
  rfl
theorem splice_all1 {l m : List Int} (h : l.length = m.length) : splice (l.map (Value.int .i64)) 0 (m.map (Value.int .i64)) = m.map (Value.int .i64) := by
  simp [splice, h]
theorem row_src1 {w : World} {a : Option Addr} {zs : List Int} (h : RowAt w a zs) (hz : 0 < (zs.map (Value.int .i64)).length) (o : Obj) : ∃ ad, a = some ad ∧ ∀ j v, (zs.map (Value.int .i64))[j]? = some v → (w.alloc o).cell? (ad.add j) = some v := by
  rw [List.length_map] at hz
  obtain ⟨bk, off, rfl⟩ := rowAt_form h hz
  obtain ⟨hb, hc⟩ := rowAt_cell (h.alloc o) hz
  refine ⟨_, rfl, fun j v hv => ?_⟩
  rw [add_none']
  have hj : j < zs.length := by
    have := (List.getElem?_eq_some_iff.1 hv).1
    simpa using this
  rw [hc j hj]
  simp [List.getElem?_eq_getElem hj] at hv
  rw [← hv]
  simp [List.getD_eq_getElem?_getD, hj]
/-- a copy of elements of several cells into a row of one's own -/
theorem run_copy_many {P : Program} (w : World) (dT sT ty elem : TypeId) (g o dLen dCap : Nat) (a : Addr) (sLen sCap : Nat) (cur : Array Value) (t : TypeId) (cs : List Value) (z n : Nat)
    (hu : P.underlying dT = some (.slice elem)) (hs : (P.info? elem).map (·.size) = some z)
    (hg : w.heap[g]? = some (.cells cur t (0, 0))) (hn : Nat.min sLen dLen = n) (hc : cs.length = n * z)
    (hsrc : ∀ j v, cs[j]? = some v → w.cell? (a.add j) = some v) (hfit : o + cs.length ≤ cur.size) (h1 : ∀ v ∈ cs, v.oneCell' = true) :
    (Builtin.copy_ #[dT, sT] ty #[.slice (some ⟨g, o, none⟩) dLen dCap, .slice (some a) sLen sCap]).run P w =
      .ok (goInt n) (w.setRow g (cur.toList.take o ++ cs ++ cur.toList.drop (o + cs.length)).toArray) := by
  have hl := run_loadCells_list (P := P) w a cs hsrc
  have hst := run_storeCells_at P g o t cs 0 cur w hg (by simpa using hfit) h1
  rw [hc] at hl
  cases hq : P.info? elem with
  | none => simp [hq] at hs
  | some i =>
    have hi : i.size = z := by simpa [hq] using hs
    simp [Builtin.copy_, run_underlying hu, Builtin.lenOf, Builtin.firstCells, sizeOf, typeInfo, hq, hi, hn, hl, hst]
theorem wpList_copy_many {P : Program} {w : World} {ops : Array Oper} {rest : List Oper} {o : Oper} {a : Act} {Q : Exit → Act → World → Prop} (hgd : o.guard = none) (d s : Operand) (dT sT : TypeId)
    (ho : o.op = .call { callee := .builtin .copy, args := #[d, s], argTypes := #[dT, sT] }) (elem : TypeId) (z n : Nat) (hu : P.underlying dT = some (.slice elem)) (hsz : (P.info? elem).map (·.size) = some z)
    (g off dLen dCap : Nat) (ad : Addr) (sLen sCap : Nat) (hd : a.eval d = .slice (some ⟨g, off, none⟩) dLen dCap) (hs : a.eval s = .slice (some ad) sLen sCap)
    (cur : Array Value) (t : TypeId) (hg : w.heap[g]? = some (.cells cur t (0, 0))) (cs : List Value) (hn : Nat.min sLen dLen = n) (hc : cs.length = n * z)
    (hsrc : ∀ j v, cs[j]? = some v → w.cell? (ad.add j) = some v) (hfit : off + cs.length ≤ cur.size) (h1 : ∀ v ∈ cs, v.oneCell' = true) (B : Nat) (w0 : World) (hb : Below B w0 w) (hBg : B ≤ g)
    (h : ∀ w', Hid (w'.heap[g]? = some (.cells (cur.toList.take off ++ cs ++ cur.toList.drop (off + cs.length)).toArray t (0, 0))) → Hid (Below B w0 w') → Hid (w'.heap.size = w.heap.size ∧ ∀ k, ¬ k = g → w'.heap[k]? = w.heap[k]?) → wpList P ops Q rest (a.put o.dst (goInt n)) w') : wpList P ops Q (o :: rest) a w := by
  refine wpList_plain hgd fun K hK => ?_
  have hrun := run_copy_many (P := P) w dT sT o.type elem g off dLen dCap ad sLen sCap cur t cs z n hu hsz hg hn hc hsrc hfit h1
  unfold Oper.wp
  simp [execOp, ho, resolve, invoke, builtin, hd, hs, hrun, Result.andThen]
  refine hK _ _ ?_
  have := h _ (setRow_heap w g cur _ t _ hg) (below_setRow hb hBg _) ⟨by simp, fun k hk => setRow_other w g k _ hk⟩
  simpa using this
/-- the cells of peers that came in -/
theorem peers_src {w : World} {bk off : Nat} {ps : List Pr} (h : PeersAt w (some ⟨bk, off, none⟩) ps) (hz : 0 < ps.length) :
    ∃ L0 : List (Pr × Value), L0.map (·.1) = ps ∧ L0.length = ps.length ∧ (∀ j v, (flatP L0)[j]? = some v → w.cell? ⟨bk, off + j, none⟩ = some v) ∧ (∀ v ∈ flatP L0, v.oneCell' = true) ∧
      ∀ i, i < ps.length → (L0.getD i d0).1 = ps.getD i pr0 ∧ ∃ ab cb, (L0.getD i d0).2 = .slice ab (ps.getD i pr0).backs.length cb ∧ RowAt w ab (ps.getD i pr0).backs := by
  obtain ⟨hb, hc⟩ := peersAt_cell h hz
  have key : ∀ i, i < ps.length → ∃ v : Value, w.cell? ⟨bk, off + i * 4 + 3, none⟩ = some v ∧ ∃ ab cb, v = .slice ab (ps.getD i pr0).backs.length cb ∧ RowAt w ab (ps.getD i pr0).backs := fun i hi => by
    obtain ⟨_, _, _, ab, cb, c3, hr, _, _⟩ := hc i hi
    exact ⟨_, c3, ab, cb, rfl, hr⟩
  obtain ⟨f, hf⟩ := @choose_lt Value ⟨.bool false⟩ _ _ key
  have hL : ∀ i, i < ps.length → ((List.range ps.length).map (fun i => (ps.getD i pr0, f i))).getD i d0 = (ps.getD i pr0, f i) := fun i hi => by simp [List.getD_eq_getElem?_getD, hi]
  refine ⟨(List.range ps.length).map (fun i => (ps.getD i pr0, f i)), ?_, by simp, ?_, ?_, ?_⟩
  · refine List.ext_getElem (by simp) (fun i h1 h2 => ?_)
    simp [List.getD_eq_getElem?_getD, h2]
  · intro j v hj
    have hjl : j < ((List.range ps.length).map (fun i => (ps.getD i pr0, f i))).length * 4 := by
      have := (List.getElem?_eq_some_iff.1 hj).1
      rwa [flatP_len] at this
    have hi : j / 4 < ((List.range ps.length).map (fun i => (ps.getD i pr0, f i))).length := by omega
    obtain ⟨g0, g1, g2, g3⟩ := flatP_get _ (j / 4) hi
    have hi' : j / 4 < ps.length := by simpa using hi
    rw [hL _ hi'] at g0 g1 g2 g3
    obtain ⟨c0, c1, c2, _⟩ := hc (j / 4) hi'
    have c3 := (hf (j / 4) hi').1
    have hm : j % 4 = 0 ∨ j % 4 = 1 ∨ j % 4 = 2 ∨ j % 4 = 3 := by omega
    rcases hm with hm | hm | hm | hm
    · have e : j = j / 4 * 4 := by omega
      rw [e] at hj ⊢
      rw [g0] at hj
      rw [← hj]; exact c0
    · have e : j = j / 4 * 4 + 1 := by omega
      rw [e] at hj ⊢
      rw [g1] at hj
      rw [← hj, ← Nat.add_assoc]; exact c1
    · have e : j = j / 4 * 4 + 2 := by omega
      rw [e] at hj ⊢
      rw [g2] at hj
      rw [← hj, ← Nat.add_assoc]; exact c2
    · have e : j = j / 4 * 4 + 3 := by omega
      rw [e] at hj ⊢
      rw [g3] at hj
      rw [← hj, ← Nat.add_assoc]; exact c3
  · intro v hv
    have one : ∀ L : List (Pr × Value), (∀ e ∈ L, e.2.oneCell' = true) → ∀ v ∈ flatP L, v.oneCell' = true := fun L => by
      induction L with
      | nil => intro _ v hv; simp [flatP] at hv
      | cons e L ih =>
        intro h v hv
        simp only [flatP, List.mem_cons] at hv
        rcases hv with rfl | rfl | rfl | rfl | hv
        · rfl
        · rfl
        · rfl
        · exact h _ (by simp)
        · exact ih (fun e he => h e (by simp [he])) v hv
    refine one _ (fun e he => ?_) v hv
    simp only [List.mem_map, List.mem_range] at he
    obtain ⟨i, hi, rfl⟩ := he
    obtain ⟨_, ab, cb, hv, _⟩ := hf i hi
    show (f i).oneCell' = true
    rw [hv]; rfl
  · intro i hi
    rw [hL i hi]
    obtain ⟨_, ab, cb, hv, hr⟩ := hf i hi
    exact ⟨rfl, ab, cb, hv, hr⟩
theorem flatP_set (v : Value) : ∀ (L : List (Pr × Value)) (i : Nat), i < L.length → (flatP L).set (i * 4 + 3) v = flatP (L.set i ((L.getD i d0).1, v))
  | [], i, h => by simp at h
  | e :: L, 0, h => by simp [flatP]
  | e :: L, i + 1, h => by
    have := flatP_set v L i (by simpa using h)
    have e0 : (i + 1) * 4 + 3 = i * 4 + 3 + 4 := by omega
    rw [e0]
    simp only [flatP, List.getD_cons_succ, List.set_cons_succ, List.set]
    rw [this]
/-- peers on the way into new memory: the first k have lists of their own -/
structure CPS (w wr : World) (L0 M : List (Pr × Value)) (k : Nat) : Prop where
  bel : Below w.heap.size w wr
  r : wr.heap[w.heap.size]? = some (.cells #[.int .i64 0, .int .i64 0, .slice none 0 0] 28 (0, 0))
  row : wr.heap[w.heap.size + 1]? = some (.cells (flatP M).toArray 101 (0, 0))
  len : M.length = L0.length
  fst : ∀ i, i < L0.length → (M.getD i d0).1 = (L0.getD i d0).1
  old : ∀ i, k ≤ i → i < L0.length → M.getD i d0 = L0.getD i d0
  val : ∀ i, i < k → i < L0.length → ValOk (w.heap.size + 2) wr.heap.size wr (M.getD i d0)
  sep : ∀ i j, i < j → j < k → j < L0.length → ¬ (M.getD i d0).1.backs = [] → ¬ (M.getD j d0).1.backs = [] → ¬ (M.getD i d0).2.ownBlock = (M.getD j d0).2.ownBlock
theorem CPS.lt {w wr : World} {L0 M : List (Pr × Value)} {k : Nat} (h : CPS w wr L0 M k) : w.heap.size + 1 < wr.heap.size := (Array.getElem?_eq_some_iff.1 h.row).1
theorem CPS.cell {w wr : World} {L0 M : List (Pr × Value)} {k : Nat} (h : CPS w wr L0 M k) {i : Nat} (hi : i < L0.length) : wr.cell? ⟨w.heap.size + 1, i * 4 + 3, none⟩ = some (M.getD i d0).2 ∧ wr.frozen? ⟨w.heap.size + 1, i * 4 + 3, none⟩ = false := by
  refine ⟨(cell_of_row wr _ _ _ _ _ h.row).trans ?_, frozen_of_row wr _ _ _ _ h.row⟩
  have := (flatP_get M i (by rw [h.len]; exact hi)).2.2.2
  simpa using this
theorem CPS.step {w wr w1 : World} {L0 M : List (Pr × Value)} {k gb : Nat} {bs : List Int} (h : CPS w wr L0 M k) (hk : k < L0.length) (hb : Below wr.heap.size wr w1) (hbs : bs = (M.getD k d0).1.backs) (hm : bs.length ≤ 1048576) (os : OwnS wr.heap.size w1 gb bs) :
    CPS w (w1.setCell ⟨w.heap.size + 1, k * 4 + 3, none⟩ (.slice (some ⟨gb, 0, none⟩) bs.length bs.length)) L0 (M.set k ((M.getD k d0).1, .slice (some ⟨gb, 0, none⟩) bs.length bs.length)) (k + 1) := by
  have hlt := h.lt
  have hkM : k < M.length := by rw [h.len]; exact hk
  have hblk : ∀ q, ¬ q = w.heap.size + 1 → q < wr.heap.size → (w1.setCell ⟨w.heap.size + 1, k * 4 + 3, none⟩ (.slice (some ⟨gb, 0, none⟩) bs.length bs.length)).heap[q]? = wr.heap[q]? := fun q hq hl => (heap_setCell_other _ _ _ _ (by simpa using hq)).trans (hb.block q hl)
  have hss : (w1.setCell ⟨w.heap.size + 1, k * 4 + 3, none⟩ (.slice (some ⟨gb, 0, none⟩) bs.length bs.length)).heap.size = w1.heap.size := by simp [World.setCell]
  have hslo := os.lo
  have hslt := os.lt
  have vold : ∀ e, ValOk (w.heap.size + 2) wr.heap.size wr e → ValOk (w.heap.size + 2) w1.heap.size (w1.setCell ⟨w.heap.size + 1, k * 4 + 3, none⟩ (.slice (some ⟨gb, 0, none⟩) bs.length bs.length)) e := fun e he =>
    (he.blocks (fun q h1 h2 h3 => hblk q (by omega) h3)).wide hb.size
  refine ⟨(belt h.bel hb).setCell (p := ⟨w.heap.size + 1, k * 4 + 3, none⟩) (by simp) _, (hblk _ (by omega) (by omega)).trans h.r, ?_, by rw [List.length_set]; exact h.len, fun i hi => ?_, fun i h1 h2 => ?_, fun i h1 h2 => ?_, fun i j hij h1 h2 => ?_⟩
  · rw [heap_setCell_same _ _ _ _ _ _ ((hb.block _ hlt).trans h.row)]
    rw [← flatP_set _ M k hkM]
    simp
  · rw [getD_set (by rw [h.len]; exact hi)]
    by_cases he : k = i
    · subst he; rw [if_pos rfl]; exact h.fst k hk
    · rw [if_neg he]; exact h.fst i hi
  · rw [getD_set (by rw [h.len]; exact h2), if_neg (by omega)]
    exact h.old i (by omega) h2
  · rw [hss, getD_set (by rw [h.len]; exact h2)]
    by_cases he : k = i
    · subst he
      rw [if_pos rfl]
      subst hbs
      exact ⟨_, _, rfl, ⟨Nat.le_refl _, fun h => by cases h⟩, hm, .inr ⟨gb, rfl, hslt, (os.mono (by omega)).of_block (heap_setCell_other _ _ _ _ (by simp; omega))⟩⟩
    · rw [if_neg he]
      exact vold _ (h.val i (by omega) h2)
  · rw [getD_set (by rw [h.len]; omega), getD_set (by rw [h.len]; exact h2), if_neg (by omega)]
    by_cases he : k = j
    · subst he
      rw [if_pos rfl]
      intro hn1 _ hq
      obtain ⟨ab, cb, hv, _, _, ho⟩ := h.val i hij (by omega)
      rcases ho with ho | ⟨gi, ha, hl, _⟩
      · exact hn1 ho
      · rw [hv, ha] at hq
        simp [Value.ownBlock] at hq
        omega
    · rw [if_neg he]
      exact h.sep i j hij (by omega) h2
theorem CPS.done {w wr : World} {L0 M : List (Pr × Value)} (h : CPS w wr L0 M L0.length) : OwnP (w.heap.size + 1) wr.heap.size wr (w.heap.size + 1) M := by
  have get : ∀ j v, (flatP M)[j]? = some v → wr.cell? ⟨w.heap.size + 1, j, none⟩ = some v := fun j v hj => by
    rw [cell_of_row wr _ _ _ _ _ h.row]; simpa using hj
  refine ⟨Nat.le_refl _, h.lt, ⟨_, h.row⟩, fun i hi => ?_, fun i hi => ?_, fun i j hij hj => h.sep i j hij (by rw [← h.len]; exact hj) (by rw [← h.len]; exact hj)⟩
  · obtain ⟨f0, f1, f2, f3⟩ := flatP_get M i hi
    exact ⟨get _ _ f0, get _ _ f1, get _ _ f2, get _ _ f3⟩
  · obtain ⟨ab, cb, hv, hc, hm, ho⟩ := h.val i (by rw [← h.len]; exact hi) (by rw [← h.len]; exact hi)
    refine ⟨ab, cb, hv, hc, hm, ?_⟩
    rcases ho with ho | ⟨gb, ha, hl, os⟩
    · exact .inl ho
    · exact .inr ⟨gb, ha, hl, os.mono (by omega)⟩
end Go.Proofs.Ytejajlloipkkhaa
namespace Go.Proofs.Ytejajlloipkkhaa
open Go.RowKit Go.Deep
set_option linter.unusedVariables false
theorem made_len (n : Nat) : (madeCells #[Value.int .i64 0, .int .i64 0, .int .i64 0, .slice none 0 0] (n * 4)).size = n * 4 := by simp [size_madeCells]
def spL (ps : List Pr) (x pt : Int) (bs : List Int) : List Pr := ps.map (fun p => if p.id = x then ⟨p.id, p.succ, pt, bs⟩ else p)
def spOk (b d : Int) (ps : List Pr) (x pt : Int) (bs : List Int) : Bool := goodP b d ps && memI (idsP ps) x && memI (idsP ps) pt && bokB (idsP ps) bs
theorem spL_len (ps : List Pr) (x pt : Int) (bs : List Int) : (spL ps x pt bs).length = ps.length := by simp [spL]
theorem spL_get {ps : List Pr} {x pt : Int} {bs : List Int} {i : Nat} (hi : i < ps.length) : (spL ps x pt bs).getD i pr0 = if (ps.getD i pr0).id = x then ⟨(ps.getD i pr0).id, (ps.getD i pr0).succ, pt, bs⟩ else ps.getD i pr0 := by
  simp [spL, List.getD_eq_getElem?_getD, hi]
/-- in a ring the member below whom as many are as the place tells is one alone -/
theorem blw_one {b d : Int} {zs : List Int} (R : Ring b d zs) {x : Int} (hx : memI zs x = true) {i : Nat} (hi : i < zs.length) : zs.getD i 0 = x ↔ i = blw zs x := by
  have h := of_decide_eq_true hx
  constructor
  · intro he
    by_cases h1 : i < blw zs x
    · have := R.ris i (blw zs x) h1 h.1
      omega
    · by_cases h2 : blw zs x < i
      · have := R.ris (blw zs x) i h2 hi
        omega
      · omega
  · intro he
    rw [he]; exact h.2
end Go.Proofs.Ytejajlloipkkhaa
namespace Go.Proofs.Ytejajlloipkkhaa
open Go.RowKit Go.Deep
set_option linter.unusedVariables false
/-- the argument's box, the answer's box, the box of peers at X, their list at G -/
structure SPS (w wr : World) (S0 : Array Value) (T0 : TypeId) (b d : Int) (X G n c : Nat) (L : List (Pr × Value)) : Prop where
  rb : RB w wr S0 T0
  lo : w.heap.size + 2 ≤ X
  p : wr.heap[X]? = some (.cells #[.int .i64 b, .int .i64 d, .slice (some ⟨G, 0, none⟩) n c] 28 (0, 0))
  ow : OwnP (w.heap.size + 2) wr.heap.size wr G L
theorem SPS.hi {w wr : World} {S0 : Array Value} {T0 : TypeId} {b d : Int} {X G n c : Nat} {L : List (Pr × Value)} (h : SPS w wr S0 T0 b d X G n c L) : X < wr.heap.size := (Array.getElem?_eq_some_iff.1 h.p).1
theorem SPS.ne {w wr : World} {S0 : Array Value} {T0 : TypeId} {b d : Int} {X G n c : Nat} {L : List (Pr × Value)} (h : SPS w wr S0 T0 b d X G n c L) : ¬ X = G := fun he => by
  obtain ⟨cur, hc⟩ := h.ow.blk
  have hp := h.p
  rw [he, hc] at hp
  simp at hp
theorem SPS.keep {w wr w1 : World} {S0 : Array Value} {T0 : TypeId} {b d : Int} {X G n c : Nat} {L : List (Pr × Value)} (h : SPS w wr S0 T0 b d X G n c L) (hb : Below wr.heap.size wr w1) : SPS w w1 S0 T0 b d X G n c L :=
  ⟨h.rb.keep hb, h.lo, (hb.block X h.hi).trans h.p, (h.ow.keep hb).wide hb.size⟩
theorem SPS.put {w wr : World} {S0 : Array Value} {T0 : TypeId} {b d : Int} {X G n c : Nat} {L L' : List (Pr × Value)} {j : Nat} {v : Value} (h : SPS w wr S0 T0 b d X G n c L) (ho : OwnP (w.heap.size + 2) wr.heap.size (wr.setCell ⟨G, j, none⟩ v) G L') : SPS w (wr.setCell ⟨G, j, none⟩ v) S0 T0 b d X G n c L' := by
  have hlo := h.ow.lo
  refine ⟨h.rb.blocks (h.rb.bel.setCell (p := ⟨G, j, none⟩) (by simp; omega) _) (by simp [World.setCell]) (fun k hk => heap_setCell_other _ _ _ _ (by simp; omega)), h.lo, (heap_setCell_other _ _ _ _ (by simpa using h.ne)).trans h.p, ?_⟩
  rw [heap_size_setCell]
  exact ho
theorem SPS.num {w wr : World} {S0 : Array Value} {T0 : TypeId} {b d : Int} {X G n c : Nat} {L : List (Pr × Value)} (h : SPS w wr S0 T0 b d X G n c L) {i : Nat} (hi : i < L.length) (f : Nat) (hf : f < 3) (z : Int) :
    SPS w (wr.setCell ⟨G, i * 4 + f, none⟩ (.int .i64 z)) S0 T0 b d X G n c (L.set i (setF f (L.getD i d0).1 z, (L.getD i d0).2)) := h.put (h.ow.num hi f hf z)
theorem SPS.backs {w wr w1 : World} {S0 : Array Value} {T0 : TypeId} {b d : Int} {X G n c : Nat} {L : List (Pr × Value)} (h : SPS w wr S0 T0 b d X G n c L) (hb : Below wr.heap.size wr w1) {i : Nat} (hi : i < L.length) {bs : List Int} {gb cb : Nat} (hm : bs.length ≤ 1048576) (hcb : bs.length ≤ cb) (os : OwnS wr.heap.size w1 gb bs) :
    SPS w (w1.setCell ⟨G, i * 4 + 3, none⟩ (.slice (some ⟨gb, 0, none⟩) bs.length cb)) S0 T0 b d X G n c (L.set i (⟨(L.getD i d0).1.id, (L.getD i d0).1.succ, (L.getD i d0).1.point, bs⟩, .slice (some ⟨gb, 0, none⟩) bs.length cb)) :=
  (h.keep hb).put (h.ow.backs rfl hb hi hm hcb os)
theorem SPS.cell {w wr : World} {S0 : Array Value} {T0 : TypeId} {b d : Int} {X G n c : Nat} {L : List (Pr × Value)} (h : SPS w wr S0 T0 b d X G n c L) : wr.cell? ⟨X, 0, none⟩ = some (.int .i64 b) ∧ wr.cell? ⟨X, 1, none⟩ = some (.int .i64 d) ∧ wr.cell? ⟨X, 2, none⟩ = some (.slice (some ⟨G, 0, none⟩) n c) :=
  ⟨(cell_of_row wr _ _ _ _ _ h.p).trans rfl, (cell_of_row wr _ _ _ _ _ h.p).trans rfl, (cell_of_row wr _ _ _ _ _ h.p).trans rfl⟩
theorem SPS.at {w wr : World} {S0 : Array Value} {T0 : TypeId} {b d : Int} {X G n c : Nat} {L : List (Pr × Value)} (h : SPS w wr S0 T0 b d X G n c L) (j : Nat) : wr.frozen? ⟨G, j, none⟩ = false := by
  obtain ⟨cur, hc⟩ := h.ow.blk
  exact frozen_of_row wr _ _ _ _ hc
theorem sps0 {w wa : World} {S0 : Array Value} {T0 : TypeId} {B : Nat} {b d : Int} {G n c : Nat} {L : List (Pr × Value)} (h : RB w wa S0 T0) (ow : OwnP B wa.heap.size wa G L) (hB : w.heap.size + 2 ≤ B) :
    SPS w (wa.alloc (.cells #[.int .i64 b, .int .i64 d, .slice (some ⟨G, 0, none⟩) n c] 28)) S0 T0 b d wa.heap.size G n c L := by
  refine ⟨h.keep (belA _ _), h.lt, heap_alloc_new _ _, ?_⟩
  exact ((ow.keep (belA _ _)).wide (by simp)).mono hB
theorem sp_map {b d : Int} {ps : List Pr} {L : List (Pr × Value)} {x pt : Int} {bs : List Int} {v : Value} {q : Pr} (R : Ring b d (idsP ps)) (hx : memI (idsP ps) x = true) (hL : L.map (·.1) = ps)
    (hq : q = ⟨(L.getD (blw (idsP ps) x) d0).1.id, (L.getD (blw (idsP ps) x) d0).1.succ, pt, bs⟩) : (L.set (blw (idsP ps) x) (q, v)).map (·.1) = spL ps x pt bs := by
  have hl : L.length = ps.length := by rw [← hL, List.length_map]
  have hlg : ∀ i, i < ps.length → (L.getD i d0).1 = ps.getD i pr0 := fun i hi => by
    rw [← hL]
    simp [List.getD_eq_getElem?_getD, List.getElem?_eq_getElem (show i < L.length by omega)]
  refine map_getD (by rw [List.length_set, spL_len, hl]) (fun j hj => ?_)
  rw [spL_len] at hj
  have hj' : j < (idsP ps).length := by rw [idsP_len]; exact hj
  have h1 := blw_one R hx hj'
  rw [idsP_get] at h1
  rw [getD_set (by omega), spL_get hj]
  by_cases he : blw (idsP ps) x = j
  · rw [if_pos he, if_pos (h1.2 he.symm), hq, he, hlg j hj]
  · rw [if_neg he, if_neg (fun h => he (h1.1 h).symm), hlg j hj]
theorem spOk_false {b d : Int} {ps : List Pr} {x pt : Int} {bs : List Int} (h : goodP b d ps = false ∨ memI (idsP ps) x = false ∨ memI (idsP ps) pt = false ∨ bokB (idsP ps) bs = false) : spOk b d ps x pt bs = false := by
  unfold spOk
  rcases h with h | h | h | h <;> rw [h] <;> simp

end Go.Proofs.Ytejajlloipkkhaa
namespace Go.Proofs.Ytejajlloipkkhaa
open Go.RowKit Go.Deep
set_option linter.unusedVariables false
theorem spL_ids (ps : List Pr) (x pt : Int) (bs : List Int) : idsP (spL ps x pt bs) = idsP ps := by
  unfold idsP spL
  rw [List.map_map]
  refine List.map_congr_left (fun p _ => ?_)
  show (if p.id = x then (⟨p.id, p.succ, pt, bs⟩ : Pr) else p).id = p.id
  split <;> rfl
theorem goodP_ring' {b d : Int} {ps : List Pr} (h : goodP b d ps = true) : ringB b d (idsP ps) = true := by
  unfold goodP at h
  rw [Bool.and_eq_true] at h
  exact h.1
theorem sp_good {b d : Int} {ps : List Pr} {x pt : Int} {bs : List Int} (hg : goodP b d ps = true) (hx : memI (idsP ps) x = true) : goodP b d (spL ps x pt bs) = (memI (idsP ps) pt && bokB (idsP ps) bs) := by
  obtain ⟨R, hp⟩ := goodP_true hg
  have hil := idsP_len ps
  have hk : blw (idsP ps) x < ps.length := by have := (of_decide_eq_true hx).1; rwa [hil] at this
  have one : ∀ i, i < ps.length → ((ps.getD i pr0).id = x ↔ i = blw (idsP ps) x) := fun i hi => by
    have := blw_one R hx (i := i) (by rw [hil]; exact hi)
    rwa [idsP_get] at this
  have hq : prB (idsP ps) ((spL ps x pt bs).getD (blw (idsP ps) x) pr0) = (memI (idsP ps) pt && bokB (idsP ps) bs) := by
    rw [spL_get hk, if_pos ((one _ hk).2 rfl), ← prI_eq R]
    have := (prB_parts.1 (hp _ hk)).1
    unfold prI
    show (decide (_ = _) && memI (idsP ps) pt && bokB (idsP ps) bs) = _
    rw [decide_eq_true this]; rfl
  cases hv : (memI (idsP ps) pt && bokB (idsP ps) bs)
  · rw [hv] at hq
    exact goodP_no (k := blw (idsP ps) x) (by rw [spL_len]; exact hk) (by rw [spL_ids, hq]; simp)
  · rw [hv] at hq
    refine goodP_yes (by rw [spL_ids]; exact goodP_ring' hg) (fun i hi => ?_)
    rw [spL_len] at hi
    rw [spL_ids]
    by_cases he : i = blw (idsP ps) x
    · rw [he]; exact hq
    · rw [spL_get hi, if_neg (fun h => he ((one i hi).1 h))]
      exact hp i hi
end Go.Proofs.Ytejajlloipkkhaa
namespace Go.Proofs.Ytejajlloipkkhaa
open Go.RowKit
set_option linter.unusedVariables false
def spR (b d : Int) (ps : List Pr) (x pt : Int) (bs : List Int) : List Pr := if spOk b d ps x pt bs = true then spL ps x pt bs else []
theorem spOk_parts {b d : Int} {ps : List Pr} {x pt : Int} {bs : List Int} (h : spOk b d ps x pt bs = true) : goodP b d ps = true ∧ memI (idsP ps) x = true ∧ memI (idsP ps) pt = true ∧ bokB (idsP ps) bs = true := by
  unfold spOk at h
  simp only [Bool.and_eq_true] at h
  exact ⟨h.1.1.1, h.1.1.2, h.1.2, h.2⟩
theorem spL_good {b d : Int} {ps : List Pr} {x pt : Int} {bs : List Int} (h : spOk b d ps x pt bs = true) : goodP b d (spL ps x pt bs) = true := by
  obtain ⟨h1, h2, h3, h4⟩ := spOk_parts h
  rw [sp_good h1 h2, h3, h4]; rfl
theorem goodP_big {b d : Int} {ps : List Pr} (h : goodP b d ps = true) : ps.length + bsum ps ≤ 64 := by
  obtain ⟨R, hp⟩ := goodP_true h
  have l2 := R.l2
  rw [idsP_len] at l2
  have hb := bsum_le (c := 3) (ps := ps) (fun p hp' => by
    obtain ⟨i, hi, rfl⟩ := List.getElem_of_mem hp'
    have := (prB_parts.1 (hp i hi)).2.2.1
    simpa [List.getD_eq_getElem?_getD, hi] using this)
  omega
theorem spR_big (b d : Int) (ps : List Pr) (x pt : Int) (bs : List Int) : (spR b d ps x pt bs).length + bsum (spR b d ps x pt bs) ≤ 1048576 := by
  unfold spR
  split
  · rename_i h
    have := goodP_big (spL_good h)
    omega
  · simp [bsum]
theorem row_none {w : World} {bs : List Int} (h : RowAt w none bs) : bs = [] := by
  rcases h with h | ⟨_, _, h, _⟩
  · exact h
  · cases h
end Go.Proofs.Ytejajlloipkkhaa
namespace Go.Proofs.Ytejajlloipkkhaa
open Go.RowKit Go.Deep
set_option linter.unusedVariables false
set_option maxHeartbeats 1600000 in
theorem lIdealPeers_list (b d : Int) (n : Int) (a : Option Addr) (cap : Nat) (zs : List Int) (w : World) (hm : zs.length ≤ maxLen) (hr : RowAt w a zs) :
    Calls Try.prog 118 #[.agg #[.int .i64 b, .int .i64 d], .slice a zs.length cap, .int .i64 n] w fun e w' => ∃ v, e = .returned v ∧ Below w.heap.size w w' ∧
      ((idlOk b d zs n = false ∧ v = .tuple #[.agg #[.int .i64 0, .int .i64 0, .slice none 0 0], .bool false]) ∨ (idlOk b d zs n = true ∧ ∃ vl L, v = .tuple #[.agg #[.int .i64 b, .int .i64 d, vl], .bool true] ∧ L.map (·.1) = idealL b d zs n.toNat ∧ ListP w.heap.size w' vl L)) := by
  have rb := rb0 w #[.int .i64 b, .int .i64 d] 25
  have CR := lring_any b d a cap zs _ hm (hr.keep rb.bel)
  have HR : Hid (RowAt w a zs) := hr
  have RB0 : Hid _ := rb
  cases hok : idlOk b d zs n
  · refine (lIdealPeers_any b d n a cap zs w hm hr).mono ?_
    rintro e w1 ⟨v, rfl, hw, ⟨_, rfl⟩ | ⟨h, _⟩⟩
    · exact ⟨_, rfl, hw, .inl ⟨rfl, rfl⟩⟩
    · rw [hok] at h; cases h
  · unfold idlOk at hok
    rw [Bool.and_eq_true] at hok
    obtain ⟨hg, hn⟩ := hok
    rw [hg] at CR
    have CN : ∀ w1, Calls Try.prog 54 #[.int .i64 n, .int .i64 0, .int .i64 3] w1 fun e w' => e = .returned (.bool true) ∧ w' = w1 := fun w1 => by have := lin_any n 0 3 w1; rwa [hn] at this
    obtain ⟨n1, n2⟩ := inB_true hn
    obtain ⟨m, rfl⟩ : ∃ m : Nat, n = (m : Int) := ⟨n.toNat, by omega⟩
    have R := ringB_true hg
    have RR : Hid (Ring b d zs) := R
    clear hg hn n1 R hr rb
    go_enter Try.func118, Try.ntmps118
    go_wp2_with fail
    refine CR.mono ?_
    rintro e w1 ⟨rfl, hw1⟩
    have RB1 : Hid (RB w w1 #[.int .i64 b, .int .i64 d] 25) := RB0.out.keep hw1
    obtain ⟨s0, s1⟩ := RB1.out.arg2
    clear CR hw1
    go_wp2_with fail
    refine (CN _).mono ?_
    rintro e w2 ⟨rfl, he2⟩
    subst he2
    go_wp2_with fail
    refine (lideal_any b d m a cap zs _ RR.out (HR.out.keep RB1.out.bel) (by omega)).mono ?_
    rintro e w3 ⟨vl, L, rfl, hL, lp, hw3⟩
    have RB3 : Hid (RB w w3 #[.int .i64 b, .int .i64 d] 25) := RB1.out.keep hw3
    obtain ⟨r0, r1, r2, q0, q1, q2⟩ := RB3.out.cells
    obtain ⟨al, cl, rfl, hcl⟩ := lp.form
    have lp2 := lp.blocks (w1 := set3 w3 (w.heap.size + 1) (.int .i64 b) (.int .i64 d) (.slice al L.length cl)) (by rw [set3_size]; exact Nat.le_refl _) (fun k hk _ => set3_block (by have := RB1.out.lt; omega))
    have LP2 : Hid (ListP w.heap.size (set3 w3 (w.heap.size + 1) (.int .i64 b) (.int .i64 d) (.slice al L.length cl)) (.slice al L.length cl) L) := lp2.lower (by have := RB1.out.lt; omega)
    clear lp2 lp hw3 hcl
    go_wp2
    exact bodyPost_ret (results_cell_tmp Try.results118 _ _ (w.heap.size + 1) _ _ _ _ _ rfl rfl (set3_row RB3.out.r) Try.underlying28 rfl (by kernel_rfl)) rfl ⟨_, rfl, set3_below RB3.out.bel (by omega), .inr ⟨trivial, _, L, rfl, hL, LP2.out⟩⟩

theorem CurAt.blocks {w wr w1 : World} {g n : Nat} {a : Option Addr} {cap : Nat} {zs : List Int} (h : CurAt wr g n a cap zs) (h0 : RowU w g a zs) (mv : Mv g w w1) (hg : w1.heap[g]? = wr.heap[g]?) : CurAt w1 g n a cap zs := by
  obtain ⟨k, sd, hB, hk, hw⟩ := h.st
  exact ⟨⟨k, sd, hg.trans hB, hk, hw⟩, h0.keep mv, h.len⟩
/-- each peer has three backs at most -/
def Few (L : List (Pr × Value)) : Prop := ∀ i, i < L.length → (L.getD i d0).1.backs.length ≤ 3
theorem Few.set {L : List (Pr × Value)} {k : Nat} {e : Pr × Value} (h : Few L) (he : e.1.backs.length ≤ 3) : Few (L.set k e) := fun i hi => by
  rw [List.length_set] at hi
  rw [getD_set hi]
  split
  · exact he
  · exact h i hi
/-- the cursor, the answer's box, the space's box, the ring, the box of peers at X with their list at G -/
structure PSt (w wr : World) (g N : Nat) (a : Option Addr) (cap : Nat) (zs : List Int) (b d : Int) (Q X G c B0 bm om : Nat) (ms : List Int) (L : List (Pr × Value)) : Prop where
  mv : Mv g w wr
  cur : CurAt wr g N a cap zs
  r : wr.heap[w.heap.size]? = some (.cells #[.int .i64 0, .int .i64 0, .slice none 0 0] 28 (0, 0))
  s : wr.heap[Q]? = some (.cells #[.int .i64 b, .int .i64 d] 25 (0, 0))
  m : ∀ i, i < ms.length → wr.cell? ⟨bm, om + i, none⟩ = some (.int .i64 (ms.getD i 0))
  x : wr.heap[X]? = some (.cells #[.int .i64 b, .int .i64 d, .slice (some ⟨G, 0, none⟩) L.length c] 28 (0, 0))
  ow : OwnP B0 wr.heap.size wr G L
  few : Few L
  qlo : w.heap.size < Q
  qhi : Q < B0
  mlo : w.heap.size < bm
  mhi : bm < B0
  xlo : B0 ≤ X
  gl : g < w.heap.size
  row : RowU w g a zs
section
variable {w wr : World} {g N : Nat} {a : Option Addr} {cap : Nat} {zs : List Int} {b d : Int} {Q X G c B0 bm om : Nat} {ms : List Int} {L : List (Pr × Value)}
theorem PSt.hiX (h : PSt w wr g N a cap zs b d Q X G c B0 bm om ms L) : X < wr.heap.size := (Array.getElem?_eq_some_iff.1 h.x).1
theorem PSt.ne (h : PSt w wr g N a cap zs b d Q X G c B0 bm om ms L) : ¬ X = G := fun he => by
  obtain ⟨cur, hc⟩ := h.ow.blk
  have hp := h.x
  rw [he, hc] at hp
  simp at hp
/-- whatever changes beyond B0 but the box of peers -/
theorem PSt.chg {w1 : World} {N' : Nat} {L' : List (Pr × Value)} (h : PSt w wr g N a cap zs b d Q X G c B0 bm om ms L) (mv1 : Mv g w w1) (hc : CurAt w1 g N' a cap zs) (hs : wr.heap.size ≤ w1.heap.size) (hk : ∀ k, k < B0 → ¬ k = g → w1.heap[k]? = wr.heap[k]?) (hx : w1.heap[X]? = wr.heap[X]?)
    (ow : OwnP B0 w1.heap.size w1 G L') (hf : Few L') (hl : L'.length = L.length) : PSt w w1 g N' a cap zs b d Q X G c B0 bm om ms L' := by
  have := h.qlo
  have := h.gl
  have := h.mlo
  have := h.qhi
  have := h.mhi
  refine ⟨mv1, hc, (hk _ (by omega) (by omega)).trans h.r, (hk _ h.qhi (by omega)).trans h.s, fun i hi => ?_, by rw [hl]; exact hx.trans h.x, ow, hf, h.qlo, h.qhi, h.mlo, h.mhi, h.xlo, h.gl, h.row⟩
  exact (World.cell?_of_block (a := ⟨bm, om + i, none⟩) (hk bm h.mhi (by omega))).trans (h.m i hi)
/-- the cursor moves -/
theorem PSt.step {w1 : World} {N' : Nat} (h : PSt w wr g N a cap zs b d Q X G c B0 bm om ms L) (mv1 : Mv g wr w1) (hc : CurAt w1 g N' a cap zs) : PSt w w1 g N' a cap zs b d Q X G c B0 bm om ms L := by
  have := h.qlo
  have := h.gl
  have := h.xlo
  have := h.qhi
  have := h.hiX
  exact h.chg (h.mv.trans mv1) hc mv1.size (fun k hk hg => mv1.block k (by omega) hg) (mv1.block X h.hiX (by omega)) ((h.ow.blocks (fun k h1 _ h3 => mv1.block k h3 (by omega))).wide mv1.size) h.few rfl
theorem PSt.keep {w1 : World} (h : PSt w wr g N a cap zs b d Q X G c B0 bm om ms L) (hb : Below wr.heap.size wr w1) : PSt w w1 g N a cap zs b d Q X G c B0 bm om ms L := h.step (Mv.of_below hb) (h.cur.keep hb)
theorem PSt.more {M : Nat} (h : PSt w wr g N a cap zs b d Q X G c B0 bm om ms L) (hM : N ≤ M) : PSt w wr g M a cap zs b d Q X G c B0 bm om ms L :=
  h.chg h.mv (h.cur.more hM) (Nat.le_refl _) (fun _ _ _ => rfl) rfl h.ow h.few rfl
/-- a cell of the list, or of a list of backs, is written -/
theorem PSt.put {q j : Nat} {v : Value} {L' : List (Pr × Value)} (h : PSt w wr g N a cap zs b d Q X G c B0 bm om ms L) (hq : B0 ≤ q) (hn : ¬ X = q) (ho : OwnP B0 wr.heap.size (wr.setCell ⟨q, j, none⟩ v) G L') (hf : Few L') (hl : L'.length = L.length) : PSt w (wr.setCell ⟨q, j, none⟩ v) g N a cap zs b d Q X G c B0 bm om ms L' := by
  have := h.qlo
  have := h.gl
  have := h.qhi
  have mv1 : Mv g w (wr.setCell ⟨q, j, none⟩ v) := h.mv.put (by omega) j v
  refine h.chg mv1 (h.cur.blocks h.row mv1 (heap_setCell_other _ _ _ _ (by simp; omega))) (by simp [World.setCell]) (fun k hk _ => heap_setCell_other _ _ _ _ (by simp; omega)) (heap_setCell_other _ _ _ _ (by simpa using hn)) ?_ hf hl
  rw [heap_size_setCell]
  exact ho
theorem PSt.num (h : PSt w wr g N a cap zs b d Q X G c B0 bm om ms L) {i : Nat} (hi : i < L.length) (f : Nat) (hf : f < 3) (z : Int) :
    PSt w (wr.setCell ⟨G, i * 4 + f, none⟩ (.int .i64 z)) g N a cap zs b d Q X G c B0 bm om ms (L.set i (setF f (L.getD i d0).1 z, (L.getD i d0).2)) :=
  h.put h.ow.lo h.ne (h.ow.num hi f hf z) (h.few.set (by rw [setF_backs]; exact h.few i hi)) (by simp)
theorem PSt.backs {w1 : World} (h : PSt w wr g N a cap zs b d Q X G c B0 bm om ms L) (hb : Below wr.heap.size wr w1) {i : Nat} (hi : i < L.length) {bs : List Int} {gb cb : Nat} (hm : bs.length ≤ 3) (hcb : bs.length ≤ cb) (os : OwnS wr.heap.size w1 gb bs) :
    PSt w (w1.setCell ⟨G, i * 4 + 3, none⟩ (.slice (some ⟨gb, 0, none⟩) bs.length cb)) g N a cap zs b d Q X G c B0 bm om ms (L.set i (⟨(L.getD i d0).1.id, (L.getD i d0).1.succ, (L.getD i d0).1.point, bs⟩, .slice (some ⟨gb, 0, none⟩) bs.length cb)) :=
  (h.keep hb).put h.ow.lo h.ne (h.ow.backs rfl hb hi (by omega) hcb os) (h.few.set hm) (by simp)
/-- one of the backs is written where it lies -/
theorem PSt.back (h : PSt w wr g N a cap zs b d Q X G c B0 bm om ms L) {i j gb : Nat} (hi : i < L.length) (hj : j < (L.getD i d0).1.backs.length) (hv : (L.getD i d0).2.ownBlock = some gb) (z : Int) :
    ∃ L', PSt w (wr.setCell ⟨gb, j, none⟩ (.int .i64 z)) g N a cap zs b d Q X G c B0 bm om ms L' ∧ L'.length = L.length ∧ (∀ k, (L'.getD k d0).2 = (L.getD k d0).2 ∧ (L'.getD k d0).1.backs.length = (L.getD k d0).1.backs.length) := by
  have hn : ¬ (L.getD i d0).1.backs = [] := fun e => by rw [e] at hj; simp at hj
  obtain ⟨ab, cb, hvi, hcb, hm, ho⟩ := h.ow.val i hi
  rcases ho with ho | ⟨gi, ha, ht, os⟩
  · exact absurd ho hn
  · have e : gi = gb := by rw [hvi, ha] at hv; simpa [Value.ownBlock] using hv
    subst e
    have hlo := os.lo
    have on : Only gi wr (wr.setCell ⟨gi, j, none⟩ (.int .i64 z)) := (Only.refl gi wr).put j _
    have o2 := h.ow.tail hi (l := (L.getD i d0).1.backs.set j z) (by simp) hn hv (os.put j hj z) on
    have hne : ¬ X = gi := fun he => by
      obtain ⟨cj, hcj, _⟩ := os.row
      have hx := h.x
      rw [he, hcj] at hx
      simp at hx
    refine ⟨_, h.put hlo hne o2 (h.few.set (by simpa using h.few i hi)) (by simp), by simp, fun k => ?_⟩
    by_cases hk : k < L.length
    · rw [getD_set hk]
      by_cases hik : i = k
      · subst hik; rw [if_pos rfl]; simp
      · rw [if_neg hik]; simp
    · have h1 : (L.set i (⟨(L.getD i d0).1.id, (L.getD i d0).1.succ, (L.getD i d0).1.point, (L.getD i d0).1.backs.set j z⟩, (L.getD i d0).2)).getD k d0 = d0 := by
        rw [List.getD_eq_getElem?_getD, List.getElem?_eq_none (by simp; omega)]; rfl
      have h2 : L.getD k d0 = d0 := by rw [List.getD_eq_getElem?_getD, List.getElem?_eq_none (by omega)]; rfl
      rw [h1, h2]; exact ⟨rfl, rfl⟩
theorem PSt.xc (h : PSt w wr g N a cap zs b d Q X G c B0 bm om ms L) : wr.cell? ⟨X, 0, none⟩ = some (.int .i64 b) ∧ wr.cell? ⟨X, 1, none⟩ = some (.int .i64 d) ∧ wr.cell? ⟨X, 2, none⟩ = some (.slice (some ⟨G, 0, none⟩) L.length c) :=
  ⟨(cell_of_row wr _ _ _ _ _ h.x).trans rfl, (cell_of_row wr _ _ _ _ _ h.x).trans rfl, (cell_of_row wr _ _ _ _ _ h.x).trans rfl⟩
theorem PSt.qc (h : PSt w wr g N a cap zs b d Q X G c B0 bm om ms L) : wr.cell? ⟨Q, 0, none⟩ = some (.int .i64 b) ∧ wr.cell? ⟨Q, 1, none⟩ = some (.int .i64 d) :=
  ⟨(cell_of_row wr _ _ _ _ _ h.s).trans rfl, (cell_of_row wr _ _ _ _ _ h.s).trans rfl⟩
theorem PSt.fz (h : PSt w wr g N a cap zs b d Q X G c B0 bm om ms L) (j : Nat) : wr.frozen? ⟨G, j, none⟩ = false := by
  obtain ⟨cur, hc⟩ := h.ow.blk
  exact frozen_of_row wr _ _ _ _ hc
theorem PSt.rc (h : PSt w wr g N a cap zs b d Q X G c B0 bm om ms L) : wr.cell? ⟨w.heap.size, 0, none⟩ = some (.int .i64 0) ∧ wr.cell? ⟨w.heap.size, 1, none⟩ = some (.int .i64 0) ∧ wr.cell? ⟨w.heap.size, 2, none⟩ = some (.slice none 0 0) ∧
    wr.frozen? ⟨w.heap.size, 0, none⟩ = false ∧ wr.frozen? ⟨w.heap.size, 1, none⟩ = false ∧ wr.frozen? ⟨w.heap.size, 2, none⟩ = false :=
  ⟨(cell_of_row wr _ _ _ _ _ h.r).trans rfl, (cell_of_row wr _ _ _ _ _ h.r).trans rfl, (cell_of_row wr _ _ _ _ _ h.r).trans rfl, frozen_of_row wr _ _ _ _ h.r, frozen_of_row wr _ _ _ _ h.r, frozen_of_row wr _ _ _ _ h.r⟩
/-- what is read at peer i, its backs too -/
theorem PSt.bk (h : PSt w wr g N a cap zs b d Q X G c B0 bm om ms L) {i : Nat} (hi : i < L.length) : ∃ ab cb, (L.getD i d0).2 = .slice ab (L.getD i d0).1.backs.length cb ∧ wr.cell? ⟨G, i * 4 + 3, none⟩ = some (.slice ab (L.getD i d0).1.backs.length cb) ∧ (∀ j, j < (L.getD i d0).1.backs.length → ∃ gb z, ab = some ⟨gb, 0, none⟩ ∧ B0 ≤ gb ∧ wr.cell? ⟨gb, j, none⟩ = some (.int .i64 z) ∧ wr.frozen? ⟨gb, j, none⟩ = false) := by
  obtain ⟨ab, cb, hv, _, _, ho⟩ := h.ow.val i hi
  refine ⟨ab, cb, hv, by rw [← hv]; exact (h.ow.cel i hi).c3, fun j hj => ?_⟩
  rcases ho with ho | ⟨gb, ha, _, os⟩
  · rw [ho] at hj; simp at hj
  · obtain ⟨k0, k1⟩ := os.at j hj
    exact ⟨gb, _, ha, os.lo, k0, k1⟩
end
end Go.Proofs.Ytejajlloipkkhaa
namespace Go.Proofs.Ytejajlloipkkhaa
open Go.RowKit Go.Deep
set_option linter.unusedVariables false
/-- the cursor, the answer's box, the space's box and the ring -/
structure PS0 (w wr : World) (g N : Nat) (a : Option Addr) (cap : Nat) (zs : List Int) (b d : Int) (Q : Nat) (am : Option Addr) (ms : List Int) : Prop where
  mv : Mv g w wr
  cur : CurAt wr g N a cap zs
  r : wr.heap[w.heap.size]? = some (.cells #[.int .i64 0, .int .i64 0, .slice none 0 0] 28 (0, 0))
  s : wr.heap[Q]? = some (.cells #[.int .i64 b, .int .i64 d] 25 (0, 0))
  qlo : w.heap.size < Q
  m : ms = [] ∨ ∃ bm om, am = some ⟨bm, om, none⟩ ∧ w.heap.size < bm ∧ bm < Q ∧ ∀ i, i < ms.length → wr.cell? ⟨bm, om + i, none⟩ = some (.int .i64 (ms.getD i 0))
  gl : g < w.heap.size
  row : RowU w g a zs
section
variable {w wr : World} {g N : Nat} {a : Option Addr} {cap : Nat} {zs : List Int} {b d : Int} {Q : Nat} {am : Option Addr} {ms : List Int}
theorem PS0.hiQ (h : PS0 w wr g N a cap zs b d Q am ms) : Q < wr.heap.size := (Array.getElem?_eq_some_iff.1 h.s).1
theorem PS0.chg {w1 : World} {M : Nat} (h : PS0 w wr g N a cap zs b d Q am ms) (mv1 : Mv g w w1) (hc : CurAt w1 g M a cap zs) (hk : ∀ k, k ≤ Q → ¬ k = g → w1.heap[k]? = wr.heap[k]?) : PS0 w w1 g M a cap zs b d Q am ms := by
  have := h.qlo
  have := h.gl
  refine ⟨mv1, hc, (hk _ (by omega) (by omega)).trans h.r, (hk _ (Nat.le_refl _) (by omega)).trans h.s, h.qlo, ?_, h.gl, h.row⟩
  rcases h.m with hm | ⟨bm, om, ha, h1, h2, h3⟩
  · exact .inl hm
  · exact .inr ⟨bm, om, ha, h1, h2, fun i hi => (World.cell?_of_block (a := ⟨bm, om + i, none⟩) (hk bm (by omega) (by omega))).trans (h3 i hi)⟩
theorem PS0.step {w1 : World} {M : Nat} (h : PS0 w wr g N a cap zs b d Q am ms) (mv1 : Mv g wr w1) (hc : CurAt w1 g M a cap zs) : PS0 w w1 g M a cap zs b d Q am ms :=
  h.chg (h.mv.trans mv1) hc (fun k hk hg => mv1.block k (by have := h.hiQ; omega) hg)
theorem PS0.keep {w1 : World} (h : PS0 w wr g N a cap zs b d Q am ms) (hb : Below wr.heap.size wr w1) : PS0 w w1 g N a cap zs b d Q am ms := h.step (Mv.of_below hb) (h.cur.keep hb)
theorem PS0.qc (h : PS0 w wr g N a cap zs b d Q am ms) : wr.cell? ⟨Q, 0, none⟩ = some (.int .i64 b) ∧ wr.cell? ⟨Q, 1, none⟩ = some (.int .i64 d) :=
  ⟨(cell_of_row wr _ _ _ _ _ h.s).trans rfl, (cell_of_row wr _ _ _ _ _ h.s).trans rfl⟩
theorem PS0.rc (h : PS0 w wr g N a cap zs b d Q am ms) : wr.cell? ⟨w.heap.size, 0, none⟩ = some (.int .i64 0) ∧ wr.cell? ⟨w.heap.size, 1, none⟩ = some (.int .i64 0) ∧ wr.cell? ⟨w.heap.size, 2, none⟩ = some (.slice none 0 0) ∧
    wr.frozen? ⟨w.heap.size, 0, none⟩ = false ∧ wr.frozen? ⟨w.heap.size, 1, none⟩ = false ∧ wr.frozen? ⟨w.heap.size, 2, none⟩ = false :=
  ⟨(cell_of_row wr _ _ _ _ _ h.r).trans rfl, (cell_of_row wr _ _ _ _ _ h.r).trans rfl, (cell_of_row wr _ _ _ _ _ h.r).trans rfl, frozen_of_row wr _ _ _ _ h.r, frozen_of_row wr _ _ _ _ h.r, frozen_of_row wr _ _ _ _ h.r⟩
theorem PS0.rowAt (h : PS0 w wr g N a cap zs b d Q am ms) : RowAt wr am ms := by
  rcases h.m with hm | ⟨bm, om, ha, h1, h2, h3⟩
  · exact .inl hm
  · exact .inr ⟨bm, om, ha, by have := h.hiQ; omega, h3⟩
/-- beside them a box of peers at X -/
structure PX (w wr : World) (g N : Nat) (a : Option Addr) (cap : Nat) (zs : List Int) (b d : Int) (Q : Nat) (am : Option Addr) (ms : List Int) (X : Nat) : Prop where
  st : PS0 w wr g N a cap zs b d Q am ms
  lo : Q < X
  x : wr.heap[X]? = some (.cells #[.int .i64 0, .int .i64 0, .slice none 0 0] 28 (0, 0))
theorem PX.hi {X : Nat} (h : PX w wr g N a cap zs b d Q am ms X) : X < wr.heap.size := (Array.getElem?_eq_some_iff.1 h.x).1
theorem PX.step {w1 : World} {M X : Nat} (h : PX w wr g N a cap zs b d Q am ms X) (mv1 : Mv g wr w1) (hc : CurAt w1 g M a cap zs) : PX w w1 g M a cap zs b d Q am ms X :=
  ⟨h.st.step mv1 hc, h.lo, (mv1.block X h.hi (by have := h.lo; have := h.st.qlo; have := h.st.gl; omega)).trans h.x⟩
theorem PX.keep {w1 : World} {X : Nat} (h : PX w wr g N a cap zs b d Q am ms X) (hb : Below wr.heap.size wr w1) : PX w w1 g N a cap zs b d Q am ms X := h.step (Mv.of_below hb) (h.st.cur.keep hb)
theorem px_new (h : PS0 w wr g N a cap zs b d Q am ms) : PX w (wr.alloc (.cells #[.int .i64 0, .int .i64 0, .slice none 0 0] 28)) g N a cap zs b d Q am ms wr.heap.size :=
  ⟨h.keep (belA _ _), h.hiQ, heap_alloc_new _ _⟩
theorem PX.cells {X : Nat} (h : PX w wr g N a cap zs b d Q am ms X) : wr.cell? ⟨X, 0, none⟩ = some (.int .i64 0) ∧ wr.cell? ⟨X, 1, none⟩ = some (.int .i64 0) ∧ wr.cell? ⟨X, 2, none⟩ = some (.slice none 0 0) ∧
    wr.frozen? ⟨X, 0, none⟩ = false ∧ wr.frozen? ⟨X, 1, none⟩ = false ∧ wr.frozen? ⟨X, 2, none⟩ = false :=
  ⟨(cell_of_row wr _ _ _ _ _ h.x).trans rfl, (cell_of_row wr _ _ _ _ _ h.x).trans rfl, (cell_of_row wr _ _ _ _ _ h.x).trans rfl, frozen_of_row wr _ _ _ _ h.x, frozen_of_row wr _ _ _ _ h.x, frozen_of_row wr _ _ _ _ h.x⟩
theorem PX.qc3 {X : Nat} (h : PX w wr g N a cap zs b d Q am ms X) (v0 v1 v2 : Value) : (((wr.setCell ⟨X, 0, none⟩ v0).setCell ⟨X, 1, none⟩ v1).setCell ⟨X, 2, none⟩ v2).cell? ⟨Q, 0, none⟩ = some (.int .i64 b) ∧ (((wr.setCell ⟨X, 0, none⟩ v0).setCell ⟨X, 1, none⟩ v1).setCell ⟨X, 2, none⟩ v2).cell? ⟨Q, 1, none⟩ = some (.int .i64 d) := by
  have hn : ¬ Q = X := by have := h.lo; omega
  obtain ⟨k0, k1⟩ := h.st.qc
  exact ⟨(World.cell?_of_block (a := ⟨Q, 0, none⟩) (set3_block (x := v0) (y := v1) (v := v2) hn)).trans k0, (World.cell?_of_block (a := ⟨Q, 1, none⟩) (set3_block (x := v0) (y := v1) (v := v2) hn)).trans k1⟩
/-- what the drawing of peers goes on with: ideal peers, or none -/
def PGo (w wr : World) (g N : Nat) (a : Option Addr) (cap : Nat) (zs : List Int) (b d : Int) (Q : Nat) (am : Option Addr) (ms : List Int) (X : Nat) (ok : Bool) : Prop :=
  PS0 w wr g N a cap zs b d Q am ms ∧ (ok = true → ∃ bm om G c L, am = some ⟨bm, om, none⟩ ∧ 1 ≤ L.length ∧ L.length ≤ 16 ∧ 1 ≤ ms.length ∧ PSt w wr g N a cap zs b d Q X G c (Q + 1) bm om ms L)
theorem PS0.ring (h : PS0 w wr g N a cap zs b d Q am ms) (hm : 1 ≤ ms.length) : ∃ bm om, am = some ⟨bm, om, none⟩ ∧ w.heap.size < bm ∧ bm < Q ∧ ∀ i, i < ms.length → wr.cell? ⟨bm, om + i, none⟩ = some (.int .i64 (ms.getD i 0)) := by
  rcases h.m with h | h
  · rw [h] at hm; simp at hm
  · exact h
theorem few_ideal {n : Int} {L : List (Pr × Value)} (hn : idlOk b d ms n = true) (hL : L.map (·.1) = idealL b d ms n.toNat) : Few L ∧ L.length = ms.length ∧ 1 ≤ ms.length ∧ ms.length ≤ 16 := by
  unfold idlOk at hn
  rw [Bool.and_eq_true] at hn
  have R := ringB_true hn.1
  obtain ⟨n1, n2⟩ := inB_true hn.2
  have hl : L.length = ms.length := by rw [← List.length_map (f := (·.1)), hL, idealL_len]
  refine ⟨fun i hi => ?_, hl, R.l1, R.l2⟩
  have e : (L.getD i d0).1 = (idealL b d ms n.toNat).getD i pr0 := by
    rw [← hL]
    simp [List.getD_eq_getElem?_getD, List.getElem?_eq_getElem hi]
  rw [e]
  unfold idealL
  rw [hl] at hi
  simp only [List.getD_eq_getElem?_getD, List.getElem?_map, List.getElem?_eq_getElem hi, Option.map_some, Option.getD_some]
  show (bckL ms _ n.toNat).length ≤ 3
  rw [bckL_len]
  omega
theorem pgo_none {X : Nat} (h : PS0 w wr g N a cap zs b d Q am ms) : PGo w wr g N a cap zs b d Q am ms X false := ⟨h, fun h => by cases h⟩
theorem pgo_new {n : Int} {B : Nat} {vl : Value} {L : List (Pr × Value)} (h : PS0 w wr g N a cap zs b d Q am ms) (hn : idlOk b d ms n = true) (hL : L.map (·.1) = idealL b d ms n.toNat) (lp : ListP B wr vl L) (hB : Q < B) :
    PGo w (wr.alloc (.cells #[.int .i64 b, .int .i64 d, vl] 28)) g N a cap zs b d Q am ms wr.heap.size true := by
  obtain ⟨hf, hl, m1, m2⟩ := few_ideal hn hL
  obtain ⟨G, c, hv⟩ := Joins.ownsRow_form lp.own (by omega)
  subst hv
  have h1 := h.keep (belA wr (.cells #[.int .i64 b, .int .i64 d, .slice (some ⟨G, 0, none⟩) L.length c] 28))
  refine ⟨h1, fun _ => ?_⟩
  obtain ⟨bm, om, ha, b1, b2, b3⟩ := h1.ring m1
  exact ⟨bm, om, G, c, L, ha, by omega, by omega, m1, h1.mv, h1.cur, h1.r, h1.s, b3, heap_alloc_new _ _, ((lp.ownP.keep (belA _ _)).wide (by simp)).mono hB, hf, h1.qlo, by omega, b1, by omega, h.hiQ, h1.gl, h1.row⟩
theorem pgo_set {n : Int} {B X : Nat} {vl : Value} {L : List (Pr × Value)} (h : PX w wr g N a cap zs b d Q am ms X) (hn : idlOk b d ms n = true) (hL : L.map (·.1) = idealL b d ms n.toNat) (lp : ListP B wr vl L) (hB : X < B) :
    PGo w (set3 wr X (.int .i64 b) (.int .i64 d) vl) g N a cap zs b d Q am ms X true := by
  obtain ⟨hf, hl, m1, m2⟩ := few_ideal hn hL
  obtain ⟨G, c, hv⟩ := Joins.ownsRow_form lp.own (by omega)
  subst hv
  have hlo := h.lo
  have hq := h.st.qlo
  have hg := h.st.gl
  have mv1 : Mv g w (set3 wr X (.int .i64 b) (.int .i64 d) (.slice (some ⟨G, 0, none⟩) L.length c)) := ((h.st.mv.put (q := X) (by omega) 0 _).put (q := X) (by omega) 1 _).put (q := X) (by omega) 2 _
  have h1 := h.st.chg mv1 (h.st.cur.blocks h.st.row mv1 (set3_block (by omega))) (fun k hk _ => set3_block (by omega))
  refine ⟨h1, fun _ => ?_⟩
  obtain ⟨bm, om, ha, b1, b2, b3⟩ := h1.ring m1
  refine ⟨bm, om, G, c, L, ha, by omega, by omega, m1, h1.mv, h1.cur, h1.r, h1.s, b3, set3_row h.x, ?_, hf, h1.qlo, by omega, b1, by omega, hlo, h1.gl, h1.row⟩
  rw [set3_size]
  exact ((lp.ownP).blocks (fun k hk _ _ => set3_block (by omega))).mono (by omega)
theorem pgo_zero_new (h : PS0 w wr g N a cap zs b d Q am ms) (o : Obj) : PGo w (wr.alloc o) g N a cap zs b d Q am ms wr.heap.size false := pgo_none (h.keep (belA _ _))
theorem pgo_zero_set {X : Nat} {v0 v1 v2 : Value} (h : PX w wr g N a cap zs b d Q am ms X) : PGo w (set3 wr X v0 v1 v2) g N a cap zs b d Q am ms X false := by
  have hlo := h.lo
  have hq := h.st.qlo
  have hg := h.st.gl
  have mv1 : Mv g w (set3 wr X v0 v1 v2) := ((h.st.mv.put (q := X) (by omega) 0 _).put (q := X) (by omega) 1 _).put (q := X) (by omega) 2 _
  exact pgo_none (h.st.chg mv1 (h.st.cur.blocks h.st.row mv1 (set3_block (by omega))) (fun k hk _ => set3_block (by omega)))
/-- what the specification's IdealPeers answers, in one form -/
def IdlR (B : Nat) (w' : World) (b d n : Int) (ms : List Int) (b' d' : Int) (al : Option Addr) (nl cl : Nat) (ok : Bool) : Prop :=
  ok = true → b' = b ∧ d' = d ∧ idlOk b d ms n = true ∧ ∃ L, L.map (·.1) = idealL b d ms n.toNat ∧ ListP B w' (.slice al nl cl) L
theorem pgo_new' {n b' d' : Int} {B : Nat} {al : Option Addr} {nl cl : Nat} {ok : Bool} (h : PS0 w wr g N a cap zs b d Q am ms) (hr : IdlR B wr b d n ms b' d' al nl cl ok) (hB : Q < B) :
    PGo w (wr.alloc (.cells #[.int .i64 b', .int .i64 d', .slice al nl cl] 28)) g N a cap zs b d Q am ms wr.heap.size ok := by
  cases ok
  · exact pgo_zero_new h _
  · obtain ⟨rfl, rfl, hn, L, hL, lp⟩ := hr rfl
    exact pgo_new h hn hL lp hB
theorem pgo_set' {n b' d' : Int} {B X : Nat} {al : Option Addr} {nl cl : Nat} {ok : Bool} (h : PX w wr g N a cap zs b d Q am ms X) (hr : IdlR B wr b d n ms b' d' al nl cl ok) (hB : X < B) :
    PGo w (set3 wr X (.int .i64 b') (.int .i64 d') (.slice al nl cl)) g N a cap zs b d Q am ms X ok := by
  cases ok
  · exact pgo_zero_set h
  · obtain ⟨rfl, rfl, hn, L, hL, lp⟩ := hr rfl
    exact pgo_set h hn hL lp hB
theorem lIdealPeers_uni (b d : Int) (n : Int) (a : Option Addr) (cap : Nat) (zs : List Int) (w : World) (hm : zs.length ≤ maxLen) (hr : RowAt w a zs) :
    Calls Try.prog 118 #[.agg #[.int .i64 b, .int .i64 d], .slice a zs.length cap, .int .i64 n] w fun e w' => ∃ b' d' al nl cl ok, e = .returned (.tuple #[.agg #[.int .i64 b', .int .i64 d', .slice al nl cl], .bool ok]) ∧ Below w.heap.size w w' ∧ IdlR w.heap.size w' b d n zs b' d' al nl cl ok := by
  refine (lIdealPeers_list b d n a cap zs w hm hr).mono ?_
  rintro e w1 ⟨v, rfl, hw, ⟨hok, rfl⟩ | ⟨hok, vl, L, rfl, hL, lp⟩⟩
  · exact ⟨0, 0, none, 0, 0, false, rfl, hw, fun h => by cases h⟩
  · obtain ⟨al, cl, rfl, _⟩ := lp.form
    exact ⟨b, d, al, _, cl, true, rfl, hw, fun _ => ⟨rfl, rfl, hok, L, hL, lp⟩⟩
/-- the space's and the ring's cells, kept while a cell of the list or of backs is written -/
theorem PSt.mc {X G c B0 bm om : Nat} {L : List (Pr × Value)} (h : PSt w wr g N a cap zs b d Q X G c B0 bm om ms L) : wr.cell? ⟨X, 2, none⟩ = some (.slice (some ⟨G, 0, none⟩) L.length c) ∧ ∀ i, i < ms.length → wr.cell? ⟨bm, om + i, none⟩ = some (.int .i64 (ms.getD i 0)) := ⟨h.xc.2.2, h.m⟩
theorem PSt.mc1 {X G c B0 bm om : Nat} {L : List (Pr × Value)} (h : PSt w wr g N a cap zs b d Q X G c B0 bm om ms L) {q : Nat} (hq : B0 ≤ q) (hn : ¬ X = q) (j : Nat) (v : Value) : (wr.setCell ⟨q, j, none⟩ v).cell? ⟨X, 2, none⟩ = some (.slice (some ⟨G, 0, none⟩) L.length c) ∧ ∀ i, i < ms.length → (wr.setCell ⟨q, j, none⟩ v).cell? ⟨bm, om + i, none⟩ = some (.int .i64 (ms.getD i 0)) :=
  ⟨(cell_far hn).trans h.xc.2.2, fun i hi => (cell_far (by have := h.mhi; omega)).trans (h.m i hi)⟩
theorem PSt.bk2 {X G c B0 bm om : Nat} {L : List (Pr × Value)} (h : PSt w wr g N a cap zs b d Q X G c B0 bm om ms L) {k j nb cb : Nat} {ab : Option Addr} (hk : k < L.length) (hv : (L.getD k d0).2 = .slice ab nb cb) (hn : (L.getD k d0).1.backs.length = nb) (hj : j < nb) :
    ∃ gb, ab = some ⟨gb, 0, none⟩ ∧ B0 ≤ gb ∧ ¬ X = gb ∧ ¬ G = gb := by
  obtain ⟨ab', cb', hv', _, _, ho⟩ := h.ow.val k hk
  rw [hv] at hv'
  simp at hv'
  obtain ⟨rfl, _, rfl⟩ := hv'
  rcases ho with ho | ⟨gb, ha, _, os⟩
  · rw [ho] at hn; simp at hn; omega
  · obtain ⟨cur, hc⟩ := h.ow.blk
    refine ⟨gb, ha, os.lo, fun he => ?_, fun he => os.ne_peer hc he.symm⟩
    obtain ⟨cj, hcj, _⟩ := os.row
    have hx := h.x
    rw [he, hcj] at hx
    simp at hx
theorem PSt.bk3 {X G c B0 bm om : Nat} {L : List (Pr × Value)} (h : PSt w wr g N a cap zs b d Q X G c B0 bm om ms L) {k j nb cb gb : Nat} (hk : k < L.length) (hv : (L.getD k d0).2 = .slice (some ⟨gb, 0, none⟩) nb cb) (hn : (L.getD k d0).1.backs.length = nb) (hj : j < nb) :
    (∃ z, wr.cell? ⟨gb, j, none⟩ = some (.int .i64 z)) ∧ wr.frozen? ⟨gb, j, none⟩ = false := by
  obtain ⟨ab', cb', hv', _, _, ho⟩ := h.ow.val k hk
  rw [hv] at hv'
  simp at hv'
  obtain ⟨rfl, _, rfl⟩ := hv'
  rcases ho with ho | ⟨gb', ha, _, os⟩
  · rw [ho] at hn; simp at hn; omega
  · simp at ha
    subst ha
    obtain ⟨k0, k1⟩ := os.at j (by omega)
    exact ⟨⟨_, k0⟩, k1⟩
theorem PSt.m3 {X G c B0 bm om : Nat} {L : List (Pr × Value)} (h : PSt w wr g N a cap zs b d Q X G c B0 bm om ms L) {k : Nat} {v : Value} (hk : k < L.length) (hv : (L.getD k d0).2 = v) : wr.cell? ⟨X, 2, none⟩ = some (.slice (some ⟨G, 0, none⟩) L.length c) ∧ wr.cell? ⟨G, k * 4 + 3, none⟩ = some v ∧ ∀ i, i < ms.length → wr.cell? ⟨bm, om + i, none⟩ = some (.int .i64 (ms.getD i 0)) := ⟨h.xc.2.2, by rw [← hv]; exact (h.ow.cel k hk).c3, h.m⟩
theorem PSt.m4 {X G c B0 bm om : Nat} {L : List (Pr × Value)} (h : PSt w wr g N a cap zs b d Q X G c B0 bm om ms L) {k q : Nat} {v : Value} (hk : k < L.length) (hv : (L.getD k d0).2 = v) (hq : B0 ≤ q) (hn : ¬ X = q) (hg : ¬ G = q) (j : Nat) (u : Value) : (wr.setCell ⟨q, j, none⟩ u).cell? ⟨X, 2, none⟩ = some (.slice (some ⟨G, 0, none⟩) L.length c) ∧ (wr.setCell ⟨q, j, none⟩ u).cell? ⟨G, k * 4 + 3, none⟩ = some v ∧ ∀ i, i < ms.length → (wr.setCell ⟨q, j, none⟩ u).cell? ⟨bm, om + i, none⟩ = some (.int .i64 (ms.getD i 0)) :=
  ⟨(cell_far hn).trans (h.m3 hk hv).1, (cell_far hg).trans (h.m3 hk hv).2.1, fun i hi => (cell_far (by have := h.mhi; omega)).trans (h.m i hi)⟩
/-- two boxes that a number of a space is drawn by -/
theorem PSt.n3 {X G c B0 bm om : Nat} {L : List (Pr × Value)} (h : PSt w wr g N a cap zs b d Q X G c B0 bm om ms L) : wr.cell? ⟨X, 2, none⟩ = some (.slice (some ⟨G, 0, none⟩) L.length c) ∧ wr.cell? ⟨Q, 0, none⟩ = some (.int .i64 b) ∧ wr.cell? ⟨Q, 1, none⟩ = some (.int .i64 d) := ⟨h.xc.2.2, h.qc.1, h.qc.2⟩
theorem PSt.n4 {X G c B0 bm om : Nat} {L : List (Pr × Value)} (h : PSt w wr g N a cap zs b d Q X G c B0 bm om ms L) (j : Nat) (u : Value) : (wr.setCell ⟨G, j, none⟩ u).cell? ⟨X, 2, none⟩ = some (.slice (some ⟨G, 0, none⟩) L.length c) ∧ (wr.setCell ⟨G, j, none⟩ u).cell? ⟨Q, 0, none⟩ = some (.int .i64 b) ∧ (wr.setCell ⟨G, j, none⟩ u).cell? ⟨Q, 1, none⟩ = some (.int .i64 d) :=
  have hq : ¬ Q = G := by have := h.qhi; have := h.ow.lo; omega
  ⟨(cell_far h.ne).trans h.xc.2.2, (cell_far hq).trans h.qc.1, (cell_far hq).trans h.qc.2⟩
theorem PSt.fin {X G c B0 bm om M : Nat} {L : List (Pr × Value)} (h : PSt w wr g N a cap zs b d Q X G c B0 bm om ms L) (hl : L.length ≤ 16) (hN : N ≤ M) :
    OwnPs w.heap.size (set3 wr w.heap.size (.int .i64 b) (.int .i64 d) (.slice (some ⟨G, 0, none⟩) L.length c)).heap.size (set3 wr w.heap.size (.int .i64 b) (.int .i64 d) (.slice (some ⟨G, 0, none⟩) L.length c)) (some ⟨G, 0, none⟩) (L.map (·.1)).length (L.map (·.1)) ∧ (L.map (·.1)).length ≤ 16 ∧ (∀ i, i < (L.map (·.1)).length → ((L.map (·.1)).getD i pr0).backs.length ≤ 3) ∧
    Mv g w (set3 wr w.heap.size (.int .i64 b) (.int .i64 d) (.slice (some ⟨G, 0, none⟩) L.length c)) ∧ CurAt (set3 wr w.heap.size (.int .i64 b) (.int .i64 d) (.slice (some ⟨G, 0, none⟩) L.length c)) g M a cap zs := by
  have hq := h.qlo
  have hg := h.gl
  have hq2 := h.qhi
  have mv1 : Mv g w (set3 wr w.heap.size (.int .i64 b) (.int .i64 d) (.slice (some ⟨G, 0, none⟩) L.length c)) := ((h.mv.put (q := w.heap.size) (Nat.le_refl _) 0 _).put (q := w.heap.size) (Nat.le_refl _) 1 _).put (q := w.heap.size) (Nat.le_refl _) 2 _
  refine ⟨⟨rfl, .inr ⟨G, L, rfl, rfl, ?_⟩⟩, by simpa using hl, fun i hi => ?_, mv1, (h.cur.blocks h.row mv1 (set3_block (by omega))).more hN⟩
  · rw [set3_size]
    exact (h.ow.blocks (fun k hk _ _ => set3_block (by omega))).mono (by omega)
  · rw [List.length_map] at hi
    have := h.few i hi
    simpa [List.getD_eq_getElem?_getD, List.getElem?_eq_getElem hi] using this
end
end Go.Proofs.Ytejajlloipkkhaa
namespace Go.Proofs.Ytejajlloipkkhaa
open Go.RowKit Go.Deep
set_option linter.unusedVariables false
set_option maxRecDepth 100000 in
set_option maxHeartbeats 25600000 in
theorem peers_any (w : World) (g n : Nat) (a : Option Addr) (cap : Nat) (zs : List Int) (hc : CurAt w g n a cap zs) (hn : n ≤ 500) :
    Calls Try.prog 89 #[.pointer (some ⟨g, 0, none⟩)] w fun e w' => ∃ (b d : Int) (ap : Option Addr) (cp : Nat) (ps : List Pr), e = .returned (.agg #[.int .i64 b, .int .i64 d, .slice ap ps.length cp]) ∧ OwnPs w.heap.size w'.heap.size w' ap ps.length ps ∧ ps.length ≤ 16 ∧ (∀ i, i < ps.length → (ps.getD i pr0).backs.length ≤ 3) ∧ Mv g w w' ∧ CurAt w' g (n + 300) a cap zs := by
  have hlt := hc.lt
  have HR0 : Hid (RowU w g a zs) := hc.row
  go_enter Try.func89, Try.ntmps89
  go_wp2_with fail
  refine (ring_any _ _ _ _ _ _ (hc.new _) (by omega)).mono ?_
  rintro e w1 ⟨b, d, v, rfl, sm1, mv1, hc1⟩
  have hs1 := mv1.size
  simp at hs1
  obtain ⟨a0, cp, ms, rfl, hcp, hl9, hr0, hB⟩ := sm1
  have P20 : PS0 w (w1.alloc (.cells #[.int .i64 b, .int .i64 d] 25)) g (n + 60) a cap zs b d w1.heap.size a0 ms := by
    refine ⟨((Mv.of_below (belA _ _)).trans mv1).alloc _, hc1.new _, ?_, heap_alloc_new _ _, by omega, ?_, hlt, HR0.out⟩
    · rw [heap_alloc_old _ _ (by omega), mv1.block _ (by simp) (by omega)]
      exact heap_alloc_new _ _
    · by_cases h0 : ms = []
      · exact .inl h0
      · obtain ⟨bk, off, rfl, hbk⟩ : ∃ bk off, a0 = some ⟨bk, off, none⟩ ∧ (w.alloc (.cells #[.int .i64 0, .int .i64 0, .slice none 0 0] 28)).heap.size ≤ bk := by
          rcases hB with h | h
          · exact absurd h h0
          · exact h
        simp at hbk
        have hp : 0 < ms.length := by
          cases ms
          · exact absurd rfl h0
          · simp
        obtain ⟨h1, h2⟩ := rowAt_cell hr0 hp
        exact .inr ⟨bk, off, rfl, by omega, h1, fun i hi => ((belA _ _).cell (p := ⟨bk, off + i, none⟩) h1).trans (h2 i hi)⟩
  have P2 : Hid _ := P20
  have HB9 : Hid (ms.length ≤ 9) := hl9
  clear P20 hr0 hB mv1 hc1 hcp hc
  obtain ⟨W2, hW2⟩ : ∃ W2, (w1.alloc (.cells #[.int .i64 b, .int .i64 d] 25)) = W2 := ⟨_, rfl⟩
  rw [hW2] at P2
  obtain ⟨Q, hQ⟩ : ∃ Q, w1.heap.size = Q := ⟨_, rfl⟩
  rw [hQ] at P2
  go_upto_region 2 with (fail)
  clear hW2 hQ hs1
  go_cut [5, 6] (fun v5 v6 wc => ∃ X ok, v5 = .pointer (some ⟨X, 0, none⟩) ∧ v6 = .bool ok ∧ Hid (PGo w wc g (n + 62) a cap zs b d Q a0 ms X ok))
  case first =>
    have sta := P2.out.keep ((Below.refl _ _).drew)
    have pxa := (px_new P2.out).keep ((Below.refl _ _).drew)
    have staA := pxa.st
    have hmx : ms.length ≤ maxLen := by unfold maxLen; omega
    go_region_held (fun w' => w'.cell? ⟨Q, 0, none⟩ = some (.int .i64 b) ∧ w'.cell? ⟨Q, 1, none⟩ = some (.int .i64 d)) (with_reducible (first | exact sta.qc | exact staA.qc | exact stb.qc | exact pxb.st.qc | exact stc.qc | exact pxc.st.qc | exact (stc.keep (belA _ _)).qc | exact pxc.qc3 _ _ _)) (first
      | (go_at_call 75; refine (pick_any _ _ _ _ _ _ _ sta.cur (by omega) (by omega) (by omega)).mono ?_; rintro e wa ⟨xa, rfl, xa1, xa2, mva, hca⟩; have stb := sta.step mva hca; have pxb := px_new stb)
      | (go_at_call 75; refine (pick_any _ _ _ _ _ _ _ staA.cur (by omega) (by omega) (by omega)).mono ?_; rintro e wa ⟨xa, rfl, xa1, xa2, mva, hca⟩; have pxb := pxa.step mva hca; have stb := pxb.st)
      | (go_at_call 118; have CI := lIdealPeers_uni b d xa _ cp ms _ hmx stb.rowAt; refine CI.mono ?_; rintro e wb ⟨b', d', al, nl, cl, ok, rfl, hwb, hr⟩; have pxc := pxb.keep hwb; have stc := pxc.st; obtain ⟨n0, n1, n2, m0, m1, m2⟩ := pxc.cells)
      | (go_at_call 118; have CI := lIdealPeers_uni b d xa _ cp ms _ hmx stb.rowAt; refine CI.mono ?_; rintro e wb ⟨b', d', al, nl, cl, ok, rfl, hwb, hr⟩; have stc := stb.keep hwb; have pxc := px_new stc; obtain ⟨n0, n1, n2, m0, m1, m2⟩ := pxc.cells)
      | (go_at_call 118; have CI := lIdealPeers_uni b d xa _ cp ms _ hmx pxb.st.rowAt; refine CI.mono ?_; rintro e wb ⟨b', d', al, nl, cl, ok, rfl, hwb, hr⟩; have pxc := pxb.keep hwb; have stc := pxc.st; obtain ⟨n0, n1, n2, m0, m1, m2⟩ := pxc.cells))
    all_goals (go_wp2_with fail; go_meet; first | exact ⟨_, _, rfl, rfl, pgo_new' stc hr (by have := stb.hiQ; first | exact this | (simp; omega))⟩ | exact ⟨_, _, rfl, rfl, pgo_set' pxc hr (by have := pxb.hi; first | exact this | (simp at this ⊢; omega))⟩)
  case rest =>
    obtain ⟨X, ok, rfl, rfl, PG⟩ := hcut
    clear P2
    cases ok
    · have p0 := PG.out.1
      obtain ⟨r0, r1, r2, q0, q1, q2⟩ := p0.rc
      obtain ⟨s0, s1⟩ := p0.qc
      have hq := p0.qlo
      have hg := p0.gl
      have mvf : Hid (Mv g w (set3 wc w.heap.size (.int .i64 b) (.int .i64 d) (.slice none 0 0))) := ((p0.mv.put (q := w.heap.size) (Nat.le_refl _) 0 _).put (q := w.heap.size) (Nat.le_refl _) 1 _).put (q := w.heap.size) (Nat.le_refl _) 2 _
      have cuf : Hid (CurAt (set3 wc w.heap.size (.int .i64 b) (.int .i64 d) (.slice none 0 0)) g (n + 300) a cap zs) := (p0.cur.blocks p0.row mvf.out (set3_block (by omega))).more (by omega)
      have HRW : Hid _ := p0.r
      clear p0
      go_wp2
      exact bodyPost_ret (results_cell_row Try.results89 _ _ w.heap.size _ _ _ _ rfl (set3_row HRW.out) Try.underlying28 rfl (by kernel_rfl)) rfl ⟨b, d, none, 0, [], rfl, ownPs_nil _ _ _ _, by simp, fun i hi => by simp at hi, mvf.out, cuf.out⟩
    · obtain ⟨bm, om, G, c, L0, rfl, l1, l2, m1, pst0⟩ := PG.out.2 rfl
      have ST0 : Hid (PSt w wc g (n + 62) a cap zs b d Q X G c (Q + 1) bm om ms L0) := pst0
      have m9 : ms.length ≤ 9 := HB9.out
      obtain ⟨l0, hl0⟩ : ∃ l0, l0 = L0.length := ⟨_, rfl⟩
      have HL0 : Hid (L0.length = l0) := hl0.symm
      rw [← hl0] at l1 l2
      clear PG pst0 hl0
      go_wp2_with fail
      refine (one_any _ _ _ _ _ _ _ ST0.out.cur (by omega) (by omega) (by omega)).mono ?_
      rintro e w3 ⟨v3, rfl, mv3, hc3⟩
      have ST3 : Hid (PSt w w3 g (n + 64) a cap zs b d Q X G c (Q + 1) bm om ms L0) := ST0.out.step mv3 hc3
      clear ST0 mv3 hc3
      go_upto_if 28 with (fail)
      go_cut [6] (fun v6 wc => v6 = .bool true ∧ ∃ L, Hid (PSt w wc g (n + 270) a cap zs b d Q X G c (Q + 1) bm om ms L) ∧ Hid (L.length = l0))
      case first =>
        cases v3
        · go_wp2_with fail
          go_meet
          exact ⟨rfl, L0, ST3.out.more (by omega), HL0⟩
        · obtain ⟨_, _, x2⟩ := ST3.out.xc
          rw [HL0.out] at x2
          go_wp2_with fail
          clear x2
          go_loopw [32] (fun vi wr => ∃ (k : Nat) (L : List (Pr × Value)), k ≤ l0 ∧ vi = .int .i64 k ∧ Hid (PSt w wr g (n + 64 + 12 * k) a cap zs b d Q X G c (Q + 1) bm om ms L) ∧ Hid (L.length = l0)) (fun vi _ => l0 - (intOf vi).toNat)
          case atStart => exact ⟨0, L0, Nat.zero_le _, rfl, ST3, HL0⟩
          case round =>
            obtain ⟨k, L, hk, rfl, ST, HL⟩ := hrel
            clear ST3 HL0
            by_cases hlt : k < l0
            · go_wp2_with fail
              refine (one_any _ _ _ _ _ _ _ ST.out.cur (by omega) (by omega) (by omega)).mono ?_
              rintro e w4 ⟨v4, rfl, mv4, hc4⟩
              have ST4 : Hid (PSt w w4 g (n + 64 + 12 * k + 2) a cap zs b d Q X G c (Q + 1) bm om ms L) := ST.out.step mv4 hc4
              clear ST mv4 hc4
              go_upto_if 36 with (fail)
              go_cut [7] (fun v7 wc => v7 = .int .i64 k ∧ ∃ L, Hid (PSt w wc g (n + 64 + 12 * k + 4) a cap zs b d Q X G c (Q + 1) bm om ms L) ∧ Hid (L.length = l0))
              case first =>
                cases v4
                · go_wp2_with fail
                  go_meet
                  exact ⟨rfl, L, ST4.out.more (by omega), HL⟩
                · have hkL : k < L.length := by rw [HL.out]; exact hlt
                  go_wp2_with fail
                  have sta := ST4.out.keep ((Below.refl _ _).drew)
                  have hne := sta.ne
                  have hGl := sta.ow.lo
                  go_region_held (fun w' => w'.cell? ⟨X, 2, none⟩ = some (.slice (some ⟨G, 0, none⟩) L.length c) ∧ ∀ i, i < ms.length → w'.cell? ⟨bm, om + i, none⟩ = some (.int .i64 (ms.getD i 0))) (with_reducible (first | exact sta.mc | exact stb.mc | exact stb.mc1 hGl hne _ _)) ((go_at_call 75; refine (pick_any _ _ _ _ _ _ _ sta.cur (by omega) (by omega) (by omega)).mono ?_; rintro e wa ⟨xa, rfl, xa1, xa2, mva, hca⟩; obtain ⟨i, rfl⟩ := Int.eq_ofNat_of_zero_le xa1; have stb := sta.step mva hca; have hii : i < ms.length := (by omega); have d2 := (stb.ow.cel k hkL).c2; have g2 := stb.fz (k * 4 + 2)))
                  go_wp2_with fail
                  go_meet
                  exact ⟨rfl, _, stb.num hkL 2 (by omega) _, by unfold Hid; rw [List.length_set]; exact HL.out⟩
              case rest =>
                obtain ⟨rfl, M0, S0, HM0⟩ := hcut
                clear ST4 HL
                have hkM : k < M0.length := by rw [HM0.out]; exact hlt
                obtain ⟨ab, cb, hv2, c3, _⟩ := S0.out.bk hkM
                have hfew := S0.out.few k hkM
                obtain ⟨nb, hnb⟩ : ∃ nb, nb = (M0.getD k d0).1.backs.length := ⟨_, rfl⟩
                have HV0 : Hid ((M0.getD k d0).2 = .slice ab nb cb ∧ (M0.getD k d0).1.backs.length = nb) := ⟨by rw [hnb]; exact hv2, hnb.symm⟩
                rw [← hnb] at c3 hfew
                obtain ⟨_, _, x2⟩ := S0.out.xc
                rw [HM0.out] at x2
                clear hv2 hnb
                go_wp2_with fail
                clear x2 c3
                go_loopw [56] (fun vi wr => ∃ (i : Nat) (M : List (Pr × Value)), i ≤ nb ∧ vi = .int .i64 i ∧ Hid (PSt w wr g (n + 64 + 12 * k + 4 + 2 * i) a cap zs b d Q X G c (Q + 1) bm om ms M) ∧ Hid (M.length = l0) ∧ Hid ((M.getD k d0).2 = .slice ab nb cb ∧ (M.getD k d0).1.backs.length = nb)) (fun vi _ => nb - (intOf vi).toNat)
                case atStart => exact ⟨0, M0, Nat.zero_le _, rfl, S0, HM0, HV0⟩
                case round =>
                  obtain ⟨i, M, hi, rfl, ST, HM, HV⟩ := hrel
                  clear S0 HM0 HV0 hkM
                  have hkM : k < M.length := by rw [HM.out]; exact hlt
                  by_cases hib : i < nb
                  · obtain ⟨gb, rfl, hgl, hXg, hGg⟩ := ST.out.bk2 hkM HV.out.1 HV.out.2 hib
                    go_wp2_with fail
                    have sta := ST.out.keep ((Below.refl _ _).drew)
                    have hVV := HV.out.1
                    go_region_held (fun w' => w'.cell? ⟨X, 2, none⟩ = some (.slice (some ⟨G, 0, none⟩) M.length c) ∧ w'.cell? ⟨G, k * 4 + 3, none⟩ = some (.slice (some ⟨gb, 0, none⟩) nb cb) ∧ ∀ i, i < ms.length → w'.cell? ⟨bm, om + i, none⟩ = some (.int .i64 (ms.getD i 0))) (with_reducible (first | exact sta.m3 hkM hVV | exact stb.m3 hkM hVV | exact stb.m4 hkM hVV hgl hXg hGg _ _)) ((go_at_call 75; refine (pick_any _ _ _ _ _ _ _ sta.cur (by omega) (by omega) (by omega)).mono ?_; rintro e wa ⟨xa, rfl, xa1, xa2, mva, hca⟩; obtain ⟨j, rfl⟩ := Int.eq_ofNat_of_zero_le xa1; have stb := sta.step mva hca; have hii : j < ms.length := (by omega); obtain ⟨⟨zz, d2⟩, g2⟩ := stb.bk3 hkM hVV HV.out.2 hib))
                    clear hVV
                    go_wp2_with fail
                    go_roundw
                    case rel =>
                      obtain ⟨M2, S2, hM2, hM3⟩ := stb.back hkM (j := i) (gb := gb) (by rw [HV.out.2]; exact hib) (by rw [HV.out.1]; rfl) ms[j]
                      exact ⟨i + 1, M2, by omega, by go_num, S2.more (by omega), by unfold Hid; rw [hM2]; exact HM.out, by unfold Hid; rw [(hM3 k).1, (hM3 k).2]; exact HV.out⟩
                    case measure => simp [intOf]; omega
                  · go_wp2_with fail
                    go_roundw
                    case rel => exact ⟨k + 1, M, by omega, by go_num, ST.out.more (by omega), HM⟩
                    case measure => simp [intOf]; omega
            · go_wp2_with fail
              go_meet
              exact ⟨rfl, L, ST.out.more (by omega), HL⟩
      case rest =>
        obtain ⟨rfl, L, ST, HL⟩ := hcut
        clear ST3 HL0
        obtain ⟨_, _, x2⟩ := ST.out.xc
        rw [HL.out] at x2
        go_wp2_with fail
        refine (pick_any _ _ _ _ _ _ _ ST.out.cur (by omega) (by omega) (by omega)).mono ?_
        rintro e w5 ⟨xk, rfl, xk1, xk2, mv5, hc5⟩
        obtain ⟨kk, rfl⟩ := Int.eq_ofNat_of_zero_le xk1
        have S5 : Hid (PSt w w5 g (n + 270 + 2) a cap zs b d Q X G c (Q + 1) bm om ms L) := ST.out.step mv5 hc5
        have hkL : kk < L.length := by rw [HL.out]; omega
        clear ST x2 mv5 hc5
        go_wp2_with fail
        refine (pick_any _ _ _ _ _ _ _ S5.out.cur (by omega) (by omega) (by omega)).mono ?_
        rintro e w6 ⟨sw, rfl, sw1, sw2, mv6, hc6⟩
        have S6 : Hid (PSt w w6 g (n + 270 + 4) a cap zs b d Q X G c (Q + 1) bm om ms L) := S5.out.step mv6 hc6
        clear S5 mv6 hc6
        by_cases hs0 : sw = 0
        · have e0 : (sw == 0) = true := by rw [hs0]; rfl
          go_wp2_with fail
          have sta := S6.out.keep ((Below.refl _ _).drew)
          go_region_held (fun w' => w'.cell? ⟨X, 2, none⟩ = some (.slice (some ⟨G, 0, none⟩) L.length c) ∧ w'.cell? ⟨Q, 0, none⟩ = some (.int .i64 b) ∧ w'.cell? ⟨Q, 1, none⟩ = some (.int .i64 d)) (with_reducible (first | exact sta.n3 | exact stb.n3 | exact stb.n4 _ _)) ((go_at_call 73; refine (num_any _ _ _ _ _ _ _ _ sta.cur (by omega)).mono ?_; rintro e wa ⟨xa, rfl, xa1, xa2, mva, hca⟩; have stb := sta.step mva hca; have d2 := (stb.ow.cel kk hkL).c1; have g2 := stb.fz (kk * 4 + 1)))
          have S7 : Hid _ := stb.num hkL 1 (by omega) xa
          clear d2 g2
          obtain ⟨x0, x1, x2⟩ := S7.out.xc
          obtain ⟨r0, r1, r2, q0, q1, q2⟩ := S7.out.rc
          have FIN0 := S7.out.fin (M := n + 300) (by rw [List.length_set, HL.out]; exact l2) (by omega)
          rw [List.length_set] at FIN0
          have FIN : Hid _ := FIN0
          clear FIN0
          have HRW : Hid _ := S7.out.r
          have hq1 := S7.out.qlo
          have hq2 := S7.out.qhi
          have hq3 := S7.out.xlo
          go_wp2
          refine bodyPost_ret (results_cell_row Try.results89 _ _ w.heap.size _ _ _ _ rfl (set3_row HRW.out) Try.underlying28 rfl (by kernel_rfl)) rfl ⟨b, d, some ⟨G, 0, none⟩, c, (L.set kk (setF 1 (L.getD kk d0).1 xa, (L.getD kk d0).2)).map (fun x : Pr × Value => x.1), by rw [List.length_map]; rw [List.length_set], FIN.out⟩
        · have e0 : (sw == 0) = false := by simpa using hs0
          by_cases hs1 : sw = 1
          · have e1 : (sw == 1) = true := by rw [hs1]; rfl
            go_wp2_with fail
            have sta := S6.out.keep ((Below.refl _ _).drew)
            go_region_held (fun w' => w'.cell? ⟨X, 2, none⟩ = some (.slice (some ⟨G, 0, none⟩) L.length c) ∧ w'.cell? ⟨Q, 0, none⟩ = some (.int .i64 b) ∧ w'.cell? ⟨Q, 1, none⟩ = some (.int .i64 d)) (with_reducible (first | exact sta.n3 | exact stb.n3 | exact stb.n4 _ _)) ((go_at_call 73; refine (num_any _ _ _ _ _ _ _ _ sta.cur (by omega)).mono ?_; rintro e wa ⟨xa, rfl, xa1, xa2, mva, hca⟩; have stb := sta.step mva hca; have d2 := (stb.ow.cel kk hkL).c2; have g2 := stb.fz (kk * 4 + 2)))
            have S7 : Hid _ := stb.num hkL 2 (by omega) xa
            clear d2 g2
            obtain ⟨x0, x1, x2⟩ := S7.out.xc
            obtain ⟨r0, r1, r2, q0, q1, q2⟩ := S7.out.rc
            have FIN0 := S7.out.fin (M := n + 300) (by rw [List.length_set, HL.out]; exact l2) (by omega)
            rw [List.length_set] at FIN0
            have FIN : Hid _ := FIN0
            clear FIN0
            have HRW : Hid _ := S7.out.r
            have hq1 := S7.out.qlo
            have hq2 := S7.out.qhi
            have hq3 := S7.out.xlo
            go_wp2
            refine bodyPost_ret (results_cell_row Try.results89 _ _ w.heap.size _ _ _ _ rfl (set3_row HRW.out) Try.underlying28 rfl (by kernel_rfl)) rfl ⟨b, d, some ⟨G, 0, none⟩, c, (L.set kk (setF 2 (L.getD kk d0).1 xa, (L.getD kk d0).2)).map (fun x : Pr × Value => x.1), by rw [List.length_map]; rw [List.length_set], FIN.out⟩
          · have e1 : (sw == 1) = false := by simpa using hs1
            by_cases hs2 : sw = 2
            · have e2 : (sw == 2) = true := by rw [hs2]; rfl
              have ck := S6.out.keep (belA w6 (.cells #[.int .i64 (-1)] 3))
              have os : OwnS w6.heap.size (w6.alloc (.cells #[.int .i64 (-1)] 3)) w6.heap.size [-1] := ⟨Nat.le_refl _, _, heap_alloc_new _ _, rfl⟩
              have S70 : PSt w ((w6.alloc (.cells #[.int .i64 (-1)] 3)).setCell ⟨G, kk * 4 + 3, none⟩ (.slice (some ⟨w6.heap.size, 0, none⟩) 1 1)) g (n + 270 + 4) a cap zs b d Q X G c (Q + 1) bm om ms (L.set kk (⟨(L.getD kk d0).1.id, (L.getD kk d0).1.succ, (L.getD kk d0).1.point, [-1]⟩, .slice (some ⟨w6.heap.size, 0, none⟩) 1 1)) := S6.out.backs (belA w6 (.cells #[.int .i64 (-1)] 3)) hkL (bs := [-1]) (cb := 1) (by simp) (by simp) os
              rw [World.setCell_alloc_past _ _ _ _ S6.out.ow.lt] at S70
              have S7 : Hid _ := S70
              clear S70
              obtain ⟨_, _, y2⟩ := ck.xc
              have d3 := (ck.ow.cel kk hkL).c3
              have g3 := ck.fz (kk * 4 + 3)
              obtain ⟨_, _, z2⟩ := S6.out.xc
              have hX := S6.out.hiX
              rw [HL.out] at y2 z2
              clear os
              obtain ⟨x0, x1, x2⟩ := S7.out.xc
              obtain ⟨r0, r1, r2, q0, q1, q2⟩ := S7.out.rc
              obtain ⟨v0, v1, v2⟩ := ck.xc
              obtain ⟨t0, t1, t2, p0, p1, p2⟩ := ck.rc
              have FIN0 := S7.out.fin (M := n + 300) (by rw [List.length_set, HL.out]; exact l2) (by omega)
              rw [List.length_set, HL.out] at FIN0 x2
              rw [HL.out] at v2
              have FIN : Hid _ := FIN0
              have HRW : Hid _ := S7.out.r
              have hq1 := S6.out.qlo
              have hq2 := S6.out.qhi
              have hq3 := S6.out.xlo
              have hne := S6.out.ne
              have hGl := S6.out.ow.lo
              have hGt := S6.out.ow.lt
              clear FIN0 ck
              rw [HL.out] at hkL
              go_wp2
              refine bodyPost_ret (results_cell_row Try.results89 _ _ w.heap.size _ _ _ _ rfl (set3_row HRW.out) Try.underlying28 rfl (by kernel_rfl)) rfl ⟨b, d, some ⟨G, 0, none⟩, c, (L.set kk (⟨(L.getD kk d0).1.id, (L.getD kk d0).1.succ, (L.getD kk d0).1.point, [-1]⟩, .slice (some ⟨w6.heap.size, 0, none⟩) 1 1)).map (fun x : Pr × Value => x.1), by rw [List.length_map]; rw [List.length_set, HL.out], FIN.out⟩
            · have e2 : (sw == 2) = false := by simpa using hs2
              obtain ⟨x0, x1, x2⟩ := S6.out.xc
              obtain ⟨r0, r1, r2, q0, q1, q2⟩ := S6.out.rc
              have FIN : Hid _ := S6.out.fin (M := n + 300) (by rw [HL.out]; exact l2) (by omega)
              have HRW : Hid _ := S6.out.r
              have hq1 := S6.out.qlo
              have hq2 := S6.out.qhi
              have hq3 := S6.out.xlo
              go_wp2
              refine bodyPost_ret (results_cell_row Try.results89 _ _ w.heap.size _ _ _ _ rfl (set3_row HRW.out) Try.underlying28 rfl (by kernel_rfl)) rfl ⟨b, d, some ⟨G, 0, none⟩, c, L.map (fun x : Pr × Value => x.1), by rw [List.length_map], FIN.out⟩
end Go.Proofs.Ytejajlloipkkhaa
