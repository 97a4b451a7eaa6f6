/- The program's ideal peers. The program's IdealPeers. The program's copies: of a list, of peers. The program's copy of peers; the mathematics of a pointer that is set. Ways through the ring: what a walk, a step and a route are, in numbers. Ways through the ring: each forward brings the end nearer. Ways through the ring: with forwards enough the owner is found, and never another one. Ways through the ring: the best number to begin with. The row of a number's digits: what rowOf answers. DigitsOf on both sides: the digits, the highest first, in new memory. The best number to begin with, on both sides. BestImag on both sides. Structs in blocks of their own: read, written cell by cell, written whole, answered. Ways through the ring: the small helpers of both sides. NewNet, the program and the specification. -/
import Derived.Laws.CopyOwn
import Derived.Deep.Slices
import Derived.Laws.Rows
import Derived.Laws.Tables
import Derived.Deep.DeepCutAuto
import Derived.Test.YtioiacmaijgdoaaZ0
import Derived.Test.YtioiacmaijgdoaaZ1
import Derived.Test.YtioiacmaijgdoaaZ2
import Derived.Test.YtioiacmaijgdoaaZ3
namespace Go.Proofs.Ytioiacmaijgdoaa
open Go.RowKit
set_option linter.unusedVariables false
theorem bckL_get {zs : List Int} {p : Int} {n k : Nat} (hk : k < n) : (bckL zs p n).getD k 0 = prvI zs (prvN zs p k) := by
  simp [bckL, List.getD_eq_getElem?_getD, hk, prvN]
/-- the argument's box, the answer's box, the box of peers at X, their list at G -/
structure IPS (w wr : World) (b d : Int) (X G n : Nat) (L : List (Pr × Value)) : Prop where
  rb : RB w wr #[.int .i64 b, .int .i64 d] 28
  lo : w.heap.size + 2 ≤ X
  p : wr.heap[X]? = some (.cells #[.int .i64 b, .int .i64 d, .slice (some ⟨G, 0, none⟩) n n] 31 (0, 0))
  ow : OwnP (w.heap.size + 2) wr.heap.size wr G L
theorem IPS.hi {w wr : World} {b d : Int} {X G n : Nat} {L : List (Pr × Value)} (h : IPS w wr b d X G n L) : X < wr.heap.size := (Array.getElem?_eq_some_iff.1 h.p).1
theorem IPS.ne {w wr : World} {b d : Int} {X G n : Nat} {L : List (Pr × Value)} (h : IPS w wr b d X G n L) : ¬ X = G := fun he => by
  obtain ⟨cur, hc⟩ := h.ow.blk
  have hp := h.p
  rw [he, hc] at hp
  simp at hp
theorem IPS.keep {w wr w1 : World} {b d : Int} {X G n : Nat} {L : List (Pr × Value)} (h : IPS w wr b d X G n L) (hb : Below wr.heap.size wr w1) : IPS w w1 b d X G n L :=
  ⟨h.rb.keep hb, h.lo, (hb.block X h.hi).trans h.p, (h.ow.keep hb).wide hb.size⟩
theorem IPS.put {w wr : World} {b d : Int} {X G n : Nat} {L L' : List (Pr × Value)} {j : Nat} {v : Value} (h : IPS w wr b d X G n L) (ho : OwnP (w.heap.size + 2) wr.heap.size (wr.setCell ⟨G, j, none⟩ v) G L') : IPS w (wr.setCell ⟨G, j, none⟩ v) b d X G n L' := by
  have hlo := h.ow.lo
  refine ⟨h.rb.blocks (h.rb.bel.setCell (p := ⟨G, j, none⟩) (by simp; omega) _) (by simp [World.setCell]) (fun k hk => heap_setCell_other _ _ _ _ (by simp; omega)), h.lo, (heap_setCell_other _ _ _ _ (by simpa using h.ne)).trans h.p, ?_⟩
  have e : (wr.setCell ⟨G, j, none⟩ v).heap.size = wr.heap.size := by simp [World.setCell]
  rw [e]
  exact ho
theorem IPS.num {w wr : World} {b d : Int} {X G n : Nat} {L : List (Pr × Value)} (h : IPS w wr b d X G n L) {i : Nat} (hi : i < L.length) (f : Nat) (hf : f < 3) (z : Int) :
    IPS w (wr.setCell ⟨G, i * 4 + f, none⟩ (.int .i64 z)) b d X G n (L.set i (setF f (L.getD i d0).1 z, (L.getD i d0).2)) := h.put (h.ow.num hi f hf z)
theorem IPS.backs {w wr w1 : World} {b d : Int} {X G n : Nat} {L : List (Pr × Value)} (h : IPS w wr b d X G n L) (hb : Below wr.heap.size wr w1) {i : Nat} (hi : i < L.length) {bs : List Int} {gb cb : Nat} (hm : bs.length ≤ 1048576) (hcb : bs.length ≤ cb) (os : OwnS wr.heap.size w1 gb bs) :
    IPS w (w1.setCell ⟨G, i * 4 + 3, none⟩ (.slice (some ⟨gb, 0, none⟩) bs.length cb)) b d X G n (L.set i (⟨(L.getD i d0).1.id, (L.getD i d0).1.succ, (L.getD i d0).1.point, bs⟩, .slice (some ⟨gb, 0, none⟩) bs.length cb)) :=
  (h.keep hb).put (h.ow.backs rfl hb hi hm hcb os)
theorem IPS.cell {w wr : World} {b d : Int} {X G n : Nat} {L : List (Pr × Value)} (h : IPS w wr b d X G n L) : wr.cell? ⟨X, 0, none⟩ = some (.int .i64 b) ∧ wr.cell? ⟨X, 1, none⟩ = some (.int .i64 d) ∧ wr.cell? ⟨X, 2, none⟩ = some (.slice (some ⟨G, 0, none⟩) n n) :=
  ⟨(cell_of_row wr _ _ _ _ _ h.p).trans rfl, (cell_of_row wr _ _ _ _ _ h.p).trans rfl, (cell_of_row wr _ _ _ _ _ h.p).trans rfl⟩
theorem IPS.at {w wr : World} {b d : Int} {X G n : Nat} {L : List (Pr × Value)} (h : IPS w wr b d X G n L) (j : Nat) : wr.frozen? ⟨G, j, none⟩ = false := by
  obtain ⟨cur, hc⟩ := h.ow.blk
  exact frozen_of_row wr _ _ _ _ hc
theorem ips1 (w wa : World) (b d : Int) (n : Nat) (h : RB w wa #[.int .i64 b, .int .i64 d] 28) :
    IPS w ((wa.alloc (.cells (madeCells #[.int .i64 0, .int .i64 0, .int .i64 0, .slice none 0 0] (n * 4)) 94)).alloc (.cells #[.int .i64 b, .int .i64 d, .slice (some ⟨wa.heap.size, 0, none⟩) n n] 31)) b d (wa.heap.size + 1) wa.heap.size n (List.replicate n d0) := by
  have hlt := h.lt
  have hb1 := belA wa (.cells (madeCells #[.int .i64 0, .int .i64 0, .int .i64 0, .slice none 0 0] (n * 4)) 94)
  have hb2 := belA (wa.alloc (.cells (madeCells #[.int .i64 0, .int .i64 0, .int .i64 0, .slice none 0 0] (n * 4)) 94)) (.cells #[.int .i64 b, .int .i64 d, .slice (some ⟨wa.heap.size, 0, none⟩) n n] 31)
  refine ⟨(h.keep hb1).keep hb2, by omega, ?_, ?_⟩
  · have := heap_alloc_new (wa.alloc (.cells (madeCells #[.int .i64 0, .int .i64 0, .int .i64 0, .slice none 0 0] (n * 4)) 94)) (.cells #[.int .i64 b, .int .i64 d, .slice (some ⟨wa.heap.size, 0, none⟩) n n] 31)
    simpa using this
  · have := ((made_peers wa n).keep hb2).wide (T' := ((wa.alloc (.cells (madeCells #[.int .i64 0, .int .i64 0, .int .i64 0, .slice none 0 0] (n * 4)) 94)).alloc (.cells #[.int .i64 b, .int .i64 d, .slice (some ⟨wa.heap.size, 0, none⟩) n n] 31)).heap.size) (by simp)
    exact this.mono (by omega)
end Go.Proofs.Ytioiacmaijgdoaa
namespace Go.Proofs.Ytioiacmaijgdoaa
open Go.RowKit
set_option linter.unusedVariables false
theorem ips2 (w wa : World) (b d : Int) (n : Nat) (h : RB w wa #[.int .i64 b, .int .i64 d] 28) :
    IPS w ((wa.alloc (.cells #[.int .i64 b, .int .i64 d, .slice (some ⟨wa.heap.size + 1, 0, none⟩) n n] 31)).alloc (.cells (madeCells #[.int .i64 0, .int .i64 0, .int .i64 0, .slice none 0 0] (n * 4)) 94)) b d wa.heap.size (wa.heap.size + 1) n (List.replicate n d0) := by
  have hlt := h.lt
  have hb1 := belA wa (.cells #[.int .i64 b, .int .i64 d, .slice (some ⟨wa.heap.size + 1, 0, none⟩) n n] 31)
  have hb2 := belA (wa.alloc (.cells #[.int .i64 b, .int .i64 d, .slice (some ⟨wa.heap.size + 1, 0, none⟩) n n] 31)) (.cells (madeCells #[.int .i64 0, .int .i64 0, .int .i64 0, .slice none 0 0] (n * 4)) 94)
  have hm := made_peers (wa.alloc (.cells #[.int .i64 b, .int .i64 d, .slice (some ⟨wa.heap.size + 1, 0, none⟩) n n] 31)) n
  simp only [World.size_alloc] at hm
  refine ⟨(h.keep hb1).keep hb2, by omega, ?_, ?_⟩
  · rw [heap_alloc_old _ _ (by simp)]
    exact heap_alloc_new _ _
  · simp only [World.size_alloc]
    exact hm.mono (by omega)
theorem heap_size_setCell (w : World) (a : Addr) (v : Value) : (w.setCell a v).heap.size = w.heap.size := by simp [World.setCell]
theorem map_getD {L : List (Pr × Value)} {ps : List Pr} (hl : L.length = ps.length) (h : ∀ j, j < ps.length → (L.getD j d0).1 = ps.getD j pr0) : L.map (·.1) = ps := map_fst hl h
end Go.Proofs.Ytioiacmaijgdoaa
namespace Go.Proofs.Ytioiacmaijgdoaa
open Go.RowKit Go.Deep
set_option linter.unusedVariables false
theorem size_int1 : (Try.prog.info? 3).map (·.size) = some 1 := by kernel_rfl
theorem size_peer4 : (Try.prog.info? 94).map (·.size) = some 4 := by kernel_rfl
theorem ints_one1 (l : List Int) : ∀ v ∈ l.map (Value.int .i64), v.oneCell' = true := by
  intro v hv
  simp at hv
  obtain ⟨a, _, rfl⟩ := hv
  rfl
theorem splice_all1 {l m : List Int} (h : l.length = m.length) : splice (l.map (Value.int .i64)) 0 (m.map (Value.int .i64)) = m.map (Value.int .i64) := by
  simp [splice, h]
theorem row_src1 {w : World} {a : Option Addr} {zs : List Int} (h : RowAt w a zs) (hz : 0 < (zs.map (Value.int .i64)).length) (o : Obj) : ∃ ad, a = some ad ∧ ∀ j v, (zs.map (Value.int .i64))[j]? = some v → (w.alloc o).cell? (ad.add j) = some v := by
  rw [List.length_map] at hz
  obtain ⟨bk, off, rfl⟩ := rowAt_form h hz
  obtain ⟨hb, hc⟩ := rowAt_cell (h.alloc o) hz
  refine ⟨_, rfl, fun j v hv => ?_⟩
  rw [add_none']
  have hj : j < zs.length := by
    have := (List.getElem?_eq_some_iff.1 hv).1
    simpa using this
  rw [hc j hj]
  simp [List.getElem?_eq_getElem hj] at hv
  rw [← hv]
  simp [List.getD_eq_getElem?_getD, hj]
set_option maxHeartbeats 800000 in
theorem copyList_any (a : Option Addr) (cap : Nat) (zs : List Int) (w : World) (hm : zs.length ≤ 1048576) (hr : RowAt w a zs) :
    Calls Try.prog 67 #[.slice a zs.length cap] w fun e w' => e = .returned (.slice (some ⟨w.heap.size, 0, none⟩) zs.length zs.length) ∧ OwnZ w w' w.heap.size zs := by
  have hmk := make_ints zs.length hm
  have HS : Hid (0 < (zs.map (Value.int .i64)).length → (some (⟨w.heap.size, 0, none⟩ : Addr)) = some ⟨w.heap.size, 0, none⟩ ∧ ∃ ad, a = some ad ∧ ∀ j v, (zs.map (Value.int .i64))[j]? = some v → (w.alloc (.cells (zv (List.replicate zs.length 0)) 3)).cell? (ad.add j) = some v) := fun hz => ⟨rfl, row_src1 hr hz _⟩
  have HL : Hid ((zs.map (Value.int .i64)).length = Nat.min zs.length zs.length) := by show _ = min _ _; simp
  have HF : Hid (0 + (zs.map (Value.int .i64)).length ≤ ((List.replicate zs.length 0).map (Value.int .i64)).length) := by unfold Hid; simp
  clear hr
  go_enter Try.func67, Try.ntmps67
  go_wp2_with (refine wpList_copy_splice rfl (.tmp 7) (.tmp 8) 33 33 rfl 3 Try.underlying33 size_int1 _ _ _ _ _ _ rfl rfl w.heap.size 0 ((List.replicate zs.length 0).map (Value.int .i64)) 3 (heap_alloc_new _ _) (zs.map (Value.int .i64)) HL.out HS.out HF.out (ints_one1 zs) w.heap.size w (belA _ _) (Nat.le_refl _) ?_; intro w1 hw1 hb1)
  go_ret
  refine ⟨rfl, hb1, Nat.le_refl _, ?_⟩
  have := hw1.out
  rw [splice_all1 (by simp)] at this
  exact this

/-- a copy of elements of several cells into a row of one's own -/
theorem run_copy_many {P : Program} (w : World) (dT sT ty elem : TypeId) (g o dLen dCap : Nat) (a : Addr) (sLen sCap : Nat) (cur : Array Value) (t : TypeId) (cs : List Value) (z n : Nat)
    (hu : P.underlying dT = some (.slice elem)) (hs : (P.info? elem).map (·.size) = some z)
    (hg : w.heap[g]? = some (.cells cur t (0, 0))) (hn : Nat.min sLen dLen = n) (hc : cs.length = n * z)
    (hsrc : ∀ j v, cs[j]? = some v → w.cell? (a.add j) = some v) (hfit : o + cs.length ≤ cur.size) (h1 : ∀ v ∈ cs, v.oneCell' = true) :
    (Builtin.copy_ #[dT, sT] ty #[.slice (some ⟨g, o, none⟩) dLen dCap, .slice (some a) sLen sCap]).run P w =
      .ok (goInt n) (w.setRow g (cur.toList.take o ++ cs ++ cur.toList.drop (o + cs.length)).toArray) := by
  have hl := run_loadCells_list (P := P) w a cs hsrc
  have hst := run_storeCells_at P g o t cs 0 cur w hg (by simpa using hfit) h1
  rw [hc] at hl
  cases hq : P.info? elem with
  | none => simp [hq] at hs
  | some i =>
    have hi : i.size = z := by simpa [hq] using hs
    simp [Builtin.copy_, run_underlying hu, Builtin.lenOf, Builtin.firstCells, sizeOf, typeInfo, hq, hi, hn, hl, hst]
theorem wpList_copy_many {P : Program} {w : World} {ops : Array Oper} {rest : List Oper} {o : Oper} {a : Act} {Q : Exit → Act → World → Prop} (hgd : o.guard = none) (d s : Operand) (dT sT : TypeId)
    (ho : o.op = .call { callee := .builtin .copy, args := #[d, s], argTypes := #[dT, sT] }) (elem : TypeId) (z n : Nat) (hu : P.underlying dT = some (.slice elem)) (hsz : (P.info? elem).map (·.size) = some z)
    (g off dLen dCap : Nat) (ad : Addr) (sLen sCap : Nat) (hd : a.eval d = .slice (some ⟨g, off, none⟩) dLen dCap) (hs : a.eval s = .slice (some ad) sLen sCap)
    (cur : Array Value) (t : TypeId) (hg : w.heap[g]? = some (.cells cur t (0, 0))) (cs : List Value) (hn : Nat.min sLen dLen = n) (hc : cs.length = n * z)
    (hsrc : ∀ j v, cs[j]? = some v → w.cell? (ad.add j) = some v) (hfit : off + cs.length ≤ cur.size) (h1 : ∀ v ∈ cs, v.oneCell' = true) (B : Nat) (w0 : World) (hb : Below B w0 w) (hBg : B ≤ g)
    (h : ∀ w', Hid (w'.heap[g]? = some (.cells (cur.toList.take off ++ cs ++ cur.toList.drop (off + cs.length)).toArray t (0, 0))) → Hid (Below B w0 w') → Hid (w'.heap.size = w.heap.size ∧ ∀ k, ¬ k = g → w'.heap[k]? = w.heap[k]?) → wpList P ops Q rest (a.put o.dst (goInt n)) w') : wpList P ops Q (o :: rest) a w := by
  refine wpList_plain hgd fun K hK => ?_
  have hrun := run_copy_many (P := P) w dT sT o.type elem g off dLen dCap ad sLen sCap cur t cs z n hu hsz hg hn hc hsrc hfit h1
  unfold Oper.wp
  simp [execOp, ho, resolve, invoke, builtin, hd, hs, hrun, Result.andThen]
  refine hK _ _ ?_
  have := h _ (setRow_heap w g cur _ t _ hg) (below_setRow hb hBg _) ⟨by simp, fun k hk => setRow_other w g k _ hk⟩
  simpa using this
/-- the cells of peers that came in -/
theorem peers_src {w : World} {bk off : Nat} {ps : List Pr} (h : PeersAt w (some ⟨bk, off, none⟩) ps) (hz : 0 < ps.length) :
    ∃ L0 : List (Pr × Value), L0.map (·.1) = ps ∧ L0.length = ps.length ∧ (∀ j v, (flatP L0)[j]? = some v → w.cell? ⟨bk, off + j, none⟩ = some v) ∧ (∀ v ∈ flatP L0, v.oneCell' = true) ∧
      ∀ i, i < ps.length → (L0.getD i d0).1 = ps.getD i pr0 ∧ ∃ ab cb, (L0.getD i d0).2 = .slice ab (ps.getD i pr0).backs.length cb ∧ RowAt w ab (ps.getD i pr0).backs := by
  obtain ⟨hb, hc⟩ := peersAt_cell h hz
  have key : ∀ i, i < ps.length → ∃ v : Value, w.cell? ⟨bk, off + i * 4 + 3, none⟩ = some v ∧ ∃ ab cb, v = .slice ab (ps.getD i pr0).backs.length cb ∧ RowAt w ab (ps.getD i pr0).backs := fun i hi => by
    obtain ⟨_, _, _, ab, cb, c3, hr, _, _⟩ := hc i hi
    exact ⟨_, c3, ab, cb, rfl, hr⟩
  obtain ⟨f, hf⟩ := @choose_lt Value ⟨.bool false⟩ _ _ key
  have hL : ∀ i, i < ps.length → ((List.range ps.length).map (fun i => (ps.getD i pr0, f i))).getD i d0 = (ps.getD i pr0, f i) := fun i hi => by simp [List.getD_eq_getElem?_getD, hi]
  refine ⟨(List.range ps.length).map (fun i => (ps.getD i pr0, f i)), ?_, by simp, ?_, ?_, ?_⟩
  · refine List.ext_getElem (by simp) (fun i h1 h2 => ?_)
    simp [List.getD_eq_getElem?_getD, h2]
  · intro j v hj
    have hjl : j < ((List.range ps.length).map (fun i => (ps.getD i pr0, f i))).length * 4 := by
      have := (List.getElem?_eq_some_iff.1 hj).1
      rwa [flatP_len] at this
    have hi : j / 4 < ((List.range ps.length).map (fun i => (ps.getD i pr0, f i))).length := by omega
    obtain ⟨g0, g1, g2, g3⟩ := flatP_get _ (j / 4) hi
    have hi' : j / 4 < ps.length := by simpa using hi
    rw [hL _ hi'] at g0 g1 g2 g3
    obtain ⟨c0, c1, c2, _⟩ := hc (j / 4) hi'
    have c3 := (hf (j / 4) hi').1
    have hm : j % 4 = 0 ∨ j % 4 = 1 ∨ j % 4 = 2 ∨ j % 4 = 3 := by omega
    rcases hm with hm | hm | hm | hm
    · have e : j = j / 4 * 4 := by omega
      rw [e] at hj ⊢
      rw [g0] at hj
      rw [← hj]; exact c0
    · have e : j = j / 4 * 4 + 1 := by omega
      rw [e] at hj ⊢
      rw [g1] at hj
      rw [← hj, ← Nat.add_assoc]; exact c1
    · have e : j = j / 4 * 4 + 2 := by omega
      rw [e] at hj ⊢
      rw [g2] at hj
      rw [← hj, ← Nat.add_assoc]; exact c2
    · have e : j = j / 4 * 4 + 3 := by omega
      rw [e] at hj ⊢
      rw [g3] at hj
      rw [← hj, ← Nat.add_assoc]; exact c3
  · intro v hv
    have one : ∀ L : List (Pr × Value), (∀ e ∈ L, e.2.oneCell' = true) → ∀ v ∈ flatP L, v.oneCell' = true := fun L => by
      induction L with
      | nil => intro _ v hv; simp [flatP] at hv
      | cons e L ih =>
        intro h v hv
        simp only [flatP, List.mem_cons] at hv
        rcases hv with rfl | rfl | rfl | rfl | hv
        · rfl
        · rfl
        · rfl
        · exact h _ (by simp)
        · exact ih (fun e he => h e (by simp [he])) v hv
    refine one _ (fun e he => ?_) v hv
    simp only [List.mem_map, List.mem_range] at he
    obtain ⟨i, hi, rfl⟩ := he
    obtain ⟨_, ab, cb, hv, _⟩ := hf i hi
    show (f i).oneCell' = true
    rw [hv]; rfl
  · intro i hi
    rw [hL i hi]
    obtain ⟨_, ab, cb, hv, hr⟩ := hf i hi
    exact ⟨rfl, ab, cb, hv, hr⟩
theorem flatP_set (v : Value) : ∀ (L : List (Pr × Value)) (i : Nat), i < L.length → (flatP L).set (i * 4 + 3) v = flatP (L.set i ((L.getD i d0).1, v))
  | [], i, h => by simp at h
  | e :: L, 0, h => by simp [flatP]
  | e :: L, i + 1, h => by
    have := flatP_set v L i (by simpa using h)
    have e0 : (i + 1) * 4 + 3 = i * 4 + 3 + 4 := by omega
    rw [e0]
    simp only [flatP, List.getD_cons_succ, List.set_cons_succ, List.set]
    rw [this]
/-- peers on the way into new memory: the first k have lists of their own -/
structure CPS (w wr : World) (L0 M : List (Pr × Value)) (k : Nat) : Prop where
  bel : Below w.heap.size w wr
  r : wr.heap[w.heap.size]? = some (.cells #[.int .i64 0, .int .i64 0, .slice none 0 0] 31 (0, 0))
  row : wr.heap[w.heap.size + 1]? = some (.cells (flatP M).toArray 94 (0, 0))
  len : M.length = L0.length
  fst : ∀ i, i < L0.length → (M.getD i d0).1 = (L0.getD i d0).1
  old : ∀ i, k ≤ i → i < L0.length → M.getD i d0 = L0.getD i d0
  val : ∀ i, i < k → i < L0.length → ValOk (w.heap.size + 2) wr.heap.size wr (M.getD i d0)
  sep : ∀ i j, i < j → j < k → j < L0.length → ¬ (M.getD i d0).1.backs = [] → ¬ (M.getD j d0).1.backs = [] → ¬ (M.getD i d0).2.ownBlock = (M.getD j d0).2.ownBlock
theorem CPS.lt {w wr : World} {L0 M : List (Pr × Value)} {k : Nat} (h : CPS w wr L0 M k) : w.heap.size + 1 < wr.heap.size := (Array.getElem?_eq_some_iff.1 h.row).1
theorem CPS.cell {w wr : World} {L0 M : List (Pr × Value)} {k : Nat} (h : CPS w wr L0 M k) {i : Nat} (hi : i < L0.length) : wr.cell? ⟨w.heap.size + 1, i * 4 + 3, none⟩ = some (M.getD i d0).2 ∧ wr.frozen? ⟨w.heap.size + 1, i * 4 + 3, none⟩ = false := by
  refine ⟨(cell_of_row wr _ _ _ _ _ h.row).trans ?_, frozen_of_row wr _ _ _ _ h.row⟩
  have := (flatP_get M i (by rw [h.len]; exact hi)).2.2.2
  simpa using this
theorem CPS.step {w wr w1 : World} {L0 M : List (Pr × Value)} {k gb : Nat} {bs : List Int} (h : CPS w wr L0 M k) (hk : k < L0.length) (hb : Below wr.heap.size wr w1) (hbs : bs = (M.getD k d0).1.backs) (hm : bs.length ≤ 1048576) (os : OwnS wr.heap.size w1 gb bs) :
    CPS w (w1.setCell ⟨w.heap.size + 1, k * 4 + 3, none⟩ (.slice (some ⟨gb, 0, none⟩) bs.length bs.length)) L0 (M.set k ((M.getD k d0).1, .slice (some ⟨gb, 0, none⟩) bs.length bs.length)) (k + 1) := by
  have hlt := h.lt
  have hkM : k < M.length := by rw [h.len]; exact hk
  have hblk : ∀ q, ¬ q = w.heap.size + 1 → q < wr.heap.size → (w1.setCell ⟨w.heap.size + 1, k * 4 + 3, none⟩ (.slice (some ⟨gb, 0, none⟩) bs.length bs.length)).heap[q]? = wr.heap[q]? := fun q hq hl => (heap_setCell_other _ _ _ _ (by simpa using hq)).trans (hb.block q hl)
  have hss : (w1.setCell ⟨w.heap.size + 1, k * 4 + 3, none⟩ (.slice (some ⟨gb, 0, none⟩) bs.length bs.length)).heap.size = w1.heap.size := by simp [World.setCell]
  have hslo := os.lo
  have hslt := os.lt
  have vold : ∀ e, ValOk (w.heap.size + 2) wr.heap.size wr e → ValOk (w.heap.size + 2) w1.heap.size (w1.setCell ⟨w.heap.size + 1, k * 4 + 3, none⟩ (.slice (some ⟨gb, 0, none⟩) bs.length bs.length)) e := fun e he =>
    (he.blocks (fun q h1 h2 h3 => hblk q (by omega) h3)).wide hb.size
  refine ⟨(belt h.bel hb).setCell (p := ⟨w.heap.size + 1, k * 4 + 3, none⟩) (by simp) _, (hblk _ (by omega) (by omega)).trans h.r, ?_, by rw [List.length_set]; exact h.len, fun i hi => ?_, fun i h1 h2 => ?_, fun i h1 h2 => ?_, fun i j hij h1 h2 => ?_⟩
  · rw [heap_setCell_same _ _ _ _ _ _ ((hb.block _ hlt).trans h.row)]
    rw [← flatP_set _ M k hkM]
    simp
  · rw [getD_set (by rw [h.len]; exact hi)]
    by_cases he : k = i
    · subst he; rw [if_pos rfl]; exact h.fst k hk
    · rw [if_neg he]; exact h.fst i hi
  · rw [getD_set (by rw [h.len]; exact h2), if_neg (by omega)]
    exact h.old i (by omega) h2
  · rw [hss, getD_set (by rw [h.len]; exact h2)]
    by_cases he : k = i
    · subst he
      rw [if_pos rfl]
      subst hbs
      exact ⟨_, _, rfl, ⟨Nat.le_refl _, fun h => by cases h⟩, hm, .inr ⟨gb, rfl, hslt, (os.mono (by omega)).of_block (heap_setCell_other _ _ _ _ (by simp; omega))⟩⟩
    · rw [if_neg he]
      exact vold _ (h.val i (by omega) h2)
  · rw [getD_set (by rw [h.len]; omega), getD_set (by rw [h.len]; exact h2), if_neg (by omega)]
    by_cases he : k = j
    · subst he
      rw [if_pos rfl]
      intro hn1 _ hq
      obtain ⟨ab, cb, hv, _, _, ho⟩ := h.val i hij (by omega)
      rcases ho with ho | ⟨gi, ha, hl, _⟩
      · exact hn1 ho
      · rw [hv, ha] at hq
        simp [Value.ownBlock] at hq
        omega
    · rw [if_neg he]
      exact h.sep i j hij (by omega) h2
theorem CPS.done {w wr : World} {L0 M : List (Pr × Value)} (h : CPS w wr L0 M L0.length) : OwnP (w.heap.size + 1) wr.heap.size wr (w.heap.size + 1) M := by
  have get : ∀ j v, (flatP M)[j]? = some v → wr.cell? ⟨w.heap.size + 1, j, none⟩ = some v := fun j v hj => by
    rw [cell_of_row wr _ _ _ _ _ h.row]; simpa using hj
  refine ⟨Nat.le_refl _, h.lt, ⟨_, h.row⟩, fun i hi => ?_, fun i hi => ?_, fun i j hij hj => h.sep i j hij (by rw [← h.len]; exact hj) (by rw [← h.len]; exact hj)⟩
  · obtain ⟨f0, f1, f2, f3⟩ := flatP_get M i hi
    exact ⟨get _ _ f0, get _ _ f1, get _ _ f2, get _ _ f3⟩
  · obtain ⟨ab, cb, hv, hc, hm, ho⟩ := h.val i (by rw [← h.len]; exact hi) (by rw [← h.len]; exact hi)
    refine ⟨ab, cb, hv, hc, hm, ?_⟩
    rcases ho with ho | ⟨gb, ha, hl, os⟩
    · exact .inl ho
    · exact .inr ⟨gb, ha, hl, os.mono (by omega)⟩
end Go.Proofs.Ytioiacmaijgdoaa
namespace Go.Proofs.Ytioiacmaijgdoaa
open Go.RowKit Go.Deep
set_option linter.unusedVariables false
theorem made_len (n : Nat) : (madeCells #[Value.int .i64 0, .int .i64 0, .int .i64 0, .slice none 0 0] (n * 4)).size = n * 4 := by simp [size_madeCells]
set_option maxHeartbeats 3200000 in
theorem copyPeers_any (q : Nat) (b d : Int) (a : Option Addr) (cap : Nat) (ps : List Pr) (w : World) (hz : 0 < ps.length) (hm : ps.length ≤ 16) (h3 : ∀ i, i < ps.length → (ps.getD i pr0).backs.length ≤ 3) (hq : q < w.heap.size) (c0 : w.cell? ⟨q, 0, none⟩ = some (.int .i64 b)) (c1 : w.cell? ⟨q, 1, none⟩ = some (.int .i64 d)) (c2 : w.cell? ⟨q, 2, none⟩ = some (.slice a ps.length cap)) (hr : PeersAt w a ps) :
    Calls Try.prog 32 #[.pointer (some ⟨q, 0, none⟩)] w fun e w' => ∃ g L, e = .returned (.agg #[.int .i64 b, .int .i64 d, .slice (some ⟨g, 0, none⟩) ps.length ps.length]) ∧ L.map (·.1) = ps ∧ OwnP w.heap.size w'.heap.size w' g L ∧ Below w.heap.size w w' := by
  obtain ⟨bk, off, rfl⟩ := peersAt_form hr hz
  obtain ⟨L0, hL0, hl0, hsrc, hone, hval⟩ := peers_src hr hz
  have hmk := make_peers ps.length (by omega)
  have hbk := (peersAt_cell hr hz).1
  have hA1 : Below w.heap.size w (w.alloc (.cells #[.int .i64 0, .int .i64 0, .slice none 0 0] 31)) := belA _ _
  have hA2 : Below w.heap.size w ((w.alloc (.cells #[.int .i64 0, .int .i64 0, .slice none 0 0] 31)).alloc (.cells (madeCells #[.int .i64 0, .int .i64 0, .int .i64 0, .slice none 0 0] (ps.length * 4)) 94)) := belt hA1 (belA _ _)
  have k2 : (w.alloc (.cells #[.int .i64 0, .int .i64 0, .slice none 0 0] 31)).cell? ⟨q, 2, none⟩ = some (.slice (some ⟨bk, off, none⟩) ps.length cap) := (hA1.cell (p := ⟨q, 2, none⟩) hq).trans c2
  have e2 : ((w.alloc (.cells #[.int .i64 0, .int .i64 0, .slice none 0 0] 31)).alloc (.cells (madeCells #[.int .i64 0, .int .i64 0, .int .i64 0, .slice none 0 0] (ps.length * 4)) 94)).cell? ⟨q, 2, none⟩ = some (.slice (some ⟨bk, off, none⟩) ps.length cap) := (hA2.cell (p := ⟨q, 2, none⟩) hq).trans c2
  have HSRC : Hid (∀ j v, (flatP L0)[j]? = some v → ((w.alloc (.cells #[.int .i64 0, .int .i64 0, .slice none 0 0] 31)).alloc (.cells (madeCells #[.int .i64 0, .int .i64 0, .int .i64 0, .slice none 0 0] (ps.length * 4)) 94)).cell? ((⟨bk, off, none⟩ : Addr).add j) = some v) := fun j v hj => by
    rw [add_none']
    exact (hA2.cell (p := ⟨bk, off + j, none⟩) hbk).trans (hsrc j v hj)
  have HMIN : Hid (Nat.min ps.length ps.length = ps.length) := by show min _ _ = _; simp
  have HCL : Hid ((flatP L0).length = ps.length * 4) := by unfold Hid; rw [flatP_len, hl0]
  have HFIT : Hid (0 + (flatP L0).length ≤ (madeCells #[.int .i64 0, .int .i64 0, .int .i64 0, .slice none 0 0] (ps.length * 4)).size) := by unfold Hid; rw [HCL.out, made_len]; omega
  have HONE : Hid (∀ v ∈ flatP L0, v.oneCell' = true) := hone
  have HG : Hid (((w.alloc (.cells #[.int .i64 0, .int .i64 0, .slice none 0 0] 31)).alloc (.cells (madeCells #[.int .i64 0, .int .i64 0, .int .i64 0, .slice none 0 0] (ps.length * 4)) 94)).heap[w.heap.size + 1]? = some (.cells (madeCells #[.int .i64 0, .int .i64 0, .int .i64 0, .slice none 0 0] (ps.length * 4)) 94 (0, 0))) := by
    have := heap_alloc_new (w.alloc (.cells #[.int .i64 0, .int .i64 0, .slice none 0 0] 31)) (.cells (madeCells #[.int .i64 0, .int .i64 0, .int .i64 0, .slice none 0 0] (ps.length * 4)) 94)
    unfold Hid
    simpa using this
  have HR0 : Hid (((w.alloc (.cells #[.int .i64 0, .int .i64 0, .slice none 0 0] 31)).alloc (.cells (madeCells #[.int .i64 0, .int .i64 0, .int .i64 0, .slice none 0 0] (ps.length * 4)) 94)).heap[w.heap.size]? = some (.cells #[.int .i64 0, .int .i64 0, .slice none 0 0] 31 (0, 0))) := by
    unfold Hid
    rw [heap_alloc_old _ _ (by simp)]
    exact heap_alloc_new _ _
  have HB2 : Hid (Below w.heap.size w ((w.alloc (.cells #[.int .i64 0, .int .i64 0, .slice none 0 0] 31)).alloc (.cells (madeCells #[.int .i64 0, .int .i64 0, .int .i64 0, .slice none 0 0] (ps.length * 4)) 94))) := hA2
  have HVAL : Hid (∀ i, i < ps.length → (L0.getD i d0).1 = ps.getD i pr0 ∧ ∃ ab cb, (L0.getD i d0).2 = .slice ab (ps.getD i pr0).backs.length cb ∧ RowAt w ab (ps.getD i pr0).backs) := hval
  have HL0 : Hid (L0.map (·.1) = ps) := hL0
  have HLL : Hid (L0.length = ps.length) := hl0
  have H3 : Hid (∀ i, i < ps.length → (ps.getD i pr0).backs.length ≤ 3) := h3
  have C0 : Hid (w.cell? ⟨q, 0, none⟩ = some (.int .i64 b)) := c0
  have C1 : Hid (w.cell? ⟨q, 1, none⟩ = some (.int .i64 d)) := c1
  clear hr hL0 hl0 hsrc hone hval hbk hA1 hA2 h3 c0 c1 c2
  go_enter Try.func32, Try.ntmps32
  go_wp2_with (refine wpList_copy_many rfl (.tmp 12) (.tmp 16) 29 29 rfl 94 4 ps.length Try.underlying29 size_peer4 (w.heap.size + 1) 0 ps.length ps.length ⟨bk, off, none⟩ ps.length cap rfl rfl (madeCells #[.int .i64 0, .int .i64 0, .int .i64 0, .slice none 0 0] (ps.length * 4)) 94 HG.out (flatP L0) HMIN.out HCL.out HSRC.out HFIT.out HONE.out w.heap.size w HB2.out (by omega) ?_; intro w1 hrow1 hb1 hk1; have ST0 : Hid (CPS w w1 L0 L0 0) := ⟨hb1.out, (hk1.out.2 _ (by omega)).trans HR0.out, by rw [hrow1.out]; simp [HCL.out, made_len], rfl, fun _ _ => rfl, fun _ _ _ => rfl, fun i hi _ => by omega, fun i j _ hj _ => by omega⟩; clear hrow1 hb1 hk1 hmk k2 e2)
  clear HSRC HMIN HCL HFIT HONE HG HR0 HB2
  go_loopw [20] (fun vi wr => ∃ (k : Nat) (M : List (Pr × Value)), k ≤ ps.length ∧ vi = .int .i64 k ∧ Hid (CPS w wr L0 M k)) (fun vi _ => ps.length - (intOf vi).toNat)
  case atStart => exact ⟨0, L0, Nat.zero_le _, rfl, ST0⟩
  case round =>
    obtain ⟨k, M, hk, rfl, ST⟩ := hrel
    clear ST0
    by_cases hlt : k < ps.length
    · have hk0 : k < L0.length := by rw [HLL.out]; exact hlt
      obtain ⟨g3, f3⟩ := ST.out.cell hk0
      obtain ⟨hv1, ab, cb, hv2, hrow⟩ := HVAL.out k hlt
      rw [ST.out.old k (Nat.le_refl _) hk0, hv2] at g3
      have hb3 := H3.out k hlt
      have hbs : (ps.getD k pr0).backs = (M.getD k d0).1.backs := by rw [ST.out.old k (Nat.le_refl _) hk0, hv1]
      have HBS : Hid ((ps.getD k pr0).backs = (M.getD k d0).1.backs) := hbs
      have hsz := ST.out.lt
      have HRW : Hid (RowAt w ab (ps.getD k pr0).backs) := hrow
      have hge : Hid ((M.getD k d0).1 = ps.getD k pr0) := by unfold Hid; rw [ST.out.old k (Nat.le_refl _) hk0, hv1]
      clear hv1 hv2 hbs hrow
      generalize (ps.getD k pr0).backs = bs at g3 hb3 HBS HRW
      have C := copyList_any ab cb bs wr (by omega) (HRW.out.keep ST.out.bel)
      go_wp2_with fail
      refine C.mono ?_
      rintro e w2 ⟨rfl, ow⟩
      have ST2 : Hid _ := ST.out.step hk0 ow.bel HBS.out (by omega) ow.owns
      have g4 : w2.cell? ⟨w.heap.size + 1, k * 4 + 3, none⟩ = some (.slice ab bs.length cb) := (ow.bel.cell (p := ⟨w.heap.size + 1, k * 4 + 3, none⟩) hsz).trans g3
      have f4 : w2.frozen? ⟨w.heap.size + 1, k * 4 + 3, none⟩ = false := frozen_of_row w2 _ _ _ _ ((ow.bel.block _ hsz).trans ST.out.row)
      clear ow C g3 f3 ST
      go_wp2_with fail
      go_roundw
      case rel => exact ⟨k + 1, _, by omega, by go_num, ST2⟩
      case measure => simp [intOf]; omega
    · obtain rfl : k = ps.length := by omega
      have hsz := ST.out.lt
      have r0 : wr.cell? ⟨w.heap.size, 0, none⟩ = some (.int .i64 0) := (cell_of_row wr _ _ _ _ _ ST.out.r).trans rfl
      have r1 : wr.cell? ⟨w.heap.size, 1, none⟩ = some (.int .i64 0) := (cell_of_row wr _ _ _ _ _ ST.out.r).trans rfl
      have r2 : wr.cell? ⟨w.heap.size, 2, none⟩ = some (.slice none 0 0) := (cell_of_row wr _ _ _ _ _ ST.out.r).trans rfl
      have q0 : wr.frozen? ⟨w.heap.size, 0, none⟩ = false := frozen_of_row wr _ _ _ _ ST.out.r
      have q1 : wr.frozen? ⟨w.heap.size, 1, none⟩ = false := frozen_of_row wr _ _ _ _ ST.out.r
      have q2 : wr.frozen? ⟨w.heap.size, 2, none⟩ = false := frozen_of_row wr _ _ _ _ ST.out.r
      have k0 : wr.cell? ⟨q, 0, none⟩ = some (.int .i64 b) := (ST.out.bel.cell (p := ⟨q, 0, none⟩) hq).trans C0.out
      have k1 : wr.cell? ⟨q, 1, none⟩ = some (.int .i64 d) := (ST.out.bel.cell (p := ⟨q, 1, none⟩) hq).trans C1.out
      have HM : Hid (M.map (·.1) = ps) := map_getD (by rw [ST.out.len, HLL.out]) (fun j hj => by rw [ST.out.fst j (by rw [HLL.out]; exact hj)]; exact (HVAL.out j hj).1)
      have OW : Hid (OwnP w.heap.size (set3 wr w.heap.size (.int .i64 b) (.int .i64 d) (.slice (some ⟨w.heap.size + 1, 0, none⟩) ps.length ps.length)).heap.size (set3 wr w.heap.size (.int .i64 b) (.int .i64 d) (.slice (some ⟨w.heap.size + 1, 0, none⟩) ps.length ps.length)) (w.heap.size + 1) M) := by
        unfold Hid
        rw [set3_size]
        have := ST.out
        rw [← HLL.out] at this
        exact (this.done.blocks (fun k hk _ _ => set3_block (by omega))).mono (by omega)
      go_wp2
      refine bodyPost_ret (results_cell_row Try.results32 _ _ w.heap.size _ _ _ _ rfl (set3_row ST.out.r) Try.underlying31 rfl (by kernel_rfl)) rfl ⟨w.heap.size + 1, M, rfl, HM.out, OW.out, set3_below ST.out.bel (Nat.le_refl _)⟩

def spL (ps : List Pr) (x pt : Int) (bs : List Int) : List Pr := ps.map (fun p => if p.id = x then ⟨p.id, p.succ, pt, bs⟩ else p)
def spOk (b d : Int) (ps : List Pr) (x pt : Int) (bs : List Int) : Bool := goodP b d ps && memI (idsP ps) x && memI (idsP ps) pt && bokB (idsP ps) bs
theorem spL_len (ps : List Pr) (x pt : Int) (bs : List Int) : (spL ps x pt bs).length = ps.length := by simp [spL]
theorem spL_get {ps : List Pr} {x pt : Int} {bs : List Int} {i : Nat} (hi : i < ps.length) : (spL ps x pt bs).getD i pr0 = if (ps.getD i pr0).id = x then ⟨(ps.getD i pr0).id, (ps.getD i pr0).succ, pt, bs⟩ else ps.getD i pr0 := by
  simp [spL, List.getD_eq_getElem?_getD, hi]
/-- in a ring the member below whom as many are as the place tells is one alone -/
theorem blw_one {b d : Int} {zs : List Int} (R : Ring b d zs) {x : Int} (hx : memI zs x = true) {i : Nat} (hi : i < zs.length) : zs.getD i 0 = x ↔ i = blw zs x := by
  have h := of_decide_eq_true hx
  constructor
  · intro he
    by_cases h1 : i < blw zs x
    · have := R.ris i (blw zs x) h1 h.1
      omega
    · by_cases h2 : blw zs x < i
      · have := R.ris (blw zs x) i h2 hi
        omega
      · omega
  · intro he
    rw [he]; exact h.2
end Go.Proofs.Ytioiacmaijgdoaa
namespace Go.Proofs.Ytioiacmaijgdoaa
open Go.RowKit
set_option linter.unusedVariables false
/-- how far it is up to the first number whose last n digits are the first n of the key -/
def up4 (b d f k n : Int) : Int := (k / sz ((b / d - n) * d) - f % sz (n * d) + sz (n * d)) % sz (n * d)
def best (b d f m k : Int) : Nat → Int × Int
  | 0 => (f, b / d)
  | n + 1 => if up4 b d f k (n + 1 : Nat) < m then ((f + up4 b d f k (n + 1 : Nat)) % sz b, b / d - (n + 1 : Nat)) else best b d f m k n
def bestI (b d f t k : Int) : Int × Int := best b d f (rnd b f t) k (cnt b d)
structure Wk where
  at_ : Int
  imag : Int
  left : Int
  points : Int
  succs : Int
  state : Int
  owner : Int
def wk0 : Wk := ⟨0, 0, 0, 0, 0, 0, 0⟩
def Wk.cells (v : Wk) : Array Value := #[.int .i64 v.at_, .int .i64 v.imag, .int .i64 v.left, .int .i64 v.points, .int .i64 v.succs, .int .i64 v.state, .int .i64 v.owner]
def prN : Pr := ⟨-1, 0, 0, []⟩
def peerI : List Pr → Int → Pr
  | [], _ => prN
  | p :: ps, x => if p.id = x then p else peerI ps x
def dgt4 (d k l : Int) : Int := k / sz ((l - 1) * d) % sz d
def stp (b d : Int) (ps : List Pr) (k ttl : Int) (v : Wk) : Wk :=
  if k = v.at_ then ⟨v.at_, v.imag, v.left, v.points, v.succs, 1, v.at_⟩
  else if arcB b v.at_ k (peerI ps v.at_).succ = true then ⟨v.at_, v.imag, v.left, v.points, v.succs, 1, (peerI ps v.at_).succ⟩
  else if ttl ≤ v.points + v.succs then ⟨v.at_, v.imag, v.left, v.points, v.succs, 2, v.owner⟩
  else if 0 < v.left ∧ (v.imag = v.at_ ∨ btwB b v.at_ v.imag (peerI ps v.at_).succ = true) then ⟨(peerI ps v.at_).point, shf b d v.imag (dgt4 d k v.left), v.left - 1, v.points + 1, v.succs, v.state, v.owner⟩
  else ⟨(peerI ps v.at_).succ, v.imag, v.left, v.points, v.succs + 1, v.state, v.owner⟩
def askP (b d : Int) (ps : List Pr) (x k : Int) : Bool := goodP b d ps && hasB (idsP ps) x && numB b d k
def stt (b d : Int) (ps : List Pr) (x k : Int) : Wk := ⟨x, (bestI b d x (peerI ps x).succ k).1, (bestI b d x (peerI ps x).succ k).2, 0, 0, 0, 0⟩
def wkB (b d : Int) (ps : List Pr) (v : Wk) : Bool := numB b d v.imag && inB v.left 0 (b / d) && inB v.points 0 1000 && inB v.succs 0 1000 && inB v.state 0 2 && (if v.state = 1 then hasB (idsP ps) v.owner else decide (v.owner = 0))
def goodW (b d : Int) (ps : List Pr) (k : Int) (v : Wk) : Bool := askP b d ps v.at_ k && wkB b d ps v
def rtW (b d : Int) (ps : List Pr) (k ttl : Int) : Nat → Wk → Wk
  | 0, v => v
  | n + 1, v => if v.state = 0 then rtW b d ps k ttl n (stp b d ps k ttl v) else v
def rtL (b d : Int) (ps : List Pr) (k ttl : Int) : Nat → Wk → List Int
  | 0, _ => []
  | n + 1, v => if v.state = 0 then (if v.points + v.succs < (stp b d ps k ttl v).points + (stp b d ps k ttl v).succs then [(stp b d ps k ttl v).at_] else []) ++ rtL b d ps k ttl n (stp b d ps k ttl v) else []
def bndI (b d : Int) (n : Nat) : Int := b / d + (b / d + 1) * ((n : Int) - 1)
theorem peerI_mem : ∀ (ps : List Pr) (x : Int), hasB (idsP ps) x = true → (peerI ps x).id = x ∧ ∃ i, i < ps.length ∧ peerI ps x = ps.getD i pr0
  | [], x, h => by
    have := of_decide_eq_true h
    obtain ⟨i, hi, _⟩ := this
    simp [idsP] at hi
  | p :: ps, x, h => by
    unfold peerI
    by_cases he : p.id = x
    · rw [if_pos he]
      exact ⟨he, 0, by simp, by simp⟩
    · rw [if_neg he]
      have h2 : hasB (idsP ps) x = true := by
        obtain ⟨i, hi, hx⟩ := of_decide_eq_true h
        cases i with
        | zero => exact absurd (by simpa [idsP] using hx) he
        | succ i => exact decide_eq_true ⟨i, by simpa [idsP] using hi, by simpa [idsP] using hx⟩
      obtain ⟨h3, i, hi, h4⟩ := peerI_mem ps x h2
      exact ⟨h3, i + 1, by simpa using hi, by simpa using h4⟩
/-- of good peers: what a peer's numbers are -/
theorem peerI_good {b d : Int} {ps : List Pr} (hg : goodP b d ps = true) {x : Int} (hx : hasB (idsP ps) x = true) : (peerI ps x).id = x ∧ (peerI ps x).succ = nxtI (idsP ps) x ∧ hasB (idsP ps) (peerI ps x).point = true := by
  obtain ⟨h1, i, hi, h2⟩ := peerI_mem ps x hx
  have := prB_parts.1 ((goodP_true hg).2 i hi)
  rw [← h2] at this
  exact ⟨h1, by rw [this.1, h1], this.2.1⟩
theorem has_rng {b d : Int} {zs : List Int} (R : Ring b d zs) {x : Int} (h : hasB zs x = true) : 0 ≤ x ∧ x < sz b := by
  obtain ⟨i, hi, rfl⟩ := of_decide_eq_true h
  exact R.rng i hi
theorem askP_parts {b d : Int} {ps : List Pr} {x k : Int} (h : askP b d ps x k = true) : goodP b d ps = true ∧ hasB (idsP ps) x = true ∧ 0 ≤ k ∧ k < sz b := by
  unfold askP at h
  simp only [Bool.and_eq_true] at h
  obtain ⟨_, h1, h2⟩ := numB_true h.2
  exact ⟨h.1.1, h.1.2, h1, h2⟩
theorem nxt_has {b d : Int} {zs : List Int} (R : Ring b d zs) (x : Int) : hasB zs (nxtI zs x) = true := decide_eq_true ⟨uptI zs x % zs.length, Nat.mod_lt _ (by have := R.l1; omega), rfl⟩
end Go.Proofs.Ytioiacmaijgdoaa
namespace Go.Proofs.Ytioiacmaijgdoaa
open Go.RowKit
set_option linter.unusedVariables false
theorem dist_up {b x y : Int} (x1 : 0 ≤ x) (y2 : y < sz b) (h : x ≤ y) : dist b x y = y - x := by
  unfold dist
  rw [show y - x + sz b = (y - x) + sz b * 1 by omega, Int.add_mul_emod_self_left]
  exact Int.emod_eq_of_lt (by omega) (by omega)
theorem dist_dn {b x y : Int} (y1 : 0 ≤ y) (x2 : x < sz b) (h : y < x) : dist b x y = y - x + sz b := by
  unfold dist
  exact Int.emod_eq_of_lt (by omega) (by omega)
/-- going up from place i to place t round a ring of n -/
def md (n t i : Nat) : Nat := (t + n - i) % n
theorem md_lt {n t i : Nat} (hn : 0 < n) : md n t i < n := Nat.mod_lt _ hn
theorem md_le {n t i : Nat} (ht : t < n) (h : i ≤ t) : md n t i = t - i := by
  unfold md
  rw [show t + n - i = (t - i) + n by omega, Nat.add_mod_right, Nat.mod_eq_of_lt (by omega)]
theorem md_gt {n t i : Nat} (hi : i < n) (h : t < i) : md n t i = t + n - i := by
  unfold md
  rw [Nat.mod_eq_of_lt (by omega)]
theorem md_zero {n t i : Nat} (ht : t < n) (hi : i < n) (h : md n t i = 0) : t = i := by
  by_cases hti : i ≤ t
  · rw [md_le ht hti] at h; omega
  · rw [md_gt hi (by omega)] at h; omega
theorem md_step {n t i : Nat} (ht : t < n) (hi : i < n) (h : ¬ md n t i = 0) : md n t ((i + 1) % n) + 1 = md n t i := by
  by_cases hti : i ≤ t
  · rw [md_le ht hti] at h ⊢
    rw [Nat.mod_eq_of_lt (show i + 1 < n by omega), md_le ht (by omega)]
    omega
  · rw [md_gt hi (by omega)]
    by_cases hl : i + 1 < n
    · rw [Nat.mod_eq_of_lt hl, md_gt hl (by omega)]
      omega
    · rw [show i + 1 = n by omega, Nat.mod_self, md_le ht (Nat.zero_le _)]
      omega
/-- the place of the first member going down from a number, it counted -/
def dnP (zs : List Int) (t : Int) : Nat := (uptI zs t + zs.length - 1) % zs.length
/-- the place of the first member going down from a number, it not counted -/
def pvP (zs : List Int) (t : Int) : Nat := (blw zs t + zs.length - 1) % zs.length
theorem dn_btw {b d : Int} {zs : List Int} (R : Ring b d zs) {t : Int} (t1 : 0 ≤ t) (t2 : t < sz b) {i : Nat} (hi : i < zs.length) (h : dnP zs t = i) : t = zs.getD i 0 ∨ btwB b (zs.getD i 0) t (nxtI zs (zs.getD i 0)) = true := by
  have l1 := R.l1
  have hle := upt_le zs t
  by_cases he : t = zs.getD i 0
  · exact .inl he
  · refine .inr (decide_eq_true ?_)
    rw [nxt_at R hi]
    obtain ⟨m1, m2⟩ := R.rng i hi
    unfold dnP at h
    by_cases hu : uptI zs t = 0
    · have hin : i = zs.length - 1 := by rw [← h, hu, Nat.zero_add, Nat.mod_eq_of_lt (by omega)]
      have h0 := R.upper t 0 (by omega) (by omega)
      have e : (i + 1) % zs.length = 0 := by rw [show i + 1 = zs.length by omega, Nat.mod_self]
      rw [e]
      by_cases hn : zs.length = 1
      · have hi0 : i = 0 := by omega
        subst hi0
        exact ⟨⟨he, by omega⟩, .inl rfl⟩
      · have h2 := R.ris 0 i (by omega) hi
        have r0 := R.rng 0 (by omega)
        refine ⟨⟨he, by omega⟩, .inr ⟨he, ?_⟩⟩
        rw [dist_dn t1 m2 (by omega), dist_dn r0.1 m2 h2]
        omega
    · have hin : i = uptI zs t - 1 := by
        rw [← h, show uptI zs t + zs.length - 1 = (uptI zs t - 1) + zs.length by omega, Nat.add_mod_right, Nat.mod_eq_of_lt (by omega)]
      have hlo := upt_low (zs := zs) (x := t) (i := i) (by omega)
      by_cases hl : i + 1 < zs.length
      · rw [Nat.mod_eq_of_lt hl]
        have hup := R.upper t (i + 1) (by omega) hl
        obtain ⟨q1, q2⟩ := R.rng (i + 1) hl
        refine ⟨⟨he, by omega⟩, .inr ⟨he, ?_⟩⟩
        rw [dist_up m1 t2 hlo, dist_up m1 q2 (by omega)]
        omega
      · have e : (i + 1) % zs.length = 0 := by rw [show i + 1 = zs.length by omega, Nat.mod_self]
        rw [e]
        by_cases hn : zs.length = 1
        · have hi0 : i = 0 := by omega
          subst hi0
          exact ⟨⟨he, he⟩, .inl rfl⟩
        · have h2 := R.ris 0 i (by omega) hi
          have r0 := R.rng 0 (by omega)
          refine ⟨⟨he, by omega⟩, .inr ⟨he, ?_⟩⟩
          rw [dist_up m1 t2 hlo, dist_dn r0.1 m2 h2]
          omega
theorem pv_arc {b d : Int} {zs : List Int} (R : Ring b d zs) {t : Int} (t1 : 0 ≤ t) (t2 : t < sz b) {i : Nat} (hi : i < zs.length) (h : pvP zs t = i) : t = zs.getD i 0 ∨ arcB b (zs.getD i 0) t (nxtI zs (zs.getD i 0)) = true := by
  have l1 := R.l1
  have hle := blw_le t zs
  by_cases he : t = zs.getD i 0
  · exact .inl he
  · refine .inr (decide_eq_true ?_)
    rw [nxt_at R hi]
    obtain ⟨m1, m2⟩ := R.rng i hi
    unfold pvP at h
    by_cases hu : blw zs t = 0
    · have hin : i = zs.length - 1 := by rw [← h, hu, Nat.zero_add, Nat.mod_eq_of_lt (by omega)]
      have h0 := R.above t 0 (by omega) (by omega)
      have e : (i + 1) % zs.length = 0 := by rw [show i + 1 = zs.length by omega, Nat.mod_self]
      rw [e]
      by_cases hn : zs.length = 1
      · have hi0 : i = 0 := by omega
        subst hi0
        exact .inl rfl
      · have h2 := R.ris 0 i (by omega) hi
        have r0 := R.rng 0 (by omega)
        refine .inr ⟨he, ?_⟩
        rw [dist_dn t1 m2 (by omega), dist_dn r0.1 m2 h2]
        omega
    · have hin : i = blw zs t - 1 := by
        rw [← h, show blw zs t + zs.length - 1 = (blw zs t - 1) + zs.length by omega, Nat.add_mod_right, Nat.mod_eq_of_lt (by omega)]
      have hlo := blw_lt (zs := zs) (x := t) i (by omega)
      by_cases hl : i + 1 < zs.length
      · rw [Nat.mod_eq_of_lt hl]
        have hup := R.above t (i + 1) (by omega) hl
        obtain ⟨q1, q2⟩ := R.rng (i + 1) hl
        refine .inr ⟨he, ?_⟩
        rw [dist_up m1 t2 (by omega), dist_up m1 q2 (by omega)]
        omega
      · have e : (i + 1) % zs.length = 0 := by rw [show i + 1 = zs.length by omega, Nat.mod_self]
        rw [e]
        by_cases hn : zs.length = 1
        · have hi0 : i = 0 := by omega
          subst hi0
          exact .inl rfl
        · have h2 := R.ris 0 i (by omega) hi
          have r0 := R.rng 0 (by omega)
          refine .inr ⟨he, ?_⟩
          rw [dist_up m1 t2 (by omega), dist_dn r0.1 m2 h2]
          omega
/-- who is found is the owner -/
theorem arc_own {b d : Int} {zs : List Int} (R : Ring b d zs) {t : Int} (t1 : 0 ≤ t) (t2 : t < sz b) {i : Nat} (hi : i < zs.length) (hne : ¬ t = zs.getD i 0) (h : arcB b (zs.getD i 0) t (nxtI zs (zs.getD i 0)) = true) : nxtI zs (zs.getD i 0) = ownI zs t := by
  have l1 := R.l1
  have h' := of_decide_eq_true h
  rw [nxt_at R hi] at h' ⊢
  obtain ⟨m1, m2⟩ := R.rng i hi
  have key : blw zs t % zs.length = (i + 1) % zs.length := by
    by_cases hn : zs.length = 1
    · rw [hn, Nat.mod_one, Nat.mod_one]
    · have hd : dist b (zs.getD i 0) t ≤ dist b (zs.getD i 0) (zs.getD ((i + 1) % zs.length) 0) := by
        rcases h' with h' | h'
        · have := inj R hi (Nat.mod_lt _ (by omega)) h'
          by_cases hl : i + 1 < zs.length
          · rw [Nat.mod_eq_of_lt hl] at this; omega
          · rw [show i + 1 = zs.length by omega, Nat.mod_self] at this; omega
        · exact h'.2
      by_cases hgt : zs.getD i 0 < t
      · rw [dist_up m1 t2 (by omega)] at hd
        by_cases hl : i + 1 < zs.length
        · rw [Nat.mod_eq_of_lt hl] at hd ⊢
          have hq := R.rng (i + 1) hl
          have hr := R.ris i (i + 1) (by omega) hl
          rw [dist_up m1 hq.2 (by omega)] at hd
          rw [blw_eq (k := i + 1) (by omega) (fun j hj => by
            by_cases hji : j = i
            · subst hji; exact hgt
            · have := R.ris j i (by omega) hi; omega) (fun _ => by omega)]
          exact Nat.mod_eq_of_lt hl
        · rw [blw_eq (k := zs.length) (Nat.le_refl _) (fun j hj => by
            by_cases hji : j = i
            · subst hji; exact hgt
            · have := R.ris j i (by omega) hi; omega) (fun h => by omega), show i + 1 = zs.length by omega]
      · have hlt : t < zs.getD i 0 := by omega
        rw [dist_dn t1 m2 hlt] at hd
        by_cases hl : i + 1 < zs.length
        · rw [Nat.mod_eq_of_lt hl] at hd
          have hq := R.rng (i + 1) hl
          have hr := R.ris i (i + 1) (by omega) hl
          rw [dist_up m1 hq.2 (by omega)] at hd
          omega
        · have e : (i + 1) % zs.length = 0 := by rw [show i + 1 = zs.length by omega, Nat.mod_self]
          rw [e] at hd ⊢
          have h2 := R.ris 0 i (by omega) hi
          have r0 := R.rng 0 (by omega)
          rw [dist_dn r0.1 m2 h2] at hd
          rw [blw_eq (k := 0) (by omega) (fun j hj => by omega) (fun _ => by omega)]
          simp
  unfold ownI
  rw [key]
theorem own_self {b d : Int} {zs : List Int} (R : Ring b d zs) {i : Nat} (hi : i < zs.length) : ownI zs (zs.getD i 0) = zs.getD i 0 := by
  unfold ownI
  rw [blw_mem R hi, Nat.mod_eq_of_lt hi]
end Go.Proofs.Ytioiacmaijgdoaa
namespace Go.Proofs.Ytioiacmaijgdoaa
open Go.RowKit
set_option linter.unusedVariables false
/-- a walk's At is a member, its Imag a number, and some digits are left -/
structure WOk (b : Int) (zs : List Int) (v : Wk) : Prop where
  mem : hasB zs v.at_ = true
  i1 : 0 ≤ v.imag
  i2 : v.imag < sz b
  l0 : 0 ≤ v.left
/-- how many forwards are left at most -/
def pot (zs : List Int) (k : Int) (v : Wk) : Nat :=
  if v.left = 0 then md zs.length (pvP zs k) (blw zs v.at_) else md zs.length (dnP zs v.imag) (blw zs v.at_) + v.left.toNat * zs.length
theorem at_place {b d : Int} {zs : List Int} (R : Ring b d zs) {x : Int} (h : hasB zs x = true) : blw zs x < zs.length ∧ zs.getD (blw zs x) 0 = x := by
  rw [← mem_has R] at h
  exact of_decide_eq_true h
theorem shf_rng (b d x g : Int) (hb1 : 1 ≤ b) (hb2 : b ≤ 12) : 0 ≤ shf b d x g ∧ shf b d x g < sz b := by
  unfold shf
  have h := sz_bd hb1 hb2
  exact ⟨Int.emod_nonneg _ (by omega), Int.emod_lt_of_pos _ (by omega)⟩
theorem pot_top {b d : Int} {zs : List Int} (R : Ring b d zs) (k : Int) {v : Wk} (l0 : 0 ≤ v.left) : pot zs k v + 1 ≤ (v.left.toNat + 1) * zs.length := by
  have l1 := R.l1
  unfold pot
  split
  · rename_i h
    have := md_lt (n := zs.length) (t := pvP zs k) (i := blw zs v.at_) (by omega)
    rw [h]
    simp
    omega
  · have := md_lt (n := zs.length) (t := dnP zs v.imag) (i := blw zs v.at_) (by omega)
    rw [Nat.add_mul, Nat.one_mul]
    omega
/-- what one step does -/
def Stp (b : Int) (zs : List Int) (k ttl : Int) (v x : Wk) : Prop :=
  x = ⟨v.at_, v.imag, v.left, v.points, v.succs, 1, ownI zs k⟩ ∨
  (x = ⟨v.at_, v.imag, v.left, v.points, v.succs, 2, v.owner⟩ ∧ ttl ≤ v.points + v.succs ∧ 1 ≤ pot zs k v) ∨
  (WOk b zs x ∧ x.state = v.state ∧ x.owner = v.owner ∧ v.points + v.succs < ttl ∧ pot zs k x + 1 ≤ pot zs k v ∧ ((x.points = v.points + 1 ∧ x.succs = v.succs ∧ x.left = v.left - 1) ∨ (x.points = v.points ∧ x.succs = v.succs + 1 ∧ x.left = v.left)))
theorem stp_kind {b d : Int} {ps : List Pr} {k ttl : Int} {v : Wk} (hg : goodP b d ps = true) (k1 : 0 ≤ k) (k2 : k < sz b) (hv : WOk b (idsP ps) v) : Stp b (idsP ps) k ttl v (stp b d ps k ttl v) := by
  have R := (goodP_true hg).1
  obtain ⟨hb1, hb2, hd1, hd2, _⟩ := gsB_true R.gs
  have l1 := R.l1
  obtain ⟨p1, p2, p3⟩ := peerI_good hg hv.mem
  obtain ⟨hi, he⟩ := at_place R hv.mem
  unfold stp
  by_cases c1 : k = v.at_
  · rw [if_pos c1]
    refine .inl ?_
    rw [c1, ← he, own_self R hi]
  · rw [if_neg c1]
    have c1' : ¬ k = (idsP ps).getD (blw (idsP ps) v.at_) 0 := by rw [he]; exact c1
    by_cases c2 : arcB b v.at_ k (peerI ps v.at_).succ = true
    · rw [if_pos c2]
      refine .inl ?_
      rw [p2] at c2 ⊢
      have := arc_own R k1 k2 hi c1' (by rw [he]; exact c2)
      rw [he] at this
      rw [this]
    · rw [if_neg c2]
      have hpv : ¬ pvP (idsP ps) k = blw (idsP ps) v.at_ := fun h => by
        rcases pv_arc R k1 k2 hi h with h | h
        · exact c1' h
        · rw [he, ← p2] at h; exact c2 h
      have hpl : pvP (idsP ps) k < (idsP ps).length := Nat.mod_lt _ (by omega)
      have hdl : dnP (idsP ps) v.imag < (idsP ps).length := Nat.mod_lt _ (by omega)
      have hmk : ¬ md (idsP ps).length (pvP (idsP ps) k) (blw (idsP ps) v.at_) = 0 := fun h => hpv (md_zero hpl hi h)
      by_cases c3 : ttl ≤ v.points + v.succs
      · rw [if_pos c3]
        refine .inr (.inl ⟨rfl, c3, ?_⟩)
        unfold pot
        split
        · omega
        · rename_i h
          have := hv.l0
          have h1 : 1 ≤ v.left.toNat := by omega
          have : 1 * 1 ≤ v.left.toNat * (idsP ps).length := Nat.mul_le_mul h1 l1
          omega
      · rw [if_neg c3]
        by_cases c4 : 0 < v.left ∧ (v.imag = v.at_ ∨ btwB b v.at_ v.imag (peerI ps v.at_).succ = true)
        · rw [if_pos c4]
          have hsh := shf_rng b d v.imag (dgt4 d k v.left) hb1 hb2
          refine .inr (.inr ⟨⟨p3, hsh.1, hsh.2, by show 0 ≤ v.left - 1; omega⟩, rfl, rfl, by omega, ?_, .inl ⟨rfl, rfl, rfl⟩⟩)
          have ht := pot_top R k (v := ⟨(peerI ps v.at_).point, shf b d v.imag (dgt4 d k v.left), v.left - 1, v.points + 1, v.succs, v.state, v.owner⟩) (by show 0 ≤ v.left - 1; omega)
          have e : (v.left - 1).toNat + 1 = v.left.toNat := by omega
          have hq : pot (idsP ps) k v = md (idsP ps).length (dnP (idsP ps) v.imag) (blw (idsP ps) v.at_) + v.left.toNat * (idsP ps).length := by
            unfold pot
            rw [if_neg (by omega)]
          rw [hq]
          show _ + 1 ≤ _
          have ht' : pot (idsP ps) k ⟨(peerI ps v.at_).point, shf b d v.imag (dgt4 d k v.left), v.left - 1, v.points + 1, v.succs, v.state, v.owner⟩ + 1 ≤ v.left.toNat * (idsP ps).length := by rw [← e]; exact ht
          omega
        · rw [if_neg c4]
          have hnx : (peerI ps v.at_).succ = (idsP ps).getD ((blw (idsP ps) v.at_ + 1) % (idsP ps).length) 0 := by rw [p2]; conv => lhs; rw [← he]; rw [nxt_at R hi]
          have hbs : blw (idsP ps) (peerI ps v.at_).succ = (blw (idsP ps) v.at_ + 1) % (idsP ps).length := by rw [hnx, blw_mem R (Nat.mod_lt _ (by omega))]
          refine .inr (.inr ⟨⟨by rw [p2]; exact nxt_has R _, hv.i1, hv.i2, hv.l0⟩, rfl, rfl, by omega, ?_, .inr ⟨rfl, rfl, rfl⟩⟩)
          unfold pot
          by_cases hl : v.left = 0
          · rw [if_pos hl, if_pos hl]
            show md _ _ (blw (idsP ps) (peerI ps v.at_).succ) + 1 ≤ _
            rw [hbs]
            exact Nat.le_of_eq (md_step hpl hi hmk)
          · rw [if_neg hl, if_neg hl]
            show md _ (dnP (idsP ps) v.imag) (blw (idsP ps) (peerI ps v.at_).succ) + v.left.toNat * _ + 1 ≤ _
            have hmi : ¬ md (idsP ps).length (dnP (idsP ps) v.imag) (blw (idsP ps) v.at_) = 0 := fun h => by
              rcases dn_btw R hv.i1 hv.i2 hi (md_zero hdl hi h) with h | h
              · exact c4 ⟨by have := hv.l0; omega, .inl (by rw [h, he])⟩
              · rw [he, ← p2] at h
                exact c4 ⟨by have := hv.l0; omega, .inr h⟩
            have := md_step hdl hi hmi
            rw [hbs]
            omega
/-- where a way ends -/
theorem rt_end {b d : Int} {ps : List Pr} {k ttl : Int} (hg : goodP b d ps = true) (k1 : 0 ≤ k) (k2 : k < sz b) : ∀ (F : Nat) (v : Wk), WOk b (idsP ps) v → v.state = 0 → v.owner = 0 → v.points + v.succs ≤ ttl → pot (idsP ps) k v < F →
    ((rtW b d ps k ttl F v).state = 1 ∧ (rtW b d ps k ttl F v).owner = ownI (idsP ps) k ∨ (rtW b d ps k ttl F v).state = 2 ∧ (rtW b d ps k ttl F v).owner = 0 ∧ ttl < v.points + v.succs + pot (idsP ps) k v) ∧
    (rtW b d ps k ttl F v).points + (rtW b d ps k ttl F v).succs ≤ v.points + v.succs + pot (idsP ps) k v ∧ (rtW b d ps k ttl F v).points + (rtW b d ps k ttl F v).succs ≤ ttl ∧
    (rtW b d ps k ttl F v).points + (rtW b d ps k ttl F v).succs = v.points + v.succs + ((rtL b d ps k ttl F v).length : Int) ∧ v.points ≤ (rtW b d ps k ttl F v).points ∧ v.succs ≤ (rtW b d ps k ttl F v).succs
  | 0, v, _, _, _, _, h => by omega
  | F + 1, v, hw, hs, ho, ht, hp => by
    have hk := stp_kind (ttl := ttl) hg k1 k2 hw
    unfold rtW rtL
    rw [if_pos hs, if_pos hs]
    rcases hk with h | ⟨h, h1, h2⟩ | ⟨hw', hs', ho', ht', hp', hl⟩
    ·
      have hst : (stp b d ps k ttl v).state = 1 := by rw [h]
      have e1 : rtW b d ps k ttl F (stp b d ps k ttl v) = stp b d ps k ttl v := by cases F <;> simp [rtW, hst]
      have e2 : rtL b d ps k ttl F (stp b d ps k ttl v) = [] := by cases F <;> simp [rtL, hst]
      rw [e1, e2, h]
      refine ⟨.inl ⟨rfl, rfl⟩, by show v.points + v.succs ≤ _; omega, ht, ?_, Int.le_refl _, Int.le_refl _⟩
      show v.points + v.succs = _
      simp
    ·
      have hst : (stp b d ps k ttl v).state = 2 := by rw [h]
      have e1 : rtW b d ps k ttl F (stp b d ps k ttl v) = stp b d ps k ttl v := by cases F <;> simp [rtW, hst]
      have e2 : rtL b d ps k ttl F (stp b d ps k ttl v) = [] := by cases F <;> simp [rtL, hst]
      rw [e1, e2, h]
      refine ⟨.inr ⟨rfl, ho, by omega⟩, by show v.points + v.succs ≤ _; omega, ht, ?_, Int.le_refl _, Int.le_refl _⟩
      show v.points + v.succs = _
      simp
    ·
      have hsum : (stp b d ps k ttl v).points + (stp b d ps k ttl v).succs = v.points + v.succs + 1 := by rcases hl with ⟨h1, h2, _⟩ | ⟨h1, h2, _⟩ <;> omega
      have ih := rt_end (ttl := ttl) hg k1 k2 F (stp b d ps k ttl v) hw' (hs'.trans hs) (ho'.trans ho) (by omega) (by omega)
      obtain ⟨i1, i2, i3, i4, i5, i6⟩ := ih
      rw [if_pos (by omega)]
      refine ⟨?_, by omega, i3, ?_, by rcases hl with ⟨h1, h2, _⟩ | ⟨h1, h2, _⟩ <;> omega, by rcases hl with ⟨h1, h2, _⟩ | ⟨h1, h2, _⟩ <;> omega⟩
      · rcases i1 with i1 | ⟨j1, j2, j3⟩
        · exact .inl i1
        · exact .inr ⟨j1, j2, by omega⟩
      · rw [i4, hsum]
        simp only [List.length_append, List.length_cons, List.length_nil]
        omega
/-- more fuel than is needed changes nothing -/
theorem rt_more {b d : Int} {ps : List Pr} {k ttl : Int} (hg : goodP b d ps = true) (k1 : 0 ≤ k) (k2 : k < sz b) : ∀ (F G : Nat) (v : Wk), WOk b (idsP ps) v → v.state = 0 → pot (idsP ps) k v < F → F ≤ G → rtW b d ps k ttl G v = rtW b d ps k ttl F v ∧ rtL b d ps k ttl G v = rtL b d ps k ttl F v
  | 0, _, v, _, _, h, _ => by omega
  | F + 1, 0, v, _, _, _, h => by omega
  | F + 1, G + 1, v, hw, hs, hp, hFG => by
    have hk := stp_kind (ttl := ttl) hg k1 k2 hw
    unfold rtW rtL
    rw [if_pos hs, if_pos hs, if_pos hs, if_pos hs]
    rcases hk with h | ⟨h, h1, h2⟩ | ⟨hw', hs', ho', ht', hp', hl⟩
    ·
      have hst : (stp b d ps k ttl v).state = 1 := by rw [h]
      constructor
      · cases F <;> cases G <;> simp [rtW, hst]
      · cases F <;> cases G <;> simp [rtL, hst]
    ·
      have hst : (stp b d ps k ttl v).state = 2 := by rw [h]
      constructor
      · cases F <;> cases G <;> simp [rtW, hst]
      · cases F <;> cases G <;> simp [rtL, hst]
    ·
      obtain ⟨e1, e2⟩ := rt_more (ttl := ttl) hg k1 k2 F G (stp b d ps k ttl v) hw' (hs'.trans hs) (by omega) (by omega)
      rw [e1, e2]
      exact ⟨rfl, rfl⟩
end Go.Proofs.Ytioiacmaijgdoaa
namespace Go.Proofs.Ytioiacmaijgdoaa
open Go.RowKit
set_option linter.unusedVariables false
theorem sz_add {x y : Int} (hx : 0 ≤ x) (hy : 0 ≤ y) : sz (x + y) = sz x * sz y := by
  unfold sz
  rw [Int.toNat_add hx hy, Int.pow_add]
theorem sz_pos (x : Int) : 0 < sz x := by unfold sz; exact Int.pow_pos (by omega)
theorem sz_zero : sz 0 = 1 := rfl
theorem bits_eq {b d : Int} (hg : gsB b d = true) : b / d * d = b := by
  obtain ⟨_, _, h3, _, h5⟩ := gsB_true hg
  have := Int.mul_ediv_add_emod b d
  rw [h5, Int.add_zero, Int.mul_comm] at this
  exact this
/-- how a space's numbers part into those of n digits and those of the rest -/
theorem sz_part {b d : Int} (hg : gsB b d = true) {n : Int} (n1 : 0 ≤ n) (n2 : n ≤ b / d) : sz (n * d) * sz ((b / d - n) * d) = sz b := by
  obtain ⟨_, _, h3, _, _⟩ := gsB_true hg
  have h1 : 0 ≤ n * d := Int.mul_nonneg n1 (by omega)
  have h2 : 0 ≤ (b / d - n) * d := Int.mul_nonneg (by omega) (by omega)
  rw [← sz_add h1 h2, ← Int.add_mul, show n + (b / d - n) = b / d by omega, bits_eq hg]
theorem mod_mod_part {b d : Int} (hg : gsB b d = true) {n : Int} (n1 : 0 ≤ n) (n2 : n ≤ b / d) (y : Int) : y % sz b % sz (n * d) = y % sz (n * d) := by
  rw [← sz_part hg n1 n2]
  exact Int.emod_emod_of_dvd _ ⟨_, rfl⟩
theorem want_lt {b d k : Int} (hg : gsB b d = true) {n : Int} (n1 : 0 ≤ n) (n2 : n ≤ b / d) (k1 : 0 ≤ k) (k2 : k < sz b) : 0 ≤ k / sz ((b / d - n) * d) ∧ k / sz ((b / d - n) * d) < sz (n * d) := by
  refine ⟨Int.ediv_nonneg k1 (Int.le_of_lt (sz_pos _)), ?_⟩
  rw [← sz_part hg n1 n2] at k2
  exact Int.ediv_lt_of_lt_mul (sz_pos _) k2
theorem up4_bd (b d f k n : Int) : 0 ≤ up4 b d f k n ∧ up4 b d f k n < sz (n * d) := by
  unfold up4
  exact ⟨Int.emod_nonneg _ (by have := sz_pos (n * d); omega), Int.emod_lt_of_pos _ (sz_pos _)⟩
theorem up4_hits {b d f k n : Int} (hg : gsB b d = true) (n1 : 0 ≤ n) (n2 : n ≤ b / d) (k1 : 0 ≤ k) (k2 : k < sz b) : (f + up4 b d f k n) % sz (n * d) = k / sz ((b / d - n) * d) := by
  obtain ⟨w1, w2⟩ := want_lt hg n1 n2 k1 k2
  unfold up4
  generalize k / sz ((b / d - n) * d) = t at w1 w2
  generalize sz (n * d) = p at w2
  rw [Int.add_emod_emod]
  have h := Int.mul_ediv_add_emod f p
  have e : f + (t - f % p + p) = t + p * (f / p + 1) := by
    rw [Int.mul_add, Int.mul_one]
    omega
  rw [e, Int.add_mul_emod_self_left]
  exact Int.emod_eq_of_lt w1 w2
theorem best_prop {b d f k m : Int} (hg : gsB b d = true) (f1 : 0 ≤ f) (f2 : f < sz b) (k1 : 0 ≤ k) (k2 : k < sz b) (hm : 0 < m) : ∀ N : Nat, (N : Int) ≤ b / d →
    ∃ n : Int, 0 ≤ n ∧ n ≤ b / d ∧ (best b d f m k N).2 = b / d - n ∧ 0 ≤ (best b d f m k N).1 ∧ (best b d f m k N).1 < sz b ∧ (best b d f m k N).1 % sz (n * d) = k / sz ((b / d - n) * d) ∧ ∃ u, 0 ≤ u ∧ u < m ∧ (best b d f m k N).1 = (f + u) % sz b
  | 0, hN => by
    unfold best
    refine ⟨0, Int.le_refl _, hN, by show b / d = _; omega, f1, f2, ?_, 0, Int.le_refl _, hm, ?_⟩
    · show f % sz (0 * d) = k / sz ((b / d - 0) * d)
      rw [Int.zero_mul, sz_zero, Int.emod_one, Int.sub_zero, bits_eq hg, Int.ediv_eq_zero_of_lt k1 k2]
    · show f = (f + 0) % sz b
      rw [Int.add_zero, Int.emod_eq_of_lt f1 f2]
  | N + 1, hN => by
    unfold best
    split
    · rename_i h
      have hb := up4_bd b d f k ((N + 1 : Nat) : Int)
      refine ⟨((N + 1 : Nat) : Int), by omega, hN, rfl, Int.emod_nonneg _ (by have := sz_pos b; omega), Int.emod_lt_of_pos _ (sz_pos _), ?_, up4 b d f k ((N + 1 : Nat) : Int), hb.1, h, rfl⟩
      show (f + up4 b d f k ((N + 1 : Nat) : Int)) % sz b % sz (((N + 1 : Nat) : Int) * d) = _
      rw [mod_mod_part hg (by omega) hN]
      exact up4_hits hg (by omega) hN k1 k2
    · exact best_prop hg f1 f2 k1 k2 hm N (by omega)
theorem rnd_pos {b x y : Int} (hb1 : 1 ≤ b) (x1 : 0 ≤ x) (x2 : x < sz b) (y1 : 0 ≤ y) (y2 : y < sz b) : 0 < rnd b x y ∧ rnd b x y ≤ sz b := by
  unfold rnd
  have := sz_pos b
  split
  · omega
  · rename_i h
    by_cases hl : x ≤ y
    · rw [dist_up x1 y2 hl]; omega
    · rw [dist_dn y1 x2 (by omega)]; omega
theorem bestI_prop {b d f t k : Int} (hg : gsB b d = true) (f1 : 0 ≤ f) (f2 : f < sz b) (t1 : 0 ≤ t) (t2 : t < sz b) (k1 : 0 ≤ k) (k2 : k < sz b) :
    ∃ n : Int, 0 ≤ n ∧ n ≤ b / d ∧ (bestI b d f t k).2 = b / d - n ∧ 0 ≤ (bestI b d f t k).1 ∧ (bestI b d f t k).1 < sz b ∧ (bestI b d f t k).1 % sz (n * d) = k / sz ((b / d - n) * d) ∧ ∃ u, 0 ≤ u ∧ u < rnd b f t ∧ (bestI b d f t k).1 = (f + u) % sz b := by
  obtain ⟨h1, h2, h3, h4, _⟩ := gsB_true hg
  have hc := cnt_bd h1 h2 h3 h4
  exact best_prop hg f1 f2 k1 k2 (rnd_pos h1 f1 f2 t1 t2).1 (cnt b d) (by omega)
/-- the number that is best lies from 'from' on, ahead of 'to' -/
theorem best_arc {b d f t k : Int} (hg : gsB b d = true) (f1 : 0 ≤ f) (f2 : f < sz b) (t1 : 0 ≤ t) (t2 : t < sz b) (k1 : 0 ≤ k) (k2 : k < sz b) (hft : ¬ f = t) (hi : ¬ (bestI b d f t k).1 = f) : arcB b t (bestI b d f t k).1 f = false := by
  obtain ⟨n, _, _, _, x1, x2, _, u, u1, u2, hx⟩ := bestI_prop hg f1 f2 t1 t2 k1 k2
  generalize (bestI b d f t k).1 = x at *
  have hs := sz_pos b
  unfold rnd at u2
  rw [if_neg hft] at u2
  refine decide_eq_false (fun h => ?_)
  rcases h with h | ⟨_, h⟩
  · exact hft h.symm
  · have hu : ¬ u = 0 := fun h => hi (by rw [hx, h, Int.add_zero, Int.emod_eq_of_lt f1 f2])
    by_cases hl : f ≤ t
    · rw [dist_up f1 t2 hl] at u2
      rw [Int.emod_eq_of_lt (by omega) (by omega)] at hx
      rw [dist_dn x1 t2 (by omega), dist_dn f1 t2 (by omega)] at h
      omega
    · rw [dist_dn t1 f2 (by omega)] at u2
      rw [dist_up t1 f2 (by omega)] at h
      by_cases hw : f + u < sz b
      · rw [Int.emod_eq_of_lt (by omega) hw] at hx
        rw [dist_up t1 x2 (by omega)] at h
        omega
      · have hx2 : x = f + u - sz b := by
          rw [hx, show f + u = (f + u - sz b) + sz b * 1 by omega, Int.add_mul_emod_self_left]
          rw [Int.emod_eq_of_lt (by omega) (by omega)]
          omega
        rw [dist_dn x1 t2 (by omega)] at h
        omega
/-- the digit of a key that comes next -/
theorem dgt4_bd (d k l : Int) : 0 ≤ dgt4 d k l ∧ dgt4 d k l < sz d := by
  unfold dgt4
  exact ⟨Int.emod_nonneg _ (by have := sz_pos d; omega), Int.emod_lt_of_pos _ (sz_pos _)⟩
/-- a digit more is shifted in -/
theorem shift_more {b d z k l : Int} (hg : gsB b d = true) (hl1 : 1 ≤ l) (hl2 : l ≤ b / d) (k1 : 0 ≤ k) (h : z % sz ((b / d - l) * d) = k / sz (l * d)) : shf b d z (dgt4 d k l) % sz ((b / d - (l - 1)) * d) = k / sz ((l - 1) * d) := by
  obtain ⟨_, _, h3, _, _⟩ := gsB_true hg
  have n1 : 0 ≤ (b / d - l) * d := Int.mul_nonneg (by omega) (by omega)
  have n2 : 0 ≤ (l - 1) * d := Int.mul_nonneg (by omega) (by omega)
  have e1 : (b / d - (l - 1)) * d = (b / d - l) * d + d := by rw [show b / d - (l - 1) = (b / d - l) + 1 by omega, Int.add_mul, Int.one_mul]
  have e2 : l * d = (l - 1) * d + d := by rw [Int.sub_mul, Int.one_mul]; omega
  unfold shf
  rw [mod_mod_part hg (by omega) (by omega), e1, sz_add n1 (by omega)]
  rw [e2, sz_add n2 (by omega)] at h
  unfold dgt4
  have hp := sz_pos ((b / d - l) * d)
  have hd := sz_pos d
  have hq := sz_pos ((l - 1) * d)
  generalize sz ((b / d - l) * d) = p at *
  generalize sz ((l - 1) * d) = q at *
  generalize sz d = s at *
  rw [← Int.ediv_ediv_of_nonneg (Int.le_of_lt hq)] at h
  have hk0 : 0 ≤ k / q := Int.ediv_nonneg k1 (Int.le_of_lt hq)
  generalize k / q = y at *
  have hy := Int.mul_ediv_add_emod y s
  have hz := Int.mul_ediv_add_emod z p
  have hg1 := Int.emod_nonneg y (show s ≠ 0 by omega)
  have hg2 := Int.emod_lt_of_pos y hd
  have e : z * s + y % s = (y / s * s + y % s) + p * s * (z / p) := by
    conv => lhs; rw [← hz, h]
    rw [Int.add_mul, Int.mul_right_comm]
    omega
  rw [e, Int.add_mul_emod_self_left, Int.mul_comm (y / s) s, hy]
  refine Int.emod_eq_of_lt hk0 ?_
  have hz2 := Int.emod_lt_of_pos z hp
  rw [h] at hz2
  have := Int.mul_le_mul_of_nonneg_right (show y / s + 1 ≤ p by omega) (Int.le_of_lt hd)
  rw [Int.add_mul, Int.one_mul] at this
  have hc := Int.mul_comm (y / s) s
  omega
end Go.Proofs.Ytioiacmaijgdoaa
namespace Go.Proofs.Ytioiacmaijgdoaa
open Go.RowKit
set_option linter.unusedVariables false

theorem zv_one (l : List Int) : (zv l).all (·.oneCell') = true := by
  rw [Array.all_eq_true_iff_forall_mem]
  intro v hv
  simp [zv] at hv
  obtain ⟨a, _, rfl⟩ := hv
  rfl
theorem digL_cons {j n : Nat} {B x xj : Int} {done : List Int} (h : digL (j + 1) B xj ++ done = digL n B x) : digL j B (xj / B) ++ (xj % B :: done) = digL n B x := by
  rw [← h, digL, List.append_assoc]; rfl

theorem div_bd {x B s : Int} (h0 : 0 ≤ x) (h1 : x < s) (hB : 1 ≤ B) : 0 ≤ x / B ∧ x / B < s := by
  refine ⟨Int.ediv_nonneg h0 (by omega), ?_⟩
  have : x / B ≤ x := Int.ediv_le_self _ h0
  omega

/-- what lies in the three blocks while the loop goes -/
structure RowSt (w wr : World) (b d : Int) (n j : Nat) (T A : TypeId) (done : List Int) : Prop where
  bel : Below w.heap.size w wr
  s : wr.heap[w.heap.size]? = some (.cells #[.int .i64 b, .int .i64 d] T (0, 0))
  r : wr.heap[w.heap.size + 1]? = some (.cells (zv (List.replicate 12 0)) A (0, 0))
  row : wr.heap[w.heap.size + 1 + 1]? = some (.cells (zv (rowZ n (List.replicate j 0 ++ done))) A (0, 0))
  sz : w.heap.size + 1 + 1 < wr.heap.size

theorem RowSt.keep {w wr w1 : World} {b d : Int} {n j : Nat} {T A : TypeId} {done : List Int} (h : RowSt w wr b d n j T A done) (hb : Below wr.heap.size wr w1) : RowSt w w1 b d n j T A done :=
  ⟨h.bel.trans (hb.mono h.bel.size), (hb.block _ (by have := h.sz; omega)).trans h.s, (hb.block _ (by have := h.sz; omega)).trans h.r, (hb.block _ h.sz).trans h.row, Nat.lt_of_lt_of_le h.sz hb.size⟩

theorem rowZ_set {n j : Nat} {done : List Int} (v : Int) : (rowZ n (List.replicate (j + 1) 0 ++ done)).set j v = rowZ n (List.replicate j 0 ++ (v :: done)) := by
  unfold rowZ
  rw [List.replicate_succ', List.append_assoc, List.append_assoc, List.append_assoc, List.set_append_right _ _ (by simp)]
  simp

theorem RowSt.put {w wr : World} {b d : Int} {n j : Nat} {T A : TypeId} {done : List Int} (h : RowSt w wr b d n (j + 1) T A done) (v : Int) : RowSt w (wr.setCell ⟨w.heap.size + 1 + 1, j, none⟩ (.int .i64 v)) b d n j T A (v :: done) := by
  refine ⟨h.bel.setCell (by simp; omega) _, ?_, ?_, ?_, by simpa [World.setCell] using h.sz⟩
  · rw [heap_setCell_other _ _ _ _ (by simp; omega)]; exact h.s
  · rw [heap_setCell_other _ _ _ _ (by simp)]; exact h.r
  · rw [heap_setCell_same _ _ _ _ _ _ h.row, zv_set, rowZ_set]

theorem RowSt.cells {w wr : World} {b d : Int} {n j : Nat} {T A : TypeId} {done : List Int} (h : RowSt w wr b d n j T A done) :
    wr.cell? ⟨w.heap.size, 0, none⟩ = some (.int .i64 b) ∧ wr.cell? ⟨w.heap.size, 1, none⟩ = some (.int .i64 d) :=
  ⟨(cell_of_row wr _ _ _ _ _ h.s).trans rfl, (cell_of_row wr _ _ _ _ _ h.s).trans rfl⟩

theorem RowSt.at {w wr : World} {b d : Int} {n j : Nat} {T A : TypeId} {done : List Int} (h : RowSt w wr b d n (j + 1) T A done) :
    wr.cell? ⟨w.heap.size + 1 + 1, j, none⟩ = some (.int .i64 ((rowZ n (List.replicate (j + 1) 0 ++ done)).getD j 0)) ∧ wr.frozen? ⟨w.heap.size + 1 + 1, j, none⟩ = false :=
  ⟨(cell_of_row wr _ _ _ _ _ h.row).trans (zv_get _ _ (by simp [rowZ]; omega)), frozen_of_row wr _ _ _ _ h.row⟩

theorem rowSt_init (w : World) (b d : Int) (n : Nat) (hn : n ≤ 12) (T A : TypeId) {w1 : World} {N : Nat} (hb : Below N (((w.alloc (.cells #[.int .i64 b, .int .i64 d] T)).alloc (.cells (zv (List.replicate 12 0)) A)).alloc (.cells (zv (List.replicate 12 0)) A)) w1) (hN : w.heap.size + 1 + 1 + 1 ≤ N) :
    RowSt w w1 b d n n T A [] := by
  have e : rowZ n (List.replicate n 0 ++ []) = List.replicate 12 0 := by
    unfold rowZ
    rw [List.append_nil, List.replicate_append_replicate]
    congr 1; omega
  have h0 : RowSt w (((w.alloc (.cells #[.int .i64 b, .int .i64 d] T)).alloc (.cells (zv (List.replicate 12 0)) A)).alloc (.cells (zv (List.replicate 12 0)) A)) b d n n T A [] := by
    refine ⟨(((Below.refl _ _).alloc (Nat.le_refl _) _).alloc (by simp) _).alloc (by simp; omega) _, ?_, ?_, ?_, by simp⟩
    · rw [heap_alloc_old _ _ (by simp; omega)]; exact heap_alloc2_old _ _ _
    · rw [heap_alloc_old _ _ (by simp)]; exact heap_alloc2_new _ _ _
    · rw [e]
      have := heap_alloc_new ((w.alloc (.cells #[.int .i64 b, .int .i64 d] T)).alloc (.cells (zv (List.replicate 12 0)) A)) (.cells (zv (List.replicate 12 0)) A)
      simpa using this
  exact h0.keep (hb.mono (by simpa using hN))

end Go.Proofs.Ytioiacmaijgdoaa
namespace Go.Proofs.Ytioiacmaijgdoaa
open Go.RowKit
set_option linter.unusedVariables false

/-- digits that are made from behind -/
def drow (n j : Nat) (done : List Int) : List Int := List.replicate j 0 ++ done
theorem drow_set {n j : Nat} {done : List Int} (v : Int) : (drow n (j + 1) done).set j v = drow n j (v :: done) := by
  unfold drow
  rw [List.replicate_succ', List.append_assoc, List.set_append_right _ _ (by simp)]
  simp

theorem BoxAt.put {w wr : World} {b d : Int} (h : BoxAt w wr b d) {g : Nat} (hg : w.heap.size < g) (i : Nat) (v : Value) : BoxAt w (wr.setCell ⟨g, i, none⟩ v) b d := by
  have hb : (wr.setCell ⟨g, i, none⟩ v).heap[w.heap.size]? = wr.heap[w.heap.size]? := heap_setCell_other _ _ _ _ (by simp; omega)
  exact ⟨h.bel.setCell (by simp; omega) _, (World.cell?_of_block (w := wr) hb).trans h.c0, (World.cell?_of_block (w := wr) hb).trans h.c1, by simpa [World.setCell] using h.lt⟩

def gOk (b d x : Int) : Bool := numB b d x
/-- a list of digits that is answered: nil where there is none, else in a block of its own -/
def DigV (b d x : Int) (w w' : World) (v : Value) : Prop :=
  (numB b d x = false ∧ v = .slice none 0 0) ∨ (numB b d x = true ∧ ∃ g, v = .slice (some ⟨g, 0, none⟩) (cnt b d) (cnt b d) ∧ OwnZ w w' g (digL (cnt b d) (sz d) x))

end Go.Proofs.Ytioiacmaijgdoaa
namespace Go.Proofs.Ytioiacmaijgdoaa
open Go.RowKit
set_option linter.unusedVariables false
theorem ndbd {b d n : Int} (hg : gsB b d = true) (n1 : 0 ≤ n) (n2 : n ≤ b / d) : 0 ≤ n * d ∧ n * d ≤ 12 := by
  obtain ⟨h1, h2, h3, _, _⟩ := gsB_true hg
  refine ⟨Int.mul_nonneg n1 (by omega), ?_⟩
  have := Int.mul_le_mul_of_nonneg_right n2 (show 0 ≤ d by omega)
  rw [bits_eq hg] at this
  omega
theorem sz_nd {x : Int} (h1 : 0 ≤ x) (h2 : x ≤ 12) : 1 ≤ sz x ∧ sz x ≤ 4096 := by
  by_cases h : x = 0
  · subst h; decide
  · have := sz_bd (b := x) (by omega) h2; omega
theorem ret_two {x y a b : Int} (h1 : x = a) (h2 : y = b) : Ending.returned (.tuple #[.int .i64 x, .int .i64 y]) = .returned (.tuple #[.int .i64 a, .int .i64 b]) := by rw [h1, h2]
theorem dist_zero {b f t : Int} (f1 : 0 ≤ f) (f2 : f < sz b) (t1 : 0 ≤ t) (t2 : t < sz b) : dist b f t = 0 ↔ f = t := by
  rw [dist_eq f1 f2 t1 t2]
  split <;> omega
theorem rnd_dist {b f t : Int} (f1 : 0 ≤ f) (f2 : f < sz b) (t1 : 0 ≤ t) (t2 : t < sz b) : rnd b f t = if dist b f t = 0 then sz b else dist b f t := by
  unfold rnd
  by_cases h : f = t
  · rw [if_pos h, if_pos ((dist_zero f1 f2 t1 t2).2 h)]
  · rw [if_neg h, if_neg (fun hh => h ((dist_zero f1 f2 t1 t2).1 hh))]
theorem up_eq {K f P S : Int} (h : P ∣ S) : (K - f + S) % P = (K - f % P + P) % P := by
  obtain ⟨q, rfl⟩ := h
  rw [Int.add_mul_emod_self_left, Int.add_emod_right, Int.sub_emod_emod]
end Go.Proofs.Ytioiacmaijgdoaa
namespace Go.Proofs.Ytioiacmaijgdoaa
open Go.RowKit
set_option linter.unusedVariables false
def bstOk (b d f t k : Int) : Bool := numB b d f && numB b d t && numB b d k
def bstV (b d f t k : Int) : Int × Int := if bstOk b d f t k = true then bestI b d f t k else (0, 0)
end Go.Proofs.Ytioiacmaijgdoaa
namespace Go.Proofs.Ytioiacmaijgdoaa
open Go.RowKit Go.Deep
set_option linter.unusedVariables false
/-- block g holds these cells -/
def Bk (w : World) (g : Nat) (C : Array Value) (T : TypeId) : Prop := w.heap[g]? = some (.cells C T (0, 0))
theorem Bk.lt {w : World} {g : Nat} {C : Array Value} {T : TypeId} (h : Bk w g C T) : g < w.heap.size := (Array.getElem?_eq_some_iff.1 h).1
theorem Bk.keepN {w w1 : World} {g n : Nat} {C : Array Value} {T : TypeId} (h : Bk w g C T) (hb : Below n w w1) (hg : g < n) : Bk w1 g C T := (hb.block g hg).trans h
theorem Bk.keep {w w1 : World} {g : Nat} {C : Array Value} {T : TypeId} (h : Bk w g C T) (hb : Below w.heap.size w w1) : Bk w1 g C T := h.keepN hb h.lt
theorem Bk.new (w : World) (C : Array Value) (T : TypeId) : Bk (w.alloc (.cells C T)) w.heap.size C T := heap_alloc_new _ _
theorem Bk.alloc {w : World} {g : Nat} {C : Array Value} {T : TypeId} (h : Bk w g C T) (o : Obj) : Bk (w.alloc o) g C T := h.keep ((Below.refl _ _).alloc (Nat.le_refl _) o)
theorem Bk.cell {w : World} {g : Nat} {C : Array Value} {T : TypeId} (h : Bk w g C T) (i : Nat) : w.cell? ⟨g, i, none⟩ = C[i]? := cell_of_row w _ _ _ _ _ h
theorem Bk.fr {w : World} {g : Nat} {C : Array Value} {T : TypeId} (h : Bk w g C T) (i : Nat) : w.frozen? ⟨g, i, none⟩ = false := frozen_of_row w _ _ _ _ h
theorem Bk.set {w : World} {g : Nat} {C : Array Value} {T : TypeId} (h : Bk w g C T) (i : Nat) (v : Value) : Bk (w.setCell ⟨g, i, none⟩ v) g (C.setIfInBounds i v) T := heap_setCell_same _ _ _ _ _ _ h
theorem Bk.oth {w : World} {g k : Nat} {C : Array Value} {T : TypeId} (h : Bk w g C T) (hk : ¬ g = k) (i : Nat) (v : Value) : Bk (w.setCell ⟨k, i, none⟩ v) g C T := (heap_setCell_other _ _ _ _ (by simpa using hk)).trans h
theorem Bk.c3 {w : World} {g : Nat} {a b c : Value} {T : TypeId} (h : Bk w g #[a, b, c] T) : w.cell? ⟨g, 0, none⟩ = some a ∧ w.cell? ⟨g, 1, none⟩ = some b ∧ w.cell? ⟨g, 2, none⟩ = some c := ⟨h.cell 0, h.cell 1, h.cell 2⟩
theorem Bk.c2 {w : World} {g : Nat} {a b : Value} {T : TypeId} (h : Bk w g #[a, b] T) : w.cell? ⟨g, 0, none⟩ = some a ∧ w.cell? ⟨g, 1, none⟩ = some b := ⟨h.cell 0, h.cell 1⟩
theorem Bk.c4 {w : World} {g : Nat} {a b c d : Value} {T : TypeId} (h : Bk w g #[a, b, c, d] T) : w.cell? ⟨g, 0, none⟩ = some a ∧ w.cell? ⟨g, 1, none⟩ = some b ∧ w.cell? ⟨g, 2, none⟩ = some c ∧ w.cell? ⟨g, 3, none⟩ = some d := ⟨h.cell 0, h.cell 1, h.cell 2, h.cell 3⟩
theorem Bk.f4 {w : World} {g : Nat} {C : Array Value} {T : TypeId} (h : Bk w g C T) : w.frozen? ⟨g, 0, none⟩ = false ∧ w.frozen? ⟨g, 1, none⟩ = false ∧ w.frozen? ⟨g, 2, none⟩ = false ∧ w.frozen? ⟨g, 3, none⟩ = false := ⟨h.fr 0, h.fr 1, h.fr 2, h.fr 3⟩
theorem Bk.c7 {w : World} {g : Nat} {a b c d e f k : Value} {T : TypeId} (h : Bk w g #[a, b, c, d, e, f, k] T) : w.cell? ⟨g, 0, none⟩ = some a ∧ w.cell? ⟨g, 1, none⟩ = some b ∧ w.cell? ⟨g, 2, none⟩ = some c ∧ w.cell? ⟨g, 3, none⟩ = some d ∧ w.cell? ⟨g, 4, none⟩ = some e ∧ w.cell? ⟨g, 5, none⟩ = some f ∧ w.cell? ⟨g, 6, none⟩ = some k := ⟨h.cell 0, h.cell 1, h.cell 2, h.cell 3, h.cell 4, h.cell 5, h.cell 6⟩
theorem Bk.f7 {w : World} {g : Nat} {C : Array Value} {T : TypeId} (h : Bk w g C T) : w.frozen? ⟨g, 0, none⟩ = false ∧ w.frozen? ⟨g, 1, none⟩ = false ∧ w.frozen? ⟨g, 2, none⟩ = false ∧ w.frozen? ⟨g, 3, none⟩ = false ∧ w.frozen? ⟨g, 4, none⟩ = false ∧ w.frozen? ⟨g, 5, none⟩ = false ∧ w.frozen? ⟨g, 6, none⟩ = false := ⟨h.fr 0, h.fr 1, h.fr 2, h.fr 3, h.fr 4, h.fr 5, h.fr 6⟩
theorem Bk.drew {w : World} {g : Nat} {C : Array Value} {T : TypeId} (h : Bk w g C T) : Bk w.drew g C T := h
/-- cells from i on are written, one by one -/
def setL (w : World) (g : Nat) : Nat → List Value → World
  | _, [] => w
  | i, v :: vs => setL (w.setCell ⟨g, i, none⟩ v) g (i + 1) vs
def ovr (C : Array Value) : Nat → List Value → Array Value
  | _, [] => C
  | i, v :: vs => ovr (C.setIfInBounds i v) (i + 1) vs
theorem Bk.setL {g : Nat} {T : TypeId} : ∀ (vs : List Value) {w : World} {C : Array Value} (i : Nat), Bk w g C T → Bk (setL w g i vs) g (ovr C i vs) T
  | [], _, _, _, h => h
  | v :: vs, _, _, i, h => Bk.setL vs (i + 1) (h.set i v)
theorem setL_oth {g k : Nat} (hk : ¬ k = g) : ∀ (vs : List Value) (w : World) (i : Nat), (setL w g i vs).heap[k]? = w.heap[k]?
  | [], _, _ => rfl
  | v :: vs, w, i => by
    unfold setL
    rw [setL_oth hk vs _ (i + 1), heap_setCell_other _ _ _ _ (by simpa using hk)]
theorem setL_size {g : Nat} : ∀ (vs : List Value) (w : World) (i : Nat), (setL w g i vs).heap.size = w.heap.size
  | [], _, _ => rfl
  | v :: vs, w, i => by
    unfold setL
    rw [setL_size vs _ (i + 1)]
    simp [World.setCell]
theorem setL_below {g n : Nat} {w0 : World} (hg : n ≤ g) : ∀ (vs : List Value) {w : World} (i : Nat), Below n w0 w → Below n w0 (setL w g i vs)
  | [], _, _, h => h
  | v :: vs, _, i, h => setL_below hg vs (i + 1) (h.setCell (p := ⟨g, i, none⟩) hg v)
end Go.Proofs.Ytioiacmaijgdoaa
namespace Go.Proofs.Ytioiacmaijgdoaa
open Go.RowKit Go.Deep
set_option linter.unusedVariables false
theorem peerI_first : ∀ (ps : List Pr) (x : Int) (k : Nat), k < ps.length → (∀ i, i < k → ¬ (ps.getD i pr0).id = x) → (ps.getD k pr0).id = x → peerI ps x = ps.getD k pr0
  | [], x, k, hk, _, _ => by simp at hk
  | p :: ps, x, 0, _, _, h => by
    unfold peerI
    rw [if_pos (by simpa using h)]
    simp
  | p :: ps, x, k + 1, hk, h1, h2 => by
    unfold peerI
    rw [if_neg (by have := h1 0 (by omega); simpa using this)]
    have := peerI_first ps x k (by simpa using hk) (fun i hi => by have := h1 (i + 1) (by omega); simpa using this) (by simpa using h2)
    simpa using this
/-- the place of the first peer with an Id -/
def idxI : List Pr → Int → Nat
  | [], _ => 0
  | p :: ps, x => if p.id = x then 0 else idxI ps x + 1
theorem idxI_first : ∀ (ps : List Pr) (x : Int) (k : Nat), k < ps.length → (∀ i, i < k → ¬ (ps.getD i pr0).id = x) → (ps.getD k pr0).id = x → idxI ps x = k
  | [], x, k, hk, _, _ => by simp at hk
  | p :: ps, x, 0, _, _, h => by
    unfold idxI
    rw [if_pos (by simpa using h)]
  | p :: ps, x, k + 1, hk, h1, h2 => by
    unfold idxI
    rw [if_neg (by have := h1 0 (by omega); simpa using this)]
    have := idxI_first ps x k (by simpa using hk) (fun i hi => by have := h1 (i + 1) (by omega); simpa using this) (by simpa using h2)
    omega
theorem idxI_mem : ∀ (ps : List Pr) (x : Int), hasB (idsP ps) x = true → idxI ps x < ps.length ∧ peerI ps x = ps.getD (idxI ps x) pr0
  | [], x, h => by
    have := of_decide_eq_true h
    obtain ⟨i, hi, _⟩ := this
    simp [idsP] at hi
  | p :: ps, x, h => by
    unfold peerI idxI
    by_cases he : p.id = x
    · rw [if_pos he, if_pos he]
      exact ⟨by simp, by simp⟩
    · rw [if_neg he, if_neg he]
      have h2 : hasB (idsP ps) x = true := by
        obtain ⟨i, hi, hx⟩ := of_decide_eq_true h
        cases i with
        | zero => exact absurd (by simpa [idsP] using hx) he
        | succ i => exact decide_eq_true ⟨i, by simpa [idsP] using hi, by simpa [idsP] using hx⟩
      obtain ⟨h3, h4⟩ := idxI_mem ps x h2
      exact ⟨by simpa using h3, by simpa using h4⟩
theorem peer_at {w : World} {bk off : Nat} {ps : List Pr} {x : Int} (hx : hasB (idsP ps) x = true) (hr : PeersAt w (some ⟨bk, off, none⟩) ps) : bk < w.heap.size ∧ PeerAt w bk (off + idxI ps x * 4) (peerI ps x) := by
  obtain ⟨h1, h2⟩ := idxI_mem ps x hx
  obtain ⟨h3, h4⟩ := peersAt_cell hr (by omega)
  rw [h2]
  exact ⟨h3, h4 _ h1⟩
theorem fwd_any (n : Int) (w : World) :
    Calls Try.prog 31 #[.int .i64 n] w fun e w' => e = .returned (.bool (inB n 0 1000)) ∧ w' = w := by
  by_cases h1 : 0 ≤ n
  · by_cases h2 : n ≤ 1000
    · rw [inB_yes h1 h2]
      go_enter Try.func31, Try.ntmps31
      go_wp2
      go_ret
      exact ⟨rfl, rfl⟩
    · rw [inB_no (by omega)]
      go_enter Try.func31, Try.ntmps31
      go_wp2
      go_ret
      exact ⟨rfl, rfl⟩
  · rw [inB_no (by omega)]
    go_enter Try.func31, Try.ntmps31
    go_wp2
    go_ret
    exact ⟨rfl, rfl⟩
set_option maxHeartbeats 800000 in
theorem isId_any (b d : Int) (q : Nat) (a : Option Addr) (cap : Nat) (ps : List Pr) (x : Int) (w : World) (R : Ring b d (idsP ps)) (hq : q < w.heap.size) (c2 : w.cell? ⟨q, 2, none⟩ = some (.slice a ps.length cap)) (hr : PeersAt w a ps) :
    Calls Try.prog 79 #[.pointer (some ⟨q, 0, none⟩), .int .i64 x] w fun e w' => e = .returned (.bool (hasB (idsP ps) x)) ∧ Below w.heap.size w w' := by
  have hil := idsP_len ps
  have l2 := R.l2
  rw [hil] at l2
  have CI := idsOf_any q a cap ps w (by omega) hq c2 hr
  have hv : Hid (hasB (idsP ps) x = memI (idsP ps) x) := (mem_has R x).symm
  go_enter Try.func79, Try.ntmps79
  go_wp2_with fail
  refine CI.mono ?_
  rintro e w1 ⟨rfl, ow1⟩
  have C := isMember_any (some ⟨w.heap.size, 0, none⟩) ps.length (idsP ps) x w1 (by unfold maxLen; omega) (rowAt_of_row ow1.row)
  rw [hil] at C
  go_wp2_with fail
  refine C.mono ?_
  rintro e w2 ⟨rfl, hw2⟩
  subst hw2
  go_wp2
  go_ret
  exact ⟨ret_bool hv.out.symm, ow1.bel⟩
theorem peerI_none : ∀ (ps : List Pr) (x : Int), (∀ i, i < ps.length → ¬ (ps.getD i pr0).id = x) → peerI ps x = prN
  | [], x, _ => rfl
  | p :: ps, x, h => by
    unfold peerI
    rw [if_neg (by have := h 0 (by simp); simpa using this)]
    exact peerI_none ps x (fun i hi => by have := h (i + 1) (by simpa using hi); simpa using this)
theorem hasB_at {ps : List Pr} {x : Int} {j : Nat} (hj : j < ps.length) (h : (ps.getD j pr0).id = x) : hasB (idsP ps) x = true := decide_eq_true ⟨j, by rw [idsP_len]; exact hj, by rw [idsP_get]; exact h⟩
theorem hasB_not {ps : List Pr} {x : Int} (h : ∀ i, i < ps.length → ¬ (ps.getD i pr0).id = x) : hasB (idsP ps) x = false := decide_eq_false (fun ⟨i, hi, he⟩ => h i (by rw [idsP_len] at hi; exact hi) (by rw [idsP_get] at he; exact he))
/-- the slice of the backs of a peer that is found -/
def bkV (w : World) (a : Option Addr) (ps : List Pr) (x : Int) : Value :=
  if hasB (idsP ps) x = true then (match a with | some p => (w.cell? ⟨p.block, p.off + idxI ps x * 4 + 3, none⟩).getD undef | none => undef) else .slice none 0 0
theorem bkV_keep {w w1 : World} {a : Option Addr} {ps : List Pr} {x : Int} {n : Nat} (hr : PeersAt w a ps) (hb : Below n w w1) (hn : w.heap.size ≤ n) : bkV w1 a ps x = bkV w a ps x := by
  unfold bkV
  by_cases h : hasB (idsP ps) x = true
  · rw [if_pos h, if_pos h]
    obtain ⟨h1, _⟩ := idxI_mem ps x h
    obtain ⟨bk, off, rfl⟩ := peersAt_form hr (by omega)
    obtain ⟨h3, _⟩ := peersAt_cell hr (by omega)
    show (w1.cell? ⟨bk, off + idxI ps x * 4 + 3, none⟩).getD undef = (w.cell? ⟨bk, off + idxI ps x * 4 + 3, none⟩).getD undef
    rw [hb.cell (p := ⟨bk, off + idxI ps x * 4 + 3, none⟩) (by show bk < n; omega)]
  · rw [if_neg h, if_neg h]
end Go.Proofs.Ytioiacmaijgdoaa
namespace Go.Proofs.Ytioiacmaijgdoaa
open Go.RowKit Go.Deep
set_option linter.unusedVariables false
set_option linter.unusedSimpArgs false
set_option maxRecDepth 100000 in
set_option maxHeartbeats 3200000 in
theorem NewNet_own (b d : Int) (a : Option Addr) (cap : Nat) (ps : List Pr) (ttl : Int) (w : World) (hm : ps.length ≤ 1048576) (hr : PeersAt w a ps) :
    Calls Try.prog 9 #[.agg #[.int .i64 b, .int .i64 d, .slice a ps.length cap], .int .i64 ttl] w (NetOut w (newA b d ps ttl) (newB b d ps ttl)) := by
  have N0 : Hid (T2 w ((w.alloc (.cells #[.int .i64 b, .int .i64 d, .slice a ps.length cap] 31)).alloc (.cells #[.int .i64 0, .int .i64 0, .slice none 0 0, .int .i64 0, .slice none 0 0, .slice none 0 0, .slice none 0 0] 36)) #[.int .i64 b, .int .i64 d, .slice a ps.length cap] 31 #[.int .i64 0, .int .i64 0, .slice none 0 0, .int .i64 0, .slice none 0 0, .slice none 0 0, .slice none 0 0] 36) := t20 w _ _ _ _
  have HR : Hid (PeersAt w a ps) := hr
  have CG := GoodPeers_any b d a cap ps _ hm (hr.keep N0.out.bel)
  have CF := fun w => fwd_any ttl w
  clear hr
  cases hg : goodP b d ps
  · have HV : Hid (newB b d ps ttl = false) := by unfold Hid newB; rw [hg]; rfl
    rw [hg] at CG
    rw [newA_no HV.out, HV.out]
    clear hg
    go_enter Try.func9, Try.ntmps9
    go_wp2_with fail
    refine CG.mono ?_
    rintro e w1 ⟨rfl, HW⟩
    have N1 : Hid (T2 w w1 #[.int .i64 b, .int .i64 d, .slice a ps.length cap] 31 #[.int .i64 0, .int .i64 0, .slice none 0 0, .int .i64 0, .slice none 0 0, .slice none 0 0, .slice none 0 0] 36) := N0.out.keep HW
    clear CG CF HW N0
    obtain ⟨r0, r1, r2, r3, r4, r5, r6⟩ := Wire.Bk.m7 N1.out.kr
    obtain ⟨s0, s1, s2, s3, s4, s5, s6⟩ := Wire.Bk.g7 N1.out.kr
    go_wp2
    obtain ⟨E1, E2⟩ := netOut_no N1.out
    exact bodyPost_ret (results_cell_tmp Try.results9 _ _ (w.heap.size + 1) _ _ _ _ _ rfl rfl E1 Try.underlying36 rfl (by kernel_rfl)) rfl (E2)
  · have HG : Hid (goodP b d ps = true) := hg
    rw [hg] at CG
    cases ht : inB ttl 0 1000
    · have HV : Hid (newB b d ps ttl = false) := by unfold Hid newB; rw [ht, Bool.and_false]
      rw [newA_no HV.out, HV.out]
      rw [ht] at CF
      clear hg ht
      go_enter Try.func9, Try.ntmps9
      go_wp2_with fail
      refine CG.mono ?_
      rintro e w1 ⟨rfl, HW⟩
      have N1 : Hid (T2 w w1 #[.int .i64 b, .int .i64 d, .slice a ps.length cap] 31 #[.int .i64 0, .int .i64 0, .slice none 0 0, .int .i64 0, .slice none 0 0, .slice none 0 0, .slice none 0 0] 36) := N0.out.keep HW
      clear CG HW N0
      go_wp2_with fail
      refine (CF _).mono ?_
      rintro e w2 ⟨rfl, he⟩
      have he' := he.symm
      subst he'
      clear CF he
      obtain ⟨r0, r1, r2, r3, r4, r5, r6⟩ := Wire.Bk.m7 N1.out.kr
      obtain ⟨s0, s1, s2, s3, s4, s5, s6⟩ := Wire.Bk.g7 N1.out.kr
      go_wp2
      obtain ⟨E1, E2⟩ := netOut_no N1.out
      exact bodyPost_ret (results_cell_tmp Try.results9 _ _ (w.heap.size + 1) _ _ _ _ _ rfl rfl E1 Try.underlying36 rfl (by kernel_rfl)) rfl (E2)
    · have HV : Hid (newB b d ps ttl = true) := by unfold Hid newB; rw [ht, hg]; rfl
      rw [newA_yes HV.out, HV.out]
      rw [ht] at CF
      obtain ⟨R, hp⟩ := goodP_true hg
      have l1 : 1 ≤ ps.length := by have := R.l1; rwa [idsP_len] at this
      have l2 : ps.length ≤ 16 := by have := R.l2; rwa [idsP_len] at this
      have HB3 : Hid (∀ i, i < ps.length → (ps.getD i pr0).backs.length ≤ 3) := fun i hi => by have := (prB_parts.1 (hp i hi)).2.2.1; omega
      clear hg ht R hp
      go_enter Try.func9, Try.ntmps9
      go_wp2_with fail
      refine CG.mono ?_
      rintro e w1 ⟨rfl, HW⟩
      have N1 : Hid (T2 w w1 #[.int .i64 b, .int .i64 d, .slice a ps.length cap] 31 #[.int .i64 0, .int .i64 0, .slice none 0 0, .int .i64 0, .slice none 0 0, .slice none 0 0, .slice none 0 0] 36) := N0.out.keep HW
      clear CG HW N0
      go_wp2_with fail
      refine (CF _).mono ?_
      rintro e w2 ⟨rfl, he⟩
      have he' := he.symm
      subst he'
      clear CF he
      obtain ⟨q0, q1, q2⟩ := Wire.Bk.c3 N1.out.ka
      have qlt := N1.out.ka.lt
      go_wp2_with fail
      refine (copyPeers_any w.heap.size b d a cap ps w1 (by omega) l2 HB3.out qlt q0 q1 q2 (HR.out.keep N1.out.bel)).mono ?_
      rintro e w3 ⟨g, L, rfl, hL, ow, HW⟩
      have OP : Hid (OwnPs w1.heap.size w3.heap.size w3 (some ⟨g, 0, none⟩) ps.length ps) := ⟨rfl, .inr ⟨g, L, rfl, hL, ow⟩⟩
      have N3 : Hid (T2 w w3 #[.int .i64 b, .int .i64 d, .slice a ps.length cap] 31 #[.int .i64 0, .int .i64 0, .slice none 0 0, .int .i64 0, .slice none 0 0, .slice none 0 0, .slice none 0 0] 36) := N1.out.keep HW
      have Z3 : Hid (w1.heap.size ≤ w3.heap.size ∧ w.heap.size + 1 < w1.heap.size) := ⟨HW.size, N1.out.kr.lt⟩
      clear HW hL ow N1
      clear q0 q1 q2 qlt
      obtain ⟨r0, r1, r2, r3, r4, r5, r6⟩ := Wire.Bk.m7 N3.out.kr
      obtain ⟨s0, s1, s2, s3, s4, s5, s6⟩ := Wire.Bk.g7 N3.out.kr
      go_wp2
      have N4 := N3.out.res 0 [.int .i64 b, .int .i64 d, .slice (some ⟨g, 0, none⟩) ps.length ps.length, .int .i64 ttl, .slice none 0 0, .slice none 0 0, .slice none 0 0]
      rw [ovrE] at N4
      have hsz := Wire.setL_size (g := w.heap.size + 1) [.int .i64 b, .int .i64 d, .slice (some ⟨g, 0, none⟩) ps.length ps.length, .int .i64 ttl, .slice none 0 0, .slice none 0 0, .slice none 0 0] w3 0
      have OE : OwnN w.heap.size (Wire.setL w3 (w.heap.size + 1) 0 [.int .i64 b, .int .i64 d, .slice (some ⟨g, 0, none⟩) ps.length ps.length, .int .i64 ttl, .slice none 0 0, .slice none 0 0, .slice none 0 0]).heap.size (Wire.setL w3 (w.heap.size + 1) 0 [.int .i64 b, .int .i64 d, .slice (some ⟨g, 0, none⟩) ps.length ps.length, .int .i64 ttl, .slice none 0 0, .slice none 0 0, .slice none 0 0]) (some ⟨g, 0, none⟩) none none none ps.length 0 0 0 ps [] [] [] := by
        rw [hsz]
        exact ownN_peers (OP.out.blocks (fun k h1 _ _ => Wire.setL_oth (by have := Z3.out; omega) _ _ _)) (by have := Z3.out; omega) Z3.out.1 (Nat.le_refl _)
      refine bodyPost_ret (results_cell_tmp Try.results9 _ _ (w.heap.size + 1) _ _ _ _ _ rfl rfl N4.kr Try.underlying36 rfl (by kernel_rfl)) rfl ?_
      exact ⟨_, none, none, none, ps.length, 0, 0, 0, rfl, OE, N4.bel⟩
set_option maxRecDepth 100000 in
set_option maxHeartbeats 3200000 in
theorem lNewNet_own (b d : Int) (a : Option Addr) (cap : Nat) (ps : List Pr) (ttl : Int) (w : World) (hm : ps.length ≤ 1048576) (hr : PeersAt w a ps) :
    Calls Try.prog 7 #[.agg #[.int .i64 b, .int .i64 d, .slice a ps.length cap], .int .i64 ttl] w (NetSay w (newA b d ps ttl) (newB b d ps ttl)) := by
  have N0 : Hid (T2 w ((w.alloc (.cells #[.int .i64 b, .int .i64 d, .slice a ps.length cap] 31)).alloc (.cells #[.int .i64 0, .int .i64 0, .slice none 0 0, .int .i64 0, .slice none 0 0, .slice none 0 0, .slice none 0 0] 36)) #[.int .i64 b, .int .i64 d, .slice a ps.length cap] 31 #[.int .i64 0, .int .i64 0, .slice none 0 0, .int .i64 0, .slice none 0 0, .slice none 0 0, .slice none 0 0] 36) := t20 w _ _ _ _
  have HR : Hid (PeersAt w a ps) := hr
  have CG := lgood_any b d a cap ps _ hm (hr.keep N0.out.bel)
  have CF := fun w => lin_any ttl 0 1000 w
  clear hr
  cases hg : goodP b d ps
  · have HV : Hid (newB b d ps ttl = false) := by unfold Hid newB; rw [hg]; rfl
    rw [hg] at CG
    rw [newA_no HV.out, HV.out]
    clear hg
    go_enter Try.func7, Try.ntmps7
    go_wp2_with fail
    refine CG.mono ?_
    rintro e w1 ⟨rfl, HW⟩
    have N1 : Hid (T2 w w1 #[.int .i64 b, .int .i64 d, .slice a ps.length cap] 31 #[.int .i64 0, .int .i64 0, .slice none 0 0, .int .i64 0, .slice none 0 0, .slice none 0 0, .slice none 0 0] 36) := N0.out.keep HW
    clear CG CF HW N0
    obtain ⟨r0, r1, r2, r3, r4, r5, r6⟩ := Wire.Bk.m7 N1.out.kr
    obtain ⟨s0, s1, s2, s3, s4, s5, s6⟩ := Wire.Bk.g7 N1.out.kr
    go_wp2
    obtain ⟨E1, E2⟩ := netOut_no N1.out
    exact bodyPost_ret (results_cell_tmp Try.results7 _ _ (w.heap.size + 1) _ _ _ _ _ rfl rfl E1 Try.underlying36 rfl (by kernel_rfl)) rfl (E2.say)
  · have HG : Hid (goodP b d ps = true) := hg
    rw [hg] at CG
    cases ht : inB ttl 0 1000
    · have HV : Hid (newB b d ps ttl = false) := by unfold Hid newB; rw [ht, Bool.and_false]
      rw [newA_no HV.out, HV.out]
      rw [ht] at CF
      clear hg ht
      go_enter Try.func7, Try.ntmps7
      go_wp2_with fail
      refine CG.mono ?_
      rintro e w1 ⟨rfl, HW⟩
      have N1 : Hid (T2 w w1 #[.int .i64 b, .int .i64 d, .slice a ps.length cap] 31 #[.int .i64 0, .int .i64 0, .slice none 0 0, .int .i64 0, .slice none 0 0, .slice none 0 0, .slice none 0 0] 36) := N0.out.keep HW
      clear CG HW N0
      go_wp2_with fail
      refine (CF _).mono ?_
      rintro e w2 ⟨rfl, he⟩
      have he' := he.symm
      subst he'
      clear CF he
      obtain ⟨r0, r1, r2, r3, r4, r5, r6⟩ := Wire.Bk.m7 N1.out.kr
      obtain ⟨s0, s1, s2, s3, s4, s5, s6⟩ := Wire.Bk.g7 N1.out.kr
      go_wp2
      obtain ⟨E1, E2⟩ := netOut_no N1.out
      exact bodyPost_ret (results_cell_tmp Try.results7 _ _ (w.heap.size + 1) _ _ _ _ _ rfl rfl E1 Try.underlying36 rfl (by kernel_rfl)) rfl (E2.say)
    · have HV : Hid (newB b d ps ttl = true) := by unfold Hid newB; rw [ht, hg]; rfl
      rw [newA_yes HV.out, HV.out]
      rw [ht] at CF
      obtain ⟨R, hp⟩ := goodP_true hg
      have l1 : 1 ≤ ps.length := by have := R.l1; rwa [idsP_len] at this
      have l2 : ps.length ≤ 16 := by have := R.l2; rwa [idsP_len] at this
      have HB3 : Hid (∀ i, i < ps.length → (ps.getD i pr0).backs.length ≤ 3) := fun i hi => by have := (prB_parts.1 (hp i hi)).2.2.1; omega
      clear hg ht R hp
      go_enter Try.func7, Try.ntmps7
      go_wp2_with fail
      refine CG.mono ?_
      rintro e w1 ⟨rfl, HW⟩
      have N1 : Hid (T2 w w1 #[.int .i64 b, .int .i64 d, .slice a ps.length cap] 31 #[.int .i64 0, .int .i64 0, .slice none 0 0, .int .i64 0, .slice none 0 0, .slice none 0 0, .slice none 0 0] 36) := N0.out.keep HW
      clear CG HW N0
      go_wp2_with fail
      refine (CF _).mono ?_
      rintro e w2 ⟨rfl, he⟩
      have he' := he.symm
      subst he'
      clear CF he
      obtain ⟨q0, q1, q2⟩ := Wire.Bk.c3 N1.out.ka
      have qlt := N1.out.ka.lt
      go_wp2_with fail
      refine (lownP_any b d a cap ps w1 hm (fun i hi => by have := HB3.out i hi; omega) (HR.out.keep N1.out.bel)).mono ?_
      rintro e w3 ⟨vl, L, rfl, hL, lp, HW⟩
      obtain ⟨al, cl, rfl, hcl⟩ := lp.form
      have hLl : L.length = ps.length := by rw [← hL, List.length_map]
      have HL : Hid (L.map (·.1) = ps) := hL
      have LP : Hid (ListP w1.heap.size w3 (.slice al L.length cl) L) := lp
      have Z3 : Hid (w1.heap.size ≤ w3.heap.size ∧ w.heap.size + 1 < w1.heap.size) := ⟨HW.size, N1.out.kr.lt⟩
      have N3 : Hid (T2 w w3 #[.int .i64 b, .int .i64 d, .slice a ps.length cap] 31 #[.int .i64 0, .int .i64 0, .slice none 0 0, .int .i64 0, .slice none 0 0, .slice none 0 0, .slice none 0 0] 36) := N1.out.keep HW
      rw [hLl]
      clear HW hL lp hLl hcl N1
      clear q0 q1 q2 qlt
      obtain ⟨r0, r1, r2, r3, r4, r5, r6⟩ := Wire.Bk.m7 N3.out.kr
      obtain ⟨s0, s1, s2, s3, s4, s5, s6⟩ := Wire.Bk.g7 N3.out.kr
      go_wp2
      have N4 := N3.out.res 0 [.int .i64 b, .int .i64 d, .slice al ps.length cl, .int .i64 ttl, .slice none 0 0, .slice none 0 0, .slice none 0 0]
      rw [ovrE] at N4
      have hsz := Wire.setL_size (g := w.heap.size + 1) [.int .i64 b, .int .i64 d, .slice al ps.length cl, .int .i64 ttl, .slice none 0 0, .slice none 0 0, .slice none 0 0] w3 0
      refine bodyPost_ret (results_cell_tmp Try.results7 _ _ (w.heap.size + 1) _ _ _ _ _ rfl rfl N4.kr Try.underlying36 rfl (by kernel_rfl)) rfl ?_
      have LP2 := LP.out.blocks (by rw [hsz]; exact Nat.le_refl _) (fun k h1 _ => Wire.setL_oth (g := w.heap.size + 1) (by have := Z3.out; omega) _ w3 0)
      have PA := LP2.peersAt
      rw [HL.out] at PA
      exact ⟨_, none, none, none, _, 0, 0, 0, rfl, ⟨PA, .inl rfl, .inl rfl, .inl rfl⟩, N4.bel⟩
end Go.Proofs.Ytioiacmaijgdoaa
