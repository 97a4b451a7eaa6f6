/- A struct and a bool are answered; one number of a peer is written; the specification's IdealPeers. -/
import Derived.Test.YtgmdbihdnacpjaaW8
namespace Go.Proofs.Ytgmdbihdnacpjaa
open Go.RowKit
set_option linter.unusedVariables false
def isRowD (d : TypeDesc) : Bool := match d with | .struct _ | .array _ _ => true | _ => false
theorem results_cell_tmp {fn : Func} {p q : Tmp} {ty : TypeId} (h : fn.results = #[.cell p ty, .tmp q]) (tmps : Array Value) (w : World) (g : Nat) (t : TypeId) (cs : Array Value) (fr : Nat × Nat) (d : TypeDesc) (u : Value)
    (hp : tmps.getD p undef = .pointer (some ⟨g, 0, none⟩)) (hq : tmps.getD q undef = u) (hg : w.heap[g]? = some (.cells cs t fr))
    (hu : Try.prog.underlying ty = some d) (hd : isRowD d = true) (hi : (Try.prog.info? ty).map (·.size) = some cs.size) :
    (results fn tmps).run Try.prog w = .ok (.tuple #[.agg cs, u]) w := by
  have hp' : tmps[p]?.getD undef = .pointer (some ⟨g, 0, none⟩) := by simpa using hp
  have hq' : tmps[q]?.getD undef = u := by simpa using hq
  have hl := run_loadVar_row w g t ty cs fr d hg hu (by cases d <;> first | rfl | (simp [isRowD] at hd)) hi
  simp [results, h, hp', hq', asAddr, hl]
def setF (f : Nat) (p : Pr) (z : Int) : Pr := if f = 0 then ⟨z, p.succ, p.point, p.backs⟩ else if f = 1 then ⟨p.id, z, p.point, p.backs⟩ else ⟨p.id, p.succ, z, p.backs⟩
theorem setF_backs (f : Nat) (p : Pr) (z : Int) : (setF f p z).backs = p.backs := by unfold setF; split <;> (try split) <;> rfl
/-- one number of a peer of one's own is written -/
theorem OwnP.num {B T : Nat} {w : World} {g : Nat} {L : List (Pr × Value)} (h : OwnP B T w g L) {i : Nat} (hi : i < L.length) (f : Nat) (hf : f < 3) (z : Int) :
    OwnP B T (w.setCell ⟨g, i * 4 + f, none⟩ (.int .i64 z)) g (L.set i (setF f (L.getD i d0).1 z, (L.getD i d0).2)) := by
  obtain ⟨cur, hc⟩ := h.blk
  have hb4 : ∀ k, ¬ k = g → (w.setCell ⟨g, i * 4 + f, none⟩ (.int .i64 z)).heap[k]? = w.heap[k]? := fun k hk => heap_setCell_other _ _ _ _ (by simpa using hk)
  have hcell : ∀ j u, w.cell? ⟨g, j, none⟩ = some u → (w.setCell ⟨g, i * 4 + f, none⟩ (.int .i64 z)).cell? ⟨g, j, none⟩ = some (if j = i * 4 + f then .int .i64 z else u) := fun j u hu => cell_set hu
  refine ⟨h.lo, h.hi, ⟨_, heap_setCell_same _ _ _ _ _ _ hc⟩, fun j hj => ?_, fun j hj => ?_, fun j k hjk hk => ?_⟩
  · rw [List.length_set] at hj
    rw [getD_set hj]
    have hcj := h.cel j hj
    have k0 := hcell _ _ hcj.c0
    have k1 := hcell _ _ hcj.c1
    have k2 := hcell _ _ hcj.c2
    have k3 := hcell _ _ hcj.c3
    rw [if_neg (by omega)] at k3
    by_cases hij : i = j
    · subst hij
      rw [if_pos rfl]
      unfold setF
      by_cases f0 : f = 0
      · subst f0
        rw [if_pos (by omega)] at k0
        rw [if_neg (by omega)] at k1 k2
        exact ⟨k0, k1, k2, k3⟩
      · by_cases f1 : f = 1
        · subst f1
          rw [if_pos (by omega)] at k1
          rw [if_neg (by omega)] at k0 k2
          exact ⟨k0, k1, k2, k3⟩
        · have f2 : f = 2 := by omega
          subst f2
          rw [if_pos (by omega)] at k2
          rw [if_neg (by omega)] at k0 k1
          exact ⟨k0, k1, k2, k3⟩
    · rw [if_neg hij]
      rw [if_neg (by omega)] at k0 k1 k2
      exact ⟨k0, k1, k2, k3⟩
  · rw [List.length_set] at hj
    rw [getD_set hj]
    have old : ∀ q, q < L.length → ValOk B T (w.setCell ⟨g, i * 4 + f, none⟩ (.int .i64 z)) (L.getD q d0) := fun q hq => by
      obtain ⟨ab, cb, hv, hcb, hm, ho⟩ := h.val q hq
      refine ⟨ab, cb, hv, hcb, hm, ?_⟩
      rcases ho with ho | ⟨gb, ha, ht, os⟩
      · exact .inl ho
      · exact .inr ⟨gb, ha, ht, os.of_block (hb4 gb (os.ne_peer hc))⟩
    by_cases hij : i = j
    · rw [if_pos hij]
      have := old i hi
      unfold ValOk at this ⊢
      simp only [setF_backs]
      exact this
    · rw [if_neg hij]; exact old j hj
  · rw [List.length_set] at hk
    rw [getD_set (by omega), getD_set hk]
    by_cases hij : i = j
    · rw [if_pos hij, if_neg (by omega)]
      subst hij
      simp only [setF_backs]
      exact h.sep i k hjk hk
    · rw [if_neg hij]
      by_cases hik : i = k
      · rw [if_pos hik]
        subst hik
        simp only [setF_backs]
        exact h.sep j i hjk hk
      · rw [if_neg hik]
        exact h.sep j k hjk hk
theorem getD_same {L : List (Pr × Value)} {k : Nat} {e : Pr × Value} (hk : k < L.length) : (L.set k e).getD k d0 = e := by rw [getD_set hk, if_pos rfl]
/-- three cells of a struct are written -/
def set3 (w : World) (g : Nat) (x y v : Value) : World := ((w.setCell ⟨g, 0, none⟩ x).setCell ⟨g, 1, none⟩ y).setCell ⟨g, 2, none⟩ v
theorem set3_row {w : World} {g : Nat} {a b c x y v : Value} {t : TypeId} (h : w.heap[g]? = some (.cells #[a, b, c] t (0, 0))) : (set3 w g x y v).heap[g]? = some (.cells #[x, y, v] t (0, 0)) :=
  heap_setCell_same _ _ 2 _ _ _ (heap_setCell_same _ _ 1 _ _ _ (heap_setCell_same _ _ 0 _ _ _ h))
theorem set3_block {w : World} {g k : Nat} {x y v : Value} (h : ¬ k = g) : (set3 w g x y v).heap[k]? = w.heap[k]? := by
  unfold set3
  rw [heap_setCell_other _ _ _ _ (by simpa using h), heap_setCell_other _ _ _ _ (by simpa using h), heap_setCell_other _ _ _ _ (by simpa using h)]
theorem set3_size {w : World} {g : Nat} {x y v : Value} : (set3 w g x y v).heap.size = w.heap.size := by simp [set3, World.setCell]
theorem set3_below {n : Nat} {w0 w : World} {g : Nat} {x y v : Value} (h : Below n w0 w) (hg : n ≤ g) : Below n w0 (set3 w g x y v) :=
  ((h.setCell (p := ⟨g, 0, none⟩) hg _).setCell (p := ⟨g, 1, none⟩) hg _).setCell (p := ⟨g, 2, none⟩) hg _
/-- the argument's box and the answer's box, of peers -/
structure RB (w wr : World) (S0 : Array Value) (T0 : TypeId) : Prop where
  bel : Below w.heap.size w wr
  lt : w.heap.size + 1 < wr.heap.size
  s : wr.heap[w.heap.size]? = some (.cells S0 T0 (0, 0))
  r : wr.heap[w.heap.size + 1]? = some (.cells #[.int .i64 0, .int .i64 0, .slice none 0 0] 28 (0, 0))
theorem RB.blocks {w wr w1 : World} {S0 : Array Value} {T0 : TypeId} (h : RB w wr S0 T0) (hb : Below w.heap.size w w1) (hs : wr.heap.size ≤ w1.heap.size) (hk : ∀ k, k ≤ w.heap.size + 1 → w1.heap[k]? = wr.heap[k]?) : RB w w1 S0 T0 :=
  ⟨hb, Nat.lt_of_lt_of_le h.lt hs, (hk _ (by omega)).trans h.s, (hk _ (by omega)).trans h.r⟩
theorem RB.keep {w wr w1 : World} {S0 : Array Value} {T0 : TypeId} (h : RB w wr S0 T0) (hb : Below wr.heap.size wr w1) : RB w w1 S0 T0 :=
  h.blocks (belt h.bel hb) hb.size (fun k hk => hb.block k (by have := h.lt; omega))
theorem rb0 (w : World) (S0 : Array Value) (T0 : TypeId) : RB w ((w.alloc (.cells S0 T0)).alloc (.cells #[.int .i64 0, .int .i64 0, .slice none 0 0] 28)) S0 T0 := by
  refine ⟨((Below.refl _ _).alloc (Nat.le_refl _) _).alloc (by simp) _, by simp, ?_, ?_⟩
  · rw [heap_alloc_old _ _ (by simp)]
    exact heap_alloc_new _ _
  · have := heap_alloc_new (w.alloc (.cells S0 T0)) (.cells #[.int .i64 0, .int .i64 0, .slice none 0 0] 28)
    simpa using this
theorem RB.cells {w wr : World} {S0 : Array Value} {T0 : TypeId} (h : RB w wr S0 T0) : wr.cell? ⟨w.heap.size + 1, 0, none⟩ = some (.int .i64 0) ∧ wr.cell? ⟨w.heap.size + 1, 1, none⟩ = some (.int .i64 0) ∧ wr.cell? ⟨w.heap.size + 1, 2, none⟩ = some (.slice none 0 0) ∧
    wr.frozen? ⟨w.heap.size + 1, 0, none⟩ = false ∧ wr.frozen? ⟨w.heap.size + 1, 1, none⟩ = false ∧ wr.frozen? ⟨w.heap.size + 1, 2, none⟩ = false :=
  ⟨(cell_of_row wr _ _ _ _ _ h.r).trans rfl, (cell_of_row wr _ _ _ _ _ h.r).trans rfl, (cell_of_row wr _ _ _ _ _ h.r).trans rfl, frozen_of_row wr _ _ _ _ h.r, frozen_of_row wr _ _ _ _ h.r, frozen_of_row wr _ _ _ _ h.r⟩
theorem RB.arg2 {w wr : World} {x y : Value} {T0 : TypeId} (h : RB w wr #[x, y] T0) : wr.cell? ⟨w.heap.size, 0, none⟩ = some x ∧ wr.cell? ⟨w.heap.size, 1, none⟩ = some y :=
  ⟨(cell_of_row wr _ _ _ _ _ h.s).trans rfl, (cell_of_row wr _ _ _ _ _ h.s).trans rfl⟩
theorem RB.arg3 {w wr : World} {x y z : Value} {T0 : TypeId} (h : RB w wr #[x, y, z] T0) : wr.cell? ⟨w.heap.size, 0, none⟩ = some x ∧ wr.cell? ⟨w.heap.size, 1, none⟩ = some y ∧ wr.cell? ⟨w.heap.size, 2, none⟩ = some z :=
  ⟨(cell_of_row wr _ _ _ _ _ h.s).trans rfl, (cell_of_row wr _ _ _ _ _ h.s).trans rfl, (cell_of_row wr _ _ _ _ _ h.s).trans rfl⟩

def idlOk (b d : Int) (zs : List Int) (n : Int) : Bool := ringB b d zs && inB n 0 3
theorem idealL_len (b d : Int) (zs : List Int) (n : Nat) : (idealL b d zs n).length = zs.length := by simp [idealL]
set_option maxHeartbeats 1600000 in
theorem lIdealPeers_any (b d n : Int) (a : Option Addr) (cap : Nat) (zs : List Int) (w : World) (hm : zs.length ≤ maxLen) (hr : RowAt w a zs) :
    Calls Try.prog 25 #[.agg #[.int .i64 b, .int .i64 d], .slice a zs.length cap, .int .i64 n] w fun e w' => ∃ v, e = .returned v ∧ Below w.heap.size w w' ∧
      ((idlOk b d zs n = false ∧ v = .tuple #[.agg #[.int .i64 0, .int .i64 0, .slice none 0 0], .bool false]) ∨ (idlOk b d zs n = true ∧ ∃ a0 cp, v = .tuple #[.agg #[.int .i64 b, .int .i64 d, .slice a0 zs.length cp], .bool true] ∧ PeersAt w' a0 (idealL b d zs n.toNat))) := by
  have rb := rb0 w #[.int .i64 b, .int .i64 d] 25
  have CR := lring_any b d a cap zs _ hm (hr.keep rb.bel)
  have HR : Hid (RowAt w a zs) := hr
  have RB0 : Hid _ := rb
  clear hr rb
  cases hg : ringB b d zs
  · have hv : Hid (idlOk b d zs n = false) := by unfold Hid idlOk; rw [hg]; rfl
    rw [hg] at CR
    go_enter Try.func25, Try.ntmps25
    go_wp2_with fail
    refine CR.mono ?_
    rintro e w1 ⟨rfl, hw1⟩
    have RB1 : Hid (RB w w1 #[.int .i64 b, .int .i64 d] 25) := RB0.out.keep hw1
    obtain ⟨r0, r1, r2, q0, q1, q2⟩ := RB1.out.cells
    clear CR hw1
    go_wp2
    refine bodyPost_ret (results_cell_tmp Try.results25 _ _ (w.heap.size + 1) _ _ _ _ _ rfl rfl (set3_row RB1.out.r) Try.underlying28 rfl (by kernel_rfl)) rfl ⟨_, rfl, set3_below RB1.out.bel (by omega), .inl ⟨hv.out, rfl⟩⟩
  · rw [hg] at CR
    cases hn : inB n 0 3
    · have hv : Hid (idlOk b d zs n = false) := by unfold Hid idlOk; rw [hg, hn]; rfl
      have CN : ∀ w1, Calls Try.prog 78 #[.int .i64 n, .int .i64 0, .int .i64 3] w1 fun e w' => e = .returned (.bool false) ∧ w' = w1 := fun w1 => by have := lin_any n 0 3 w1; rwa [hn] at this
      clear hg hn
      go_enter Try.func25, Try.ntmps25
      go_wp2_with fail
      refine CR.mono ?_
      rintro e w1 ⟨rfl, hw1⟩
      have RB1 : Hid (RB w w1 #[.int .i64 b, .int .i64 d] 25) := RB0.out.keep hw1
      obtain ⟨r0, r1, r2, q0, q1, q2⟩ := RB1.out.cells
      clear CR hw1
      go_wp2_with fail
      refine (CN _).mono ?_
      rintro e w2 ⟨rfl, he2⟩
      subst he2
      go_wp2
      refine bodyPost_ret (results_cell_tmp Try.results25 _ _ (w.heap.size + 1) _ _ _ _ _ rfl rfl (set3_row RB1.out.r) Try.underlying28 rfl (by kernel_rfl)) rfl ⟨_, rfl, set3_below RB1.out.bel (by omega), .inl ⟨hv.out, rfl⟩⟩
    · have hv : Hid (idlOk b d zs n = true) := by unfold Hid idlOk; rw [hg, hn]; rfl
      have CN : ∀ w1, Calls Try.prog 78 #[.int .i64 n, .int .i64 0, .int .i64 3] w1 fun e w' => e = .returned (.bool true) ∧ w' = w1 := fun w1 => by have := lin_any n 0 3 w1; rwa [hn] at this
      obtain ⟨n1, n2⟩ := inB_true hn
      obtain ⟨m, rfl⟩ : ∃ m : Nat, n = (m : Int) := ⟨n.toNat, by omega⟩
      have R := ringB_true hg
      have RR : Hid (Ring b d zs) := R
      clear hg hn n1 R
      go_enter Try.func25, Try.ntmps25
      go_wp2_with fail
      refine CR.mono ?_
      rintro e w1 ⟨rfl, hw1⟩
      have RB1 : Hid (RB w w1 #[.int .i64 b, .int .i64 d] 25) := RB0.out.keep hw1
      obtain ⟨s0, s1⟩ := RB1.out.arg2
      clear CR hw1
      go_wp2_with fail
      refine (CN _).mono ?_
      rintro e w2 ⟨rfl, he2⟩
      subst he2
      go_wp2_with fail
      refine (lideal_any b d m a cap zs _ RR.out (HR.out.keep RB1.out.bel) (by omega)).mono ?_
      rintro e w3 ⟨vl, L, rfl, hL, lp, hw3⟩
      have RB3 : Hid (RB w w3 #[.int .i64 b, .int .i64 d] 25) := RB1.out.keep hw3
      obtain ⟨r0, r1, r2, q0, q1, q2⟩ := RB3.out.cells
      obtain ⟨al, cl, rfl, hcl⟩ := lp.form
      have hLl : L.length = zs.length := by rw [← List.length_map (f := (·.1)), hL, idealL_len]
      rw [hLl] at lp ⊢
      have lp2 := lp.blocks (w1 := set3 w3 (w.heap.size + 1) (.int .i64 b) (.int .i64 d) (.slice al zs.length cl)) (by rw [set3_size]; exact Nat.le_refl _) (fun k hk _ => set3_block (by have := RB1.out.lt; omega))
      have hp := lp2.peersAt
      rw [hL] at hp
      have HP : Hid _ := hp
      clear hp lp2 lp hw3 hcl
      go_wp2
      refine bodyPost_ret (results_cell_tmp Try.results25 _ _ (w.heap.size + 1) _ _ _ _ _ rfl rfl (set3_row RB3.out.r) Try.underlying28 rfl (by kernel_rfl)) rfl ⟨_, rfl, set3_below RB3.out.bel (by omega), .inr ⟨hv.out, _, _, rfl, HP.out⟩⟩
end Go.Proofs.Ytgmdbihdnacpjaa
