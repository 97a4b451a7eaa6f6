/- What the walks of exact laws share: boxes, marks, lists and peers of one's own that may be empty. -/
import Derived.Test.YtgmdbihdnacpjaaX0
import Derived.Test.YtgmdbihdnacpjaaQ6
import Derived.Test.YtgmdbihdnacpjaaS5
namespace Go.Proofs.Ytgmdbihdnacpjaa
open Go.RowKit
set_option linter.unusedVariables false
/-- a box that was laid in the world w is as it was -/
structure BxV (w wr : World) (cs : Array Value) (T : TypeId) : Prop where
  row : wr.heap[w.heap.size]? = some (.cells cs T (0, 0))
theorem BxV.lt {w wr : World} {cs : Array Value} {T : TypeId} (h : BxV w wr cs T) : w.heap.size < wr.heap.size := (Array.getElem?_eq_some_iff.1 h.row).1
theorem BxV.keep {w wr w1 : World} {cs : Array Value} {T : TypeId} (h : BxV w wr cs T) (hb : Below wr.heap.size wr w1) : BxV w w1 cs T :=
  ⟨(hb.block _ h.lt).trans h.row⟩
theorem bxV1 {w w1 : World} {cs : Array Value} {T : TypeId} (hb : Below (w.alloc (.cells cs T)).heap.size (w.alloc (.cells cs T)) w1) : BxV w w1 cs T := by
  have h0 : BxV w (w.alloc (.cells cs T)) cs T := ⟨heap_alloc_new _ _⟩
  exact h0.keep hb
theorem BxV.c2 {w wr : World} {x y : Value} {T : TypeId} (h : BxV w wr #[x, y] T) : wr.cell? ⟨w.heap.size, 0, none⟩ = some x ∧ wr.cell? ⟨w.heap.size, 1, none⟩ = some y :=
  ⟨(cell_of_row wr _ _ _ _ _ h.row).trans rfl, (cell_of_row wr _ _ _ _ _ h.row).trans rfl⟩
theorem BxV.c3 {w wr : World} {x y z : Value} {T : TypeId} (h : BxV w wr #[x, y, z] T) : wr.cell? ⟨w.heap.size, 0, none⟩ = some x ∧ wr.cell? ⟨w.heap.size, 1, none⟩ = some y ∧ wr.cell? ⟨w.heap.size, 2, none⟩ = some z :=
  ⟨(cell_of_row wr _ _ _ _ _ h.row).trans rfl, (cell_of_row wr _ _ _ _ _ h.row).trans rfl, (cell_of_row wr _ _ _ _ _ h.row).trans rfl⟩
theorem bxv6 {w w4 wr : World} {x y z x' y' z' : Value} {T T' : TypeId} (h : BxV w wr #[x, y, z] T) (k : BxV w4 wr #[x', y', z'] T') : wr.cell? ⟨w.heap.size, 0, none⟩ = some x ∧ wr.cell? ⟨w.heap.size, 1, none⟩ = some y ∧ wr.cell? ⟨w.heap.size, 2, none⟩ = some z ∧ wr.cell? ⟨w4.heap.size, 0, none⟩ = some x' ∧ wr.cell? ⟨w4.heap.size, 1, none⟩ = some y' ∧ wr.cell? ⟨w4.heap.size, 2, none⟩ = some z' :=
  ⟨h.c3.1, h.c3.2.1, h.c3.2.2, k.c3.1, k.c3.2.1, k.c3.2.2⟩
/-- nothing was changed but blocks from B to T; new ones may have come -/
structure Mk (B T : Nat) (w w' : World) : Prop where
  below : ∀ n w0, n ≤ B → Below n w0 w → Below n w0 w'
  block : ∀ k, k < w.heap.size → ¬ (B ≤ k ∧ k < T) → w'.heap[k]? = w.heap[k]?
  size : w.heap.size ≤ w'.heap.size
theorem Mk.refl (B T : Nat) (w : World) : Mk B T w w := ⟨fun _ _ _ h => h, fun _ _ _ => rfl, Nat.le_refl _⟩
theorem Mk.wide {B T B' T' : Nat} {w w' : World} (h : Mk B T w w') (hB : B' ≤ B) (hT : T ≤ T') : Mk B' T' w w' :=
  ⟨fun n w0 hn hb => h.below n w0 (by omega) hb, fun k hk hn => h.block k hk (by omega), h.size⟩
theorem mk_only {g : Nat} {w w' : World} (h : Only g w w') : Mk g (g + 1) w w' :=
  ⟨fun n w0 hn hb => hb.trans ⟨h.os, h.tape, h.output, by rw [h.size]; exact Nat.le_refl _, fun k hk => h.block k (by omega)⟩, fun k _ hk => h.block k (by omega), by rw [h.size]; exact Nat.le_refl _⟩
theorem BxV.mkd {w wr w1 : World} {cs : Array Value} {T0 : TypeId} {B T : Nat} (h : BxV w wr cs T0) (m : Mk B T wr w1) (hB : w.heap.size < B ∨ T ≤ w.heap.size) : BxV w w1 cs T0 :=
  ⟨(m.block _ h.lt (by omega)).trans h.row⟩
/-- a list of one's own among the blocks from B to T, or an empty one -/
def OwnLs (B T : Nat) (w : World) (a : Option Addr) (n : Nat) (l : List Int) : Prop := l.length = n ∧ (l = [] ∨ ∃ g, a = some ⟨g, 0, none⟩ ∧ g < T ∧ OwnS B w g l)
theorem OwnLs.rowAt {B T : Nat} {w : World} {a : Option Addr} {n : Nat} {l : List Int} (h : OwnLs B T w a n l) : RowAt w a l := by
  rcases h.2 with h | ⟨g, ha, _, os⟩
  · exact .inl h
  · rw [ha]; exact os.rowAt
theorem OwnLs.blocks {B T : Nat} {w w1 : World} {a : Option Addr} {n : Nat} {l : List Int} (h : OwnLs B T w a n l) (hb : ∀ k, B ≤ k → k < T → k < w.heap.size → w1.heap[k]? = w.heap[k]?) : OwnLs B T w1 a n l := by
  refine ⟨h.1, ?_⟩
  rcases h.2 with h | ⟨g, ha, ht, os⟩
  · exact .inl h
  · exact .inr ⟨g, ha, ht, os.of_block (hb g os.lo ht os.lt)⟩
theorem OwnLs.keep {B T : Nat} {w w1 : World} {a : Option Addr} {n : Nat} {l : List Int} (h : OwnLs B T w a n l) (hb : Below w.heap.size w w1) : OwnLs B T w1 a n l := h.blocks (fun k _ _ hk => hb.block k hk)
theorem OwnLs.mkd {B T B' T' : Nat} {w w1 : World} {a : Option Addr} {n : Nat} {l : List Int} (h : OwnLs B T w a n l) (m : Mk B' T' w w1) (hd : T ≤ B' ∨ T' ≤ B) : OwnLs B T w1 a n l := h.blocks (fun k h1 h2 hk => m.block k hk (by omega))
theorem toIntS_own (a : Option Addr) (cap : Nat) (zs : List Int) (w : World) (hm : zs.length ≤ 1048576) (hr : RowAt w a zs) :
    Calls Try.prog 27 #[.slice a zs.length cap] w fun e w' => ∃ a', e = .returned (.slice a' zs.length zs.length) ∧ OwnLs w.heap.size w'.heap.size w' a' zs.length zs ∧ Below w.heap.size w w' := by
  refine (toIntS_any a cap zs w hm hr).mono ?_
  rintro e w1 ⟨rfl, ow⟩
  exact ⟨_, rfl, ⟨rfl, .inr ⟨_, rfl, ow.lt, ow.owns⟩⟩, ow.bel⟩
theorem markIntS_own (B T cap : Nat) (a : Option Addr) (n : Nat) (zs : List Int) (k0 : Int) (w : World) (hm : n ≤ 1048576) (k1 : 0 ≤ k0) (k2 : k0 ≤ 1099511627776) (ho : OwnLs B T w a n zs) :
    Calls Try.prog 30 #[.slice a n cap, .int .i64 k0] w fun e w' => e = .returned (.int .i64 (k0 + (n : Int))) ∧ Mk B T w w' ∧ OwnLs B T w' a n (mrk k0 zs n) := by
  obtain ⟨rfl, ho⟩ := ho
  rcases ho with rfl | ⟨g, rfl, ht, os⟩
  · refine (markIntS_empty a cap k0 w).mono ?_
    rintro e w1 ⟨rfl, rfl⟩
    exact ⟨by simp, Mk.refl _ _ _, rfl, .inl rfl⟩
  · refine (markOwn_any B g cap zs k0 w hm k1 k2 os).mono ?_
    rintro e w1 ⟨rfl, os1, on⟩
    exact ⟨rfl, (mk_only on).wide os.lo (by omega), mrk_len (Nat.le_refl _), .inr ⟨g, rfl, ht, os1⟩⟩
theorem heldIntS_own (B T cap : Nat) (a : Option Addr) (n : Nat) (zs : List Int) (k0 : Int) (w : World) (hm : n ≤ 1048576) (hz : zs.length = n) (k1 : 0 ≤ k0) (k2 : k0 ≤ 1099511627776) (ho : OwnLs B T w a n (mrk k0 zs n)) :
    Calls Try.prog 39 #[.slice a n cap, .int .i64 k0] w fun e w' => e = .returned (.int .i64 (k0 + (n : Int))) ∧ Below w.heap.size w w' := by
  obtain ⟨h1, h2⟩ := mrk_at' (k0 := k0) hz
  have := heldIntS_any a cap (mrk k0 zs n) k0 w (by rw [h1]; exact hm) k1 k2 ho.rowAt h2
  rw [h1] at this
  refine this.mono ?_
  rintro e w1 ⟨rfl, rfl⟩
  exact ⟨rfl, Below.refl _ _⟩
theorem eqIntS_own (a a' : Option Addr) (cap cap' n : Nat) (l : List Int) (w : World) (hn : l.length = n) (hm : n ≤ 1048576) (hx : RowAt w a l) (hy : RowAt w a' l) :
    Calls Try.prog 29 #[.slice a n cap, .slice a' n cap'] w fun e w' => e = .returned (.bool true) ∧ Below w.heap.size w w' := by
  subst hn
  have := eqIntS_any a a' cap cap' l l w (by unfold maxLen; omega) hx hy
  have hs : sameB l l = true := decide_eq_true rfl
  rwa [hs] at this
/-- peers of one's own among the blocks from B to T, or none -/
def OwnPs (B T : Nat) (w : World) (a : Option Addr) (n : Nat) (ps : List Pr) : Prop := ps.length = n ∧ (ps = [] ∨ ∃ g L, a = some ⟨g, 0, none⟩ ∧ L.map (·.1) = ps ∧ OwnP B T w g L)
theorem OwnPs.peersAt {B T : Nat} {w : World} {a : Option Addr} {n : Nat} {ps : List Pr} (h : OwnPs B T w a n ps) : PeersAt w a ps := by
  rcases h.2 with h | ⟨g, L, ha, hL, os⟩
  · exact .inl h
  · rw [ha, ← hL]; exact os.peersAt
theorem OwnPs.blocks {B T : Nat} {w w1 : World} {a : Option Addr} {n : Nat} {ps : List Pr} (h : OwnPs B T w a n ps) (hb : ∀ k, B ≤ k → k < T → k < w.heap.size → w1.heap[k]? = w.heap[k]?) : OwnPs B T w1 a n ps := by
  refine ⟨h.1, ?_⟩
  rcases h.2 with h | ⟨g, L, ha, hL, os⟩
  · exact .inl h
  · exact .inr ⟨g, L, ha, hL, os.blocks hb⟩
theorem OwnPs.keep {B T : Nat} {w w1 : World} {a : Option Addr} {n : Nat} {ps : List Pr} (h : OwnPs B T w a n ps) (hb : Below w.heap.size w w1) : OwnPs B T w1 a n ps := h.blocks (fun k _ _ hk => hb.block k hk)
theorem OwnPs.mkd {B T B' T' : Nat} {w w1 : World} {a : Option Addr} {n : Nat} {ps : List Pr} (h : OwnPs B T w a n ps) (m : Mk B' T' w w1) (hd : T ≤ B' ∨ T' ≤ B) : OwnPs B T w1 a n ps := h.blocks (fun k h1 h2 hk => m.block k hk (by omega))
theorem toPeers_own (b d : Int) (a : Option Addr) (cap : Nat) (ps : List Pr) (w : World) (hb : ps.length + bsum ps ≤ 1048576) (hr : PeersAt w a ps) :
    Calls Try.prog 23 #[.agg #[.int .i64 b, .int .i64 d, .slice a ps.length cap]] w fun e w' => ∃ a', e = .returned (.agg #[.int .i64 b, .int .i64 d, .slice a' ps.length ps.length]) ∧ OwnPs w.heap.size w'.heap.size w' a' ps.length ps ∧ Below w.heap.size w w' := by
  refine (toPeers_any b d a cap ps w hb hr).mono ?_
  rintro e w1 ⟨g, rfl, ⟨L, hL, ow⟩, hw⟩
  exact ⟨_, rfl, ⟨rfl, .inr ⟨g, L, rfl, hL, ow⟩⟩, hw⟩
theorem markPeerS_empty (a : Option Addr) (cap : Nat) (k0 : Int) (w : World) :
    Calls Try.prog 82 #[.slice a 0 cap, .int .i64 k0] w fun e w' => e = .returned (.int .i64 k0) ∧ w' = w := by
  go_enter Try.func82, Try.ntmps82
  go_wp2
  go_loop [1, 5] (fun k i => i = .int .i64 0 ∧ k = .int .i64 k0) (fun _ i => 0)
  case atStart => exact ⟨rfl, rfl⟩
  case round =>
    obtain ⟨rfl, rfl⟩ := hrel
    go_wp2
    go_ret
    exact ⟨rfl, rfl⟩
theorem markPeers_empty (b d : Int) (a : Option Addr) (cap : Nat) (k0 : Int) (w : World) :
    Calls Try.prog 31 #[.agg #[.int .i64 b, .int .i64 d, .slice a 0 cap], .int .i64 k0] w fun e w' => e = .returned (.int .i64 k0) ∧ Below w.heap.size w w' := by
  go_enter Try.func31, Try.ntmps31
  go_wp2_with fail
  refine (markPeerS_empty a cap k0 _).mono ?_
  rintro e w1 ⟨rfl, rfl⟩
  go_wp2
  go_ret
  exact ⟨rfl, belA _ _⟩
theorem mk_below {B T : Nat} {w w' : World} (h : Below w.heap.size w w') (hB : B ≤ w.heap.size) : Mk B T w w' :=
  ⟨fun n w0 hn hb => hb.trans (h.mono (by omega)), fun k hk _ => h.block k hk, h.size⟩
theorem markPeers_own (b d : Int) (B T cap : Nat) (a : Option Addr) (n : Nat) (ps : List Pr) (k0 : Int) (w : World) (hb : ps.length + bsum ps ≤ 1048576) (k1 : 0 ≤ k0) (k2 : k0 ≤ 1000000000000) (hB : B ≤ w.heap.size) (hT : T ≤ w.heap.size) (h : OwnPs B T w a n ps) :
    Calls Try.prog 31 #[.agg #[.int .i64 b, .int .i64 d, .slice a n cap], .int .i64 k0] w fun e w' => e = .returned (.int .i64 (kAt k0 ps n)) ∧ Mk B T w w' ∧ OwnPs B T w' a n (mrkP k0 ps) := by
  obtain ⟨rfl, ho⟩ := h
  rcases ho with rfl | ⟨g, L, rfl, hL, os⟩
  · refine (markPeers_empty b d a cap k0 w).mono ?_
    rintro e w1 ⟨rfl, hw⟩
    exact ⟨by simp [kAt, bsum], mk_below hw hB, rfl, .inl rfl⟩
  · have hl : L.length = ps.length := map_len hL
    have C := markPeers_any b d B T g cap L k0 w (by rw [hL, hl]; exact hb) k1 k2 hT os
    rw [hL, hl] at C
    refine C.mono ?_
    rintro e w1 ⟨rfl, h1, h2, h3, L', hL', os'⟩
    exact ⟨rfl, ⟨h1, h2, h3⟩, mrkP_len _ _, .inr ⟨g, L', rfl, hL', os'⟩⟩
theorem heldPeers_own (b d : Int) (B T cap : Nat) (a : Option Addr) (n : Nat) (ps : List Pr) (k0 : Int) (w : World) (hb : ps.length + bsum ps ≤ 1048576) (hn : ps.length = n) (k1 : 0 ≤ k0) (k2 : k0 ≤ 1000000000000) (h : OwnPs B T w a n (mrkP k0 ps)) :
    Calls Try.prog 32 #[.agg #[.int .i64 b, .int .i64 d, .slice a n cap], .int .i64 k0] w fun e w' => e = .returned (.int .i64 (kAt k0 ps n)) ∧ Below w.heap.size w w' := by
  subst hn
  exact heldPeers_any b d a cap ps k0 w hb k1 k2 h.peersAt
theorem eqPeers_own (b d : Int) (a a' : Option Addr) (cap cap' n : Nat) (ps : List Pr) (w : World) (hn : ps.length = n) (hm : n ≤ 1048576) (hx : PeersAt w a ps) (hy : PeersAt w a' ps) :
    Calls Try.prog 24 #[.agg #[.int .i64 b, .int .i64 d, .slice a n cap], .agg #[.int .i64 b, .int .i64 d, .slice a' n cap']] w fun e w' => e = .returned (.bool true) ∧ Below w.heap.size w w' := by
  subst hn
  exact eqPeers_same b d a a' cap cap' ps w hm hx hy
theorem bne_self_bool (b : Bool) : (b != b) = false := by cases b <;> rfl
/-- a list that a call has answered in memory of its own -/
theorem ownLs_of {B T : Nat} {w : World} {g n : Nat} {l : List Int} (h : OwnS B w g l) (ht : w.heap.size ≤ T) (hn : l.length = n) : OwnLs B T w (some ⟨g, 0, none⟩) n l := ⟨hn, .inr ⟨g, rfl, Nat.lt_of_lt_of_le h.lt ht, h⟩⟩
theorem ownLs_nil (B T : Nat) (w : World) (a : Option Addr) : OwnLs B T w a 0 [] := ⟨rfl, .inl rfl⟩
theorem ownPs_nil (B T : Nat) (w : World) (a : Option Addr) : OwnPs B T w a 0 [] := ⟨rfl, .inl rfl⟩
end Go.Proofs.Ytgmdbihdnacpjaa
