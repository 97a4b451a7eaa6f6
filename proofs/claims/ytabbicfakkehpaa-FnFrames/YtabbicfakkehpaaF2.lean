/- Structs in blocks of their own; messages opened, copied, weighed and compared. -/
import Derived.Test.YtabbicfakkehpaaF0
import Derived.Test.YtabbicfakkehpaaA4
import Derived.Deep.Slices
namespace Go.Proofs.Ytabbicfakkehpaa
open Go.RowKit Go.ChangeShapes Go.WideShapes Go.Deep
set_option linter.unusedVariables false
/-- block g holds these cells -/
def Bk (w : World) (g : Nat) (C : Array Value) (T : TypeId) : Prop := w.heap[g]? = some (.cells C T (0, 0))
theorem Bk.lt {w : World} {g : Nat} {C : Array Value} {T : TypeId} (h : Bk w g C T) : g < w.heap.size := (Array.getElem?_eq_some_iff.1 h).1
theorem Bk.keepN {w w1 : World} {g n : Nat} {C : Array Value} {T : TypeId} (h : Bk w g C T) (hb : Below n w w1) (hg : g < n) : Bk w1 g C T := (hb.block g hg).trans h
theorem Bk.keep {w w1 : World} {g : Nat} {C : Array Value} {T : TypeId} (h : Bk w g C T) (hb : Below w.heap.size w w1) : Bk w1 g C T := h.keepN hb h.lt
theorem Bk.new (w : World) (C : Array Value) (T : TypeId) : Bk (w.alloc (.cells C T)) w.heap.size C T := heap_alloc_new _ _
theorem Bk.alloc {w : World} {g : Nat} {C : Array Value} {T : TypeId} (h : Bk w g C T) (o : Obj) : Bk (w.alloc o) g C T := h.keep ((Below.refl _ _).alloc (Nat.le_refl _) o)
theorem Bk.cell {w : World} {g : Nat} {C : Array Value} {T : TypeId} (h : Bk w g C T) (i : Nat) : w.cell? ⟨g, i, none⟩ = C[i]? := cell_of_row w _ _ _ _ _ h
theorem Bk.fr {w : World} {g : Nat} {C : Array Value} {T : TypeId} (h : Bk w g C T) (i : Nat) : w.frozen? ⟨g, i, none⟩ = false := frozen_of_row w _ _ _ _ h
theorem Bk.set {w : World} {g : Nat} {C : Array Value} {T : TypeId} (h : Bk w g C T) (i : Nat) (v : Value) : Bk (w.setCell ⟨g, i, none⟩ v) g (C.setIfInBounds i v) T := heap_setCell_same _ _ _ _ _ _ h
theorem Bk.oth {w : World} {g k : Nat} {C : Array Value} {T : TypeId} (h : Bk w g C T) (hk : ¬ g = k) (i : Nat) (v : Value) : Bk (w.setCell ⟨k, i, none⟩ v) g C T := (heap_setCell_other _ _ _ _ (by simpa using hk)).trans h
theorem Bk.c3 {w : World} {g : Nat} {a b c : Value} {T : TypeId} (h : Bk w g #[a, b, c] T) : w.cell? ⟨g, 0, none⟩ = some a ∧ w.cell? ⟨g, 1, none⟩ = some b ∧ w.cell? ⟨g, 2, none⟩ = some c := ⟨h.cell 0, h.cell 1, h.cell 2⟩
theorem Bk.c2 {w : World} {g : Nat} {a b : Value} {T : TypeId} (h : Bk w g #[a, b] T) : w.cell? ⟨g, 0, none⟩ = some a ∧ w.cell? ⟨g, 1, none⟩ = some b := ⟨h.cell 0, h.cell 1⟩
theorem Bk.c4 {w : World} {g : Nat} {a b c d : Value} {T : TypeId} (h : Bk w g #[a, b, c, d] T) : w.cell? ⟨g, 0, none⟩ = some a ∧ w.cell? ⟨g, 1, none⟩ = some b ∧ w.cell? ⟨g, 2, none⟩ = some c ∧ w.cell? ⟨g, 3, none⟩ = some d := ⟨h.cell 0, h.cell 1, h.cell 2, h.cell 3⟩
theorem Bk.f4 {w : World} {g : Nat} {C : Array Value} {T : TypeId} (h : Bk w g C T) : w.frozen? ⟨g, 0, none⟩ = false ∧ w.frozen? ⟨g, 1, none⟩ = false ∧ w.frozen? ⟨g, 2, none⟩ = false ∧ w.frozen? ⟨g, 3, none⟩ = false := ⟨h.fr 0, h.fr 1, h.fr 2, h.fr 3⟩
theorem Bk.c7 {w : World} {g : Nat} {a b c d e f k : Value} {T : TypeId} (h : Bk w g #[a, b, c, d, e, f, k] T) : w.cell? ⟨g, 0, none⟩ = some a ∧ w.cell? ⟨g, 1, none⟩ = some b ∧ w.cell? ⟨g, 2, none⟩ = some c ∧ w.cell? ⟨g, 3, none⟩ = some d ∧ w.cell? ⟨g, 4, none⟩ = some e ∧ w.cell? ⟨g, 5, none⟩ = some f ∧ w.cell? ⟨g, 6, none⟩ = some k := ⟨h.cell 0, h.cell 1, h.cell 2, h.cell 3, h.cell 4, h.cell 5, h.cell 6⟩
theorem Bk.f7 {w : World} {g : Nat} {C : Array Value} {T : TypeId} (h : Bk w g C T) : w.frozen? ⟨g, 0, none⟩ = false ∧ w.frozen? ⟨g, 1, none⟩ = false ∧ w.frozen? ⟨g, 2, none⟩ = false ∧ w.frozen? ⟨g, 3, none⟩ = false ∧ w.frozen? ⟨g, 4, none⟩ = false ∧ w.frozen? ⟨g, 5, none⟩ = false ∧ w.frozen? ⟨g, 6, none⟩ = false := ⟨h.fr 0, h.fr 1, h.fr 2, h.fr 3, h.fr 4, h.fr 5, h.fr 6⟩
theorem Bk.drew {w : World} {g : Nat} {C : Array Value} {T : TypeId} (h : Bk w g C T) : Bk w.drew g C T := h
/-- cells from i on are written, one by one -/
def setL (w : World) (g : Nat) : Nat → List Value → World
  | _, [] => w
  | i, v :: vs => setL (w.setCell ⟨g, i, none⟩ v) g (i + 1) vs
def ovr (C : Array Value) : Nat → List Value → Array Value
  | _, [] => C
  | i, v :: vs => ovr (C.setIfInBounds i v) (i + 1) vs
theorem Bk.setL {g : Nat} {T : TypeId} : ∀ (vs : List Value) {w : World} {C : Array Value} (i : Nat), Bk w g C T → Bk (setL w g i vs) g (ovr C i vs) T
  | [], _, _, _, h => h
  | v :: vs, _, _, i, h => Bk.setL vs (i + 1) (h.set i v)
theorem setL_oth {g k : Nat} (hk : ¬ k = g) : ∀ (vs : List Value) (w : World) (i : Nat), (setL w g i vs).heap[k]? = w.heap[k]?
  | [], _, _ => rfl
  | v :: vs, w, i => by
    unfold setL
    rw [setL_oth hk vs _ (i + 1), heap_setCell_other _ _ _ _ (by simpa using hk)]
theorem setL_size {g : Nat} : ∀ (vs : List Value) (w : World) (i : Nat), (setL w g i vs).heap.size = w.heap.size
  | [], _, _ => rfl
  | v :: vs, w, i => by
    unfold setL
    rw [setL_size vs _ (i + 1)]
    simp [World.setCell]
theorem setL_below {g n : Nat} {w0 : World} (hg : n ≤ g) : ∀ (vs : List Value) {w : World} (i : Nat), Below n w0 w → Below n w0 (setL w g i vs)
  | [], _, _, h => h
  | v :: vs, _, i, h => setL_below hg vs (i + 1) (h.setCell (p := ⟨g, i, none⟩) hg v)
theorem Bk.c9 {w : World} {g : Nat} {e0 e1 e2 e3 e4 e5 e6 e7 e8 : Value} {T : TypeId} (h : Bk w g #[e0, e1, e2, e3, e4, e5, e6, e7, e8] T) : w.cell? ⟨g, 0, none⟩ = some e0 ∧ w.cell? ⟨g, 1, none⟩ = some e1 ∧ w.cell? ⟨g, 2, none⟩ = some e2 ∧ w.cell? ⟨g, 3, none⟩ = some e3 ∧ w.cell? ⟨g, 4, none⟩ = some e4 ∧ w.cell? ⟨g, 5, none⟩ = some e5 ∧ w.cell? ⟨g, 6, none⟩ = some e6 ∧ w.cell? ⟨g, 7, none⟩ = some e7 ∧ w.cell? ⟨g, 8, none⟩ = some e8 := ⟨h.cell 0, h.cell 1, h.cell 2, h.cell 3, h.cell 4, h.cell 5, h.cell 6, h.cell 7, h.cell 8⟩
theorem Bk.f9 {w : World} {g : Nat} {C : Array Value} {T : TypeId} (h : Bk w g C T) : w.frozen? ⟨g, 0, none⟩ = false ∧ w.frozen? ⟨g, 1, none⟩ = false ∧ w.frozen? ⟨g, 2, none⟩ = false ∧ w.frozen? ⟨g, 3, none⟩ = false ∧ w.frozen? ⟨g, 4, none⟩ = false ∧ w.frozen? ⟨g, 5, none⟩ = false ∧ w.frozen? ⟨g, 6, none⟩ = false ∧ w.frozen? ⟨g, 7, none⟩ = false ∧ w.frozen? ⟨g, 8, none⟩ = false := ⟨h.fr 0, h.fr 1, h.fr 2, h.fr 3, h.fr 4, h.fr 5, h.fr 6, h.fr 7, h.fr 8⟩
theorem array9 {α : Type} {cs : Array α} (h : cs.size = 9) : ∃ c0 c1 c2 c3 c4 c5 c6 c7 c8, cs = #[c0, c1, c2, c3, c4, c5, c6, c7, c8] := by
  obtain ⟨l⟩ := cs
  match l, h with
  | [c0, c1, c2, c3, c4, c5, c6, c7, c8], _ => exact ⟨c0, c1, c2, c3, c4, c5, c6, c7, c8, rfl⟩
theorem list9 {α : Type} {l : List α} (h : l.length = 9) : ∃ c0 c1 c2 c3 c4 c5 c6 c7 c8, l = [c0, c1, c2, c3, c4, c5, c6, c7, c8] := by
  match l, h with
  | [c0, c1, c2, c3, c4, c5, c6, c7, c8], _ => exact ⟨c0, c1, c2, c3, c4, c5, c6, c7, c8, rfl⟩
theorem cellsM : Try.prog.cellsOf 39 = 9 := by kernel_rfl
section
variable {H : Type} {enc : TypeId × Value → H} {W : World} {base : Nat} {held : Bool}
theorem ints_row {fuel : Nat} {a : Option Addr} {n cap : Nat} {x : DataW H × List MemPlace} (h : DataW.trod enc Try.prog W base (fun _ => true) held fuel 31 [.slice a n cap] = some x) :
    ∃ ys : List Int, ys.length = n ∧ n ≤ maxLen ∧ (n ≤ cap ∧ (a = none → cap = 0)) ∧ RowAt W a ys := by
  rcases open_ints Try.underlying31 Try.underlying3 (by kernel_rfl) h with ⟨hcs, _⟩ | ⟨x, l, c, zs, hcs, _, hl, hm, hz, _, hcell, hwz⟩
  · simp at hcs
    obtain ⟨rfl, rfl, rfl⟩ := hcs
    exact ⟨[], rfl, Nat.zero_le _, ⟨Nat.zero_le _, fun _ => rfl⟩, .inl rfl⟩
  · simp at hcs
    obtain ⟨rfl, rfl, rfl⟩ := hcs
    obtain ⟨ys, h1, h2, h3⟩ := isRow_rowAt (w := W) (a := some x) (len := n) (cap := cap) (zs := zs) (.inr ⟨_, rfl, hl, hm, by simpa using hz, hcell, hwz⟩)
    exact ⟨ys, h1, h2, ⟨hl, fun h => by cases h⟩, h3⟩
theorem slice_of_trod {t e : TypeId} {fuel : Nat} {v : Value} {x : DataW H × List MemPlace} (ht : Try.prog.underlying t = some (.slice e)) (h : DataW.trod enc Try.prog W base (fun _ => true) held fuel t [v] = some x) : ∃ a n cap, v = .slice a n cap := by
  rcases open_slice ht h with ⟨hcs, _⟩ | ⟨a, l, c, _, _, _, _, hcs, _⟩
  · simp at hcs; exact ⟨_, _, _, hcs⟩
  · simp at hcs; exact ⟨_, _, _, hcs⟩
theorem cellsI : Try.prog.cellsOf 3 = 1 := by kernel_rfl
theorem cellsIs : Try.prog.cellsOf 31 = 1 := by kernel_rfl
set_option maxRecDepth 100000 in
/-- a message that came in: eight numbers and a list -/
theorem open_msg {b0 : Nat} {v : Value} {d : DataW H} {p : List MemPlace} (hv : Value.okWide Try.prog W .any b0 39 v) (h : DataW.Trod enc Try.prog W base (fun _ => true) held 39 v d p) :
    ∃ y0 y1 y2 y3 y4 y5 y6 y7 : Int, ∃ (a : Option Addr) (cap : Nat) (zs : List Int), v = .agg #[.int .i64 y0, .int .i64 y1, .int .i64 y2, .int .i64 y3, .int .i64 y4, .int .i64 y5, .int .i64 y6, .int .i64 y7, .slice a zs.length cap] ∧ zs.length ≤ maxLen ∧ RowAt W a zs := by
  obtain ⟨cs, rfl, hsz⟩ := okWide_struct Try.underlying39 hv
  obtain ⟨c0, c1, c2, c3, c4, c5, c6, c7, c8, rfl⟩ := array9 (hsz.trans cellsM)
  obtain ⟨fuel, hf⟩ := h
  obtain ⟨xs, n, _, _, hl, hlen, hf⟩ := DataW.trod_struct Try.underlying39 hf
  obtain ⟨x0, x1, x2, x3, x4, x5, x6, x7, x8, rfl⟩ := list9 (l := xs) hlen
  have g0 := hf 0 _ rfl
  have g1 := hf 1 _ rfl
  have g2 := hf 2 _ rfl
  have g3 := hf 3 _ rfl
  have g4 := hf 4 _ rfl
  have g5 := hf 5 _ rfl
  have g6 := hf 6 _ rfl
  have g7 := hf 7 _ rfl
  have g8 := hf 8 _ rfl
  simp [Value.cells, cellsI, cellsIs] at g0 g1 g2 g3 g4 g5 g6 g7 g8
  obtain ⟨a0, e0, _, _⟩ := DataW.trod_int Try.underlying3 g0
  obtain ⟨a1, e1, _, _⟩ := DataW.trod_int Try.underlying3 g1
  obtain ⟨a2, e2, _, _⟩ := DataW.trod_int Try.underlying3 g2
  obtain ⟨a3, e3, _, _⟩ := DataW.trod_int Try.underlying3 g3
  obtain ⟨a4, e4, _, _⟩ := DataW.trod_int Try.underlying3 g4
  obtain ⟨a5, e5, _, _⟩ := DataW.trod_int Try.underlying3 g5
  obtain ⟨a6, e6, _, _⟩ := DataW.trod_int Try.underlying3 g6
  obtain ⟨a7, e7, _, _⟩ := DataW.trod_int Try.underlying3 g7
  simp at e0 e1 e2 e3 e4 e5 e6 e7
  subst e0 e1 e2 e3 e4 e5 e6 e7
  obtain ⟨ab, nb, cb, rfl⟩ := slice_of_trod Try.underlying31 g8
  obtain ⟨ys, rfl, hm, hc, hr⟩ := ints_row g8
  exact ⟨a0, a1, a2, a3, a4, a5, a6, a7, ab, cb, ys, rfl, hm, hr⟩
end
theorem OwnLs.wide {B T B' T' : Nat} {w : World} {a : Option Addr} {n : Nat} {l : List Int} (h : OwnLs B T w a n l) (hB : B' ≤ B) (hT : T ≤ T') : OwnLs B' T' w a n l := by
  refine ⟨h.1, ?_⟩
  rcases h.2 with h | ⟨g, ha, ht, os⟩
  · exact .inl h
  · exact .inr ⟨g, ha, by omega, os.mono hB⟩
theorem ovr9 (z0 z1 z2 z3 z4 z5 z6 z7 z8 v0 v1 v2 v3 v4 v5 v6 v7 v8 : Value) : ovr #[z0, z1, z2, z3, z4, z5, z6, z7, z8] 0 [v0, v1, v2, v3, v4, v5, v6, v7, v8] = #[v0, v1, v2, v3, v4, v5, v6, v7, v8] := by simp [ovr]
def szl (k : Int) (n : Nat) : Int := if k < n then -1 else k - n
theorem szl_lo {k : Int} {n : Nat} (h : k < n) : szl k n = -1 := if_pos h
theorem szl_hi {k : Int} {n : Nat} (h : ¬ k < n) : szl k n = k - n := if_neg h
theorem szIntS_any (a : Option Addr) (cap n : Nat) (k : Int) (w : World) (hm : n ≤ maxLen) (h1 : 0 ≤ k) (h2 : k ≤ 1048576) :
    Calls Try.prog 43 #[.slice a n cap, .int .i64 k] w fun e w' => e = .returned (.int .i64 (szl k n)) ∧ w' = w := by
  unfold maxLen at hm
  by_cases h : k < n
  · have h3 : k - n < 0 := by omega
    go_enter Try.func43, Try.ntmps43
    go_wp2
    go_ret
    exact ⟨ret_int (szl_lo h).symm, rfl⟩
  · have h3 : ¬ k - n < 0 := by omega
    go_enter Try.func43, Try.ntmps43
    go_wp2
    go_ret
    exact ⟨ret_int (szl_hi (by omega)).symm, rfl⟩
theorem szMsg_any (x0 x1 x2 x3 x4 x5 x6 x7 : Int) (a : Option Addr) (cap n : Nat) (k : Int) (w : World) (hm : n ≤ maxLen) (h1 : 0 ≤ k) (h2 : k ≤ 1048576) :
    Calls Try.prog 16 #[.agg #[.int .i64 x0, .int .i64 x1, .int .i64 x2, .int .i64 x3, .int .i64 x4, .int .i64 x5, .int .i64 x6, .int .i64 x7, .slice a n cap], .int .i64 k] w fun e w' => e = .returned (.int .i64 (szl k n)) ∧ Below w.heap.size w w' := by
  by_cases h : k < n
  · have h3 : Hid (szl k n = -1) := szl_lo h
    clear h
    go_enter Try.func16, Try.ntmps16
    go_wp2_with (go_at_call 43; refine (szIntS_any _ _ _ _ _ hm h1 h2).mono ?_; rintro e w' ⟨rfl, rfl⟩; rw [h3.out])
    go_ret
    exact ⟨ret_int h3.out.symm, (Below.refl _ _).alloc (Nat.le_refl _) _⟩
  · have h3 : Hid (szl k n = k - n) := szl_hi h
    have h4 : ¬ k - n < 0 := by omega
    clear h
    go_enter Try.func16, Try.ntmps16
    go_wp2_with (go_at_call 43; refine (szIntS_any _ _ _ _ _ hm h1 h2).mono ?_; rintro e w' ⟨rfl, rfl⟩; rw [h3.out])
    go_ret
    exact ⟨ret_int h3.out.symm, (Below.refl _ _).alloc (Nat.le_refl _) _⟩
theorem bk3 {w w1 : World} {A B C : Array Value} {S T U : TypeId} (hb : Below (((w.alloc (.cells A S)).alloc (.cells B T)).alloc (.cells C U)).heap.size (((w.alloc (.cells A S)).alloc (.cells B T)).alloc (.cells C U)) w1) :
    Bk w1 w.heap.size A S ∧ Bk w1 (w.heap.size + 1) B T ∧ Bk w1 (w.heap.size + 1 + 1) C U ∧ Below w.heap.size w w1 := by
  have h1 := (((Bk.new w A S).alloc (.cells B T)).alloc (.cells C U)).keep hb
  have h2 := ((Bk.new (w.alloc (.cells A S)) B T).alloc (.cells C U)).keep hb
  have h3 := (Bk.new ((w.alloc (.cells A S)).alloc (.cells B T)) C U).keep hb
  simp only [World.size_alloc] at h2 h3
  exact ⟨h1, h2, h3, (((( Below.refl _ _).alloc (Nat.le_refl _) _).alloc (by simp) _).alloc (by simp; try omega) _).trans (hb.mono (by simp; try omega))⟩
theorem bkAB {w w1 : World} {A B : Array Value} {S T : TypeId} (hb : Below ((w.alloc (.cells A S)).alloc (.cells B T)).heap.size ((w.alloc (.cells A S)).alloc (.cells B T)) w1) :
    Bk w1 w.heap.size A S ∧ Bk w1 (w.heap.size + 1) B T ∧ Below w.heap.size w w1 := by
  have h1 := ((Bk.new w A S).alloc (.cells B T)).keep hb
  have h2 := (Bk.new (w.alloc (.cells A S)) B T).keep hb
  simp only [World.size_alloc] at h2
  exact ⟨h1, h2, ((( Below.refl _ _).alloc (Nat.le_refl _) _).alloc (by simp) _).trans (hb.mono (by simp; try omega))⟩
theorem to_end {w w1 : World} {a : Option Addr} {n : Nat} {l : List Int} {R : Array Value} {T : TypeId} (h : Bk w1 (w.heap.size + 1) R T) (hb : Below w.heap.size w w1) (o : OwnLs (w.heap.size + 1 + 1 + 1) w1.heap.size w1 a n l) (v : Value) (vs : List Value) (i : Nat) :
    Bk (setL (w1.setCell ⟨w.heap.size + 1 + 1, i, none⟩ v) (w.heap.size + 1) 0 vs) (w.heap.size + 1) (ovr R 0 vs) T ∧
    OwnLs w.heap.size (setL (w1.setCell ⟨w.heap.size + 1 + 1, i, none⟩ v) (w.heap.size + 1) 0 vs).heap.size (setL (w1.setCell ⟨w.heap.size + 1 + 1, i, none⟩ v) (w.heap.size + 1) 0 vs) a n l ∧
    Below w.heap.size w (setL (w1.setCell ⟨w.heap.size + 1 + 1, i, none⟩ v) (w.heap.size + 1) 0 vs) := by
  refine ⟨(h.oth (by omega) i v).setL vs 0, ?_, setL_below (by omega) vs 0 (hb.setCell (p := ⟨w.heap.size + 1 + 1, i, none⟩) (by simp; try omega) v)⟩
  have hs : (setL (w1.setCell ⟨w.heap.size + 1 + 1, i, none⟩ v) (w.heap.size + 1) 0 vs).heap.size = w1.heap.size := by rw [setL_size]; simp [World.setCell]
  rw [hs]
  refine (o.blocks (fun k h1 h2 h3 => ?_)).wide (by omega) (Nat.le_refl _)
  rw [setL_oth (by omega), heap_setCell_other _ _ _ _ (by simp; omega)]
set_option maxRecDepth 100000 in
set_option maxHeartbeats 1600000 in
theorem toMsg_any (x0 x1 x2 x3 x4 x5 x6 x7 : Int) (a : Option Addr) (cap n : Nat) (zs : List Int) (w : World) (hn : zs.length = n) (hm : n ≤ 1048576) (hr : RowAt w a zs) :
    Calls Try.prog 19 #[.agg #[.int .i64 x0, .int .i64 x1, .int .i64 x2, .int .i64 x3, .int .i64 x4, .int .i64 x5, .int .i64 x6, .int .i64 x7, .slice a n cap]] w fun e w' => ∃ a', e = .returned (.agg #[.int .i64 x0, .int .i64 x1, .int .i64 x2, .int .i64 x3, .int .i64 x4, .int .i64 x5, .int .i64 x6, .int .i64 x7, .slice a' n n]) ∧ OwnLs w.heap.size w'.heap.size w' a' n zs ∧ Below w.heap.size w w' := by
  subst hn
  have HR : Hid (RowAt w a zs) := hr
  clear hr
  go_enter Try.func19, Try.ntmps19
  go_wp2_with fail
  refine (toIntS_own a cap zs _ hm (HR.out.keep (((( Below.refl _ _).alloc (Nat.le_refl _) _).alloc (by simp) _).alloc (by simp; try omega) _))).mono ?_
  rintro e w1 ⟨a', rfl, ow, hw⟩
  obtain ⟨RB, RR, RO, HB⟩ := bk3 hw
  have OW : Hid (OwnLs (w.heap.size + 1 + 1 + 1) w1.heap.size w1 a' zs.length zs) := ow.wide (by simp) (Nat.le_refl _)
  have l2 := RO.lt
  obtain ⟨q0, q1, q2, q3, q4, q5, q6, q7, q8⟩ := RO.c9
  obtain ⟨p0, p1, p2, p3, p4, p5, p6, p7, p8⟩ := RO.f9
  obtain ⟨t0, t1, t2, t3, t4, t5, t6, t7, t8⟩ := RR.f9
  obtain ⟨r0, r1, r2, r3, r4, r5, r6, r7, r8⟩ := RR.c9
  have HRO : Hid (Bk w1 (w.heap.size + 1 + 1) _ _) := RO
  have HRR : Hid (Bk w1 (w.heap.size + 1) _ _) := RR
  have HBB : Hid (Below w.heap.size w w1) := HB
  clear RB RR RO HB hw ow
  go_wp2
  obtain ⟨E1, E2, E3⟩ := to_end HRR.out HBB.out OW.out (.slice a' zs.length zs.length) [.int .i64 x0, .int .i64 x1, .int .i64 x2, .int .i64 x3, .int .i64 x4, .int .i64 x5, .int .i64 x6, .int .i64 x7, .slice a' zs.length zs.length] 8
  rw [ovr9] at E1
  refine bodyPost_ret (results_cell_row Try.results19 _ _ (w.heap.size + 1) _ _ _ _ rfl E1 Try.underlying33 rfl (by kernel_rfl)) rfl ⟨a', rfl, E2, E3⟩
end Go.Proofs.Ytabbicfakkehpaa
