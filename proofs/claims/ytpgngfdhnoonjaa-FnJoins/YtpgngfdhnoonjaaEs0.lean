/- Slices of structs of one's own, generally: what reads as them, what owns them, one of them put anew. -/
import Derived.Test.YtpgngfdhnoonjaaD1
import Derived.Test.YtpgngfdhnoonjaaF2
import Derived.Test.YtpgngfdhnoonjaaF4
import Derived.Laws.AppendOwn
namespace Go.Proofs.Ytpgngfdhnoonjaa.Tb
open Go.RowKit Wire
set_option linter.unusedVariables false
set_option linter.unusedSimpArgs false
theorem cell_set {w : World} {q i j : Nat} {u v : Value} (h : w.cell? ⟨q, i, none⟩ = some u) : (w.setCell ⟨q, j, none⟩ v).cell? ⟨q, i, none⟩ = some (if i = j then v else u) := by
  by_cases e : i = j
  · subst e; rw [if_pos rfl]; exact World.cell?_setCell_same _ _ _ h
  · rw [if_neg e]
    rw [World.cell?_setCell_other]; exact h
    simp; try exact e
/-- cells of one block that are written one behind the other -/
def setO (w : World) (g : Nat) : Nat → List Value → World
  | _, [] => w
  | o, v :: vs => setO (w.setCell ⟨g, o, none⟩ v) g (o + 1) vs
theorem setO_oth {g k : Nat} (hk : ¬ k = g) : ∀ (vs : List Value) (w : World) (o : Nat), (setO w g o vs).heap[k]? = w.heap[k]?
  | [], w, o => rfl
  | v :: vs, w, o => (setO_oth hk vs _ (o + 1)).trans (heap_setCell_other _ _ _ _ (by simpa using hk))
theorem setO_size {g : Nat} : ∀ (vs : List Value) (w : World) (o : Nat), (setO w g o vs).heap.size = w.heap.size
  | [], w, o => rfl
  | v :: vs, w, o => (setO_size vs _ (o + 1)).trans (by simp [World.setCell])
theorem setO_below {g n : Nat} {w0 : World} (hg : n ≤ g) : ∀ (vs : List Value) {w : World} (o : Nat), Below n w0 w → Below n w0 (setO w g o vs)
  | [], w, o, h => h
  | v :: vs, w, o, h => setO_below hg vs (o + 1) (h.setCell (p := ⟨g, o, none⟩) hg v)
theorem setO_row {g : Nat} {t : TypeId} : ∀ (vs : List Value) {w : World} (o : Nat), (∃ cur, w.heap[g]? = some (.cells cur t (0, 0))) → ∃ cur, (setO w g o vs).heap[g]? = some (.cells cur t (0, 0))
  | [], w, o, h => h
  | v :: vs, w, o, ⟨cur, h⟩ => setO_row vs (o + 1) ⟨_, heap_setCell_same _ _ _ _ _ _ h⟩
theorem setO_out {g j : Nat} {u : Value} : ∀ (vs : List Value) {w : World} (o : Nat), (j < o ∨ o + vs.length ≤ j) → w.cell? ⟨g, j, none⟩ = some u → (setO w g o vs).cell? ⟨g, j, none⟩ = some u
  | [], w, o, _, h => h
  | v :: vs, w, o, hj, h => by
    refine setO_out vs (o + 1) (by simp only [List.length_cons] at hj; omega) ?_
    rw [cell_set (j := o) (v := v) h, if_neg (by simp only [List.length_cons] at hj; omega)]
theorem setO_in {g : Nat} : ∀ (vs : List Value) {w : World} (o : Nat), (∀ j, j < vs.length → ∃ u, w.cell? ⟨g, o + j, none⟩ = some u) → CellsAt (setO w g o vs) g o vs
  | [], w, o, _ => fun j v h => by simp at h
  | v :: vs, w, o, hc => fun j u hj => by
    cases j with
    | zero =>
      simp at hj
      subst hj
      obtain ⟨u0, hu⟩ := hc 0 (by simp)
      have h1 := cell_set (j := o) (v := v) hu
      rw [Nat.add_zero, if_pos rfl] at h1
      exact setO_out vs (o + 1) (.inl (by omega)) h1
    | succ j =>
      have := setO_in vs (w := w.setCell ⟨g, o, none⟩ v) (o + 1) (fun q hq => by
        obtain ⟨u1, hu⟩ := hc (q + 1) (by simpa using hq)
        have h1 := cell_set (j := o) (v := v) hu
        rw [if_neg (by omega)] at h1
        exact ⟨u1, by rw [show o + 1 + q = o + (q + 1) from by omega]; exact h1⟩) j u (by simpa using hj)
      rw [show o + (j + 1) = o + 1 + j from by omega]
      exact this
/-- a slice of structs that reads as ms -/
def LsAt (e : TyI) (w : World) (a : Option Addr) (ms : List e.den) : Prop :=
  ms = [] ∨ ∃ bk off, a = some ⟨bk, off, none⟩ ∧ bk < w.heap.size ∧ ∀ i, i < ms.length → ∃ ci, CellsAt w bk (off + i * e.wide) ci ∧ e.rep w ci (ms.getD i e.dflt)
theorem LsAt.keep {e : TyI} {w w1 : World} {a : Option Addr} {ms : List e.den} (h : LsAt e w a ms) (hb : Below w.heap.size w w1) : LsAt e w1 a ms := by
  rcases h with h | ⟨bk, off, ha, hl, hc⟩
  · exact .inl h
  · refine .inr ⟨bk, off, ha, Nat.lt_of_lt_of_le hl hb.size, fun i hi => ?_⟩
    obtain ⟨ci, c1, c2⟩ := hc i hi
    exact ⟨ci, c1.block (hb.block bk hl), e.rep_keep c2 hb⟩
theorem LsAt.keepB {e : TyI} {w w1 : World} {a : Option Addr} {ms : List e.den} {B : Nat} (h : LsAt e w a ms) (hb : Below B w w1) (hB : w.heap.size ≤ B) : LsAt e w1 a ms := h.keep (hb.mono hB)
theorem lsAt_form {e : TyI} {w : World} {a : Option Addr} {ms : List e.den} (h : LsAt e w a ms) (hz : 0 < ms.length) : ∃ bk off, a = some ⟨bk, off, none⟩ := by
  rcases h with rfl | ⟨b', o', h, _⟩
  · simp at hz
  · exact ⟨b', o', h⟩
theorem lsAt_cell {e : TyI} {w : World} {bk off : Nat} {ms : List e.den} (h : LsAt e w (some ⟨bk, off, none⟩) ms) {i : Nat} (hi : i < ms.length) : bk < w.heap.size ∧ ∃ ci, CellsAt w bk (off + i * e.wide) ci ∧ e.rep w ci (ms.getD i e.dflt) := by
  rcases h with rfl | ⟨b', o', h, hl, hc⟩
  · simp at hi
  · simp at h; obtain ⟨rfl, rfl⟩ := h; exact ⟨hl, hc i hi⟩
/-- a slice of structs of one's own, or an empty one -/
def OwnEs (e : TyI) (t : TypeId) (B T : Nat) (w : World) (a : Option Addr) (n : Nat) (ms : List e.den) : Prop :=
  ms.length = n ∧ n ≤ 1048576 ∧ (ms = [] ∨ ∃ g F cap, a = some ⟨g, 0, none⟩ ∧ F.Nodup ∧ (tySlice t e).own B T w [.slice (some ⟨g, 0, none⟩) ms.length cap] ms F)
theorem OwnEs.at {e : TyI} {t : TypeId} {B T : Nat} {w : World} {a : Option Addr} {n : Nat} {ms : List e.den} (h : OwnEs e t B T w a n ms) : LsAt e w a ms := by
  obtain ⟨h1, h2, h3 | ⟨g, F, cap, ha, hn, ho⟩⟩ := h
  · exact .inl h3
  · obtain ⟨ad, cap', k0, k1, k2, k3, k4⟩ := (tySlice t e).own_rep ho
    simp at k0
    obtain ⟨rfl, rfl⟩ := k0
    rcases k4 with k4 | k4
    · exact .inl k4
    · rw [ha]; exact .inr k4
theorem OwnEs.blocks {e : TyI} {t : TypeId} {B T : Nat} {w w1 : World} {a : Option Addr} {n : Nat} {ms : List e.den} (h : OwnEs e t B T w a n ms) (hb : ∀ k, B ≤ k → k < T → k < w.heap.size → w1.heap[k]? = w.heap[k]?) : OwnEs e t B T w1 a n ms := by
  obtain ⟨h1, h2, h3 | ⟨g, F, cap, ha, hn, ho⟩⟩ := h
  · exact ⟨h1, h2, .inl h3⟩
  · exact ⟨h1, h2, .inr ⟨g, F, cap, ha, hn, (tySlice t e).own_blocks ho (fun k hk => by
      obtain ⟨q1, q2, q3⟩ := (tySlice t e).own_bd ho k hk
      exact hb k q1 q2 q3)⟩⟩
theorem OwnEs.keep {e : TyI} {t : TypeId} {B T : Nat} {w w1 : World} {a : Option Addr} {n : Nat} {ms : List e.den} (h : OwnEs e t B T w a n ms) (hb : Below w.heap.size w w1) : OwnEs e t B T w1 a n ms := h.blocks (fun k _ _ hk => hb.block k hk)
theorem OwnEs.wide {e : TyI} {t : TypeId} {B T B' T' : Nat} {w : World} {a : Option Addr} {n : Nat} {ms : List e.den} (h : OwnEs e t B T w a n ms) (hB : B' ≤ B) (hT : T ≤ T') : OwnEs e t B' T' w a n ms := by
  obtain ⟨h1, h2, h3 | ⟨g, F, cap, ha, hn, ho⟩⟩ := h
  · exact ⟨h1, h2, .inl h3⟩
  · exact ⟨h1, h2, .inr ⟨g, F, cap, ha, hn, (tySlice t e).own_wide ho hB hT⟩⟩
theorem ownEs_nil (e : TyI) (t : TypeId) (B T : Nat) (w : World) (a : Option Addr) : OwnEs e t B T w a 0 [] := ⟨rfl, by omega, .inl rfl⟩
/-- one element is stored anew, with what it owns in blocks that are new -/
theorem own_put {t : TypeId} {e : TyI} {B : Nat} {w w1 : World} {g cap : Nat} {m : List e.den} {F : List Nat} (h : (tySlice t e).own B w.heap.size w [.slice (some ⟨g, 0, none⟩) m.length cap] m F) (hn : F.Nodup) (hb : Below w.heap.size w w1) {i : Nat} (hi : i < m.length)
    {c1 : List Value} {m1 : e.den} {F1 : List Nat} (ho : e.own w.heap.size w1.heap.size w1 c1 m1 F1) (hn1 : F1.Nodup) :
    ∃ F2, (tySlice t e).own B (setO w1 g (i * e.wide) c1).heap.size (setO w1 g (i * e.wide) c1) [.slice (some ⟨g, 0, none⟩) m.length cap] (List.set m i m1) F2 ∧ F2.Nodup := by
  have hk := (tySlice t e).own_keep h hb
  obtain ⟨ad, cap', h0, h1, h2, h3, h4⟩ := h
  simp at h0
  obtain ⟨rfl, rfl⟩ := h0
  rcases h4 with ⟨h4, _⟩ | ⟨g', cur, Fs, ha, hB, hT, hg, hl, hF, hc⟩
  · rw [h4] at hi; simp at hi
  · simp at ha
    subst ha
    subst hF
    have hiF : i < Fs.length := by omega
    have hnd := List.nodup_cons.1 hn
    have hpw := List.pairwise_flatten.1 hnd.2
    have hBT : B ≤ w.heap.size := by omega
    have hsz := hb.size
    have bd1 := fun k hk => e.own_bd ho k hk
    have hold : ∀ j, j < Fs.length → ∀ k ∈ Fs.getD j [], k < w.heap.size := fun j hj k hkj => by
      obtain ⟨cj, q1, q2⟩ := hc j (by omega)
      exact (e.own_bd q2 k hkj).2.1
    have hsl : (List.set m i m1).length = m.length := List.length_set
    have hgw1 : w1.heap[g]? = some (.cells cur t (0, 0)) := (hb.block g hT).trans hg
    obtain ⟨cur2, hcur2⟩ := setO_row c1 (i * e.wide) (w := w1) ⟨cur, hgw1⟩
    have hlen1 := e.own_len ho
    have exF : ∀ j, j < Fs.length → (Fs.set i F1).getD j [] = if i = j then F1 else Fs.getD j [] := fun j hj => by
      rw [List.getD_eq_getElem?_getD, List.getElem?_set]
      by_cases hij : i = j
      · subst hij; simp [hj]
      · rw [if_neg hij, if_neg hij, List.getD_eq_getElem?_getD]
    have exM : ∀ j, j < m.length → (List.set m i m1).getD j e.dflt = if i = j then m1 else m.getD j e.dflt := fun j hj => by
      rw [List.getD_eq_getElem?_getD, List.getElem?_set]
      by_cases hij : i = j
      · subst hij; simp [hj]
      · rw [if_neg hij, if_neg hij, List.getD_eq_getElem?_getD]
    have gE : ∀ j (hj : j < Fs.length), Fs.getD j [] = Fs[j] := fun j hj => by rw [List.getD_eq_getElem?_getD, List.getElem?_eq_getElem hj]; rfl
    have gS : ∀ j (hj : j < (Fs.set i F1).length), (Fs.set i F1)[j] = if i = j then F1 else Fs.getD j [] := fun j hj => by
      have := exF j (by simpa using hj)
      rw [List.getD_eq_getElem?_getD, List.getElem?_eq_getElem hj] at this
      exact this
    refine ⟨g :: (Fs.set i F1).flatten, ⟨_, cap, by rw [hsl], by rw [hsl]; exact h1, by rw [hsl]; exact h2, h3, .inr ⟨g, cur2, Fs.set i F1, rfl, hB, by rw [setO_size]; omega, hcur2, by rw [List.length_set, hsl]; exact hl, rfl, fun j hj => ?_⟩⟩, ?_⟩
    · rw [hsl] at hj
      rw [exF j (by omega), exM j hj]
      by_cases hij : i = j
      · subst hij
        rw [if_pos rfl, if_pos rfl]
        refine ⟨c1, setO_in c1 (i * e.wide) (fun q hq => ?_), ?_⟩
        · obtain ⟨ci, p1, p2⟩ := hc i hi
          have hci := e.own_len p2
          have hq2 : q < ci.length := by omega
          exact ⟨_, (World.cell?_of_block (w := w) (a := ⟨g, i * e.wide + q, none⟩) (hb.block g hT)).trans (p1 q ci[q] (List.getElem?_eq_getElem hq2))⟩
        · refine e.own_wide (e.own_blocks ho (fun k hk2 => setO_oth ?_ _ _ _)) hBT (by rw [setO_size]; exact Nat.le_refl _)
          have := (bd1 k hk2).1
          omega
      · rw [if_neg hij, if_neg hij]
        obtain ⟨cj, q1, q2⟩ := hc j hj
        have hlenj := e.own_len q2
        refine ⟨cj, fun r v hr => ?_, ?_⟩
        · have hrl : r < e.wide := by have := (List.getElem?_eq_some_iff.1 hr).1; omega
          refine setO_out c1 (i * e.wide) ?_ ((World.cell?_of_block (w := w) (a := ⟨g, j * e.wide + r, none⟩) (hb.block g hT)).trans (q1 r v hr))
          rw [hlen1]
          by_cases hlt : j < i
          · left
            have : (j + 1) * e.wide ≤ i * e.wide := Nat.mul_le_mul_right _ hlt
            rw [Nat.add_mul, Nat.one_mul] at this
            omega
          · right
            have : (i + 1) * e.wide ≤ j * e.wide := Nat.mul_le_mul_right _ (by omega)
            rw [Nat.add_mul, Nat.one_mul] at this
            omega
        · refine e.own_wide (e.own_blocks q2 (fun k hk2 => ?_)) (Nat.le_refl _) (by rw [setO_size]; exact hsz)
          have hkT := (e.own_bd q2 k hk2).2.1
          have hkg : ¬ k = g := fun he => hnd.1 (by rw [← he]; exact flat_mem (by omega) hk2)
          exact (setO_oth hkg _ _ _).trans (hb.block k hkT)
    · refine List.nodup_cons.2 ⟨fun hh => ?_, List.pairwise_flatten.2 ⟨fun l hl2 => ?_, List.pairwise_iff_getElem.2 (fun p q hp hq hpq x hx y hy hxy => ?_)⟩⟩
      · obtain ⟨l, hl1, hl2⟩ := List.mem_flatten.1 hh
        obtain ⟨j, hj, rfl⟩ := List.getElem_of_mem hl1
        rw [gS j hj] at hl2
        by_cases hij : i = j
        · rw [if_pos hij] at hl2
          have := (bd1 g hl2).1
          omega
        · rw [if_neg hij] at hl2
          exact hnd.1 (flat_mem (by simpa using hj) hl2)
      · obtain ⟨j, hj, rfl⟩ := List.getElem_of_mem hl2
        rw [gS j hj]
        by_cases hij : i = j
        · rw [if_pos hij]; exact hn1
        · rw [if_neg hij, gE j (by simpa using hj)]
          exact hpw.1 _ (List.getElem_mem (by simpa using hj))
      · subst hxy
        have hp' : p < Fs.length := by simpa using hp
        have hq' : q < Fs.length := by simpa using hq
        rw [gS p hp] at hx
        rw [gS q hq] at hy
        by_cases hip : i = p
        · rw [if_pos hip] at hx
          rw [if_neg (by omega)] at hy
          have := (bd1 x hx).1
          have := hold q hq' x hy
          omega
        · rw [if_neg hip] at hx
          by_cases hiq : i = q
          · rw [if_pos hiq] at hy
            have := (bd1 x hy).1
            have := hold p hp' x hx
            omega
          · rw [if_neg hiq] at hy
            rw [gE p hp'] at hx
            rw [gE q hq'] at hy
            exact List.pairwise_iff_getElem.1 hpw.2 p q hp' hq' hpq x hx x hy rfl
theorem made_at (z : Array Value) (n i j : Nat) (hj : j < z.size) (hi : i * z.size + j < n) : (madeCells z n)[i * z.size + j]? = z[j]? := by
  unfold madeCells
  rw [Array.getElem?_map, Array.getElem?_range, if_pos hi]
  have e : (i * z.size + j) % z.size = j := by rw [Nat.mul_comm, Nat.mul_add_mod, Nat.mod_eq_of_lt hj]
  simp [e, hj]
theorem made_own (t : TypeId) (e : TyI) (z : Array Value) (n : Nat) (w : World) (hz : z.size = e.wide) (ho : ∀ w' : World, e.own w.heap.size (w.heap.size + 1) w' z.toList e.dflt []) (hn : n ≤ 1048576) :
    (tySlice t e).own w.heap.size (w.alloc (.cells (madeCells z (n * e.wide)) t)).heap.size (w.alloc (.cells (madeCells z (n * e.wide)) t)) [.slice (some ⟨w.heap.size, 0, none⟩) (List.replicate n e.dflt).length n] (List.replicate n e.dflt) (w.heap.size :: (List.replicate n ([] : List Nat)).flatten) := by
  have hrow := heap_alloc_new w (.cells (madeCells z (n * e.wide)) t)
  refine ⟨_, n, rfl, by rw [List.length_replicate]; exact hn, by rw [List.length_replicate]; exact Nat.le_refl _, fun h => (by cases h), .inr ⟨w.heap.size, _, List.replicate n [], rfl, Nat.le_refl _, by simp, hrow, by rw [List.length_replicate, List.length_replicate], rfl, fun i hi => ?_⟩⟩
  rw [List.length_replicate] at hi
  have e1 : (List.replicate n e.dflt).getD i e.dflt = e.dflt := by simp [List.getD_eq_getElem?_getD, hi]
  have e2 : (List.replicate n ([] : List Nat)).getD i [] = [] := by simp [List.getD_eq_getElem?_getD, hi]
  rw [e1, e2]
  refine ⟨z.toList, fun j v hj => ?_, by rw [World.size_alloc]; exact ho _⟩
  have hjl : j < z.size := by have := (List.getElem?_eq_some_iff.1 hj).1; simpa using this
  refine (cell_of_row _ _ _ _ _ _ hrow).trans ?_
  rw [← hz]
  have hlt : i * z.size + j < n * z.size := by
    have : (i + 1) * z.size ≤ n * z.size := Nat.mul_le_mul_right _ hi
    rw [Nat.add_mul, Nat.one_mul] at this
    omega
  rw [made_at z _ i j hjl hlt]
  simpa using hj
theorem getD_seq {α : Type} {L M : List α} {x0 : α} (hl : L.length = M.length) (h : ∀ i, i < M.length → L.getD i x0 = M.getD i x0) : L = M := by
  refine List.ext_getElem hl (fun i h1 h2 => ?_)
  have := h i h2
  simp [List.getD_eq_getElem?_getD, List.getElem?_eq_getElem h1, List.getElem?_eq_getElem h2] at this
  exact this
theorem getD_set' {α : Type} {L : List α} {x0 : α} {i j : Nat} {e : α} (hj : j < L.length) : (L.set i e).getD j x0 = if i = j then e else L.getD j x0 := by
  rw [List.getD_eq_getElem?_getD, List.getElem?_set]
  by_cases hij : i = j
  · subst hij; simp [hj]
  · rw [if_neg hij, if_neg hij, List.getD_eq_getElem?_getD]
/-- nothing but blocks from B to T has turned -/
structure Within (B T : Nat) (w w' : World) : Prop where
  os : w'.os = w.os
  tape : w'.tape = w.tape
  output : w'.output = w.output
  size : w'.heap.size = w.heap.size
  block : ∀ k, ¬ (B ≤ k ∧ k < T) → w'.heap[k]? = w.heap[k]?
theorem Within.refl (B T : Nat) (w : World) : Within B T w w := ⟨rfl, rfl, rfl, rfl, fun _ _ => rfl⟩
theorem Within.put {B T g : Nat} {w w' : World} (h : Within B T w w') (h1 : B ≤ g) (h2 : g < T) (i : Nat) (v : Value) : Within B T w (w'.setCell ⟨g, i, none⟩ v) :=
  ⟨h.os, h.tape, h.output, by simpa [World.setCell] using h.size, fun k hk => (heap_setCell_other _ _ _ _ (by simp; omega)).trans (h.block k hk)⟩
theorem Within.only {B T g : Nat} {w w1 w2 : World} (h : Within B T w w1) (ho : Only g w1 w2) (h1 : B ≤ g) (h2 : g < T) : Within B T w w2 :=
  ⟨ho.os.trans h.os, ho.tape.trans h.tape, ho.output.trans h.output, ho.size.trans h.size, fun k hk => (ho.block k (by omega)).trans (h.block k hk)⟩
theorem Within.below {B T n : Nat} {w0 w w' : World} (h : Within B T w w') (hb : Below n w0 w) (hn : n ≤ B) : Below n w0 w' :=
  hb.trans ⟨h.os, h.tape, h.output, by rw [h.size]; exact Nat.le_refl _, fun k hk => h.block k (by omega)⟩
theorem Within.trans {B T : Nat} {w w1 w2 : World} (h : Within B T w w1) (k : Within B T w1 w2) : Within B T w w2 :=
  ⟨k.os.trans h.os, k.tape.trans h.tape, k.output.trans h.output, k.size.trans h.size, fun i hi => (k.block i hi).trans (h.block i hi)⟩
theorem within_setO {B T g : Nat} {w0 : World} (h1 : B ≤ g) (h2 : g < T) : ∀ (vs : List Value) {w : World} (o : Nat), Within B T w0 w → Within B T w0 (setO w g o vs)
  | [], w, o, h => h
  | v :: vs, w, o, h => within_setO h1 h2 vs (o + 1) (h.put h1 h2 o v)
theorem setO_more {g : Nat} {vs old rest : List Value} {w : World} {o : Nat} (h : CellsAt w g o (old ++ rest)) (hl : old.length = vs.length) : CellsAt (setO w g o vs) g o (vs ++ rest) := by
  intro j v hj
  by_cases hlt : j < vs.length
  · rw [List.getElem?_append_left hlt] at hj
    refine setO_in vs o (fun q hq => ?_) j v hj
    have hq2 : q < (old ++ rest).length := by rw [List.length_append]; omega
    exact ⟨_, h q _ (List.getElem?_eq_getElem hq2)⟩
  · rw [List.getElem?_append_right (by omega)] at hj
    refine setO_out vs o (.inr (by omega)) (h j v ?_)
    rw [List.getElem?_append_right (by omega), hl]
    exact hj
theorem OwnEs.mkd {e : TyI} {t : TypeId} {B T B' T' : Nat} {w w1 : World} {a : Option Addr} {n : Nat} {ms : List e.den} (h : OwnEs e t B T w a n ms) (m : Mk B' T' w w1) (hd : T ≤ B' ∨ T' ≤ B) : OwnEs e t B T w1 a n ms := h.blocks (fun k h1 h2 hk => m.block k hk (by omega))
theorem Mk.trans {B T : Nat} {w w1 w2 : World} (h : Mk B T w w1) (k : Mk B T w1 w2) : Mk B T w w2 :=
  ⟨fun n w0 hn hb => k.below n w0 hn (h.below n w0 hn hb), fun i hi hn => (k.block i (Nat.lt_of_lt_of_le hi h.size) hn).trans (h.block i hi hn), Nat.le_trans h.size k.size⟩
theorem within_mk {B T : Nat} {w w1 : World} (h : Within B T w w1) : Mk B T w w1 := ⟨fun n w0 hn hb => h.below hb hn, fun k hk hn => h.block k hn, by rw [h.size]; exact Nat.le_refl _⟩
theorem flat_nil (n : Nat) : (List.replicate n ([] : List Nat)).flatten = [] := by simp
theorem rep_get (n i : Nat) : (List.replicate n ([] : List Nat)).getD i [] = [] := by
  rw [List.getD_eq_getElem?_getD, List.getElem?_replicate]
  split <;> rfl
theorem owns_cells {w : World} {B size n cap g : Nat} {t : TypeId} {xs : List Value} (h : w.ownsRow B t size (.slice (some ⟨g, 0, none⟩) n cap) n xs) : (∃ cur, w.heap[g]? = some (.cells cur t (0, 0))) ∧ n ≤ cap ∧ B ≤ g := by
  rcases h.2 with ⟨h', _⟩ | ⟨g', cap', cur, h', hb, hg, hc, _⟩
  · simp at h'
  · simp only [Value.slice.injEq, Option.some.injEq, Addr.mk.injEq, and_true, true_and] at h'
    obtain ⟨rfl, rfl⟩ := h'
    exact ⟨⟨cur, hg⟩, hc, hb⟩
/-- the cells of a slice, one behind the other -/
theorem cells_row {w : World} {bk off n size : Nat} (f : Nat → List Value) (hf : ∀ i, i < n → (f i).length = size) (h : ∀ i, i < n → CellsAt w bk (off + i * size) (f i)) (h1 : ∀ i, i < n → ∀ u ∈ f i, u.oneCell' = true) :
    ∃ xs : List Value, xs.length = n * size ∧ (∀ j u, xs[j]? = some u → w.cell? ((⟨bk, off, none⟩ : Addr).add j) = some u) ∧ (∀ i, i < n → ∀ j v, (f i)[j]? = some v → xs[i * size + j]? = some v) ∧ ∀ u ∈ xs, u.oneCell' = true := by
  induction n with
  | zero => exact ⟨[], by simp, fun j u hj => by simp at hj, fun i hi => by omega, fun u hu => by simp at hu⟩
  | succ n ih =>
    obtain ⟨xs, l1, l2, l3, l4⟩ := ih (fun i hi => hf i (by omega)) (fun i hi => h i (by omega)) (fun i hi => h1 i (by omega))
    refine ⟨xs ++ f n, by rw [List.length_append, l1, hf n (by omega), Nat.add_mul, Nat.one_mul], fun j u hj => ?_, fun i hi j v hj => ?_, fun u hu => ?_⟩
    · by_cases hlt : j < xs.length
      · rw [List.getElem?_append_left hlt] at hj
        exact l2 j u hj
      · rw [List.getElem?_append_right (by omega), l1] at hj
        have := h n (by omega) (j - n * size) u hj
        rw [add_none']
        rw [show off + j = off + n * size + (j - n * size) from by omega]
        exact this
    · by_cases he : i = n
      · subst he
        rw [List.getElem?_append_right (by omega), l1, show i * size + j - i * size = j from by omega]
        exact hj
      · have := l3 i (by omega) j v hj
        rw [List.getElem?_append_left (List.getElem?_eq_some_iff.1 this).1]
        exact this
    · rcases List.mem_append.1 hu with q | q
      · exact l4 u q
      · exact h1 n (by omega) u q
end Go.Proofs.Ytpgngfdhnoonjaa.Tb
