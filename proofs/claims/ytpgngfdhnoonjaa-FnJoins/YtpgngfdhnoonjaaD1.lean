/- Values of a program's types in memory, the types as data: what reads as what, what is owned in which blocks, what marks are laid. -/
import Derived.Test.YtpgngfdhnoonjaaF0
import Derived.ArgAppend
namespace Go.Proofs.Ytpgngfdhnoonjaa.Tb
open Go.RowKit
set_option linter.unusedVariables false
/-- these cells lie from a place on -/
def CellsAt (w : World) (bk off : Nat) (cs : List Value) : Prop := ∀ j v, cs[j]? = some v → w.cell? ⟨bk, off + j, none⟩ = some v
theorem CellsAt.block {w w1 : World} {bk off : Nat} {cs : List Value} (h : CellsAt w bk off cs) (hb : w1.heap[bk]? = w.heap[bk]?) : CellsAt w1 bk off cs :=
  fun j v hj => (World.cell?_of_block (a := ⟨bk, off + j, none⟩) hb).trans (h j v hj)
/-- a type: its values, how many cells they take, when cells read as a value, when they own it (the blocks are listed, and lie from B to T), its marks, how many there are, how many elements its slices have -/
structure TyI where
  den : Type
  wide : Nat
  dflt : den
  rep : World → List Value → den → Prop
  own : Nat → Nat → World → List Value → den → List Nat → Prop
  mrk : Int → den → den × Int
  cnt : den → Nat
  tot : den → Nat
  leaf : Nat
  rep_len : ∀ {w : World} {cs : List Value} {m : den}, rep w cs m → cs.length = wide
  rep_keep : ∀ {w w1 : World} {cs : List Value} {m : den}, rep w cs m → Below w.heap.size w w1 → rep w1 cs m
  own_len : ∀ {B T : Nat} {w : World} {cs : List Value} {m : den} {F : List Nat}, own B T w cs m F → cs.length = wide
  own_blocks : ∀ {B T : Nat} {w w1 : World} {cs : List Value} {m : den} {F : List Nat}, own B T w cs m F → (∀ k ∈ F, w1.heap[k]? = w.heap[k]?) → own B T w1 cs m F
  own_bd : ∀ {B T : Nat} {w : World} {cs : List Value} {m : den} {F : List Nat}, own B T w cs m F → ∀ k ∈ F, B ≤ k ∧ k < T ∧ k < w.heap.size
  own_wide : ∀ {B T B' T' : Nat} {w : World} {cs : List Value} {m : den} {F : List Nat}, own B T w cs m F → B' ≤ B → T ≤ T' → own B' T' w cs m F
  own_rep : ∀ {B T : Nat} {w : World} {cs : List Value} {m : den} {F : List Nat}, own B T w cs m F → rep w cs m
  mrk_end : ∀ (k : Int) (m : den), (mrk k m).2 = k + (cnt m : Int)
  cnt_tot : ∀ m : den, cnt m ≤ leaf * (tot m + 1)
theorem TyI.own_keep (t : TyI) {B T : Nat} {w w1 : World} {cs : List Value} {m : t.den} {F : List Nat} (h : t.own B T w cs m F) (hb : Below w.heap.size w w1) : t.own B T w1 cs m F :=
  t.own_blocks h (fun k hk => hb.block k (t.own_bd h k hk).2.2)
def tyInt : TyI where
  den := Int
  wide := 1
  dflt := 0
  rep := fun _ cs m => cs = [.int .i64 m]
  own := fun _ _ _ cs m F => cs = [.int .i64 m] ∧ F = []
  mrk := fun k _ => (k, k + 1)
  cnt := fun _ => 1
  tot := fun _ => 0
  leaf := 1
  rep_len := fun h => by rw [h]; rfl
  rep_keep := fun h _ => h
  own_len := fun h => by rw [h.1]; rfl
  own_blocks := fun h _ => h
  own_bd := fun h k hk => by rw [h.2] at hk; simp at hk
  own_wide := fun h _ _ => h
  own_rep := fun h => h.1
  mrk_end := fun _ _ => rfl
  cnt_tot := fun _ => by simp
def tyBool : TyI where
  den := Bool
  wide := 1
  dflt := false
  rep := fun _ cs m => cs = [.bool m]
  own := fun _ _ _ cs m F => cs = [.bool m] ∧ F = []
  mrk := fun k _ => (decide (k % 3 = 0), k + 1)
  cnt := fun _ => 1
  tot := fun _ => 0
  leaf := 1
  rep_len := fun h => by rw [h]; rfl
  rep_keep := fun h _ => h
  own_len := fun h => by rw [h.1]; rfl
  own_blocks := fun h _ => h
  own_bd := fun h k hk => by rw [h.2] at hk; simp at hk
  own_wide := fun h _ _ => h
  own_rep := fun h => h.1
  mrk_end := fun _ _ => rfl
  cnt_tot := fun _ => by simp
def tyNil : TyI where
  den := Unit
  wide := 0
  dflt := ()
  rep := fun _ cs _ => cs = []
  own := fun _ _ _ cs _ F => cs = [] ∧ F = []
  mrk := fun k _ => ((), k)
  cnt := fun _ => 0
  tot := fun _ => 0
  leaf := 0
  rep_len := fun h => by rw [h]; rfl
  rep_keep := fun h _ => h
  own_len := fun h => by rw [h.1]; rfl
  own_blocks := fun h _ => h
  own_bd := fun h k hk => by rw [h.2] at hk; simp at hk
  own_wide := fun h _ _ => h
  own_rep := fun h => h.1
  mrk_end := fun k _ => by show k = k + ((0 : Nat) : Int); omega
  cnt_tot := fun _ => by simp
def tyPair (a b : TyI) : TyI where
  den := a.den × b.den
  wide := a.wide + b.wide
  dflt := (a.dflt, b.dflt)
  rep := fun w cs m => ∃ c d, cs = c ++ d ∧ a.rep w c m.1 ∧ b.rep w d m.2
  own := fun B T w cs m F => ∃ c d F1 F2, cs = c ++ d ∧ F = F1 ++ F2 ∧ a.own B T w c m.1 F1 ∧ b.own B T w d m.2 F2
  mrk := fun k m => (((a.mrk k m.1).1, (b.mrk (a.mrk k m.1).2 m.2).1), (b.mrk (a.mrk k m.1).2 m.2).2)
  cnt := fun m => a.cnt m.1 + b.cnt m.2
  tot := fun m => a.tot m.1 + b.tot m.2
  leaf := a.leaf + b.leaf
  rep_len := fun h => by
    obtain ⟨c, d, rfl, h1, h2⟩ := h
    rw [List.length_append, a.rep_len h1, b.rep_len h2]
  rep_keep := fun h hb => by
    obtain ⟨c, d, e, h1, h2⟩ := h
    exact ⟨c, d, e, a.rep_keep h1 hb, b.rep_keep h2 hb⟩
  own_len := fun h => by
    obtain ⟨c, d, F1, F2, rfl, _, h1, h2⟩ := h
    rw [List.length_append, a.own_len h1, b.own_len h2]
  own_blocks := fun h hb => by
    obtain ⟨c, d, F1, F2, e1, e2, h1, h2⟩ := h
    subst e2
    exact ⟨c, d, F1, F2, e1, rfl, a.own_blocks h1 (fun k hk => hb k (List.mem_append_left _ hk)), b.own_blocks h2 (fun k hk => hb k (List.mem_append_right _ hk))⟩
  own_bd := fun h k hk => by
    obtain ⟨c, d, F1, F2, e1, e2, h1, h2⟩ := h
    rw [e2] at hk
    rcases List.mem_append.1 hk with hk | hk
    · exact a.own_bd h1 k hk
    · exact b.own_bd h2 k hk
  own_wide := fun h h1 h2 => by
    obtain ⟨c, d, F1, F2, e1, e2, k1, k2⟩ := h
    exact ⟨c, d, F1, F2, e1, e2, a.own_wide k1 h1 h2, b.own_wide k2 h1 h2⟩
  own_rep := fun h => by
    obtain ⟨c, d, F1, F2, e1, e2, h1, h2⟩ := h
    exact ⟨c, d, e1, a.own_rep h1, b.own_rep h2⟩
  mrk_end := fun k m => by
    show (b.mrk (a.mrk k m.1).2 m.2).2 = k + ((a.cnt m.1 + b.cnt m.2 : Nat) : Int)
    rw [b.mrk_end, a.mrk_end]
    omega
  cnt_tot := fun m => by
    have h1 := a.cnt_tot m.1
    have h2 := b.cnt_tot m.2
    have e1 : a.leaf * (a.tot m.1 + 1) ≤ a.leaf * (a.tot m.1 + b.tot m.2 + 1) := Nat.mul_le_mul_left _ (by omega)
    have e2 : b.leaf * (b.tot m.2 + 1) ≤ b.leaf * (a.tot m.1 + b.tot m.2 + 1) := Nat.mul_le_mul_left _ (by omega)
    rw [Nat.add_mul]
    omega
theorem flat_mem {Fs : List (List Nat)} {i k : Nat} (hi : i < Fs.length) (h : k ∈ Fs.getD i []) : k ∈ Fs.flatten := by
  rw [List.getD_eq_getElem?_getD, List.getElem?_eq_getElem hi] at h
  exact List.mem_flatten.2 ⟨_, List.getElem_mem hi, h⟩
def mrkL {α : Type} (f : Int → α → α × Int) : Int → List α → List α × Int
  | k, [] => ([], k)
  | k, x :: xs => ((f k x).1 :: (mrkL f (f k x).2 xs).1, (mrkL f (f k x).2 xs).2)
def sumL {α : Type} (f : α → Nat) : List α → Nat
  | [] => 0
  | x :: xs => f x + sumL f xs
theorem mrkL_end {α : Type} {f : Int → α → α × Int} {c : α → Nat} (h : ∀ k x, (f k x).2 = k + (c x : Int)) : ∀ (k : Int) (l : List α), (mrkL f k l).2 = k + (sumL c l : Int)
  | k, [] => by simp [mrkL, sumL]
  | k, x :: xs => by
    simp only [mrkL, sumL]
    rw [mrkL_end h, h]
    omega
theorem mrkL_len {α : Type} (f : Int → α → α × Int) : ∀ (k : Int) (l : List α), (mrkL f k l).1.length = l.length
  | _, [] => rfl
  | k, x :: xs => by simp [mrkL, mrkL_len f]
theorem sumL_take {α : Type} (c : α → Nat) (x0 : α) : ∀ {l : List α} {i : Nat}, i < l.length → sumL c (l.take (i + 1)) = sumL c (l.take i) + c (l.getD i x0)
  | [], i, h => by simp at h
  | x :: xs, 0, h => by simp [sumL]
  | x :: xs, i + 1, h => by
    have := sumL_take c x0 (l := xs) (i := i) (by simpa using h)
    simp only [List.take_succ_cons, sumL, List.getD_cons_succ]
    omega
theorem sumL_le {α : Type} (c : α → Nat) : ∀ (l : List α) (i : Nat), sumL c (l.take i) ≤ sumL c l
  | [], i => by simp [sumL]
  | x :: xs, 0 => by simp [sumL]
  | x :: xs, i + 1 => by
    have := sumL_le c xs i
    simp only [List.take_succ_cons, sumL]
    omega
theorem sumL_mem {α : Type} (c : α → Nat) (x0 : α) : ∀ {l : List α} {i : Nat}, i < l.length → c (l.getD i x0) ≤ sumL c l
  | [], i, h => by simp at h
  | x :: xs, 0, h => by simp [sumL]
  | x :: xs, i + 1, h => by
    have := sumL_mem c x0 (l := xs) (i := i) (by simpa using h)
    simp only [sumL, List.getD_cons_succ]
    omega
theorem mul_sum {α : Type} {c f : α → Nat} {q : Nat} (h : ∀ x, c x ≤ q * (f x + 1)) : ∀ l : List α, sumL c l ≤ q * (l.length + sumL f l)
  | [] => by simp [sumL]
  | x :: xs => by
    have h1 := h x
    have h2 := mul_sum h xs
    simp only [sumL, List.length_cons]
    have e : q * (xs.length + 1 + (f x + sumL f xs)) = q * (f x + 1) + q * (xs.length + sumL f xs) := by rw [← Nat.mul_add]; congr 1; omega
    omega
def tySlice (t : TypeId) (e : TyI) : TyI where
  den := List e.den
  wide := 1
  dflt := []
  rep := fun w cs m => ∃ ad cap, cs = [.slice ad m.length cap] ∧ m.length ≤ maxLen ∧ m.length ≤ cap ∧ (ad = none → cap = 0) ∧
    (m = [] ∨ ∃ bk off, ad = some ⟨bk, off, none⟩ ∧ bk < w.heap.size ∧ ∀ i, i < m.length → ∃ ci, CellsAt w bk (off + i * e.wide) ci ∧ e.rep w ci (m.getD i e.dflt))
  own := fun B T w cs m F => ∃ ad cap, cs = [.slice ad m.length cap] ∧ m.length ≤ 1048576 ∧ m.length ≤ cap ∧ (ad = none → cap = 0) ∧
    ((m = [] ∧ F = []) ∨ ∃ (g : Nat) (cur : Array Value) (Fs : List (List Nat)), ad = some ⟨g, 0, none⟩ ∧ B ≤ g ∧ g < T ∧ w.heap[g]? = some (.cells cur t (0, 0)) ∧ Fs.length = m.length ∧ F = g :: Fs.flatten ∧
      ∀ i, i < m.length → ∃ ci, CellsAt w g (i * e.wide) ci ∧ e.own B T w ci (m.getD i e.dflt) (Fs.getD i []))
  mrk := fun k m => mrkL e.mrk k m
  cnt := fun m => sumL e.cnt m
  tot := fun m => m.length + sumL e.tot m
  leaf := e.leaf
  rep_len := fun h => by
    obtain ⟨ad, cap, rfl, _⟩ := h
    rfl
  rep_keep := fun h hb => by
    obtain ⟨ad, cap, h0, h1, h2, h3, h4⟩ := h
    refine ⟨ad, cap, h0, h1, h2, h3, ?_⟩
    rcases h4 with h4 | ⟨bk, off, ha, hl, hc⟩
    · exact .inl h4
    · refine .inr ⟨bk, off, ha, Nat.lt_of_lt_of_le hl hb.size, fun i hi => ?_⟩
      obtain ⟨ci, c1, c2⟩ := hc i hi
      exact ⟨ci, c1.block (hb.block bk hl), e.rep_keep c2 hb⟩
  own_len := fun h => by
    obtain ⟨ad, cap, rfl, _⟩ := h
    rfl
  own_blocks := fun h hb => by
    obtain ⟨ad, cap, h0, h1, h2, h3, h4⟩ := h
    refine ⟨ad, cap, h0, h1, h2, h3, ?_⟩
    rcases h4 with h4 | ⟨g, cur, Fs, ha, hB, hT, hg, hl, hF, hc⟩
    · exact .inl h4
    · subst hF
      refine .inr ⟨g, cur, Fs, ha, hB, hT, (hb g (by simp)).trans hg, hl, rfl, fun i hi => ?_⟩
      obtain ⟨ci, c1, c2⟩ := hc i hi
      exact ⟨ci, c1.block (hb g (by simp)), e.own_blocks c2 (fun k hk => hb k (List.mem_cons_of_mem _ (flat_mem (by omega) hk)))⟩
  own_bd := fun h k hk => by
    obtain ⟨ad, cap, h0, h1, h2, h3, h4⟩ := h
    rcases h4 with ⟨_, hF⟩ | ⟨g, cur, Fs, ha, hB, hT, hg, hl, hF, hc⟩
    · rw [hF] at hk; simp at hk
    · rw [hF] at hk
      rcases List.mem_cons.1 hk with rfl | hk
      · exact ⟨hB, hT, (Array.getElem?_eq_some_iff.1 hg).1⟩
      · obtain ⟨l, hl1, hl2⟩ := List.mem_flatten.1 hk
        obtain ⟨i, hi, rfl⟩ := List.getElem_of_mem hl1
        obtain ⟨ci, _, c2⟩ := hc i (by omega)
        exact e.own_bd c2 k (by rw [List.getD_eq_getElem?_getD, List.getElem?_eq_getElem hi]; exact hl2)
  own_wide := fun h b1 b2 => by
    obtain ⟨ad, cap, h0, h1, h2, h3, h4⟩ := h
    refine ⟨ad, cap, h0, h1, h2, h3, ?_⟩
    rcases h4 with h4 | ⟨g, cur, Fs, ha, hB, hT, hg, hl, hF, hc⟩
    · exact .inl h4
    · refine .inr ⟨g, cur, Fs, ha, by omega, by omega, hg, hl, hF, fun i hi => ?_⟩
      obtain ⟨ci, c1, c2⟩ := hc i hi
      exact ⟨ci, c1, e.own_wide c2 b1 b2⟩
  own_rep := fun h => by
    obtain ⟨ad, cap, h0, h1, h2, h3, h4⟩ := h
    refine ⟨ad, cap, h0, by unfold maxLen; omega, h2, h3, ?_⟩
    rcases h4 with ⟨h4, _⟩ | ⟨g, cur, Fs, ha, hB, hT, hg, hl, hF, hc⟩
    · exact .inl h4
    · refine .inr ⟨g, 0, ha, (Array.getElem?_eq_some_iff.1 hg).1, fun i hi => ?_⟩
      obtain ⟨ci, c1, c2⟩ := hc i hi
      exact ⟨ci, by rw [Nat.zero_add]; exact c1, e.own_rep c2⟩
  mrk_end := fun k m => mrkL_end e.mrk_end k m
  cnt_tot := fun m => by
    have h := mul_sum e.cnt_tot m
    have : e.leaf * (m.length + sumL e.tot m) ≤ e.leaf * (m.length + sumL e.tot m + 1) := Nat.mul_le_mul_left _ (by omega)
    omega
/-- where the marks of element i begin -/
def kAtT (e : TyI) (k : Int) (m : List e.den) (i : Nat) : Int := k + (sumL e.cnt (m.take i) : Int)
theorem kAtT_succ {e : TyI} {k : Int} {m : List e.den} {i : Nat} (hi : i < m.length) : kAtT e k m (i + 1) = kAtT e k m i + (e.cnt (m.getD i e.dflt) : Int) := by
  unfold kAtT
  rw [sumL_take e.cnt e.dflt hi]
  omega
theorem kAtT_bd {e : TyI} (k : Int) (m : List e.den) (i : Nat) : k ≤ kAtT e k m i ∧ kAtT e k m i ≤ k + (sumL e.cnt m : Int) := by
  have := sumL_le e.cnt m i
  unfold kAtT
  omega
theorem mrkL_get {e : TyI} : ∀ (k : Int) (m : List e.den) (i : Nat), i < m.length → (mrkL e.mrk k m).1.getD i e.dflt = (e.mrk (kAtT e k m i) (m.getD i e.dflt)).1
  | k, [], i, h => by simp at h
  | k, x :: xs, 0, h => by simp [mrkL, kAtT, sumL]
  | k, x :: xs, i + 1, h => by
    have := mrkL_get (e.mrk k x).2 xs i (by simpa using h)
    simp only [mrkL, List.getD_cons_succ]
    rw [this]
    congr 2
    unfold kAtT
    simp only [List.take_succ_cons, sumL]
    rw [e.mrk_end]
    omega
/-- one element of an owned slice: taken out, and put back when it has turned -/
theorem own_focus {t : TypeId} {e : TyI} {B T : Nat} {w : World} {g cap : Nat} {m : List e.den} {F : List Nat} (h : (tySlice t e).own B T w [.slice (some ⟨g, 0, none⟩) m.length cap] m F) (hn : F.Nodup) {i : Nat} (hi : i < m.length) :
    ∃ ci Fi, CellsAt w g (i * e.wide) ci ∧ e.own B T w ci (m.getD i e.dflt) Fi ∧ Fi.Nodup ∧ ¬ g ∈ Fi ∧ g ∈ F ∧ (∀ k ∈ Fi, k ∈ F) ∧ (∃ cur, w.heap[g]? = some (.cells cur t (0, 0))) ∧
      ∀ (w1 : World) (c1 : List Value) (m1 : e.den) (cur1 : Array Value), w1.heap[g]? = some (.cells cur1 t (0, 0)) → (∀ k ∈ F, ¬ k = g → ¬ k ∈ Fi → w1.heap[k]? = w.heap[k]?) →
        CellsAt w1 g (i * e.wide) c1 → (∀ j v, (j < i * e.wide ∨ (i + 1) * e.wide ≤ j) → w.cell? ⟨g, j, none⟩ = some v → w1.cell? ⟨g, j, none⟩ = some v) → e.own B T w1 c1 m1 Fi →
        (tySlice t e).own B T w1 [.slice (some ⟨g, 0, none⟩) m.length cap] (List.set m i m1) F := by
  obtain ⟨ad, cap', h0, h1, h2, h3, h4⟩ := h
  simp at h0
  obtain ⟨rfl, rfl⟩ := h0
  rcases h4 with ⟨h4, _⟩ | ⟨g', cur, Fs, ha, hB, hT, hg, hl, hF, hc⟩
  · rw [h4] at hi; simp at hi
  · simp at ha
    subst ha
    subst hF
    obtain ⟨ci, c1, c2⟩ := hc i hi
    have hiF : i < Fs.length := by omega
    have hnd := List.nodup_cons.1 hn
    have hFi : Fs.getD i [] = Fs[i] := by rw [List.getD_eq_getElem?_getD, List.getElem?_eq_getElem hiF]; rfl
    have hpw := List.pairwise_flatten.1 hnd.2
    refine ⟨ci, Fs.getD i [], c1, c2, by rw [hFi]; exact hpw.1 _ (List.getElem_mem hiF), fun hh => hnd.1 (flat_mem hiF hh), by simp, fun k hk => List.mem_cons_of_mem _ (flat_mem hiF hk), ⟨cur, hg⟩, ?_⟩
    intro w1 d1 m1 cur1 hg1 hk hd ho hw
    have hsl : (List.set m i m1).length = m.length := List.length_set
    refine ⟨_, cap, by rw [hsl], by rw [hsl]; exact h1, by rw [hsl]; exact h2, h3, .inr ⟨g, cur1, Fs, rfl, hB, hT, hg1, by rw [hsl]; exact hl, rfl, fun j hj => ?_⟩⟩
    rw [hsl] at hj
    by_cases hij : i = j
    · subst hij
      refine ⟨d1, hd, ?_⟩
      have e1 : List.getD (List.set m i m1) i e.dflt = m1 := by simp [List.getD_eq_getElem?_getD, hi]
      rw [e1]
      exact hw
    · obtain ⟨cj, q1, q2⟩ := hc j hj
      have e1 : List.getD (List.set m i m1) j e.dflt = List.getD m j e.dflt := by
        rw [List.getD_eq_getElem?_getD, List.getD_eq_getElem?_getD, List.getElem?_set, if_neg hij]
      have hjF : j < Fs.length := by omega
      refine ⟨cj, fun r v hr => ?_, ?_⟩
      · have hlen := e.own_len q2
        have hrl : r < e.wide := by have := (List.getElem?_eq_some_iff.1 hr).1; omega
        refine ho _ v ?_ (q1 r v hr)
        by_cases hlt : j < i
        · left
          have : (j + 1) * e.wide ≤ i * e.wide := Nat.mul_le_mul_right _ hlt
          rw [Nat.add_mul, Nat.one_mul] at this
          omega
        · right
          have : (i + 1) * e.wide ≤ j * e.wide := Nat.mul_le_mul_right _ (by omega)
          omega
      · rw [e1]
        refine e.own_blocks q2 (fun k hkj => ?_)
        refine hk k (List.mem_cons_of_mem _ (flat_mem hjF hkj)) (fun he => hnd.1 (by rw [← he]; exact flat_mem hjF hkj)) (fun hki => ?_)
        have hFj : Fs.getD j [] = Fs[j] := by rw [List.getD_eq_getElem?_getD, List.getElem?_eq_getElem hjF]; rfl
        rw [hFj] at hkj
        rw [hFi] at hki
        have hdis := List.pairwise_iff_getElem.1 hpw.2
        by_cases hlt : i < j
        · exact hdis i j hiF hjF hlt k hki k hkj rfl
        · exact hdis j i hjF hiF (by omega) k hkj k hki rfl
end Go.Proofs.Ytpgngfdhnoonjaa.Tb
