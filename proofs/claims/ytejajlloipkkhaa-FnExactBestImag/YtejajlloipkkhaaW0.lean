/- A list of peers that grows by append. -/
import Derived.Test.YtejajlloipkkhaaV9
namespace Go.Proofs.Ytejajlloipkkhaa
open Go.RowKit
set_option linter.unusedVariables false

def flatP : List (Pr × Value) → List Value
  | [] => []
  | e :: L => .int .i64 e.1.id :: .int .i64 e.1.succ :: .int .i64 e.1.point :: e.2 :: flatP L
theorem flatP_len : ∀ L : List (Pr × Value), (flatP L).length = L.length * 4
  | [] => rfl
  | e :: L => by simp [flatP, flatP_len L]; omega
theorem flatP_snoc (e : Pr × Value) : ∀ L : List (Pr × Value), flatP (L ++ [e]) = flatP L ++ [.int .i64 e.1.id, .int .i64 e.1.succ, .int .i64 e.1.point, e.2]
  | [] => rfl
  | f :: L => by simp [flatP, flatP_snoc e L]
theorem flatP_get : ∀ (L : List (Pr × Value)) (i : Nat), i < L.length → (flatP L)[i * 4]? = some (.int .i64 (L.getD i d0).1.id) ∧ (flatP L)[i * 4 + 1]? = some (.int .i64 (L.getD i d0).1.succ) ∧ (flatP L)[i * 4 + 2]? = some (.int .i64 (L.getD i d0).1.point) ∧ (flatP L)[i * 4 + 3]? = some (L.getD i d0).2
  | [], i, h => by simp at h
  | e :: L, 0, h => by simp [flatP]
  | e :: L, i + 1, h => by
    have := flatP_get L i (by simpa using h)
    have e0 : (i + 1) * 4 = i * 4 + 4 := by omega
    rw [e0]
    simp only [flatP, List.getD_cons_succ]
    exact ⟨by simpa using this.1, by simpa using this.2.1, by simpa using this.2.2.1, by simpa using this.2.2.2⟩
/-- a list of peers of one's own, in memory from B on: each one's backs too, no two of which are the same -/
structure ListP (B : Nat) (w : World) (vl : Value) (L : List (Pr × Value)) : Prop where
  own : w.ownsRow B 101 4 vl L.length (flatP L)
  val : ∀ i, i < L.length → ValOk B w.heap.size w (L.getD i d0)
  sep : ∀ i j, i < j → j < L.length → ¬ (L.getD i d0).1.backs = [] → ¬ (L.getD j d0).1.backs = [] → ¬ (L.getD i d0).2.ownBlock = (L.getD j d0).2.ownBlock
theorem ListP.nil (B : Nat) (w : World) : ListP B w (.slice none 0 0) [] :=
  ⟨World.ownsRow_nil _ _ _ _, fun i hi => by simp at hi, fun i j _ hj => by simp at hj⟩
theorem own_blocks {w w1 : World} {B size n : Nat} {e : TypeId} {v : Value} {xs : List Value} (h : w.ownsRow B e size v n xs) (hb : ∀ k, v.ownBlock = some k → w1.heap[k]? = w.heap[k]?) : w1.ownsRow B e size v n xs := by
  refine ⟨h.1, ?_⟩
  rcases h.2 with hn | ⟨g, cap, cur, rfl, hlo, hgg, rest⟩
  · exact .inl hn
  · exact .inr ⟨g, cap, cur, rfl, hlo, (hb g rfl).trans hgg, rest⟩
theorem ListP.blocks {B : Nat} {w w1 : World} {vl : Value} {L : List (Pr × Value)} (h : ListP B w vl L) (hs : w.heap.size ≤ w1.heap.size) (hb : ∀ k, B ≤ k → k < w.heap.size → w1.heap[k]? = w.heap[k]?) : ListP B w1 vl L :=
  ⟨own_blocks h.own (fun k hk => hb k (h.own.lt k hk).1 (h.own.lt k hk).2), fun i hi => ((h.val i hi).blocks (fun k h1 h2 h3 => hb k h1 h3)).wide hs, h.sep⟩
theorem ListP.keep {B : Nat} {w w1 : World} {vl : Value} {L : List (Pr × Value)} (h : ListP B w vl L) (hb : Below w.heap.size w w1) : ListP B w1 vl L := h.blocks hb.size (fun k _ hk => hb.block k hk)
theorem ListP.form {B : Nat} {w : World} {vl : Value} {L : List (Pr × Value)} (h : ListP B w vl L) : ∃ a cap, vl = .slice a L.length cap ∧ L.length ≤ cap := by
  rcases h.own.2 with ⟨rfl, hn⟩ | ⟨g, cap, cur, rfl, _, _, hc, _⟩
  · exact ⟨none, 0, by rw [hn], by omega⟩
  · exact ⟨_, cap, rfl, hc⟩
theorem ListP.ownP {B : Nat} {w : World} {g n cap : Nat} {L : List (Pr × Value)} (h : ListP B w (.slice (some ⟨g, 0, none⟩) n cap) L) : OwnP B w.heap.size w g L := by
  rcases h.own.2 with ⟨hn, _⟩ | ⟨g', cap', cur, hv, hlo, hg, _, _, hs, ht⟩
  · cases hn
  · simp at hv
    obtain ⟨rfl, _, rfl⟩ := hv
    have get : ∀ j v, (flatP L)[j]? = some v → w.cell? ⟨g, j, none⟩ = some v := fun j v hj => by
      rw [cell_of_row w _ _ _ _ _ hg]
      rw [← ht, List.getElem?_take] at hj
      split at hj
      · simpa using hj
      · cases hj
    refine ⟨hlo, (Array.getElem?_eq_some_iff.1 hg).1, ⟨cur, hg⟩, fun i hi => ?_, h.val, h.sep⟩
    obtain ⟨f0, f1, f2, f3⟩ := flatP_get L i hi
    exact ⟨get _ _ f0, get _ _ f1, get _ _ f2, get _ _ f3⟩
theorem ListP.peersAt {B : Nat} {w : World} {a : Option Addr} {n cap : Nat} {L : List (Pr × Value)} (h : ListP B w (.slice a n cap) L) : PeersAt w a (L.map (·.1)) := by
  by_cases h0 : L.length = 0
  · have : L = [] := List.eq_nil_of_length_eq_zero h0
    subst this
    exact .inl rfl
  · obtain ⟨g, cap', hv⟩ := Joins.ownsRow_form h.own (by omega)
    simp at hv
    obtain ⟨rfl, rfl, rfl⟩ := hv
    exact h.ownP.peersAt
theorem ListP.grow {B : Nat} {w w1 : World} {vl v1 : Value} {L : List (Pr × Value)} {e : Pr × Value} (h : ListP B w vl L) (hg : w.grownBy w1 vl.ownBlock)
    (ho : w1.ownsRow B 101 4 v1 (L.length + 1) (flatP L ++ [.int .i64 e.1.id, .int .i64 e.1.succ, .int .i64 e.1.point, e.2])) (hv : ValOk B w.heap.size w e)
    (hs : ∀ i, i < L.length → ¬ (L.getD i d0).1.backs = [] → ¬ e.1.backs = [] → ¬ (L.getD i d0).2.ownBlock = e.2.ownBlock) : ListP B w1 v1 (L ++ [e]) := by
  have low : ∀ i, i < L.length → (L ++ [e]).getD i d0 = L.getD i d0 := fun i hi => by simp [List.getD_eq_getElem?_getD, List.getElem?_append_left hi]
  have top : (L ++ [e]).getD L.length d0 = e := by simp [List.getD_eq_getElem?_getD]
  have kept : ∀ f : Pr × Value, ValOk B w.heap.size w f → ValOk B w1.heap.size w1 f := fun f hf => by
    obtain ⟨ab, cb, hv, hc, hm, ho'⟩ := hf
    refine ⟨ab, cb, hv, hc, hm, ?_⟩
    rcases ho' with ho' | ⟨gb, ha, hl, os⟩
    · exact .inl ho'
    · refine .inr ⟨gb, ha, Nat.lt_of_lt_of_le hl hg.size, os.of_block (hg.block gb hl (fun he => ?_))⟩
      obtain ⟨cj, hcj, _⟩ := os.row
      rcases h.own.2 with ⟨rfl, _⟩ | ⟨g, cap, cur, rfl, _, hgg, _⟩
      · simp [Value.ownBlock] at he
      · simp [Value.ownBlock] at he
        subst he
        rw [hgg] at hcj
        simp at hcj
  refine ⟨by rw [flatP_snoc, List.length_append]; exact ho, fun i hi => ?_, fun i j hij hj => ?_⟩
  · rw [List.length_append] at hi
    by_cases he : i = L.length
    · subst he; rw [top]; exact kept _ hv
    · rw [low i (by simp at hi; omega)]; exact kept _ (h.val i (by simp at hi; omega))
  · rw [List.length_append] at hj
    simp at hj
    rw [low i (by omega)]
    by_cases he : j = L.length
    · subst he; rw [top]; exact hs i hij
    · rw [low j (by omega)]; exact h.sep i j hij (by omega)
end Go.Proofs.Ytejajlloipkkhaa
