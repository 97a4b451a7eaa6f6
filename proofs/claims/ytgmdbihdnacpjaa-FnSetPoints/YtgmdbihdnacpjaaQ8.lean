/- Answers of chapter 3 in one form: a list or peers, and whether it was asked well. -/
import Derived.Test.YtgmdbihdnacpjaaQ7
import Derived.Test.YtgmdbihdnacpjaaX2
namespace Go.Proofs.Ytgmdbihdnacpjaa
open Go.RowKit
set_option linter.unusedVariables false
def memL (b d : Int) (ps : List Pr) : List Int := if goodP b d ps = true then idsP ps else []
theorem memL_big (b d : Int) (ps : List Pr) : (memL b d ps).length ≤ 1048576 := by
  unfold memL
  split
  · rename_i h
    have := (goodP_true h).1.l2
    omega
  · simp
theorem MembersOf_own (b d : Int) (a : Option Addr) (cap : Nat) (ps : List Pr) (w : World) (hm : ps.length ≤ 1048576) (hr : PeersAt w a ps) :
    Calls Try.prog 38 #[.agg #[.int .i64 b, .int .i64 d, .slice a ps.length cap]] w fun e w' => ∃ a' n c, e = .returned (.tuple #[.slice a' n c, .bool (goodP b d ps)]) ∧ (memL b d ps).length = n ∧ OwnLs w.heap.size w'.heap.size w' a' n (memL b d ps) ∧ Below w.heap.size w w' := by
  refine (MembersOf_any b d a cap ps w hm hr).mono ?_
  rintro e w1 ⟨v, rfl, hw, ⟨hg, rfl⟩ | ⟨hg, g, rfl, os⟩⟩
  · rw [hg]
    have e0 : memL b d ps = [] := by unfold memL; rw [hg]; rfl
    rw [e0]
    exact ⟨_, _, _, rfl, rfl, ownLs_nil _ _ _ _, hw⟩
  · rw [hg]
    have e0 : memL b d ps = idsP ps := by unfold memL; rw [hg]; rfl
    rw [e0]
    exact ⟨_, _, _, rfl, idsP_len ps, ownLs_of os (Nat.le_refl _) (idsP_len ps), hw⟩
theorem lMembersOf_own (b d : Int) (a : Option Addr) (cap : Nat) (ps : List Pr) (w : World) (hm : ps.length ≤ 1048576) (hr : PeersAt w a ps) :
    Calls Try.prog 37 #[.agg #[.int .i64 b, .int .i64 d, .slice a ps.length cap]] w fun e w' => ∃ a' n c, e = .returned (.tuple #[.slice a' n c, .bool (goodP b d ps)]) ∧ (memL b d ps).length = n ∧ RowAt w' a' (memL b d ps) ∧ Below w.heap.size w w' := by
  refine (lMembersOf_any b d a cap ps w hm hr).mono ?_
  rintro e w1 ⟨v, rfl, hw, ⟨hg, rfl⟩ | ⟨hg, a0, cp, rfl, os⟩⟩
  · rw [hg]
    have e0 : memL b d ps = [] := by unfold memL; rw [hg]; rfl
    rw [e0]
    exact ⟨_, _, _, rfl, rfl, .inl rfl, hw⟩
  · rw [hg]
    have e0 : memL b d ps = idsP ps := by unfold memL; rw [hg]; rfl
    rw [e0]
    exact ⟨_, _, _, rfl, idsP_len ps, os, hw⟩
theorem OwnLs.lower {B B' T : Nat} {w : World} {a : Option Addr} {n : Nat} {l : List Int} (h : OwnLs B T w a n l) (hb : B' ≤ B) : OwnLs B' T w a n l := by
  refine ⟨h.1, ?_⟩
  rcases h.2 with h | ⟨g, ha, ht, os⟩
  · exact .inl h
  · exact .inr ⟨g, ha, ht, os.mono hb⟩
theorem OwnPs.lower {B B' T : Nat} {w : World} {a : Option Addr} {n : Nat} {ps : List Pr} (h : OwnPs B T w a n ps) (hb : B' ≤ B) : OwnPs B' T w a n ps := by
  refine ⟨h.1, ?_⟩
  rcases h.2 with h | ⟨g, L, ha, hL, os⟩
  · exact .inl h
  · exact .inr ⟨g, L, ha, hL, os.mono hb⟩
def spcOf (ok : Bool) (b d : Int) : Int × Int := if ok = true then (b, d) else (0, 0)
def idlL (b d : Int) (zs : List Int) (n : Int) : List Pr := if idlOk b d zs n = true then idealL b d zs n.toNat else []
theorem bsum_le {c : Nat} : ∀ {ps : List Pr}, (∀ p ∈ ps, p.backs.length ≤ c) → bsum ps ≤ ps.length * c
  | [], _ => by simp [bsum]
  | p :: ps, h => by
    have h1 := h p (by simp)
    have h2 := bsum_le (ps := ps) (fun q hq => h q (by simp [hq]))
    simp only [bsum, List.length_cons, Nat.succ_mul]
    omega
theorem idlL_big (b d : Int) (zs : List Int) (n : Int) : (idlL b d zs n).length + bsum (idlL b d zs n) ≤ 1048576 := by
  unfold idlL
  split
  · rename_i h
    unfold idlOk at h
    rw [Bool.and_eq_true] at h
    have l2 := (ringB_true h.1).l2
    obtain ⟨n1, n2⟩ := inB_true h.2
    have hb := bsum_le (c := 3) (ps := idealL b d zs n.toNat) (fun p hp => by
      unfold idealL at hp
      simp only [List.mem_map] at hp
      obtain ⟨x, _, rfl⟩ := hp
      show (bckL zs (pntI b d zs x) n.toNat).length ≤ 3
      rw [bckL_len]
      omega)
    rw [idealL_len] at hb ⊢
    omega
  · simp [bsum]
theorem IdealPeers_own (b d : Int) (a : Option Addr) (cap : Nat) (zs : List Int) (n : Int) (w : World) (hm : zs.length ≤ 1048576) (hr : RowAt w a zs) :
    Calls Try.prog 28 #[.agg #[.int .i64 b, .int .i64 d], .slice a zs.length cap, .int .i64 n] w fun e w' => ∃ b' d' a' n' c, e = .returned (.tuple #[.agg #[.int .i64 b', .int .i64 d', .slice a' n' c], .bool (idlOk b d zs n)]) ∧ (idlL b d zs n).length = n' ∧ (b', d') = spcOf (idlOk b d zs n) b d ∧ OwnPs w.heap.size w'.heap.size w' a' n' (idlL b d zs n) ∧ Below w.heap.size w w' := by
  refine (IdealPeers_any b d n a cap zs w (by unfold maxLen; omega) hr).mono ?_
  rintro e w1 ⟨v, rfl, hw, ⟨hg, rfl⟩ | ⟨hg, g, L, rfl, hL, os⟩⟩
  · rw [hg]
    have e0 : idlL b d zs n = [] := by unfold idlL; rw [hg]; rfl
    rw [e0]
    exact ⟨_, _, _, _, _, rfl, rfl, rfl, ownPs_nil _ _ _ _, hw⟩
  · rw [hg]
    have e0 : idlL b d zs n = idealL b d zs n.toNat := by unfold idlL; rw [hg]; rfl
    rw [e0]
    exact ⟨_, _, _, _, _, rfl, idealL_len _ _ _ _, rfl, ⟨idealL_len _ _ _ _, .inr ⟨g, L, rfl, hL, os⟩⟩, hw⟩
theorem lIdealPeers_own (b d : Int) (a : Option Addr) (cap : Nat) (zs : List Int) (n : Int) (w : World) (hm : zs.length ≤ 1048576) (hr : RowAt w a zs) :
    Calls Try.prog 25 #[.agg #[.int .i64 b, .int .i64 d], .slice a zs.length cap, .int .i64 n] w fun e w' => ∃ b' d' a' n' c, e = .returned (.tuple #[.agg #[.int .i64 b', .int .i64 d', .slice a' n' c], .bool (idlOk b d zs n)]) ∧ (idlL b d zs n).length = n' ∧ (b', d') = spcOf (idlOk b d zs n) b d ∧ PeersAt w' a' (idlL b d zs n) ∧ Below w.heap.size w w' := by
  refine (lIdealPeers_any b d n a cap zs w (by unfold maxLen; omega) hr).mono ?_
  rintro e w1 ⟨v, rfl, hw, ⟨hg, rfl⟩ | ⟨hg, a0, cp, rfl, os⟩⟩
  · rw [hg]
    have e0 : idlL b d zs n = [] := by unfold idlL; rw [hg]; rfl
    rw [e0]
    exact ⟨_, _, _, _, _, rfl, rfl, rfl, .inl rfl, hw⟩
  · rw [hg]
    have e0 : idlL b d zs n = idealL b d zs n.toNat := by unfold idlL; rw [hg]; rfl
    rw [e0]
    exact ⟨_, _, _, _, _, rfl, idealL_len _ _ _ _, rfl, os, hw⟩
end Go.Proofs.Ytgmdbihdnacpjaa
