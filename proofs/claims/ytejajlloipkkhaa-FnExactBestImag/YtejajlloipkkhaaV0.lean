/- Peers in memory: how they are read; how much they hold; when two are the same. -/
import Derived.Test.YtejajlloipkkhaaS0
namespace Go.Proofs.Ytejajlloipkkhaa
open Go.RowKit
set_option linter.unusedVariables false

structure Pr where
  id : Int
  succ : Int
  point : Int
  backs : List Int
def pr0 : Pr := ⟨0, 0, 0, []⟩
/-- one peer, from a cell on -/
structure PeerAt (w : World) (b o : Nat) (p : Pr) : Prop where
  c0 : w.cell? ⟨b, o, none⟩ = some (.int .i64 p.id)
  c1 : w.cell? ⟨b, o + 1, none⟩ = some (.int .i64 p.succ)
  c2 : w.cell? ⟨b, o + 2, none⟩ = some (.int .i64 p.point)
  c3 : ∃ ab cb, w.cell? ⟨b, o + 3, none⟩ = some (.slice ab p.backs.length cb) ∧ RowAt w ab p.backs ∧ p.backs.length ≤ maxLen ∧ p.backs.length ≤ cb ∧ (ab = none → cb = 0)
/-- a slice of peers that reads as ps -/
def PeersAt (w : World) (a : Option Addr) (ps : List Pr) : Prop :=
  ps = [] ∨ ∃ b off, a = some ⟨b, off, none⟩ ∧ b < w.heap.size ∧ ∀ i, i < ps.length → PeerAt w b (off + i * 4) (ps.getD i pr0)
theorem PeerAt.keep {w w1 : World} {b o : Nat} {p : Pr} (h : PeerAt w b o p) (hb : Below w.heap.size w w1) (hl : b < w.heap.size) : PeerAt w1 b o p := by
  obtain ⟨c0, c1, c2, ab, cb, c3, hr, hm, hc⟩ := h
  exact ⟨(hb.cell (p := ⟨b, o, none⟩) hl).trans c0, (hb.cell (p := ⟨b, o + 1, none⟩) hl).trans c1, (hb.cell (p := ⟨b, o + 2, none⟩) hl).trans c2, ab, cb, (hb.cell (p := ⟨b, o + 3, none⟩) hl).trans c3, hr.keep hb, hm, hc⟩
theorem PeersAt.keep {w w1 : World} {a : Option Addr} {ps : List Pr} (h : PeersAt w a ps) (hb : Below w.heap.size w w1) : PeersAt w1 a ps := by
  rcases h with h | ⟨b, off, ha, hl, hc⟩
  · exact .inl h
  · exact .inr ⟨b, off, ha, Nat.lt_of_lt_of_le hl hb.size, fun i hi => (hc i hi).keep hb hl⟩
theorem PeersAt.keepB {w w1 : World} {a : Option Addr} {ps : List Pr} {B : Nat} (h : PeersAt w a ps) (hb : Below B w w1) (hB : w.heap.size ≤ B) : PeersAt w1 a ps := h.keep (hb.mono hB)
theorem PeersAt.alloc {w : World} {a : Option Addr} {ps : List Pr} (h : PeersAt w a ps) (o : Obj) : PeersAt (w.alloc o) a ps := h.keep ((Below.refl _ _).alloc (Nat.le_refl _) _)
theorem peersAt_form {w : World} {a : Option Addr} {ps : List Pr} (h : PeersAt w a ps) (hz : 0 < ps.length) : ∃ bk off, a = some ⟨bk, off, none⟩ := by
  rcases h with rfl | ⟨b', o', h, _⟩
  · simp at hz
  · exact ⟨b', o', h⟩
theorem peersAt_cell {w : World} {bk off : Nat} {ps : List Pr} (h : PeersAt w (some ⟨bk, off, none⟩) ps) (hz : 0 < ps.length) : bk < w.heap.size ∧ ∀ i, i < ps.length → PeerAt w bk (off + i * 4) (ps.getD i pr0) := by
  rcases h with rfl | ⟨b', o', h, hl, hc⟩
  · simp at hz
  · simp at h; obtain ⟨rfl, rfl⟩ := h; exact ⟨hl, hc⟩
/-- how many numbers the first k peers have as backs -/
def bsum : List Pr → Nat
  | [] => 0
  | p :: ps => p.backs.length + bsum ps
theorem bsum_take {ps : List Pr} : ∀ {k : Nat}, k < ps.length → bsum (ps.take (k + 1)) = bsum (ps.take k) + (ps.getD k pr0).backs.length := by
  induction ps with
  | nil => intro k hk; simp at hk
  | cons p ps ih =>
    intro k hk
    cases k with
    | zero => simp [bsum]
    | succ k =>
      have := ih (k := k) (by simpa using hk)
      simp only [List.take_succ_cons, bsum]
      rw [this]
      simp only [List.getD_cons_succ]
      omega
theorem bsum_mem {ps : List Pr} : ∀ {k : Nat}, k < ps.length → (ps.getD k pr0).backs.length ≤ bsum ps := by
  induction ps with
  | nil => intro k hk; simp at hk
  | cons p ps ih =>
    intro k hk
    cases k with
    | zero => simp [bsum]
    | succ k =>
      have := ih (k := k) (by simpa using hk)
      simp only [bsum, List.getD_cons_succ]
      omega

theorem szIntS_any (a : Option Addr) (n cap : Nat) (l : Int) (w : World) (hn : n ≤ maxLen) (l1 : 0 ≤ l) (l2 : l ≤ 1048576) :
    Calls Try.prog 125 #[.slice a n cap, .int .i64 l] w fun e w' => e = .returned (.int .i64 (if l - (n : Int) < 0 then -1 else l - (n : Int))) ∧ w' = w := by
  unfold maxLen at hn
  by_cases h : l - (n : Int) < 0
  · rw [if_pos h]
    go_enter Try.func125, Try.ntmps125
    go_wp2
    go_ret
    exact ⟨rfl, rfl⟩
  · rw [if_neg h]
    go_enter Try.func125, Try.ntmps125
    go_wp2
    go_ret
    exact ⟨rfl, rfl⟩
theorem szPeer_any (x y z : Int) (a : Option Addr) (n cap : Nat) (l : Int) (w : World) (hn : n ≤ maxLen) (l1 : 0 ≤ l) (l2 : l ≤ 1048576) :
    Calls Try.prog 114 #[.agg #[.int .i64 x, .int .i64 y, .int .i64 z, .slice a n cap], .int .i64 l] w fun e w' => e = .returned (.int .i64 (if l - (n : Int) < 0 then -1 else l - (n : Int))) ∧ Below w.heap.size w w' := by
  by_cases h : l - (n : Int) < 0
  · have C := szIntS_any a n cap l (w.alloc (.cells #[.int .i64 x, .int .i64 y, .int .i64 z, .slice a n cap] 141)) hn l1 l2
    rw [if_pos h] at C ⊢
    go_enter Try.func114, Try.ntmps114
    go_wp2_with fail
    refine C.mono ?_
    rintro e w1 ⟨rfl, rfl⟩
    go_wp2
    go_ret
    exact ⟨rfl, (Below.refl _ _).alloc (Nat.le_refl _) _⟩
  · have C := szIntS_any a n cap l (w.alloc (.cells #[.int .i64 x, .int .i64 y, .int .i64 z, .slice a n cap] 141)) hn l1 l2
    rw [if_neg h] at C ⊢
    go_enter Try.func114, Try.ntmps114
    go_wp2_with fail
    refine C.mono ?_
    rintro e w1 ⟨rfl, rfl⟩
    go_wp2
    go_ret
    exact ⟨rfl, (Below.refl _ _).alloc (Nat.le_refl _) _⟩

set_option maxHeartbeats 1600000 in
theorem szPeerS_any (a : Option Addr) (cap : Nat) (ps : List Pr) (w : World) (hm : ps.length ≤ maxLen) (hr : PeersAt w a ps) :
    Calls Try.prog 84 #[.slice a ps.length cap, .int .i64 1048576] w fun e w' => ∃ v : Int, e = .returned (.int .i64 v) ∧ (v < 0 ∨ (0 ≤ v ∧ ps.length + bsum ps ≤ 1048576)) ∧ -1 ≤ v ∧ v ≤ 1048576 ∧ Below w.heap.size w w' := by
  unfold maxLen at hm
  have HR : Hid (PeersAt w a ps) := hr
  clear hr
  by_cases hbig : 1048576 < ps.length
  · go_enter Try.func84, Try.ntmps84
    go_wp2
    go_ret
    exact ⟨-1, rfl, .inl (by omega), by omega, by omega, Below.refl _ _⟩
  · have hz : ps.length ≤ 1048576 := by omega
    go_enter Try.func84, Try.ntmps84
    go_wp2_with fail
    go_loopw [1, 5] (fun vl vi wr => ∃ (k : Nat) (l : Int), k ≤ ps.length ∧ vi = .int .i64 k ∧ vl = .int .i64 l ∧ 0 ≤ l ∧ l = 1048576 - (ps.length : Int) - (bsum (ps.take k) : Int) ∧ Below w.heap.size w wr) (fun _ vi _ => ps.length - (intOf vi).toNat)
    case atStart => exact ⟨0, _, Nat.zero_le _, rfl, rfl, by omega, by simp [bsum], Below.refl _ _⟩
    case round =>
      obtain ⟨k, l, hk, rfl, rfl, l1, hl, hbel⟩ := hrel
      have HL : Hid (l = 1048576 - (ps.length : Int) - (bsum (ps.take k) : Int)) := hl
      have l2 : l ≤ 1048576 := by omega
      clear hl
      by_cases hlt : k < ps.length
      · obtain ⟨bk, off, rfl⟩ := peersAt_form HR.out (by omega)
        obtain ⟨c0, c1, c2, ab, cb, c3, _, hn, _⟩ := (peersAt_cell (HR.out.keep hbel) (by omega)).2 k hlt
        have hbt := bsum_take hlt
        have HBT : Hid (bsum (ps.take (k + 1)) = bsum (ps.take k) + (ps.getD k pr0).backs.length) := hbt
        clear hbt
        obtain ⟨nb, hnb⟩ : ∃ nb, nb = (ps.getD k pr0).backs.length := ⟨_, rfl⟩
        rw [← hnb] at c3 hn HBT
        clear hnb
        generalize (ps.getD k pr0).id = x0 at c0
        generalize (ps.getD k pr0).succ = x1 at c1
        generalize (ps.getD k pr0).point = x2 at c2
        have C := szPeer_any x0 x1 x2 ab nb cb l wr hn l1 l2
        by_cases hneg : l - (nb : Int) < 0
        · rw [if_pos hneg] at C
          go_wp2_with fail
          refine C.mono ?_
          rintro e w1 ⟨rfl, hw1⟩
          go_wp2
          go_ret
          exact ⟨-1, rfl, .inl (by omega), by omega, by omega, belt hbel hw1⟩
        · rw [if_neg hneg] at C
          go_wp2_with fail
          refine C.mono ?_
          rintro e w1 ⟨rfl, hw1⟩
          have hbel1 := belt hbel hw1
          go_wp2_with fail
          go_roundw
          case rel => exact ⟨k + 1, _, by omega, by go_num, rfl, by omega, by rw [HBT.out]; have := HL.out; omega, hbel1⟩
          case measure => simp [intOf]; omega
      · have hh := HL.out
        rw [List.take_of_length_le (by omega)] at hh
        have HH : Hid (ps.length + bsum ps ≤ 1048576) := by unfold Hid; omega
        clear hh
        go_wp2
        go_ret
        exact ⟨l, rfl, .inr ⟨l1, HH.out⟩, by omega, by omega, hbel⟩

theorem szPeers_any (b d : Int) (a : Option Addr) (cap : Nat) (ps : List Pr) (w : World) (hm : ps.length ≤ maxLen) (hr : PeersAt w a ps) :
    Calls Try.prog 39 #[.agg #[.int .i64 b, .int .i64 d, .slice a ps.length cap], .int .i64 1048576] w fun e w' => ∃ v : Int, e = .returned (.int .i64 v) ∧ (v < 0 ∨ (0 ≤ v ∧ ps.length + bsum ps ≤ 1048576)) ∧ Below w.heap.size w w' := by
  have hr1 := hr.alloc (.cells #[.int .i64 b, .int .i64 d, .slice a ps.length cap] 65)
  go_enter Try.func39, Try.ntmps39
  go_wp2_with fail
  refine (szPeerS_any a cap ps _ hm hr1).mono ?_
  rintro e w1 ⟨v, rfl, hv, v1, v2, hw1⟩
  by_cases hn : v < 0
  · go_wp2
    go_ret
    exact ⟨-1, rfl, .inl (by omega), bel1 hw1 (by simp)⟩
  · go_wp2
    go_ret
    exact ⟨v, rfl, hv, bel1 hw1 (by simp)⟩
end Go.Proofs.Ytejajlloipkkhaa
