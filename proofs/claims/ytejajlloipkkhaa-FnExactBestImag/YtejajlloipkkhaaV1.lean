/- Two peers that read the same are told so; marks that were laid are found again. -/
import Derived.Test.YtejajlloipkkhaaV0
namespace Go.Proofs.Ytejajlloipkkhaa
open Go.RowKit
set_option linter.unusedVariables false

theorem bne_same (x : Int) : (x != x) = false := by simp
set_option maxHeartbeats 800000 in
theorem eqSpace_same (b d : Int) (w : World) :
    Calls Try.prog 86 #[.agg #[.int .i64 b, .int .i64 d], .agg #[.int .i64 b, .int .i64 d]] w fun e w' => e = .returned (.bool true) ∧ Below w.heap.size w w' := by
  go_enter Try.func86, Try.ntmps86
  go_wp2
  go_ret
  exact ⟨rfl, ((Below.refl _ _).alloc (Nat.le_refl _) _).alloc (by simp) _⟩
set_option maxHeartbeats 1600000 in
theorem eqPeer_same (x y z : Int) (a a' : Option Addr) (cap cap' : Nat) (l : List Int) (w : World) (hm : l.length ≤ maxLen) (hr : RowAt w a l) (hr' : RowAt w a' l) :
    Calls Try.prog 116 #[.agg #[.int .i64 x, .int .i64 y, .int .i64 z, .slice a l.length cap], .agg #[.int .i64 x, .int .i64 y, .int .i64 z, .slice a' l.length cap']] w fun e w' => e = .returned (.bool true) ∧ Below w.heap.size w w' := by
  have hb2 : Below w.heap.size w ((w.alloc (.cells #[.int .i64 x, .int .i64 y, .int .i64 z, .slice a l.length cap] 101)).alloc (.cells #[.int .i64 x, .int .i64 y, .int .i64 z, .slice a' l.length cap'] 101)) := ((Below.refl _ _).alloc (Nat.le_refl _) _).alloc (by simp) _
  have C := eqIntS_any a a' cap cap' l l _ hm (hr.keep hb2) (hr'.keep hb2)
  have hs : sameB l l = true := decide_eq_true rfl
  rw [hs] at C
  have HB2 : Hid _ := hb2
  clear hr hr' hs hb2
  go_enter Try.func116, Try.ntmps116
  go_wp2_with fail
  refine C.mono ?_
  rintro e w1 ⟨rfl, hw1⟩
  go_wp2
  go_ret
  exact ⟨rfl, HB2.out.trans (hw1.mono HB2.out.size)⟩

set_option maxRecDepth 100000 in
set_option maxHeartbeats 3200000 in
theorem eqPeerS_same (a a' : Option Addr) (cap cap' : Nat) (ps : List Pr) (w : World) (hm : ps.length ≤ 1048576) (hx : PeersAt w a ps) (hy : PeersAt w a' ps) :
    Calls Try.prog 87 #[.slice a ps.length cap, .slice a' ps.length cap'] w fun e w' => e = .returned (.bool true) ∧ Below w.heap.size w w' := by
  have HX : Hid (PeersAt w a ps) := hx
  have HY : Hid (PeersAt w a' ps) := hy
  clear hx hy
  go_enter Try.func87, Try.ntmps87
  go_wp2_with fail
  go_loopw [5] (fun vi wr => ∃ k : Nat, k ≤ ps.length ∧ vi = .int .i64 k ∧ Below w.heap.size w wr) (fun vi _ => ps.length - (intOf vi).toNat)
  case atStart => exact ⟨0, Nat.zero_le _, rfl, Below.refl _ _⟩
  case round =>
    obtain ⟨k, hk, rfl, hbel⟩ := hrel
    by_cases hlt : k < ps.length
    · obtain ⟨bk, off, rfl⟩ := peersAt_form HX.out (by omega)
      obtain ⟨bk2, off2, rfl⟩ := peersAt_form HY.out (by omega)
      obtain ⟨hb1, hp1⟩ := peersAt_cell (HX.out.keep hbel) (by omega)
      obtain ⟨hb2, hp2⟩ := peersAt_cell (HY.out.keep hbel) (by omega)
      obtain ⟨c0, c1, c2, ab, cb, c3, hr, hn, hcb⟩ := hp1 k hlt
      obtain ⟨d0, d1, d2, ab2, cb2, d3, hr2, hn2, hcb2⟩ := hp2 k hlt
      clear hp1 hp2 hcb hcb2 hn2
      generalize ps.getD k pr0 = p at *
      obtain ⟨x, y, z, l⟩ := p
      have g0 : ∀ q : Kin wr.heap.size wr, q.v.cell? ⟨bk, off + k * 4, none⟩ = some (.int .i64 x) := kin_cell hb1 c0
      have g1 : ∀ q : Kin wr.heap.size wr, q.v.cell? ⟨bk, off + k * 4 + 1, none⟩ = some (.int .i64 y) := kin_cell hb1 c1
      have g2 : ∀ q : Kin wr.heap.size wr, q.v.cell? ⟨bk, off + k * 4 + 2, none⟩ = some (.int .i64 z) := kin_cell hb1 c2
      have g3 : ∀ q : Kin wr.heap.size wr, q.v.cell? ⟨bk, off + k * 4 + 3, none⟩ = some (.slice ab l.length cb) := kin_cell hb1 c3
      have f0 : ∀ q : Kin wr.heap.size wr, q.v.cell? ⟨bk2, off2 + k * 4, none⟩ = some (.int .i64 x) := kin_cell hb2 d0
      have f1 : ∀ q : Kin wr.heap.size wr, q.v.cell? ⟨bk2, off2 + k * 4 + 1, none⟩ = some (.int .i64 y) := kin_cell hb2 d1
      have f2 : ∀ q : Kin wr.heap.size wr, q.v.cell? ⟨bk2, off2 + k * 4 + 2, none⟩ = some (.int .i64 z) := kin_cell hb2 d2
      have f3 : ∀ q : Kin wr.heap.size wr, q.v.cell? ⟨bk2, off2 + k * 4 + 3, none⟩ = some (.slice ab2 l.length cb2) := kin_cell hb2 d3
      have HRA : Hid (RowAt wr ab l) := hr
      have HRB : Hid (RowAt wr ab2 l) := hr2
      have HN : Hid (l.length ≤ maxLen) := hn
      clear c0 c1 c2 c3 d0 d1 d2 d3 hr hr2 hn
      go_wp2
      refine region_kin wr.heap.size (by kernel_rfl) (by kernel_rfl) (fun hne => ?_)
      repeat (go_big_quiet_step ((go_at_call 116; exact kin_of (Nat.le_refl _) (eqPeer_same x y z ab ab2 cb cb2 l _ HN.out (HRA.out.keepB (Kin.bel _) (Nat.le_refl _)) (HRB.out.keepB (Kin.bel _) (Nat.le_refl _))))))
      refine wpQuiet_nil ?_
      intro xw hw'
      obtain ⟨⟨w1, hw1⟩, hw1'⟩ := hw'
      have hw1'' : w1 = xw := hw1'.symm
      subst hw1''
      clear g0 g1 g2 g3 f0 f1 f2 f3 hne
      have hbel1 := belt hbel hw1
      have hkw : IntKind.i64.wrap ((k : Int) + 1) = (k : Int) + 1 := by rw [IntKind.wrap_i64]; omega
      go_wp2
      go_roundw
      case rel => exact ⟨k + 1, by omega, by go_num, hbel1⟩
      case measure => simp [intOf]; omega
    · go_wp2
      go_ret
      exact ⟨rfl, hbel⟩

set_option maxHeartbeats 1600000 in
theorem eqPeers_same (b d : Int) (a a' : Option Addr) (cap cap' : Nat) (ps : List Pr) (w : World) (hm : ps.length ≤ 1048576) (hx : PeersAt w a ps) (hy : PeersAt w a' ps) :
    Calls Try.prog 42 #[.agg #[.int .i64 b, .int .i64 d, .slice a ps.length cap], .agg #[.int .i64 b, .int .i64 d, .slice a' ps.length cap']] w fun e w' => e = .returned (.bool true) ∧ Below w.heap.size w w' := by
  have HX : Hid (PeersAt w a ps) := hx
  have HY : Hid (PeersAt w a' ps) := hy
  clear hx hy
  go_enter Try.func42, Try.ntmps42
  go_wp2_with fail
  refine (eqSpace_same b d _).mono ?_
  rintro e w1 ⟨rfl, hw1⟩
  have HB1 : Hid (Below w.heap.size w w1) := bel2 hw1 (by simp; omega)
  have q0 := (hw1.cell (p := ⟨w.heap.size, 2, none⟩) (by simp; omega))
  have q1 := (hw1.cell (p := ⟨w.heap.size + 1, 2, none⟩) (by simp))
  simp at q0 q1
  go_wp2_with fail
  refine (eqPeerS_same a a' cap cap' ps _ hm (HX.out.keep HB1.out) (HY.out.keep HB1.out)).mono ?_
  rintro e w2 ⟨rfl, hw2⟩
  go_wp2
  go_ret
  exact ⟨rfl, belt HB1.out hw2⟩

/-- the marks that are laid from k on -/
def mrkP : Int → List Pr → List Pr
  | _, [] => []
  | k, p :: ps => ⟨k, k + 1, k + 2, (List.range p.backs.length).map (fun j : Nat => k + 3 + (j : Int))⟩ :: mrkP (k + 3 + (p.backs.length : Int)) ps
/-- where the marks of peer i begin -/
def kAt (k : Int) (ps : List Pr) (i : Nat) : Int := k + 3 * (i : Int) + (bsum (ps.take i) : Int)
theorem mrkP_len : ∀ (ps : List Pr) (k : Int), (mrkP k ps).length = ps.length
  | [], _ => rfl
  | p :: ps, k => by simp [mrkP, mrkP_len ps]
theorem mrkP_get : ∀ (ps : List Pr) (k : Int) (i : Nat), i < ps.length → (mrkP k ps).getD i pr0 = ⟨kAt k ps i, kAt k ps i + 1, kAt k ps i + 2, (List.range (ps.getD i pr0).backs.length).map (fun j : Nat => kAt k ps i + 3 + (j : Int))⟩
  | [], _, i, h => by simp at h
  | p :: ps, k, 0, _ => by simp [mrkP, kAt, bsum]
  | p :: ps, k, i + 1, h => by
    have ih := mrkP_get ps (k + 3 + (p.backs.length : Int)) i (by simpa using h)
    have e : kAt (k + 3 + (p.backs.length : Int)) ps i = kAt k (p :: ps) (i + 1) := by
      unfold kAt
      simp only [List.take_succ_cons, bsum]
      omega
    simp only [mrkP, List.getD_cons_succ]
    rw [ih, e]
theorem kAt_succ {k : Int} {ps : List Pr} {i : Nat} (hi : i < ps.length) : kAt k ps (i + 1) = kAt k ps i + 3 + ((ps.getD i pr0).backs.length : Int) := by
  unfold kAt; rw [bsum_take hi]; omega
theorem kAt_bd {k : Int} {ps : List Pr} {i : Nat} (hi : i ≤ ps.length) (hb : ps.length + bsum ps ≤ 1048576) : k ≤ kAt k ps i ∧ kAt k ps i ≤ k + 4194304 := by
  have : bsum (ps.take i) ≤ bsum ps := by
    clear hb
    revert i
    induction ps with
    | nil => intro i _; simp
    | cons p ps ih =>
      intro i hi
      cases i with
      | zero => simp [bsum]
      | succ i => simp only [List.take_succ_cons, bsum]; have := ih (i := i) (by simpa using hi); omega
  unfold kAt; omega

end Go.Proofs.Ytejajlloipkkhaa
