/- Ways through the ring: what holds while a way is gone. -/
import Derived.Test.YtejajlloipkkhaaG7Z
namespace Go.Proofs.Ytejajlloipkkhaa
open Go.RowKit
set_option linter.unusedVariables false
def rtOk (b d : Int) (ps : List Pr) (x k ttl : Int) : Bool := askP b d ps x k && inB ttl 0 1000
def rtV (b d : Int) (ps : List Pr) (x k ttl : Int) : Wk := if rtOk b d ps x k ttl = true then rtW b d ps k ttl 300 (stt b d ps x k) else wk0
def rtP (b d : Int) (ps : List Pr) (x k ttl : Int) : List Int := if rtOk b d ps x k ttl = true then x :: rtL b d ps k ttl 300 (stt b d ps x k) else []
/-- a walk that is on: what a step asks, and that enough is left -/
structure On (b d : Int) (ps : List Pr) (k ttl : Int) (F : Nat) (u : Wk) : Prop where
  wv : WV b d ps k u
  le : u.points + u.succs ≤ ttl
  pt : pot (idsP ps) k u < F
  ow : u.owner = 0
theorem WV.ok {b d : Int} {ps : List Pr} {k : Int} {u : Wk} (h : WV b d ps k u) : WOk b (idsP ps) u := ⟨h.mem, h.i1, h.i2, h.l1⟩
/-- what a step makes of a walk that is on -/
theorem on_step {b d : Int} {ps : List Pr} {k ttl : Int} {F : Nat} {u : Wk} (hg : goodP b d ps = true) (k1 : 0 ≤ k) (k2 : k < sz b) (t2 : ttl ≤ 1000) (hs : u.state = 0) (h : On b d ps k ttl (F + 1) u) :
    ((stp b d ps k ttl u).state = 0 ∧ u.points + u.succs < (stp b d ps k ttl u).points + (stp b d ps k ttl u).succs ∧ On b d ps k ttl F (stp b d ps k ttl u)) ∨
    (¬ (stp b d ps k ttl u).state = 0 ∧ ¬ u.points + u.succs < (stp b d ps k ttl u).points + (stp b d ps k ttl u).succs) := by
  obtain ⟨wv, le, pt, ow⟩ := h
  rcases stp_kind (ttl := ttl) hg k1 k2 wv.ok with h | ⟨h, _, _⟩ | ⟨hw', hs', ho', ht', hp', hl⟩
  · refine .inr ?_
    rw [h]
    exact ⟨by simp, by simp⟩
  · refine .inr ?_
    rw [h]
    exact ⟨by simp, by simp⟩
  · refine .inl ⟨hs'.trans hs, ?_, ⟨hw'.mem, hw'.i1, hw'.i2, hw'.l0, ?_, ?_, ?_, ?_, ?_⟩, ?_, by omega, ho'.trans ow⟩
    · rcases hl with ⟨h1, h2, _⟩ | ⟨h1, h2, _⟩ <;> omega
    · have := wv.l2; rcases hl with ⟨_, _, h3⟩ | ⟨_, _, h3⟩ <;> omega
    · have := wv.p1; rcases hl with ⟨h1, h2, _⟩ | ⟨h1, h2, _⟩ <;> omega
    · have := wv.s1; have := wv.p2; rcases hl with ⟨h1, h2, _⟩ | ⟨h1, h2, _⟩ <;> omega
    · have := wv.s1; rcases hl with ⟨h1, h2, _⟩ | ⟨h1, h2, _⟩ <;> omega
    · have := wv.p1; have := wv.s2; rcases hl with ⟨h1, h2, _⟩ | ⟨h1, h2, _⟩ <;> omega
    · rcases hl with ⟨h1, h2, _⟩ | ⟨h1, h2, _⟩ <;> omega
theorem rtL_off {b d : Int} {ps : List Pr} {k ttl : Int} {u : Wk} (h : ¬ u.state = 0) : ∀ F, rtL b d ps k ttl F u = []
  | 0 => rfl
  | F + 1 => by unfold rtL; rw [if_neg h]
theorem rtW_off {b d : Int} {ps : List Pr} {k ttl : Int} {u : Wk} (h : ¬ u.state = 0) : ∀ F, rtW b d ps k ttl F u = u
  | 0 => rfl
  | F + 1 => by unfold rtW; rw [if_neg h]
/-- the program's loop, at its test -/
structure RtI (b d : Int) (ps : List Pr) (k ttl : Int) (RW : Wk) (RP : List Int) (F : Nat) (u : Wk) (L : List Int) : Prop where
  w : RW = rtW b d ps k ttl F u
  p : RP = L ++ (if u.state = 0 then u.at_ :: rtL b d ps k ttl F u else [])
  on : u.state = 0 → On b d ps k ttl F u
  ln : L.length + F ≤ 301
theorem RtI.step {b d : Int} {ps : List Pr} {k ttl : Int} {RW : Wk} {RP : List Int} {F : Nat} {u : Wk} {L : List Int} (hg : goodP b d ps = true) (k1 : 0 ≤ k) (k2 : k < sz b) (t2 : ttl ≤ 1000) (h : RtI b d ps k ttl RW RP F u L) (hs : u.state = 0) :
    ∃ F', F' < F ∧ RtI b d ps k ttl RW RP F' (stp b d ps k ttl u) (L ++ [u.at_]) := by
  obtain ⟨h1, h2, h3, h4⟩ := h
  have ho := h3 hs
  cases F with
  | zero => have := ho.pt; omega
  | succ F =>
    refine ⟨F, by omega, ?_, ?_, ?_, by simp; omega⟩
    · rw [h1]; conv => lhs; unfold rtW
      rw [if_pos hs]
    · rw [h2, if_pos hs]
      conv => lhs; unfold rtL
      rw [if_pos hs]
      rcases on_step hg k1 k2 t2 hs ho with ⟨g1, g2, _⟩ | ⟨g1, g2⟩
      · rw [if_pos g1, if_pos g2]
        simp
      · rw [if_neg g1, if_neg g2, rtL_off g1]
        simp
    · intro hx
      rcases on_step hg k1 k2 t2 hs ho with ⟨_, _, g3⟩ | ⟨g1, _⟩
      · exact g3
      · exact absurd hx g1
theorem RtI.off {b d : Int} {ps : List Pr} {k ttl : Int} {RW : Wk} {RP : List Int} {F : Nat} {u : Wk} {L : List Int} (h : RtI b d ps k ttl RW RP F u L) (hs : ¬ u.state = 0) : RW = u ∧ RP = L := by
  refine ⟨by rw [h.w, rtW_off hs], ?_⟩
  rw [h.p, if_neg hs]
  simp
/-- the specification's loop, at its test -/
structure RtS (b d : Int) (ps : List Pr) (k ttl : Int) (RW : Wk) (RP : List Int) (F : Nat) (u : Wk) (L : List Int) : Prop where
  w : RW = rtW b d ps k ttl F u
  p : RP = L ++ rtL b d ps k ttl F u
  on : u.state = 0 → On b d ps k ttl F u
  ln : L.length + F ≤ 301
theorem RtS.step {b d : Int} {ps : List Pr} {k ttl : Int} {RW : Wk} {RP : List Int} {F : Nat} {u : Wk} {L : List Int} (hg : goodP b d ps = true) (k1 : 0 ≤ k) (k2 : k < sz b) (t2 : ttl ≤ 1000) (h : RtS b d ps k ttl RW RP F u L) (hs : u.state = 0) :
    ∃ F', F' < F ∧ RtS b d ps k ttl RW RP F' (stp b d ps k ttl u) (L ++ (if u.points + u.succs < (stp b d ps k ttl u).points + (stp b d ps k ttl u).succs then [(stp b d ps k ttl u).at_] else [])) := by
  obtain ⟨h1, h2, h3, h4⟩ := h
  have ho := h3 hs
  cases F with
  | zero => have := ho.pt; omega
  | succ F =>
    refine ⟨F, by omega, ?_, ?_, ?_, ?_⟩
    · rw [h1]; conv => lhs; unfold rtW
      rw [if_pos hs]
    · rw [h2]
      conv => lhs; unfold rtL
      rw [if_pos hs, List.append_assoc]
    · intro hx
      rcases on_step hg k1 k2 t2 hs ho with ⟨_, _, g3⟩ | ⟨g1, _⟩
      · exact g3
      · exact absurd hx g1
    · split <;> simp <;> omega
theorem RtS.off {b d : Int} {ps : List Pr} {k ttl : Int} {RW : Wk} {RP : List Int} {F : Nat} {u : Wk} {L : List Int} (h : RtS b d ps k ttl RW RP F u L) (hs : ¬ u.state = 0) : RW = u ∧ RP = L := by
  refine ⟨by rw [h.w, rtW_off hs], ?_⟩
  rw [h.p, rtL_off hs]
  simp
theorem stt_on {b d : Int} {ps : List Pr} {x k ttl : Int} (hg : goodP b d ps = true) (hx : hasB (idsP ps) x = true) (k1 : 0 ≤ k) (k2 : k < sz b) (t1 : 0 ≤ ttl) : On b d ps k ttl 300 (stt b d ps x k) := by
  have R := (goodP_true hg).1
  obtain ⟨hb1, hb2, hd1, hd2, _⟩ := gsB_true R.gs
  obtain ⟨hq0, q1, q2⟩ := cnt_bd hb1 hb2 hd1 hd2
  obtain ⟨x1, x2⟩ := has_rng R hx
  obtain ⟨s1, s2⟩ := succ_rng hg hx
  obtain ⟨n, n1, n2, e1, e2, e3, _⟩ := bestI_prop R.gs x1 x2 s1 s2 k1 k2
  refine ⟨⟨hx, e2, e3, ?_, ?_, Int.le_refl _, by show (0 : Int) ≤ 1000; omega, Int.le_refl _, by show (0 : Int) ≤ 1000; omega⟩, ?_, ?_, rfl⟩
  · show 0 ≤ (bestI b d x (peerI ps x).succ k).2; omega
  · show (bestI b d x (peerI ps x).succ k).2 ≤ b / d; omega
  · show (0 : Int) + 0 ≤ ttl; omega
  · have h := pot_top R k (v := stt b d ps x k) (by show 0 ≤ (bestI b d x (peerI ps x).succ k).2; omega)
    have h2 : (stt b d ps x k).left.toNat ≤ 12 := by show (bestI b d x (peerI ps x).succ k).2.toNat ≤ 12; omega
    have h3 : ((stt b d ps x k).left.toNat + 1) * (idsP ps).length ≤ 13 * 16 := Nat.mul_le_mul (by omega) R.l2
    omega
theorem rti0 {b d : Int} {ps : List Pr} {x k ttl : Int} (hg : goodP b d ps = true) (hx : hasB (idsP ps) x = true) (k1 : 0 ≤ k) (k2 : k < sz b) (t1 : 0 ≤ ttl) : RtI b d ps k ttl (rtW b d ps k ttl 300 (stt b d ps x k)) (x :: rtL b d ps k ttl 300 (stt b d ps x k)) 300 (stt b d ps x k) [] :=
  ⟨rfl, by rw [if_pos (show (stt b d ps x k).state = 0 from rfl)]; rfl, fun _ => stt_on hg hx k1 k2 t1, by simp⟩
theorem rts0 {b d : Int} {ps : List Pr} {x k ttl : Int} (hg : goodP b d ps = true) (hx : hasB (idsP ps) x = true) (k1 : 0 ≤ k) (k2 : k < sz b) (t1 : 0 ≤ ttl) : RtS b d ps k ttl (rtW b d ps k ttl 300 (stt b d ps x k)) (x :: rtL b d ps k ttl 300 (stt b d ps x k)) 300 (stt b d ps x k) [x] :=
  ⟨rfl, rfl, fun _ => stt_on hg hx k1 k2 t1, by simp⟩
end Go.Proofs.Ytejajlloipkkhaa
