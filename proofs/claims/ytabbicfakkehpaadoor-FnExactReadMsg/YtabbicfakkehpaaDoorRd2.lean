/- A text's numbers, taken one behind the other by the program. -/
import Derived.Test.YtabbicfakkehpaaDoorRd1
namespace Go.Proofs.YtabbicfakkehpaaDoor
open Go.RowKit Go.Deep
set_option linter.unusedVariables false
set_option linter.unusedSimpArgs false
/-- nothing old has turned but block g -/
structure But (g : Nat) (w w' : World) : Prop where
  os : w'.os = w.os
  tape : w'.tape = w.tape
  output : w'.output = w.output
  size : w.heap.size ≤ w'.heap.size
  block : ∀ k, k < w.heap.size → ¬ k = g → w'.heap[k]? = w.heap[k]?
theorem But.refl (g : Nat) (w : World) : But g w w := ⟨rfl, rfl, rfl, Nat.le_refl _, fun _ _ _ => rfl⟩
theorem But.below {g : Nat} {w w1 w2 : World} (h : But g w w1) (hb : Below w1.heap.size w1 w2) : But g w w2 :=
  ⟨hb.os.trans h.os, hb.tape.trans h.tape, hb.output.trans h.output, Nat.le_trans h.size hb.size, fun k hk hg => (hb.block k (by have := h.size; omega)).trans (h.block k hk hg)⟩
theorem But.trans {g : Nat} {w w1 w2 : World} (h : But g w w1) (k : But g w1 w2) : But g w w2 :=
  ⟨k.os.trans h.os, k.tape.trans h.tape, k.output.trans h.output, Nat.le_trans h.size k.size, fun j hj hg => (k.block j (by have := h.size; omega) hg).trans (h.block j hj hg)⟩
theorem But.set {g : Nat} {w w1 : World} (h : But g w w1) (i : Nat) (v : Value) : But g w (w1.setCell ⟨g, i, none⟩ v) :=
  ⟨h.os, h.tape, h.output, by simpa [World.setCell] using h.size, fun k hk hg => (heap_setCell_other _ _ _ _ (by simpa using hg)).trans (h.block k hk hg)⟩
theorem But.drew {g : Nat} {w w1 : World} (h : But g w w1) : But g w w1.drew := ⟨h.os, h.tape, h.output, h.size, h.block⟩
theorem But.bk {g k : Nat} {w w1 : World} {C : Array Value} {T : TypeId} (h : But g w w1) (hk : Bk w k C T) (hg : ¬ k = g) : Bk w1 k C T := (h.block k hk.lt hg).trans hk
theorem But.bel {g B : Nat} {w0 w w1 : World} (h : But g w w1) (hb : Below B w0 w) (hg : B ≤ g) (hB : B ≤ w0.heap.size) : Below B w0 w1 :=
  ⟨h.os.trans hb.os, h.tape.trans hb.tape, h.output.trans hb.output, Nat.le_trans hb.size h.size, fun k hk => (h.block k (by have := hb.size; omega) (by omega)).trans (hb.block k hk)⟩
theorem But.row {g : Nat} {w w1 : World} {a : Option Addr} {zs : List Int} (h : But g w w1) (hr : RowAt w a zs) (hg : ∀ b off, a = some ⟨b, off, none⟩ → ¬ b = g) : RowAt w1 a zs := by
  rcases hr with rfl | ⟨b, off, rfl, hb, hc⟩
  · exact .inl rfl
  · refine .inr ⟨b, off, rfl, Nat.lt_of_lt_of_le hb h.size, fun i hi => ?_⟩
    rw [← hc i hi]
    exact World.cell?_of_block (h.block b hb (hg b off rfl))
/-- the reader in block g: where it is, and whether no fault was met -/
def Rd (w : World) (g : Nat) (s : ByteArray) (i : Nat) (ok : Bool) : Prop := ∃ v, Bk w g #[.string s, .int .i64 i, v] 76 ∧ FaB ok 4 v
theorem Rd.below {w w1 : World} {g : Nat} {s : ByteArray} {i : Nat} {ok : Bool} (h : Rd w g s i ok) (hb : Below w.heap.size w w1) : Rd w1 g s i ok := h.elim fun v hv => ⟨v, hv.1.keep hb, hv.2⟩
theorem Rd.but {w w1 : World} {g k : Nat} {s : ByteArray} {i : Nat} {ok : Bool} (h : Rd w g s i ok) (hb : But k w w1) (hk : ¬ g = k) : Rd w1 g s i ok := h.elim fun v hv => ⟨v, hb.bk hv.1 hk, hv.2⟩
theorem Rd.oth {w : World} {g k : Nat} {s : ByteArray} {i : Nat} {ok : Bool} (h : Rd w g s i ok) (hk : ¬ g = k) (j : Nat) (u : Value) : Rd (w.setCell ⟨k, j, none⟩ u) g s i ok := h.elim fun v hv => ⟨v, hv.1.oth hk j u, hv.2⟩
theorem Rd.lt {w : World} {g : Nat} {s : ByteArray} {i : Nat} {ok : Bool} (h : Rd w g s i ok) : g < w.heap.size := h.elim fun v hv => hv.1.lt
theorem FaB.fa (p c : Int) : FaB false c (faV p c) := .inr ⟨rfl, p, rfl⟩
theorem But.dn {g : Nat} (w : World) (n : Nat) : But g w (w.drewN n) := (But.refl g w).below (below_drewN (Below.refl _ _) _)
theorem Bk.dn {w : World} {g : Nat} {C : Array Value} {T : TypeId} (h : Bk w g C T) (n : Nat) : Bk (w.drewN n) g C T := h.keep (below_drewN (Below.refl _ _) _)
set_option maxRecDepth 100000 in
set_option maxHeartbeats 1600000 in
theorem next_any (g : Nat) (s : ByteArray) (i : Nat) (ok : Bool) (most : Int) (w : World) (h : i + 1 < s.size) (hs : s.size ≤ 1048576) (hk : Rd w g s i ok) :
    Calls Tryd.prog 42 #[.pointer (some ⟨g, 0, none⟩), .int .i64 most] w fun e w' => e = .returned (.int .i64 (a2 s i)) ∧ Rd w' g s (i + 2) (ok && decide (a2 s i ≤ most)) ∧ But g w w' := by
  obtain ⟨v, hB, hv⟩ := hk
  have h0 : i < s.size := by omega
  have hw : Hid (a2 s i = (s[i].toNat : Int) * 256 + (s[i + 1].toNat : Int)) := by unfold Hid a2; rw [bt_eq h0, bt_eq h]
  have hb := UInt8.toNat_lt s[i]
  have hb1 := UInt8.toNat_lt s[i + 1]
  have p1 : (0 : Int) ≤ (i : Int) + 1 := by omega
  have p2 : (i : Int) + 1 < (s.size : Int) := by omega
  have HB : Hid (Bk w g #[.string s, .int .i64 i, v] 76) := hB
  have hlt := hB.lt
  obtain ⟨c0, c1, c2⟩ := hB.c3
  have f0 := hB.fr 0
  have f1 := hB.fr 1
  have f2 := hB.fr 2
  clear hB
  by_cases hm : (s[i].toNat : Int) * 256 + (s[i + 1].toNat : Int) ≤ most
  · have hd : Hid (decide (a2 s i ≤ most) = true) := decide_eq_true (by rw [hw.out]; exact hm)
    have hm' : ¬ most < (s[i].toNat : Int) * 256 + (s[i + 1].toNat : Int) := by omega
    have HF : Hid (FaB (ok && decide (a2 s i ≤ most)) 4 v) := by unfold Hid; rw [hd.out, Bool.and_true]; exact hv
    clear hv hm
    go_enter Tryd.func42, Tryd.ntmps42
    go_wp2
    go_quiet (fail)
    go_wp2
    go_ret
    exact ⟨ret_int hw.out.symm, ⟨v, (HB.out.dn _).set 1 _, HF.out⟩, (But.dn w _).set 1 _⟩
  · have hd : Hid (decide (a2 s i ≤ most) = false) := decide_eq_false (by rw [hw.out]; exact hm)
    have hm' : most < (s[i].toNat : Int) * 256 + (s[i + 1].toNat : Int) := by omega
    clear hm
    rcases hv with ⟨rfl, rfl⟩ | ⟨rfl, p, rfl⟩
    · have HF : Hid (FaB (true && decide (a2 s i ≤ most)) 4 (faV i 4)) := by unfold Hid; rw [hd.out, Bool.and_false]; exact FaB.fa _ _
      go_enter Tryd.func42, Tryd.ntmps42
      go_wp2
      go_quiet (fail)
      go_wp2_with (go_at_call 38; refine (faultAt_any _ _ _).mono ?_; rintro e w1 ⟨rfl, rfl⟩; unfold faV)
      go_ret
      exact ⟨ret_int hw.out.symm, ⟨_, ((HB.out.dn _).set 2 _).set 1 _, HF.out⟩, ((But.dn w _).set 2 _).set 1 _⟩
    · have HF : Hid (FaB (false && decide (a2 s i ≤ most)) 4 (faV p 4)) := FaB.fa _ _
      unfold faV at c2
      go_enter Tryd.func42, Tryd.ntmps42
      go_wp2
      go_quiet (fail)
      go_wp2
      go_ret
      exact ⟨ret_int hw.out.symm, ⟨_, (HB.out.dn _).set 1 _, HF.out⟩, (But.dn w _).set 1 _⟩
end Go.Proofs.YtabbicfakkehpaaDoor
