/- Nets copied whole, into memory of their own. A region that draws its order: a load of a whole struct may be taken first where nothing old is written. GoodMsg: what is good, and the specification's side. The fields of a kind, on both sides. GoodMsg of the specification. What answers nets are, and when a net is good, in numbers. Ways through the ring: what a walk, a step and a route are, in numbers. Ways through the ring: each forward brings the end nearer. Ways through the ring: with forwards enough the owner is found, and never another one. Ways through the ring: the best number to begin with. The row of a number's digits: what rowOf answers. DigitsOf on both sides: the digits, the highest first, in new memory. The best number to begin with, on both sides. BestImag on both sides. Structs in blocks of their own: read, written cell by cell, written whole, answered. Ways through the ring: the small helpers of both sides. -/
import Derived.Deep.RegionHeld
import Derived.BigQuiet
import Derived.Deep.QuietTactic
import Derived.Laws.Rows
import Derived.Laws.Tables
import Derived.Laws.CopyOwn
import Derived.Deep.DeepCutAuto
import Derived.Test.YtdceimnapbblnaaGreatZ0
import Derived.Test.YtdceimnapbblnaaGreatZ1
import Derived.Test.YtdceimnapbblnaaGreatZ2
import Derived.Test.YtdceimnapbblnaaGreatZ3
namespace Go.Proofs.YtdceimnapbblnaaGreat
open Go.RowKit
set_option linter.unusedVariables false
set_option linter.unusedSimpArgs false
/-- the copier's three blocks: what came in, the answer, the copy -/
structure TN (w wr : World) (A R O : Array Value) : Prop where
  bel : Below w.heap.size w wr
  ka : Wire.Bk wr w.heap.size A 71
  kr : Wire.Bk wr (w.heap.size + 1) R 36
  ko : Wire.Bk wr (w.heap.size + 1 + 1) O 36
theorem TN.keep {w wr w1 : World} {A R O : Array Value} (h : TN w wr A R O) (hb : Below wr.heap.size wr w1) : TN w w1 A R O := ⟨belt h.bel hb, h.ka.keep hb, h.kr.keep hb, h.ko.keep hb⟩
theorem wireOth {w : World} {g k : Nat} {C : Array Value} {T : TypeId} (h : Wire.Bk w g C T) (hk : ¬ g = k) (i : Nat) (vs : List Value) : Wire.Bk (Wire.setL w k i vs) g C T := (Wire.setL_oth hk vs w i).trans h
theorem TN.put {w wr : World} {A R O : Array Value} (h : TN w wr A R O) (i : Nat) (vs : List Value) : TN w (Wire.setL wr (w.heap.size + 1 + 1) i vs) A R (Wire.ovr O i vs) :=
  ⟨Wire.setL_below (by omega) vs i h.bel, wireOth h.ka (by omega) i vs, wireOth h.kr (by omega) i vs, h.ko.setL vs i⟩
theorem TN.res {w wr : World} {A R O : Array Value} (h : TN w wr A R O) (i : Nat) (vs : List Value) : TN w (Wire.setL wr (w.heap.size + 1) i vs) A (Wire.ovr R i vs) O :=
  ⟨Wire.setL_below (by omega) vs i h.bel, wireOth h.ka (by omega) i vs, h.kr.setL vs i, wireOth h.ko (by omega) i vs⟩
theorem tn0 (w : World) (A Z O : Array Value) : TN w (((w.alloc (.cells A 71)).alloc (.cells Z 36)).alloc (.cells O 36)) A Z O := by
  obtain ⟨h1, h2, h3, h4⟩ := Wire.bk3 (w := w) (A := A) (B := Z) (C := O) (S := 71) (T := 36) (U := 36) (Below.refl _ _)
  exact ⟨h4, h1, h2, h3⟩
theorem Wire.Bk.m7 {w : World} {g : Nat} {e0 e1 e2 e3 e4 e5 e6 : Value} {T : TypeId} (h : Wire.Bk w g #[e0, e1, e2, e3, e4, e5, e6] T) : w.cell? ⟨g, 0, none⟩ = some e0 ∧ w.cell? ⟨g, 1, none⟩ = some e1 ∧ w.cell? ⟨g, 2, none⟩ = some e2 ∧ w.cell? ⟨g, 3, none⟩ = some e3 ∧ w.cell? ⟨g, 4, none⟩ = some e4 ∧ w.cell? ⟨g, 5, none⟩ = some e5 ∧ w.cell? ⟨g, 6, none⟩ = some e6 := ⟨h.cell 0, h.cell 1, h.cell 2, h.cell 3, h.cell 4, h.cell 5, h.cell 6⟩
theorem Wire.Bk.g7 {w : World} {g : Nat} {C : Array Value} {T : TypeId} (h : Wire.Bk w g C T) : w.frozen? ⟨g, 0, none⟩ = false ∧ w.frozen? ⟨g, 1, none⟩ = false ∧ w.frozen? ⟨g, 2, none⟩ = false ∧ w.frozen? ⟨g, 3, none⟩ = false ∧ w.frozen? ⟨g, 4, none⟩ = false ∧ w.frozen? ⟨g, 5, none⟩ = false ∧ w.frozen? ⟨g, 6, none⟩ = false := ⟨h.fr 0, h.fr 1, h.fr 2, h.fr 3, h.fr 4, h.fr 5, h.fr 6⟩
theorem ovrA (z0 z1 z2 z3 z4 z5 z6 v0 v1 v2 v3 : Value) : Wire.ovr #[z0, z1, z2, z3, z4, z5, z6] 0 [v0, v1, v2, v3] = #[v0, v1, v2, v3, z4, z5, z6] := by simp [Wire.ovr]
theorem ovrB (z0 z1 z2 z3 z4 z5 z6 v : Value) : Wire.ovr #[z0, z1, z2, z3, z4, z5, z6] 4 [v] = #[z0, z1, z2, z3, v, z5, z6] := by simp [Wire.ovr]
theorem ovrC (z0 z1 z2 z3 z4 z5 z6 v : Value) : Wire.ovr #[z0, z1, z2, z3, z4, z5, z6] 5 [v] = #[z0, z1, z2, z3, z4, v, z6] := by simp [Wire.ovr]
theorem ovrD (z0 z1 z2 z3 z4 z5 z6 v : Value) : Wire.ovr #[z0, z1, z2, z3, z4, z5, z6] 6 [v] = #[z0, z1, z2, z3, z4, z5, v] := by simp [Wire.ovr]
theorem ovrE (z0 z1 z2 z3 z4 z5 z6 v0 v1 v2 v3 v4 v5 v6 : Value) : Wire.ovr #[z0, z1, z2, z3, z4, z5, z6] 0 [v0, v1, v2, v3, v4, v5, v6] = #[v0, v1, v2, v3, v4, v5, v6] := by simp [Wire.ovr]
set_option maxRecDepth 100000 in
set_option maxHeartbeats 6400000 in
theorem toNet_own (b d ttl : Int) (ap am ag ar : Option Addr) (cp cm cg cr : Nat) (ps : List Pr) (ms : List Mg) (gs : List Int) (rs : List Rp) (w : World) (hb : BigN ps ms gs rs) (hr : NetAt w ap am ag ar ps ms gs rs) :
    Calls Tryz.prog 39 #[.agg #[.int .i64 b, .int .i64 d, .slice ap ps.length cp, .int .i64 ttl, .slice am ms.length cm, .slice ag gs.length cg, .slice ar rs.length cr]] w fun e w' => ∃ ap' am' ag' ar', e = .returned (.agg #[.int .i64 b, .int .i64 d, .slice ap' ps.length ps.length, .int .i64 ttl, .slice am' ms.length ms.length, .slice ag' gs.length gs.length, .slice ar' rs.length rs.length]) ∧ OwnN w.heap.size w'.heap.size w' ap' am' ag' ar' ps.length ms.length gs.length rs.length ps ms gs rs ∧ Below w.heap.size w w' := by
  have HBG : Hid (BigN ps ms gs rs) := hb
  have HR : Hid (NetAt w ap am ag ar ps ms gs rs) := hr
  have N0 : Hid (TN w (((w.alloc (.cells #[.int .i64 b, .int .i64 d, .slice ap ps.length cp, .int .i64 ttl, .slice am ms.length cm, .slice ag gs.length cg, .slice ar rs.length cr] 71)).alloc (.cells #[.int .i64 0, .int .i64 0, .slice none 0 0, .int .i64 0, .slice none 0 0, .slice none 0 0, .slice none 0 0] 36)).alloc (.cells #[.int .i64 0, .int .i64 0, .slice none 0 0, .int .i64 0, .slice none 0 0, .slice none 0 0, .slice none 0 0] 36)) #[.int .i64 b, .int .i64 d, .slice ap ps.length cp, .int .i64 ttl, .slice am ms.length cm, .slice ag gs.length cg, .slice ar rs.length cr] #[.int .i64 0, .int .i64 0, .slice none 0 0, .int .i64 0, .slice none 0 0, .slice none 0 0, .slice none 0 0] #[.int .i64 0, .int .i64 0, .slice none 0 0, .int .i64 0, .slice none 0 0, .slice none 0 0, .slice none 0 0]) := tn0 w _ _ _
  clear hb hr
  go_enter Tryz.func39, Tryz.ntmps39
  go_wp2_with fail
  refine (toPeers_own b d ap cp ps _ HBG.out.p (HR.out.keep N0.out.bel).p).mono ?_
  rintro e w1 ⟨ap', rfl, OP, HW⟩
  have N1 : Hid (TN w w1 #[.int .i64 b, .int .i64 d, .slice ap ps.length cp, .int .i64 ttl, .slice am ms.length cm, .slice ag gs.length cg, .slice ar rs.length cr] #[.int .i64 0, .int .i64 0, .slice none 0 0, .int .i64 0, .slice none 0 0, .slice none 0 0, .slice none 0 0] #[.int .i64 0, .int .i64 0, .slice none 0 0, .int .i64 0, .slice none 0 0, .slice none 0 0, .slice none 0 0]) := N0.out.keep HW
  have OP1 : Hid (OwnPs (w.heap.size + 1 + 1 + 1) w1.heap.size w1 ap' ps.length ps) := by have h := OP; simp only [World.size_alloc] at h; exact h
  clear HW N0 OP
  obtain ⟨a0, a1, a2, a3, a4, a5, a6⟩ := Wire.Bk.m7 N1.out.ka
  obtain ⟨c0, c1, c2, c3, c4, c5, c6⟩ := Wire.Bk.m7 N1.out.ko
  obtain ⟨f0, f1, f2, f3, f4, f5, f6⟩ := Wire.Bk.g7 N1.out.ko
  go_wp2_with fail
  clear a0 a1 a2 a3 a4 a5 a6 c0 c1 c2 c3 c4 c5 c6 f0 f1 f2 f3 f4 f5 f6
  have N1x := N1.out.put 0 [.int .i64 b, .int .i64 d, .slice ap' ps.length ps.length, .int .i64 ttl]
  rw [ovrA] at N1x
  have N1y : Hid (TN w (Wire.setL w1 (w.heap.size + 1 + 1) 0 [.int .i64 b, .int .i64 d, .slice ap' ps.length ps.length, .int .i64 ttl]) #[.int .i64 b, .int .i64 d, .slice ap ps.length cp, .int .i64 ttl, .slice am ms.length cm, .slice ag gs.length cg, .slice ar rs.length cr] #[.int .i64 0, .int .i64 0, .slice none 0 0, .int .i64 0, .slice none 0 0, .slice none 0 0, .slice none 0 0] #[.int .i64 b, .int .i64 d, .slice ap' ps.length ps.length, .int .i64 ttl, .slice none 0 0, .slice none 0 0, .slice none 0 0]) := N1x
  clear N1x
  have OP1x : Hid (OwnPs (w.heap.size + 1 + 1 + 1) w1.heap.size (Wire.setL w1 (w.heap.size + 1 + 1) 0 [.int .i64 b, .int .i64 d, .slice ap' ps.length ps.length, .int .i64 ttl]) ap' ps.length ps) := OP1.out.blocks (fun k h1 _ _ => Wire.setL_oth (by omega) _ _ _)
  have S1 : Hid ((Wire.setL w1 (w.heap.size + 1 + 1) 0 [.int .i64 b, .int .i64 d, .slice ap' ps.length ps.length, .int .i64 ttl]).heap.size = w1.heap.size) := Wire.setL_size _ _ _
  clear N1 OP1
  refine (toMsgS_any am cm ms (Wire.setL w1 (w.heap.size + 1 + 1) 0 [.int .i64 b, .int .i64 d, .slice ap' ps.length ps.length, .int .i64 ttl]) HBG.out.m (HR.out.keep N1y.out.bel).m).mono ?_
  rintro e w2 ⟨am', rfl, OM, HW⟩
  have N2 : Hid (TN w w2 #[.int .i64 b, .int .i64 d, .slice ap ps.length cp, .int .i64 ttl, .slice am ms.length cm, .slice ag gs.length cg, .slice ar rs.length cr] #[.int .i64 0, .int .i64 0, .slice none 0 0, .int .i64 0, .slice none 0 0, .slice none 0 0, .slice none 0 0] #[.int .i64 b, .int .i64 d, .slice ap' ps.length ps.length, .int .i64 ttl, .slice none 0 0, .slice none 0 0, .slice none 0 0]) := N1y.out.keep HW
  have OP2 : Hid (OwnPs (w.heap.size + 1 + 1 + 1) w1.heap.size w2 ap' ps.length ps) := OP1x.out.keep HW
  have OM2 : Hid (OwnEs tyMg 102 w1.heap.size w2.heap.size w2 am' ms.length ms) := by have h := OM; rw [S1.out] at h; exact h
  have Z2 : Hid (w.heap.size + 1 + 1 + 1 ≤ w1.heap.size ∧ w1.heap.size ≤ w2.heap.size) := by have h1 := HW.size; rw [S1.out] at h1; have h2 := N1y.out.ko.lt; rw [S1.out] at h2; exact ⟨by omega, h1⟩
  clear HW OM N1y OP1x S1
  obtain ⟨a0, a1, a2, a3, a4, a5, a6⟩ := Wire.Bk.m7 N2.out.ka
  obtain ⟨c0, c1, c2, c3, c4, c5, c6⟩ := Wire.Bk.m7 N2.out.ko
  obtain ⟨f0, f1, f2, f3, f4, f5, f6⟩ := Wire.Bk.g7 N2.out.ko
  go_wp2_with fail
  clear a0 a1 a2 a3 a4 a5 a6 c0 c1 c2 c3 c4 c5 c6 f0 f1 f2 f3 f4 f5 f6
  have N2x := N2.out.put 4 [.slice am' ms.length ms.length]
  rw [ovrB] at N2x
  have N2y : Hid (TN w (Wire.setL w2 (w.heap.size + 1 + 1) 4 [.slice am' ms.length ms.length]) #[.int .i64 b, .int .i64 d, .slice ap ps.length cp, .int .i64 ttl, .slice am ms.length cm, .slice ag gs.length cg, .slice ar rs.length cr] #[.int .i64 0, .int .i64 0, .slice none 0 0, .int .i64 0, .slice none 0 0, .slice none 0 0, .slice none 0 0] #[.int .i64 b, .int .i64 d, .slice ap' ps.length ps.length, .int .i64 ttl, .slice am' ms.length ms.length, .slice none 0 0, .slice none 0 0]) := N2x
  clear N2x
  have OP2x : Hid (OwnPs (w.heap.size + 1 + 1 + 1) w1.heap.size (Wire.setL w2 (w.heap.size + 1 + 1) 4 [.slice am' ms.length ms.length]) ap' ps.length ps) := OP2.out.blocks (fun k h1 _ _ => Wire.setL_oth (by omega) _ _ _)
  have OM2x : Hid (OwnEs tyMg 102 w1.heap.size w2.heap.size (Wire.setL w2 (w.heap.size + 1 + 1) 4 [.slice am' ms.length ms.length]) am' ms.length ms) := OM2.out.blocks (fun k h1 _ _ => Wire.setL_oth (by have := Z2.out; omega) _ _ _)
  have S2 : Hid ((Wire.setL w2 (w.heap.size + 1 + 1) 4 [.slice am' ms.length ms.length]).heap.size = w2.heap.size) := Wire.setL_size _ _ _
  clear N2 OP2 OM2
  refine (toIntS_own ag cg gs (Wire.setL w2 (w.heap.size + 1 + 1) 4 [.slice am' ms.length ms.length]) HBG.out.g (HR.out.keep N2y.out.bel).g).mono ?_
  rintro e w3 ⟨ag', rfl, OG, HW⟩
  have N3 : Hid (TN w w3 #[.int .i64 b, .int .i64 d, .slice ap ps.length cp, .int .i64 ttl, .slice am ms.length cm, .slice ag gs.length cg, .slice ar rs.length cr] #[.int .i64 0, .int .i64 0, .slice none 0 0, .int .i64 0, .slice none 0 0, .slice none 0 0, .slice none 0 0] #[.int .i64 b, .int .i64 d, .slice ap' ps.length ps.length, .int .i64 ttl, .slice am' ms.length ms.length, .slice none 0 0, .slice none 0 0]) := N2y.out.keep HW
  have OP3 : Hid (OwnPs (w.heap.size + 1 + 1 + 1) w1.heap.size w3 ap' ps.length ps) := OP2x.out.keep HW
  have OM3 : Hid (OwnEs tyMg 102 w1.heap.size w2.heap.size w3 am' ms.length ms) := OM2x.out.keep HW
  have OG3 : Hid (OwnLs w2.heap.size w3.heap.size w3 ag' gs.length gs) := by have h := OG; rw [S2.out] at h; exact h
  have Z3 : Hid (w2.heap.size ≤ w3.heap.size) := by have h1 := HW.size; rw [S2.out] at h1; exact h1
  clear HW OG N2y OP2x OM2x S2
  obtain ⟨a0, a1, a2, a3, a4, a5, a6⟩ := Wire.Bk.m7 N3.out.ka
  obtain ⟨c0, c1, c2, c3, c4, c5, c6⟩ := Wire.Bk.m7 N3.out.ko
  obtain ⟨f0, f1, f2, f3, f4, f5, f6⟩ := Wire.Bk.g7 N3.out.ko
  go_wp2_with fail
  clear a0 a1 a2 a3 a4 a5 a6 c0 c1 c2 c3 c4 c5 c6 f0 f1 f2 f3 f4 f5 f6
  have N3x := N3.out.put 5 [.slice ag' gs.length gs.length]
  rw [ovrC] at N3x
  have N3y : Hid (TN w (Wire.setL w3 (w.heap.size + 1 + 1) 5 [.slice ag' gs.length gs.length]) #[.int .i64 b, .int .i64 d, .slice ap ps.length cp, .int .i64 ttl, .slice am ms.length cm, .slice ag gs.length cg, .slice ar rs.length cr] #[.int .i64 0, .int .i64 0, .slice none 0 0, .int .i64 0, .slice none 0 0, .slice none 0 0, .slice none 0 0] #[.int .i64 b, .int .i64 d, .slice ap' ps.length ps.length, .int .i64 ttl, .slice am' ms.length ms.length, .slice ag' gs.length gs.length, .slice none 0 0]) := N3x
  clear N3x
  have OP3x : Hid (OwnPs (w.heap.size + 1 + 1 + 1) w1.heap.size (Wire.setL w3 (w.heap.size + 1 + 1) 5 [.slice ag' gs.length gs.length]) ap' ps.length ps) := OP3.out.blocks (fun k h1 _ _ => Wire.setL_oth (by omega) _ _ _)
  have OM3x : Hid (OwnEs tyMg 102 w1.heap.size w2.heap.size (Wire.setL w3 (w.heap.size + 1 + 1) 5 [.slice ag' gs.length gs.length]) am' ms.length ms) := OM3.out.blocks (fun k h1 _ _ => Wire.setL_oth (by have := Z2.out; omega) _ _ _)
  have OG3x : Hid (OwnLs w2.heap.size w3.heap.size (Wire.setL w3 (w.heap.size + 1 + 1) 5 [.slice ag' gs.length gs.length]) ag' gs.length gs) := OG3.out.blocks (fun k h1 _ _ => Wire.setL_oth (by have := Z2.out; omega) _ _ _)
  have S3 : Hid ((Wire.setL w3 (w.heap.size + 1 + 1) 5 [.slice ag' gs.length gs.length]).heap.size = w3.heap.size) := Wire.setL_size _ _ _
  clear N3 OP3 OM3 OG3
  refine (toReplyS_any ar cr rs (Wire.setL w3 (w.heap.size + 1 + 1) 5 [.slice ag' gs.length gs.length]) HBG.out.r (HR.out.keep N3y.out.bel).r).mono ?_
  rintro e w4 ⟨ar', rfl, OQ, HW⟩
  have N4 : Hid (TN w w4 #[.int .i64 b, .int .i64 d, .slice ap ps.length cp, .int .i64 ttl, .slice am ms.length cm, .slice ag gs.length cg, .slice ar rs.length cr] #[.int .i64 0, .int .i64 0, .slice none 0 0, .int .i64 0, .slice none 0 0, .slice none 0 0, .slice none 0 0] #[.int .i64 b, .int .i64 d, .slice ap' ps.length ps.length, .int .i64 ttl, .slice am' ms.length ms.length, .slice ag' gs.length gs.length, .slice none 0 0]) := N3y.out.keep HW
  have OP4 : Hid (OwnPs (w.heap.size + 1 + 1 + 1) w1.heap.size w4 ap' ps.length ps) := OP3x.out.keep HW
  have OM4 : Hid (OwnEs tyMg 102 w1.heap.size w2.heap.size w4 am' ms.length ms) := OM3x.out.keep HW
  have OG4 : Hid (OwnLs w2.heap.size w3.heap.size w4 ag' gs.length gs) := OG3x.out.keep HW
  have OQ4 : Hid (OwnEs tyRp 45 w3.heap.size w4.heap.size w4 ar' rs.length rs) := by have h := OQ; rw [S3.out] at h; exact h
  have Z4 : Hid (w3.heap.size ≤ w4.heap.size) := by have h1 := HW.size; rw [S3.out] at h1; exact h1
  clear HW OQ N3y OP3x OM3x OG3x S3
  obtain ⟨a0, a1, a2, a3, a4, a5, a6⟩ := Wire.Bk.m7 N4.out.ka
  obtain ⟨c0, c1, c2, c3, c4, c5, c6⟩ := Wire.Bk.m7 N4.out.ko
  obtain ⟨f0, f1, f2, f3, f4, f5, f6⟩ := Wire.Bk.g7 N4.out.ko
  obtain ⟨r0, r1, r2, r3, r4, r5, r6⟩ := Wire.Bk.m7 N4.out.kr
  obtain ⟨s0, s1, s2, s3, s4, s5, s6⟩ := Wire.Bk.g7 N4.out.kr
  go_wp2
  clear a0 a1 a2 a3 a4 a5 a6 c0 c1 c2 c3 c4 c5 c6 f0 f1 f2 f3 f4 f5 f6 r0 r1 r2 r3 r4 r5 r6 s0 s1 s2 s3 s4 s5 s6
  have N5 := (N4.out.put 6 [.slice ar' rs.length rs.length]).res 0 [.int .i64 b, .int .i64 d, .slice ap' ps.length ps.length, .int .i64 ttl, .slice am' ms.length ms.length, .slice ag' gs.length gs.length, .slice ar' rs.length rs.length]
  rw [ovrD, ovrE] at N5
  have N5x : Hid (TN w (Wire.setL (Wire.setL w4 (w.heap.size + 1 + 1) 6 [.slice ar' rs.length rs.length]) (w.heap.size + 1) 0 [.int .i64 b, .int .i64 d, .slice ap' ps.length ps.length, .int .i64 ttl, .slice am' ms.length ms.length, .slice ag' gs.length gs.length, .slice ar' rs.length rs.length]) #[.int .i64 b, .int .i64 d, .slice ap ps.length cp, .int .i64 ttl, .slice am ms.length cm, .slice ag gs.length cg, .slice ar rs.length cr] #[.int .i64 b, .int .i64 d, .slice ap' ps.length ps.length, .int .i64 ttl, .slice am' ms.length ms.length, .slice ag' gs.length gs.length, .slice ar' rs.length rs.length] #[.int .i64 b, .int .i64 d, .slice ap' ps.length ps.length, .int .i64 ttl, .slice am' ms.length ms.length, .slice ag' gs.length gs.length, .slice ar' rs.length rs.length]) := N5
  clear N5
  have hoth : ∀ k, w.heap.size + 1 + 1 < k → (Wire.setL (Wire.setL w4 (w.heap.size + 1 + 1) 6 [.slice ar' rs.length rs.length]) (w.heap.size + 1) 0 [.int .i64 b, .int .i64 d, .slice ap' ps.length ps.length, .int .i64 ttl, .slice am' ms.length ms.length, .slice ag' gs.length gs.length, .slice ar' rs.length rs.length]).heap[k]? = w4.heap[k]? := fun k hk => (Wire.setL_oth (by omega) _ _ _).trans (Wire.setL_oth (by omega) _ _ _)
  have hsz : (Wire.setL (Wire.setL w4 (w.heap.size + 1 + 1) 6 [.slice ar' rs.length rs.length]) (w.heap.size + 1) 0 [.int .i64 b, .int .i64 d, .slice ap' ps.length ps.length, .int .i64 ttl, .slice am' ms.length ms.length, .slice ag' gs.length gs.length, .slice ar' rs.length rs.length]).heap.size = w4.heap.size := (Wire.setL_size _ _ _).trans (Wire.setL_size _ _ _)
  have OE : Hid (OwnN w.heap.size (Wire.setL (Wire.setL w4 (w.heap.size + 1 + 1) 6 [.slice ar' rs.length rs.length]) (w.heap.size + 1) 0 [.int .i64 b, .int .i64 d, .slice ap' ps.length ps.length, .int .i64 ttl, .slice am' ms.length ms.length, .slice ag' gs.length gs.length, .slice ar' rs.length rs.length]).heap.size (Wire.setL (Wire.setL w4 (w.heap.size + 1 + 1) 6 [.slice ar' rs.length rs.length]) (w.heap.size + 1) 0 [.int .i64 b, .int .i64 d, .slice ap' ps.length ps.length, .int .i64 ttl, .slice am' ms.length ms.length, .slice ag' gs.length gs.length, .slice ar' rs.length rs.length]) ap' am' ag' ar' ps.length ms.length gs.length rs.length ps ms gs rs) := by
    rw [hsz]
    have z2 := Z2.out
    have z3 := Z3.out
    have z4 := Z4.out
    exact ⟨⟨w.heap.size + 1 + 1 + 1, w1.heap.size, w1.heap.size, w2.heap.size, w2.heap.size, w3.heap.size, w3.heap.size, w4.heap.size, by omega, by omega, OP4.out.blocks (fun k h1 _ _ => hoth k (by omega)), OM4.out.blocks (fun k h1 _ _ => hoth k (by omega)), OG4.out.blocks (fun k h1 _ _ => hoth k (by omega)), OQ4.out.blocks (fun k h1 _ _ => hoth k (by omega))⟩⟩
  refine bodyPost_ret (results_cell_row Tryz.results39 _ _ (w.heap.size + 1) _ _ _ _ rfl N5x.out.kr Tryz.underlying36 rfl (by kernel_rfl)) rfl ⟨_, _, _, _, rfl, OE.out, N5x.out.bel⟩
end Go.Proofs.YtdceimnapbblnaaGreat
namespace Go.Proofs.YtdceimnapbblnaaGreat.Wire
open Go.RowKit Go.Deep
set_option linter.unusedVariables false
theorem belA (w : World) (o : Obj) : Below w.heap.size w (w.alloc o) := (Below.refl _ _).alloc (Nat.le_refl _) o
def isRowD (d : TypeDesc) : Bool := match d with | .struct _ | .array _ _ => true | _ => false
theorem results_cell_tmp {fn : Func} {p q : Tmp} {ty : TypeId} (h : fn.results = #[.cell p ty, .tmp q]) (tmps : Array Value) (w : World) (g : Nat) (t : TypeId) (cs : Array Value) (fr : Nat × Nat) (d : TypeDesc) (u : Value)
    (hp : tmps.getD p undef = .pointer (some ⟨g, 0, none⟩)) (hq : tmps.getD q undef = u) (hg : w.heap[g]? = some (.cells cs t fr))
    (hu : Tryz.prog.underlying ty = some d) (hd : isRowD d = true) (hi : (Tryz.prog.info? ty).map (·.size) = some cs.size) :
    (results fn tmps).run Tryz.prog w = .ok (.tuple #[.agg cs, u]) w := by
  have hp' : tmps[p]?.getD undef = .pointer (some ⟨g, 0, none⟩) := by simpa using hp
  have hq' : tmps[q]?.getD undef = u := by simpa using hq
  have hl := run_loadVar_row w g t ty cs fr d hg hu (by cases d <;> first | rfl | (simp [isRowD] at hd)) hi
  simp [results, h, hp', hq', asAddr, hl]
theorem yieldsIf_bk {ops : Array Oper} {S : World → Prop} {op : Oper} {a : Act} {ty : TypeId} {x : Operand} (ho : op.op = .load ty x) (hw : Region.wanted op (yielded ops a.tmps) = true) {g : Nat} (hx : a.eval x = .pointer (some ⟨g, 0, none⟩)) {C : Array Value} {T : TypeId} {d : TypeDesc} (hS : ∀ w, S w → Bk w g C T)
    (hu : Tryz.prog.underlying ty = some d) (hd : isRowD d = true) (hi : (Tryz.prog.info? ty).map (·.size) = some C.size) : YieldsIf Tryz.prog ops S op (.agg C) a :=
  .inl ⟨hw, fun w hw' => by
    unfold execOp
    simp only [ho, hx, Instr.loadAt, Instr.sureAddr, Sem.run_bind, Sem.run_pure, Result.andThen_ok, run_loadVar_row w g T ty C (0, 0) d (hS w hw') hu (by cases d <;> first | rfl | (simp [isRowD] at hd)) hi]⟩
end Go.Proofs.YtdceimnapbblnaaGreat.Wire
namespace Go.Proofs.YtdceimnapbblnaaGreat.Wire
open Go.RowKit
set_option linter.unusedVariables false
def hasB (zs : List Int) (x : Int) : Bool := decide (∃ i, i < zs.length ∧ zs.getD i 0 = x)
set_option maxHeartbeats 800000 in
theorem lhas_any (a : Option Addr) (cap : Nat) (zs : List Int) (x : Int) (w : World) (hm : zs.length ≤ maxLen) (hr : RowAt w a zs) :
    Calls Tryz.prog 87 #[.slice a zs.length cap, .int .i64 x] w fun e w' => e = .returned (.bool (hasB zs x)) ∧ w' = w := by
  unfold maxLen at hm
  have HR : Hid (RowAt w a zs) := hr
  clear hr
  go_enter Tryz.func87, Tryz.ntmps87
  go_wp2_with fail
  go_loop [9] (fun v => ∃ k : Nat, k ≤ zs.length ∧ v = .int .i64 k ∧ Hid (∀ i, i < k → ¬ zs.getD i 0 = x)) (fun v => zs.length - (intOf v).toNat)
  case atStart => exact ⟨0, Nat.zero_le _, rfl, fun i hi => by omega⟩
  case round =>
    obtain ⟨k, hk, rfl, hs⟩ := hrel
    by_cases hlt : k < zs.length
    · obtain ⟨bk, off, rfl⟩ := rowAt_form HR.out (by omega)
      have hc1 := (rowAt_cell HR.out (by omega)).2 k hlt
      by_cases hx : zs.getD k 0 = x
      · have hv : Hid (hasB zs x = true) := decide_eq_true ⟨k, hlt, hx⟩
        have he : (zs.getD k 0 == x) = true := beq_iff_eq.2 hx
        clear hx
        generalize zs.getD k 0 = z at hc1 he
        go_wp2
        go_ret
        exact ⟨ret_bool hv.out.symm, rfl⟩
      · have hn : Hid (∀ i, i < k + 1 → ¬ zs.getD i 0 = x) := fun i hi => by
          by_cases he : i = k
          · subst he; exact hx
          · exact hs.out i (by omega)
        have he : (zs.getD k 0 == x) = false := by simp only [beq_eq_false_iff_ne, ne_eq]; exact hx
        clear hx
        generalize zs.getD k 0 = z at hc1 he
        go_wp2
        go_round
        case rel => exact ⟨k + 1, by omega, by go_num, hn⟩
        case measure => simp [intOf]; omega
    · have hv : Hid (hasB zs x = false) := decide_eq_false (fun ⟨i, hi, he⟩ => hs.out i (by omega) he)
      go_wp2
      go_ret
      exact ⟨ret_bool hv.out.symm, rfl⟩

theorem lhas_own (a : Option Addr) (cap n : Nat) (zs : List Int) (x : Int) (w : World) (hn : zs.length = n) (hm : n ≤ maxLen) (hr : RowAt w a zs) : Calls Tryz.prog 87 #[.slice a n cap, .int .i64 x] w fun e w' => e = .returned (.bool (hasB zs x)) ∧ w' = w := by
  subst hn
  exact lhas_any a cap zs x w hm hr
theorem lall_row (a : Option Addr) (cap n : Nat) (zs : List Int) (lo hi : Int) (w : World) (hn : zs.length = n) (hm : n ≤ maxLen) (hr : RowAt w a zs) :
    Calls Tryz.prog 65 #[.slice a n cap, .int .i64 lo, .int .i64 hi] w fun e w' => e = .returned (.bool (allB zs lo hi)) ∧ w' = w := by
  subst hn
  by_cases hz : 0 < zs.length
  · obtain ⟨bk, off, rfl⟩ := rowAt_form hr hz
    exact lall_some bk off cap zs lo hi w hm (rowAt_cell hr hz).2
  · obtain rfl : zs = [] := by cases zs; rfl; simp at hz
    go_enter Tryz.func65, Tryz.ntmps65
    go_wp2_with fail
    go_loop [11] (fun v => v = .int .i64 0) (fun v => 0)
    case atStart => rfl
    case round =>
      subst hrel
      go_wp2
      go_ret
      exact ⟨rfl, rfl⟩
set_option maxHeartbeats 800000 in
theorem lnums_row (b d : Int) (a : Option Addr) (cap n : Nat) (zs : List Int) (w : World) (hn : zs.length = n) (hm : n ≤ maxLen) (hr : RowAt w a zs) :
    Calls Tryz.prog 155 #[.agg #[.int .i64 b, .int .i64 d], .slice a n cap] w fun e w' => e = .returned (.bool (numsB b d zs)) ∧ Below w.heap.size w w' := by
  have HR : Hid (RowAt w a zs) := hr
  clear hr
  unfold numsB
  cases hg : gsB b d
  · go_enter Tryz.func155, Tryz.ntmps155
    go_wp2_with (go_at_call 171; refine (lspace_any _ _ _).mono ?_; rintro e w1 ⟨rfl, hw1⟩)
    go_ret
    exact ⟨rfl, ((Below.refl _ _).alloc (Nat.le_refl _) _).trans (hw1.mono (by simp))⟩
  · obtain ⟨hb1, hb2, _, _, _⟩ := gsB_true hg
    obtain ⟨hs1, hs2⟩ := sz_bd hb1 hb2
    cases hal : allB zs 0 (sz b - 1)
    all_goals
      go_enter Tryz.func155, Tryz.ntmps155
      go_wp2_with (first | (go_at_call 171; refine (lspace_any _ _ _).mono ?_; rintro e w1 ⟨rfl, hw1⟩; have hc1 := bcell hw1) | (go_at_call 172; refine (lsize_any _ _ _ hb1 hb2).mono ?_; rintro e w2 ⟨rfl, hw2⟩) | (go_at_call 65; refine (lall_row a cap n zs _ _ _ hn hm ?hcells).mono ?_; rotate_left; rintro e w3 ⟨rfl, rfl⟩))
      case hcells =>
        have g1 : Below w.heap.size w w1 := ((Below.refl _ _).alloc (Nat.le_refl _) _).trans (hw1.mono (by simp))
        exact HR.out.keep (g1.trans (hw2.mono (g1.size)))
      go_ret
      have g1 : Below w.heap.size w w1 := ((Below.refl _ _).alloc (Nat.le_refl _) _).trans (hw1.mono (by simp))
      exact ⟨rfl, g1.trans (hw2.mono (g1.size))⟩
def okF (b d x4 x5 x6 x7 : Int) (l : List Int) (f : Int) : Bool := if f = 1 then numB b d x4 else if f = 2 then numB b d x5 else if f = 3 then inB x6 0 (b / d) else if f = 4 then inB x7 0 1000 else decide (l.length ≤ 4) && numsB b d l
def noF (x4 x5 x6 x7 : Int) (l : List Int) (f : Int) : Bool := if f = 1 then decide (x4 = 0) else if f = 2 then decide (x5 = 0) else if f = 3 then decide (x6 = 0) else if f = 4 then decide (x7 = 0) else decide (l.length = 0)
theorem numsB_one (b d x : Int) : numsB b d [x] = numB b d x := numsB_1 b d x
theorem bel3 {w w1 : World} {o q r : Obj} {n : Nat} (h : Below n (((w.alloc o).alloc q).alloc r) w1) (hn : w.heap.size ≤ n) : Below w.heap.size w w1 := ((((Below.refl _ _).alloc (Nat.le_refl _) _).alloc (by simp) _).alloc (by simp; omega) _).trans (h.mono hn)
theorem rowAt_new1 (w : World) (x : Int) : RowAt (w.alloc (.cells #[.int .i64 x] 3)) (some ⟨w.heap.size, 0, none⟩) [x] := rowAt_of_row (l := [x]) (fr := (0, 0)) (heap_alloc_new _ _)
theorem rowAt_new3 (w : World) (o q : Obj) (x : Int) : RowAt (((w.alloc o).alloc q).alloc (.cells #[.int .i64 x] 3)) (some ⟨w.heap.size + 1 + 1, 0, none⟩) [x] := by
  have h := rowAt_new1 ((w.alloc o).alloc q) x
  simp only [World.size_alloc] at h
  exact h
theorem rowAt_new2 (w : World) (x y : Int) : RowAt (w.alloc (.cells #[.int .i64 x, .int .i64 y] 3)) (some ⟨w.heap.size, 0, none⟩) [x, y] := rowAt_of_row (l := [x, y]) (fr := (0, 0)) (heap_alloc_new _ _)
set_option maxHeartbeats 1600000 in
theorem lIs_any (b d : Int) (x0 x1 x2 x3 x4 x5 x6 x7 : Int) (a : Option Addr) (cap n : Nat) (l : List Int) (f : Int) (w : World) (hg : gsB b d = true) (hn : l.length = n) (hm : n ≤ maxLen) (hr : RowAt w a l) :
    Calls Tryz.prog 222 #[.agg #[.int .i64 b, .int .i64 d], .agg #[.int .i64 x0, .int .i64 x1, .int .i64 x2, .int .i64 x3, .int .i64 x4, .int .i64 x5, .int .i64 x6, .int .i64 x7, .slice a n cap], .int .i64 f] w fun e w' => e = .returned (.bool (okF b d x4 x5 x6 x7 l f)) ∧ Below w.heap.size w w' := by
  have HR : Hid (RowAt w a l) := hr
  have HG : Hid (gsB b d = true) := hg
  clear hr hg
  by_cases h1 : f = 1
  · have hv : Hid (okF b d x4 x5 x6 x7 l f = numsB b d [x4]) := by subst h1; exact (numsB_1 b d x4).symm
    subst h1
    go_enter Tryz.func222, Tryz.ntmps222
    go_wp2_with fail
    refine (lnums_row b d _ _ _ [x4] _ rfl (by simp [maxLen]) (rowAt_new3 w _ _ _)).mono ?_
    rintro e w1 ⟨rfl, hw⟩
    go_wp2
    go_ret
    exact ⟨ret_bool hv.out.symm, bel3 hw (by simp; try omega)⟩
  by_cases h2 : f = 2
  · have hv : Hid (okF b d x4 x5 x6 x7 l f = numsB b d [x5]) := by subst h2; exact (numsB_1 b d x5).symm
    subst h2
    go_enter Tryz.func222, Tryz.ntmps222
    go_wp2_with fail
    refine (lnums_row b d _ _ _ [x5] _ rfl (by simp [maxLen]) (rowAt_new3 w _ _ _)).mono ?_
    rintro e w1 ⟨rfl, hw⟩
    go_wp2
    go_ret
    exact ⟨ret_bool hv.out.symm, bel3 hw (by simp; try omega)⟩
  by_cases h3 : f = 3
  · have hv : Hid (okF b d x4 x5 x6 x7 l f = inB x6 0 (b / d)) := by subst h3; rfl
    subst h3
    obtain ⟨hb1, hb2, hd1, hd2, _⟩ := gsB_true HG.out
    go_enter Tryz.func222, Tryz.ntmps222
    go_wp2_with fail
    go_quiet ((go_at_call 93; exact Calls.quiet_of_same (lin_any _ _ _ _)))
    go_wp2
    go_ret
    exact ⟨ret_bool hv.out.symm, below_drewN (((Below.refl _ _).alloc (Nat.le_refl _) _).alloc (by simp) _) _⟩
  by_cases h4 : f = 4
  · have hv : Hid (okF b d x4 x5 x6 x7 l f = inB x7 0 1000) := by subst h4; rfl
    subst h4
    go_enter Tryz.func222, Tryz.ntmps222
    go_wp2_with (go_at_call 93; refine (lin_any _ _ _ _).mono ?_; rintro e w1 ⟨rfl, rfl⟩)
    go_ret
    exact ⟨ret_bool hv.out.symm, ((Below.refl _ _).alloc (Nat.le_refl _) _).alloc (by simp) _⟩
  have hv : Hid (okF b d x4 x5 x6 x7 l f = (decide (l.length ≤ 4) && numsB b d l)) := by unfold Hid okF; rw [if_neg h1, if_neg h2, if_neg h3, if_neg h4]
  have g1 : (f == 1) = false := beq_eq_false_iff_ne.2 h1
  have g2 : (f == 2) = false := beq_eq_false_iff_ne.2 h2
  have g3 : (f == 3) = false := beq_eq_false_iff_ne.2 h3
  have g4 : (f == 4) = false := beq_eq_false_iff_ne.2 h4
  clear h1 h2 h3 h4
  unfold maxLen at hm
  by_cases hl : n ≤ 4
  · have hv2 : Hid (okF b d x4 x5 x6 x7 l f = numsB b d l) := by unfold Hid; rw [hv.out, decide_eq_true (by omega)]; rfl
    go_enter Tryz.func222, Tryz.ntmps222
    go_wp2_with fail
    refine (lnums_row b d _ _ _ l _ hn (by unfold maxLen; omega) (HR.out.keep (((Below.refl _ _).alloc (Nat.le_refl _) _).alloc (by simp) _))).mono ?_
    rintro e w1 ⟨rfl, hw⟩
    go_wp2
    go_ret
    exact ⟨ret_bool hv2.out.symm, bel2 hw (by simp; try omega)⟩
  · have hv2 : Hid (okF b d x4 x5 x6 x7 l f = false) := by unfold Hid; rw [hv.out, decide_eq_false (by omega)]; rfl
    go_enter Tryz.func222, Tryz.ntmps222
    go_wp2
    go_ret
    exact ⟨ret_bool hv2.out.symm, ((Below.refl _ _).alloc (Nat.le_refl _) _).alloc (by simp) _⟩
set_option maxHeartbeats 1600000 in
theorem lNone_any (x0 x1 x2 x3 x4 x5 x6 x7 : Int) (a : Option Addr) (cap n : Nat) (l : List Int) (f : Int) (w : World) (hn : l.length = n) (hm : n ≤ maxLen) :
    Calls Tryz.prog 223 #[.agg #[.int .i64 x0, .int .i64 x1, .int .i64 x2, .int .i64 x3, .int .i64 x4, .int .i64 x5, .int .i64 x6, .int .i64 x7, .slice a n cap], .int .i64 f] w fun e w' => e = .returned (.bool (noF x4 x5 x6 x7 l f)) ∧ Below w.heap.size w w' := by
  unfold maxLen at hm
  by_cases h1 : f = 1
  · have hv : Hid (noF x4 x5 x6 x7 l f = decide (x4 = 0)) := by subst h1; rfl
    subst h1
    by_cases hz : x4 = 0
    · have hv2 : Hid (noF x4 x5 x6 x7 l 1 = true) := by unfold Hid; rw [hv.out]; exact decide_eq_true hz
      have hz' : (x4 == 0) = true := beq_iff_eq.2 hz
      clear hz hv
      go_enter Tryz.func223, Tryz.ntmps223
      go_wp2
      go_ret
      exact ⟨ret_bool (by rw [hv2.out]), (Below.refl _ _).alloc (Nat.le_refl _) _⟩
    · have hv2 : Hid (noF x4 x5 x6 x7 l 1 = false) := by unfold Hid; rw [hv.out]; exact decide_eq_false hz
      have hz' : (x4 == 0) = false := beq_eq_false_iff_ne.2 hz
      clear hz hv
      go_enter Tryz.func223, Tryz.ntmps223
      go_wp2
      go_ret
      exact ⟨ret_bool (by rw [hv2.out]), (Below.refl _ _).alloc (Nat.le_refl _) _⟩
  by_cases h2 : f = 2
  · have hv : Hid (noF x4 x5 x6 x7 l f = decide (x5 = 0)) := by subst h2; rfl
    subst h2
    by_cases hz : x5 = 0
    · have hv2 : Hid (noF x4 x5 x6 x7 l 2 = true) := by unfold Hid; rw [hv.out]; exact decide_eq_true hz
      have hz' : (x5 == 0) = true := beq_iff_eq.2 hz
      clear hz hv
      go_enter Tryz.func223, Tryz.ntmps223
      go_wp2
      go_ret
      exact ⟨ret_bool (by rw [hv2.out]), (Below.refl _ _).alloc (Nat.le_refl _) _⟩
    · have hv2 : Hid (noF x4 x5 x6 x7 l 2 = false) := by unfold Hid; rw [hv.out]; exact decide_eq_false hz
      have hz' : (x5 == 0) = false := beq_eq_false_iff_ne.2 hz
      clear hz hv
      go_enter Tryz.func223, Tryz.ntmps223
      go_wp2
      go_ret
      exact ⟨ret_bool (by rw [hv2.out]), (Below.refl _ _).alloc (Nat.le_refl _) _⟩
  by_cases h3 : f = 3
  · have hv : Hid (noF x4 x5 x6 x7 l f = decide (x6 = 0)) := by subst h3; rfl
    subst h3
    by_cases hz : x6 = 0
    · have hv2 : Hid (noF x4 x5 x6 x7 l 3 = true) := by unfold Hid; rw [hv.out]; exact decide_eq_true hz
      have hz' : (x6 == 0) = true := beq_iff_eq.2 hz
      clear hz hv
      go_enter Tryz.func223, Tryz.ntmps223
      go_wp2
      go_ret
      exact ⟨ret_bool (by rw [hv2.out]), (Below.refl _ _).alloc (Nat.le_refl _) _⟩
    · have hv2 : Hid (noF x4 x5 x6 x7 l 3 = false) := by unfold Hid; rw [hv.out]; exact decide_eq_false hz
      have hz' : (x6 == 0) = false := beq_eq_false_iff_ne.2 hz
      clear hz hv
      go_enter Tryz.func223, Tryz.ntmps223
      go_wp2
      go_ret
      exact ⟨ret_bool (by rw [hv2.out]), (Below.refl _ _).alloc (Nat.le_refl _) _⟩
  by_cases h4 : f = 4
  · have hv : Hid (noF x4 x5 x6 x7 l f = decide (x7 = 0)) := by subst h4; rfl
    subst h4
    by_cases hz : x7 = 0
    · have hv2 : Hid (noF x4 x5 x6 x7 l 4 = true) := by unfold Hid; rw [hv.out]; exact decide_eq_true hz
      have hz' : (x7 == 0) = true := beq_iff_eq.2 hz
      clear hz hv
      go_enter Tryz.func223, Tryz.ntmps223
      go_wp2
      go_ret
      exact ⟨ret_bool (by rw [hv2.out]), (Below.refl _ _).alloc (Nat.le_refl _) _⟩
    · have hv2 : Hid (noF x4 x5 x6 x7 l 4 = false) := by unfold Hid; rw [hv.out]; exact decide_eq_false hz
      have hz' : (x7 == 0) = false := beq_eq_false_iff_ne.2 hz
      clear hz hv
      go_enter Tryz.func223, Tryz.ntmps223
      go_wp2
      go_ret
      exact ⟨ret_bool (by rw [hv2.out]), (Below.refl _ _).alloc (Nat.le_refl _) _⟩
  have hv : Hid (noF x4 x5 x6 x7 l f = decide (l.length = 0)) := by unfold Hid noF; rw [if_neg h1, if_neg h2, if_neg h3, if_neg h4]
  have g1 : (f == 1) = false := beq_eq_false_iff_ne.2 h1
  have g2 : (f == 2) = false := beq_eq_false_iff_ne.2 h2
  have g3 : (f == 3) = false := beq_eq_false_iff_ne.2 h3
  have g4 : (f == 4) = false := beq_eq_false_iff_ne.2 h4
  clear h1 h2 h3 h4
  by_cases hz : n = 0
  · have hv2 : Hid (noF x4 x5 x6 x7 l f = true) := by unfold Hid; rw [hv.out]; exact decide_eq_true (by omega)
    have hz' : ((n : Int) == 0) = true := by simp [hz]
    clear hz hv
    go_enter Tryz.func223, Tryz.ntmps223
    go_wp2
    go_ret
    exact ⟨ret_bool (by rw [hv2.out]), (Below.refl _ _).alloc (Nat.le_refl _) _⟩
  · have hv2 : Hid (noF x4 x5 x6 x7 l f = false) := by unfold Hid; rw [hv.out]; exact decide_eq_false (by omega)
    have hz' : ((n : Int) == 0) = false := by simp [hz]
    clear hz hv
    go_enter Tryz.func223, Tryz.ntmps223
    go_wp2
    go_ret
    exact ⟨ret_bool (by rw [hv2.out]), (Below.refl _ _).alloc (Nat.le_refl _) _⟩
end Go.Proofs.YtdceimnapbblnaaGreat.Wire
namespace Go.Proofs.YtdceimnapbblnaaGreat.Wire
open Go.RowKit
set_option linter.unusedVariables false
def fld (k : Int) : List Int := if k = 1 then [1, 2, 3, 4] else if k = 2 then [1, 2, 4] else if k = 3 ∨ k = 7 then [1, 4] else if k = 5 then [1, 5] else if k = 8 then [1] else []
theorem fld_big (k : Int) : (fld k).length ≤ 4 := by
  unfold fld; repeat' split
  all_goals simp
def kdB (k : Int) : Bool := inB k 1 8
def fldL (k : Int) : List Int := if kdB k = true then fld k else []
theorem fldL_big (k : Int) : (fldL k).length ≤ 1048576 := by
  unfold fldL; split
  · have := fld_big k; omega
  · simp
theorem fldL_eq (k : Int) : fldL k = fld k := by
  unfold fldL
  split
  · rfl
  · rename_i h
    have := inB_false (Bool.eq_false_iff.2 h)
    unfold fld
    rw [if_neg (by omega), if_neg (by omega), if_neg (by omega), if_neg (by omega), if_neg (by omega)]
theorem isKind_any (k : Int) (w : World) : Calls Tryz.prog 207 #[.int .i64 k] w fun e w' => e = .returned (.bool (kdB k)) ∧ w' = w := by
  by_cases h1 : 1 ≤ k
  · by_cases h2 : k ≤ 8
    · have hv : Hid (kdB k = true) := inB_yes h1 h2
      go_enter Tryz.func207, Tryz.ntmps207
      go_wp2
      go_ret
      exact ⟨ret_bool hv.out.symm, rfl⟩
    · have hv : Hid (kdB k = false) := inB_no (by omega)
      go_enter Tryz.func207, Tryz.ntmps207
      go_wp2
      go_ret
      exact ⟨ret_bool hv.out.symm, rfl⟩
  · have hv : Hid (kdB k = false) := inB_no (by omega)
    go_enter Tryz.func207, Tryz.ntmps207
    go_wp2
    go_ret
    exact ⟨ret_bool hv.out.symm, rfl⟩
theorem ownLs_lit {w w' : World} {l : List Int} {n : Nat} {cs : Array Value} {a : Option Addr} (hc : cs = zv l) (hw : w' = w.alloc (.cells cs 3)) (hn : l.length = n) (ha : a = some ⟨w.heap.size, 0, none⟩) : OwnLs w.heap.size w'.heap.size w' a n l ∧ Below w.heap.size w w' := by
  subst hc; subst hw; subst ha
  refine ⟨⟨hn, .inr ⟨_, rfl, by simp, Nat.le_refl _, _, heap_alloc_new _ _, ?_⟩⟩, (Below.refl _ _).alloc (Nat.le_refl _) _⟩
  rw [List.take_of_length_le (by simp [zv])]; simp [zv]
def FldR (w : World) (l : List Int) (e : Ending) (w' : World) : Prop := ∃ a n c, e = .returned (.slice a n c) ∧ l.length = n ∧ n ≤ c ∧ OwnLs w.heap.size w'.heap.size w' a n l ∧ Below w.heap.size w w'
theorem fldR_lit {w w' : World} {l : List Int} {n : Nat} {cs : Array Value} {a : Option Addr} (hc : cs = zv l) (hw : w' = w.alloc (.cells cs 3)) (hn : l.length = n) (ha : a = some ⟨w.heap.size, 0, none⟩) : FldR w l (.returned (.slice a n n)) w' :=
  ⟨_, _, _, rfl, hn, Nat.le_refl _, ownLs_lit hc hw hn ha⟩
theorem fldR_nil (w : World) : FldR w [] (.returned (.slice none 0 0)) w := ⟨_, _, _, rfl, rfl, Nat.le_refl _, ⟨rfl, .inl rfl⟩, Below.refl _ _⟩
set_option maxHeartbeats 800000 in
theorem fieldsOf_any (k : Int) (w : World) : Calls Tryz.prog 209 #[.int .i64 k] w (FldR w (fld k)) := by
  by_cases h1 : k = 1
  · have hv : Hid (fld k = [1, 2, 3, 4]) := by subst h1; rfl
    subst h1
    go_enter Tryz.func209, Tryz.ntmps209
    go_wp2
    go_ret
    rw [hv.out]; exact fldR_lit rfl rfl rfl rfl
  by_cases h2 : k = 2
  · have hv : Hid (fld k = [1, 2, 4]) := by subst h2; rfl
    subst h2
    go_enter Tryz.func209, Tryz.ntmps209
    go_wp2
    go_ret
    rw [hv.out]; exact fldR_lit rfl rfl rfl rfl
  by_cases h3 : k = 3
  · have hv : Hid (fld k = [1, 4]) := by subst h3; rfl
    subst h3
    go_enter Tryz.func209, Tryz.ntmps209
    go_wp2
    go_ret
    rw [hv.out]; exact fldR_lit rfl rfl rfl rfl
  by_cases h7 : k = 7
  · have hv : Hid (fld k = [1, 4]) := by subst h7; rfl
    subst h7
    go_enter Tryz.func209, Tryz.ntmps209
    go_wp2
    go_ret
    rw [hv.out]; exact fldR_lit rfl rfl rfl rfl
  by_cases h5 : k = 5
  · have hv : Hid (fld k = [1, 5]) := by subst h5; rfl
    subst h5
    go_enter Tryz.func209, Tryz.ntmps209
    go_wp2
    go_ret
    rw [hv.out]; exact fldR_lit rfl rfl rfl rfl
  by_cases h8 : k = 8
  · have hv : Hid (fld k = [1]) := by subst h8; rfl
    subst h8
    go_enter Tryz.func209, Tryz.ntmps209
    go_wp2
    go_ret
    rw [hv.out]; exact fldR_lit rfl rfl rfl rfl
  have hv : Hid (fld k = []) := by unfold Hid fld; rw [if_neg h1, if_neg h2, if_neg (by omega), if_neg h5, if_neg h8]
  have g1 : (k == 1) = false := beq_eq_false_iff_ne.2 h1
  have g2 : (k == 2) = false := beq_eq_false_iff_ne.2 h2
  have g3 : (k == 3) = false := beq_eq_false_iff_ne.2 h3
  have g7 : (k == 7) = false := beq_eq_false_iff_ne.2 h7
  have g5 : (k == 5) = false := beq_eq_false_iff_ne.2 h5
  have g8 : (k == 8) = false := beq_eq_false_iff_ne.2 h8
  clear h1 h2 h3 h7 h5 h8
  go_enter Tryz.func209, Tryz.ntmps209
  go_wp2
  go_ret
  rw [hv.out]; exact fldR_nil w
set_option maxHeartbeats 800000 in
theorem lfieldsOf_any (k : Int) (w : World) : Calls Tryz.prog 221 #[.int .i64 k] w (FldR w (fld k)) := by
  by_cases h1 : k = 1
  · have hv : Hid (fld k = [1, 2, 3, 4]) := by subst h1; rfl
    subst h1
    go_enter Tryz.func221, Tryz.ntmps221
    go_wp2
    go_ret
    rw [hv.out]; exact fldR_lit rfl rfl rfl rfl
  by_cases h2 : k = 2
  · have hv : Hid (fld k = [1, 2, 4]) := by subst h2; rfl
    subst h2
    go_enter Tryz.func221, Tryz.ntmps221
    go_wp2
    go_ret
    rw [hv.out]; exact fldR_lit rfl rfl rfl rfl
  by_cases h3 : k = 3
  · have hv : Hid (fld k = [1, 4]) := by subst h3; rfl
    subst h3
    go_enter Tryz.func221, Tryz.ntmps221
    go_wp2
    go_ret
    rw [hv.out]; exact fldR_lit rfl rfl rfl rfl
  by_cases h7 : k = 7
  · have hv : Hid (fld k = [1, 4]) := by subst h7; rfl
    subst h7
    go_enter Tryz.func221, Tryz.ntmps221
    go_wp2
    go_ret
    rw [hv.out]; exact fldR_lit rfl rfl rfl rfl
  by_cases h5 : k = 5
  · have hv : Hid (fld k = [1, 5]) := by subst h5; rfl
    subst h5
    go_enter Tryz.func221, Tryz.ntmps221
    go_wp2
    go_ret
    rw [hv.out]; exact fldR_lit rfl rfl rfl rfl
  by_cases h8 : k = 8
  · have hv : Hid (fld k = [1]) := by subst h8; rfl
    subst h8
    go_enter Tryz.func221, Tryz.ntmps221
    go_wp2
    go_ret
    rw [hv.out]; exact fldR_lit rfl rfl rfl rfl
  have hv : Hid (fld k = []) := by unfold Hid fld; rw [if_neg h1, if_neg h2, if_neg (by omega), if_neg h5, if_neg h8]
  have g1 : (k == 1) = false := beq_eq_false_iff_ne.2 h1
  have g2 : (k == 2) = false := beq_eq_false_iff_ne.2 h2
  have g3 : (k == 3) = false := beq_eq_false_iff_ne.2 h3
  have g7 : (k == 7) = false := beq_eq_false_iff_ne.2 h7
  have g5 : (k == 5) = false := beq_eq_false_iff_ne.2 h5
  have g8 : (k == 8) = false := beq_eq_false_iff_ne.2 h8
  clear h1 h2 h3 h7 h5 h8
  go_enter Tryz.func221, Tryz.ntmps221
  go_wp2
  go_ret
  rw [hv.out]; exact fldR_nil w
end Go.Proofs.YtdceimnapbblnaaGreat.Wire
namespace Go.Proofs.YtdceimnapbblnaaGreat.Wire
open Go.RowKit
set_option linter.unusedVariables false

def fldB (b d x0 x4 x5 x6 x7 : Int) (l : List Int) (f : Int) : Bool := if hasB (fld x0) f = true then okF b d x4 x5 x6 x7 l f else noF x4 x5 x6 x7 l f
def gmB (b d x0 x1 x2 x3 x4 x5 x6 x7 : Int) (l : List Int) : Bool := numsB b d [x2, x3] && inB x0 1 8 && inB x1 0 255 && (fldB b d x0 x4 x5 x6 x7 l 1 && fldB b d x0 x4 x5 x6 x7 l 2 && fldB b d x0 x4 x5 x6 x7 l 3 && fldB b d x0 x4 x5 x6 x7 l 4 && fldB b d x0 x4 x5 x6 x7 l 5)
theorem gmB_n1 {b d x0 x1 x2 x3 x4 x5 x6 x7 : Int} {l : List Int} (h : numsB b d [x2, x3] = false) : gmB b d x0 x1 x2 x3 x4 x5 x6 x7 l = false := by unfold gmB; rw [h]; rfl
theorem gmB_n2 {b d x0 x1 x2 x3 x4 x5 x6 x7 : Int} {l : List Int} (h : inB x0 1 8 = false) : gmB b d x0 x1 x2 x3 x4 x5 x6 x7 l = false := by unfold gmB; rw [h]; simp
theorem gmB_n3 {b d x0 x1 x2 x3 x4 x5 x6 x7 : Int} {l : List Int} (h : inB x1 0 255 = false) : gmB b d x0 x1 x2 x3 x4 x5 x6 x7 l = false := by unfold gmB; rw [h]; simp
theorem gmB_n4 {b d x0 x1 x2 x3 x4 x5 x6 x7 : Int} {l : List Int} {f : Int} (h1 : 1 ≤ f) (h2 : f ≤ 5) (h : fldB b d x0 x4 x5 x6 x7 l f = false) : gmB b d x0 x1 x2 x3 x4 x5 x6 x7 l = false := by
  have : f = 1 ∨ f = 2 ∨ f = 3 ∨ f = 4 ∨ f = 5 := by omega
  unfold gmB
  rcases this with rfl | rfl | rfl | rfl | rfl <;> rw [h] <;> simp
theorem gmB_yes {b d x0 x1 x2 x3 x4 x5 x6 x7 : Int} {l : List Int} (h1 : numsB b d [x2, x3] = true) (h2 : inB x0 1 8 = true) (h3 : inB x1 0 255 = true) (h : ∀ f : Int, 1 ≤ f → f ≤ 5 → fldB b d x0 x4 x5 x6 x7 l f = true) : gmB b d x0 x1 x2 x3 x4 x5 x6 x7 l = true := by
  unfold gmB
  rw [h1, h2, h3, h 1 (by omega) (by omega), h 2 (by omega) (by omega), h 3 (by omega) (by omega), h 4 (by omega) (by omega), h 5 (by omega) (by omega)]
  rfl
theorem rowAt_new4 (w : World) (o q : Obj) (x y : Int) : RowAt (((w.alloc o).alloc q).alloc (.cells #[.int .i64 x, .int .i64 y] 3)) (some ⟨w.heap.size + 1 + 1, 0, none⟩) [x, y] := by
  have h := rowAt_new2 ((w.alloc o).alloc q) x y
  simp only [World.size_alloc] at h
  exact h
theorem numsB_gs {b d : Int} {l : List Int} (h : numsB b d l = true) : gsB b d = true := by unfold numsB at h; simp at h; exact h.1
theorem bk2n {w w1 : World} {A B : Array Value} {S T : TypeId} {o : Obj} {n : Nat} (hb : Below n (((w.alloc (.cells A S)).alloc (.cells B T)).alloc o) w1) (hn : w.heap.size + 1 < n) :
    Bk w1 w.heap.size A S ∧ Bk w1 (w.heap.size + 1) B T ∧ Below w.heap.size w w1 := by
  have h1 := (((Bk.new w A S).alloc (.cells B T)).alloc o).keepN hb (by omega)
  have h2 := ((Bk.new (w.alloc (.cells A S)) B T).alloc o).keepN hb (by simp; omega)
  simp only [World.size_alloc] at h2
  exact ⟨h1, h2, bel3 hb (by omega)⟩
set_option maxRecDepth 100000 in
set_option maxHeartbeats 3200000 in
theorem lGoodMsg_any (b d : Int) (x0 x1 x2 x3 x4 x5 x6 x7 : Int) (a : Option Addr) (cap n : Nat) (l : List Int) (w : World) (hn : l.length = n) (hm : n ≤ maxLen) (hr : RowAt w a l) :
    Calls Tryz.prog 149 #[.agg #[.int .i64 b, .int .i64 d], .agg #[.int .i64 x0, .int .i64 x1, .int .i64 x2, .int .i64 x3, .int .i64 x4, .int .i64 x5, .int .i64 x6, .int .i64 x7, .slice a n cap]] w fun e w' => e = .returned (.bool (gmB b d x0 x1 x2 x3 x4 x5 x6 x7 l)) ∧ Below w.heap.size w w' := by
  have HR : Hid (RowAt w a l) := hr
  clear hr
  have CN : ∀ w0, Calls Tryz.prog 155 #[.agg #[.int .i64 b, .int .i64 d], .slice (some ⟨w.heap.size + 1 + 1, 0, none⟩) 2 2] (((w.alloc (.cells #[.int .i64 b, .int .i64 d] 25)).alloc w0).alloc (.cells #[.int .i64 x2, .int .i64 x3] 3)) fun e w' => e = .returned (.bool (numsB b d [x2, x3])) ∧ Below (w.heap.size + 1 + 1 + 1) (((w.alloc (.cells #[.int .i64 b, .int .i64 d] 25)).alloc w0).alloc (.cells #[.int .i64 x2, .int .i64 x3] 3)) w' := by
    intro w0
    refine (lnums_row b d _ _ _ [x2, x3] _ rfl (by simp [maxLen]) (rowAt_new4 w _ _ _ _)).mono ?_
    rintro e w1 ⟨rfl, hw⟩
    exact ⟨rfl, hw.mono (by simp)⟩
  cases hn1 : numsB b d [x2, x3]
  · have hv : Hid (gmB b d x0 x1 x2 x3 x4 x5 x6 x7 l = false) := gmB_n1 hn1
    rw [hn1] at CN
    go_enter Tryz.func149, Tryz.ntmps149
    go_wp2_with (go_at_call 155; refine (CN _).mono ?_; rintro e w1 ⟨rfl, hw⟩)
    go_ret
    exact ⟨ret_bool hv.out.symm, bel3 hw (by omega)⟩
  have hg : Hid (gsB b d = true) := numsB_gs hn1
  rw [hn1] at CN
  cases hn2 : inB x0 1 8
  · have hv : Hid (gmB b d x0 x1 x2 x3 x4 x5 x6 x7 l = false) := gmB_n2 hn2
    go_enter Tryz.func149, Tryz.ntmps149
    go_wp2_with fail
    refine (CN _).mono ?_
    rintro e w1 ⟨rfl, hw⟩
    obtain ⟨K1, K2, HB⟩ := bk2n hw (by omega)
    obtain ⟨q0, q1, q2, q3, q4, q5, q6, q7, q8⟩ := K2.c9
    clear CN
    go_wp2_with (go_at_call 93; refine (lin_any _ _ _ _).mono ?_; rintro e w2 ⟨rfl, rfl⟩)
    go_ret
    exact ⟨ret_bool hv.out.symm, HB⟩
  cases hn3 : inB x1 0 255
  · have hv : Hid (gmB b d x0 x1 x2 x3 x4 x5 x6 x7 l = false) := gmB_n3 hn3
    go_enter Tryz.func149, Tryz.ntmps149
    go_wp2_with fail
    refine (CN _).mono ?_
    rintro e w1 ⟨rfl, hw⟩
    obtain ⟨K1, K2, HB⟩ := bk2n hw (by omega)
    obtain ⟨q0, q1, q2, q3, q4, q5, q6, q7, q8⟩ := K2.c9
    clear CN
    go_wp2_with (first | (go_at_call 93; refine (lin_any _ _ _ _).mono ?_; rintro e w2 ⟨rfl, rfl⟩))
    go_ret
    exact ⟨ret_bool hv.out.symm, HB⟩
  have HV : Hid ((∀ f : Int, 1 ≤ f → f ≤ 5 → fldB b d x0 x4 x5 x6 x7 l f = true) → gmB b d x0 x1 x2 x3 x4 x5 x6 x7 l = true) := fun h => gmB_yes hn1 hn2 hn3 h
  go_enter Tryz.func149, Tryz.ntmps149
  go_wp2_with fail
  refine (CN _).mono ?_
  rintro e w1 ⟨rfl, hw⟩
  obtain ⟨K1, K2, HB⟩ := bk2n hw (by omega)
  have HK1 : Hid (Bk w1 w.heap.size _ _) := K1
  have HK2 : Hid (Bk w1 (w.heap.size + 1) _ _) := K2
  have HBB : Hid (Below w.heap.size w w1) := HB
  clear CN hw K1 HB
  obtain ⟨q0, q1, q2, q3, q4, q5, q6, q7, q8⟩ := K2.c9
  clear K2
  go_wp2_with (first | (go_at_call 93; refine (lin_any _ _ _ _).mono ?_; rintro e w2 ⟨rfl, hw2⟩; have hw2' := hw2.symm; clear hw2; subst hw2'))
  clear q0 q1 q2 q3 q4 q5 q6 q7 q8
  go_loopw [5] (fun vf wr => ∃ i : Nat, i ≤ 5 ∧ vf = .int .i64 ((i : Int) + 1) ∧ Hid (∀ f : Int, 1 ≤ f → f ≤ i → fldB b d x0 x4 x5 x6 x7 l f = true) ∧ Hid (Below w1.heap.size w1 wr)) (fun vf _ => 6 - (intOf vf).toNat)
  case atStart => exact ⟨0, by omega, rfl, fun f h1 h2 => by omega, Below.refl _ _⟩
  case round =>
    obtain ⟨i, hi, rfl, hs, hb⟩ := hrel
    have K1 := HK1.out.keep hb.out
    have K2 := HK2.out.keep hb.out
    obtain ⟨s0, s1⟩ := K1.c2
    obtain ⟨q0, q1, q2, q3, q4, q5, q6, q7, q8⟩ := K2.c9
    by_cases hlt : i < 5
    · have hb0 := hb
      cases hh : hasB (fld x0) ((i : Int) + 1)
      · have HF : Hid (fldB b d x0 x4 x5 x6 x7 l ((i : Int) + 1) = noF x4 x5 x6 x7 l ((i : Int) + 1)) := by unfold Hid fldB; rw [hh]; rfl
        cases hv : noF x4 x5 x6 x7 l ((i : Int) + 1)
        · skip
          go_wp2_with fail
          refine (lfieldsOf_any x0 _).mono ?_
          rintro e v1 ⟨aF0, nF0, cF0, rfl, hnF0, hcF0, oF0, hw0⟩
          have hb1 : Hid (Below w1.heap.size w1 v1) := belt hb0.out hw0
          have F0 : Hid (RowAt v1 aF0 (fld x0)) := oF0.rowAt
          clear q0 q1 q2 q3 q4 q5 q6 q7 q8 s0 s1 hw0 oF0
          obtain ⟨s0, s1⟩ := Bk.c2 (HK1.out.keep hb1.out)
          obtain ⟨q0, q1, q2, q3, q4, q5, q6, q7, q8⟩ := Bk.c9 (HK2.out.keep hb1.out)
          go_wp2_with fail
          refine (lhas_own aF0 cF0 nF0 (fld x0) _ _ hnF0 (by have := fld_big x0; unfold maxLen; omega) F0.out).mono ?_
          rintro e vx ⟨rfl, hx⟩
          rw [hh]
          have hx' := hx.symm
          clear hx
          subst hx'
          go_wp2_with fail
          refine (lfieldsOf_any x0 _).mono ?_
          rintro e v2 ⟨aF1, nF1, cF1, rfl, hnF1, hcF1, oF1, hw1⟩
          have hb2 : Hid (Below w1.heap.size w1 v2) := belt hb1.out hw1
          have F1 : Hid (RowAt v2 aF1 (fld x0)) := oF1.rowAt
          clear q0 q1 q2 q3 q4 q5 q6 q7 q8 s0 s1 hw1 oF1
          obtain ⟨s0, s1⟩ := Bk.c2 (HK1.out.keep hb2.out)
          obtain ⟨q0, q1, q2, q3, q4, q5, q6, q7, q8⟩ := Bk.c9 (HK2.out.keep hb2.out)
          go_wp2_with fail
          refine (lhas_own aF1 cF1 nF1 (fld x0) _ _ hnF1 (by have := fld_big x0; unfold maxLen; omega) F1.out).mono ?_
          rintro e vx ⟨rfl, hx⟩
          rw [hh]
          have hx' := hx.symm
          clear hx
          subst hx'
          go_wp2_with fail
          refine (lNone_any x0 x1 x2 x3 x4 x5 x6 x7 a cap n l ((i : Int) + 1) _ hn hm).mono ?_
          rintro e v3 ⟨rfl, hw2⟩
          rw [hv]
          have hb3 : Hid (Below w1.heap.size w1 v3) := belt hb2.out hw2
          clear q0 q1 q2 q3 q4 q5 q6 q7 q8 s0 s1 hw2
          obtain ⟨s0, s1⟩ := Bk.c2 (HK1.out.keep hb3.out)
          obtain ⟨q0, q1, q2, q3, q4, q5, q6, q7, q8⟩ := Bk.c9 (HK2.out.keep hb3.out)
          have hz : Hid (gmB b d x0 x1 x2 x3 x4 x5 x6 x7 l = false) := gmB_n4 (f := (i : Int) + 1) (by omega) (by omega) (by rw [HF.out, hv])
          go_wp2
          go_ret
          exact ⟨ret_bool hz.out.symm, belt HBB.out hb3.out⟩
        · skip
          go_wp2_with fail
          refine (lfieldsOf_any x0 _).mono ?_
          rintro e v1 ⟨aF0, nF0, cF0, rfl, hnF0, hcF0, oF0, hw0⟩
          have hb1 : Hid (Below w1.heap.size w1 v1) := belt hb0.out hw0
          have F0 : Hid (RowAt v1 aF0 (fld x0)) := oF0.rowAt
          clear q0 q1 q2 q3 q4 q5 q6 q7 q8 s0 s1 hw0 oF0
          obtain ⟨s0, s1⟩ := Bk.c2 (HK1.out.keep hb1.out)
          obtain ⟨q0, q1, q2, q3, q4, q5, q6, q7, q8⟩ := Bk.c9 (HK2.out.keep hb1.out)
          go_wp2_with fail
          refine (lhas_own aF0 cF0 nF0 (fld x0) _ _ hnF0 (by have := fld_big x0; unfold maxLen; omega) F0.out).mono ?_
          rintro e vx ⟨rfl, hx⟩
          rw [hh]
          have hx' := hx.symm
          clear hx
          subst hx'
          go_wp2_with fail
          refine (lfieldsOf_any x0 _).mono ?_
          rintro e v2 ⟨aF1, nF1, cF1, rfl, hnF1, hcF1, oF1, hw1⟩
          have hb2 : Hid (Below w1.heap.size w1 v2) := belt hb1.out hw1
          have F1 : Hid (RowAt v2 aF1 (fld x0)) := oF1.rowAt
          clear q0 q1 q2 q3 q4 q5 q6 q7 q8 s0 s1 hw1 oF1
          obtain ⟨s0, s1⟩ := Bk.c2 (HK1.out.keep hb2.out)
          obtain ⟨q0, q1, q2, q3, q4, q5, q6, q7, q8⟩ := Bk.c9 (HK2.out.keep hb2.out)
          go_wp2_with fail
          refine (lhas_own aF1 cF1 nF1 (fld x0) _ _ hnF1 (by have := fld_big x0; unfold maxLen; omega) F1.out).mono ?_
          rintro e vx ⟨rfl, hx⟩
          rw [hh]
          have hx' := hx.symm
          clear hx
          subst hx'
          go_wp2_with fail
          refine (lNone_any x0 x1 x2 x3 x4 x5 x6 x7 a cap n l ((i : Int) + 1) _ hn hm).mono ?_
          rintro e v3 ⟨rfl, hw2⟩
          rw [hv]
          have hb3 : Hid (Below w1.heap.size w1 v3) := belt hb2.out hw2
          clear q0 q1 q2 q3 q4 q5 q6 q7 q8 s0 s1 hw2
          obtain ⟨s0, s1⟩ := Bk.c2 (HK1.out.keep hb3.out)
          obtain ⟨q0, q1, q2, q3, q4, q5, q6, q7, q8⟩ := Bk.c9 (HK2.out.keep hb3.out)
          have hz : Hid (∀ f : Int, 1 ≤ f → f ≤ ((i + 1 : Nat) : Int) → fldB b d x0 x4 x5 x6 x7 l f = true) := fun f h1 h2 => by
            by_cases he : f = (i : Int) + 1
            · rw [he, HF.out, hv]
            · exact hs.out f h1 (by omega)
          go_wp2
          go_roundw
          case rel => exact ⟨i + 1, by omega, by go_num, hz, hb3⟩
          case measure => simp [intOf]; omega
      · have HF : Hid (fldB b d x0 x4 x5 x6 x7 l ((i : Int) + 1) = okF b d x4 x5 x6 x7 l ((i : Int) + 1)) := by unfold Hid fldB; rw [hh]; rfl
        cases hv : okF b d x4 x5 x6 x7 l ((i : Int) + 1)
        · skip
          go_wp2_with fail
          refine (lfieldsOf_any x0 _).mono ?_
          rintro e v1 ⟨aF0, nF0, cF0, rfl, hnF0, hcF0, oF0, hw0⟩
          have hb1 : Hid (Below w1.heap.size w1 v1) := belt hb0.out hw0
          have F0 : Hid (RowAt v1 aF0 (fld x0)) := oF0.rowAt
          clear q0 q1 q2 q3 q4 q5 q6 q7 q8 s0 s1 hw0 oF0
          obtain ⟨s0, s1⟩ := Bk.c2 (HK1.out.keep hb1.out)
          obtain ⟨q0, q1, q2, q3, q4, q5, q6, q7, q8⟩ := Bk.c9 (HK2.out.keep hb1.out)
          go_wp2_with fail
          refine (lhas_own aF0 cF0 nF0 (fld x0) _ _ hnF0 (by have := fld_big x0; unfold maxLen; omega) F0.out).mono ?_
          rintro e vx ⟨rfl, hx⟩
          rw [hh]
          have hx' := hx.symm
          clear hx
          subst hx'
          go_wp2_with fail
          refine (lIs_any b d x0 x1 x2 x3 x4 x5 x6 x7 a cap n l ((i : Int) + 1) _ hg.out hn hm (HR.out.keep (belt HBB.out hb1.out))).mono ?_
          rintro e v2 ⟨rfl, hw1⟩
          rw [hv]
          have hb2 : Hid (Below w1.heap.size w1 v2) := belt hb1.out hw1
          clear q0 q1 q2 q3 q4 q5 q6 q7 q8 s0 s1 hw1
          obtain ⟨s0, s1⟩ := Bk.c2 (HK1.out.keep hb2.out)
          obtain ⟨q0, q1, q2, q3, q4, q5, q6, q7, q8⟩ := Bk.c9 (HK2.out.keep hb2.out)
          have hz : Hid (gmB b d x0 x1 x2 x3 x4 x5 x6 x7 l = false) := gmB_n4 (f := (i : Int) + 1) (by omega) (by omega) (by rw [HF.out, hv])
          go_wp2
          go_ret
          exact ⟨ret_bool hz.out.symm, belt HBB.out hb2.out⟩
        · skip
          go_wp2_with fail
          refine (lfieldsOf_any x0 _).mono ?_
          rintro e v1 ⟨aF0, nF0, cF0, rfl, hnF0, hcF0, oF0, hw0⟩
          have hb1 : Hid (Below w1.heap.size w1 v1) := belt hb0.out hw0
          have F0 : Hid (RowAt v1 aF0 (fld x0)) := oF0.rowAt
          clear q0 q1 q2 q3 q4 q5 q6 q7 q8 s0 s1 hw0 oF0
          obtain ⟨s0, s1⟩ := Bk.c2 (HK1.out.keep hb1.out)
          obtain ⟨q0, q1, q2, q3, q4, q5, q6, q7, q8⟩ := Bk.c9 (HK2.out.keep hb1.out)
          go_wp2_with fail
          refine (lhas_own aF0 cF0 nF0 (fld x0) _ _ hnF0 (by have := fld_big x0; unfold maxLen; omega) F0.out).mono ?_
          rintro e vx ⟨rfl, hx⟩
          rw [hh]
          have hx' := hx.symm
          clear hx
          subst hx'
          go_wp2_with fail
          refine (lIs_any b d x0 x1 x2 x3 x4 x5 x6 x7 a cap n l ((i : Int) + 1) _ hg.out hn hm (HR.out.keep (belt HBB.out hb1.out))).mono ?_
          rintro e v2 ⟨rfl, hw1⟩
          rw [hv]
          have hb2 : Hid (Below w1.heap.size w1 v2) := belt hb1.out hw1
          clear q0 q1 q2 q3 q4 q5 q6 q7 q8 s0 s1 hw1
          obtain ⟨s0, s1⟩ := Bk.c2 (HK1.out.keep hb2.out)
          obtain ⟨q0, q1, q2, q3, q4, q5, q6, q7, q8⟩ := Bk.c9 (HK2.out.keep hb2.out)
          go_wp2_with fail
          refine (lfieldsOf_any x0 _).mono ?_
          rintro e v3 ⟨aF2, nF2, cF2, rfl, hnF2, hcF2, oF2, hw2⟩
          have hb3 : Hid (Below w1.heap.size w1 v3) := belt hb2.out hw2
          have F2 : Hid (RowAt v3 aF2 (fld x0)) := oF2.rowAt
          clear q0 q1 q2 q3 q4 q5 q6 q7 q8 s0 s1 hw2 oF2
          obtain ⟨s0, s1⟩ := Bk.c2 (HK1.out.keep hb3.out)
          obtain ⟨q0, q1, q2, q3, q4, q5, q6, q7, q8⟩ := Bk.c9 (HK2.out.keep hb3.out)
          go_wp2_with fail
          refine (lhas_own aF2 cF2 nF2 (fld x0) _ _ hnF2 (by have := fld_big x0; unfold maxLen; omega) F2.out).mono ?_
          rintro e vx ⟨rfl, hx⟩
          rw [hh]
          have hx' := hx.symm
          clear hx
          subst hx'
          have hz : Hid (∀ f : Int, 1 ≤ f → f ≤ ((i + 1 : Nat) : Int) → fldB b d x0 x4 x5 x6 x7 l f = true) := fun f h1 h2 => by
            by_cases he : f = (i : Int) + 1
            · rw [he, HF.out, hv]
            · exact hs.out f h1 (by omega)
          go_wp2
          go_roundw
          case rel => exact ⟨i + 1, by omega, by go_num, hz, hb3⟩
          case measure => simp [intOf]; omega
    · have hv : Hid (gmB b d x0 x1 x2 x3 x4 x5 x6 x7 l = true) := HV.out (fun f h1 h2 => hs.out f h1 (by omega))
      go_wp2
      go_ret
      exact ⟨ret_bool hv.out.symm, belt HBB.out hb.out⟩
end Go.Proofs.YtdceimnapbblnaaGreat.Wire
namespace Go.Proofs.YtdceimnapbblnaaGreat
open Go.RowKit
set_option linter.unusedVariables false
set_option linter.unusedSimpArgs false
structure Nt where
  b : Int
  d : Int
  ttl : Int
  ps : List Pr
  ms : List Mg
  gs : List Int
  rs : List Rp
def nt0 : Nt := ⟨0, 0, 0, [], [], [], []⟩
/-- a net and a bool are answered, in memory of the call's own -/
def NetOut (w : World) (X : Nt) (g : Bool) (e : Ending) (w' : World) : Prop := ∃ (ap am ag ar : Option Addr) (cp cm cg cr : Nat), e = .returned (.tuple #[.agg #[.int .i64 X.b, .int .i64 X.d, .slice ap X.ps.length cp, .int .i64 X.ttl, .slice am X.ms.length cm, .slice ag X.gs.length cg, .slice ar X.rs.length cr], .bool g]) ∧ OwnN w.heap.size w'.heap.size w' ap am ag ar X.ps.length X.ms.length X.gs.length X.rs.length X.ps X.ms X.gs X.rs ∧ Below w.heap.size w w'
/-- a net and a bool are answered -/
def NetSay (w : World) (X : Nt) (g : Bool) (e : Ending) (w' : World) : Prop := ∃ (ap am ag ar : Option Addr) (cp cm cg cr : Nat), e = .returned (.tuple #[.agg #[.int .i64 X.b, .int .i64 X.d, .slice ap X.ps.length cp, .int .i64 X.ttl, .slice am X.ms.length cm, .slice ag X.gs.length cg, .slice ar X.rs.length cr], .bool g]) ∧ NetAt w' ap am ag ar X.ps X.ms X.gs X.rs ∧ Below w.heap.size w w'
theorem ownN_peers {B T p0 p1 np : Nat} {w : World} {a : Option Addr} {ps : List Pr} (h : OwnPs p0 p1 w a np ps) (h1 : B ≤ p0) (h2 : p0 ≤ p1) (h3 : p1 ≤ T) : OwnN B T w a none none none np 0 0 0 ps [] [] [] :=
  ⟨⟨p0, p1, T, T, T, T, T, T, by omega, by omega, h, ownEs_nil _ _ _ _ _ _, ownLs_nil _ _ _ _, ownEs_nil _ _ _ _ _ _⟩⟩
theorem ownN_nil (B T : Nat) (w : World) (h : B ≤ T) : OwnN B T w none none none none 0 0 0 0 [] [] [] [] := ownN_peers (p0 := B) (p1 := B) (ownPs_nil _ _ _ _) (Nat.le_refl _) (Nat.le_refl _) h
/-- two blocks: what came in, the answer -/
structure T2 (w wr : World) (A : Array Value) (TA : TypeId) (R : Array Value) (TR : TypeId) : Prop where
  bel : Below w.heap.size w wr
  ka : Wire.Bk wr w.heap.size A TA
  kr : Wire.Bk wr (w.heap.size + 1) R TR
theorem T2.keep {w wr w1 : World} {A R : Array Value} {TA TR : TypeId} (h : T2 w wr A TA R TR) (hb : Below wr.heap.size wr w1) : T2 w w1 A TA R TR := ⟨belt h.bel hb, h.ka.keep hb, h.kr.keep hb⟩
theorem T2.res {w wr : World} {A R : Array Value} {TA TR : TypeId} (h : T2 w wr A TA R TR) (i : Nat) (vs : List Value) : T2 w (Wire.setL wr (w.heap.size + 1) i vs) A TA (Wire.ovr R i vs) TR :=
  ⟨Wire.setL_below (by omega) vs i h.bel, wireOth h.ka (by omega) i vs, h.kr.setL vs i⟩
theorem t20 (w : World) (A R : Array Value) (TA TR : TypeId) : T2 w ((w.alloc (.cells A TA)).alloc (.cells R TR)) A TA R TR := by
  obtain ⟨h1, h2, h3⟩ := Wire.bkAB (w := w) (A := A) (B := R) (S := TA) (T := TR) (Below.refl _ _)
  exact ⟨h3, h1, h2⟩
theorem netOut_no {w wr : World} {A : Array Value} {TA : TypeId} (h : T2 w wr A TA #[.int .i64 0, .int .i64 0, .slice none 0 0, .int .i64 0, .slice none 0 0, .slice none 0 0, .slice none 0 0] 36) : Wire.Bk (Wire.setL wr (w.heap.size + 1) 0 [.int .i64 0, .int .i64 0, .slice none 0 0, .int .i64 0, .slice none 0 0, .slice none 0 0, .slice none 0 0]) (w.heap.size + 1) #[.int .i64 0, .int .i64 0, .slice none 0 0, .int .i64 0, .slice none 0 0, .slice none 0 0, .slice none 0 0] 36 ∧ NetOut w nt0 false (.returned (.tuple #[.agg #[.int .i64 0, .int .i64 0, .slice none 0 0, .int .i64 0, .slice none 0 0, .slice none 0 0, .slice none 0 0], .bool false])) (Wire.setL wr (w.heap.size + 1) 0 [.int .i64 0, .int .i64 0, .slice none 0 0, .int .i64 0, .slice none 0 0, .slice none 0 0, .slice none 0 0]) := by
  have h1 := h.res 0 [.int .i64 0, .int .i64 0, .slice none 0 0, .int .i64 0, .slice none 0 0, .slice none 0 0, .slice none 0 0]
  rw [ovrE] at h1
  exact ⟨h1.kr, none, none, none, none, 0, 0, 0, 0, rfl, ownN_nil _ _ _ h1.bel.size, h1.bel⟩
theorem NetOut.say {w : World} {X : Nt} {g : Bool} {e : Ending} {w' : World} (h : NetOut w X g e w') : NetSay w X g e w' := by
  obtain ⟨ap, am, ag, ar, cp, cm, cg, cr, he, ho, hb⟩ := h
  exact ⟨ap, am, ag, ar, cp, cm, cg, cr, he, ho.at, hb⟩
/-- when a message may be on its way -/
def okMg (b d : Int) (ids : List Int) (m : Mg) : Bool := Wire.gmB b d m.x0 m.x1 m.x2 m.x3 m.x4 m.x5 m.x6 m.x7 m.l && inB m.x0 1 3 && hasB ids m.x2 && hasB ids m.x3
/-- the looks of messages and replies -/
def lkM (ms : List Mg) : List Int := ms.map (fun m => m.x1)
def lkR (rs : List Rp) : List Int := rs.map (fun m => m.x0)
/-- all looks are begun, no two the same -/
def appB (gs L : List Int) : Bool := decide (∀ i, i < L.length → hasB gs (L.getD i 0) = true ∧ hasB (L.take i) (L.getD i 0) = false)
def goodN (b d ttl : Int) (ps : List Pr) (ms : List Mg) (gs : List Int) (rs : List Rp) : Bool :=
  goodP b d ps && inB ttl 0 1000 && decide (ms.length ≤ 12) && decide (gs.length ≤ 12) && risB gs 0 255 && decide (∀ i, i < ms.length → okMg b d (idsP ps) (ms.getD i mg0) = true) && appB gs (lkM ms ++ lkR rs)
theorem hasB_mem {l : List Int} {x : Int} : hasB l x = true ↔ x ∈ l := by
  unfold hasB
  rw [decide_eq_true_iff]
  constructor
  · rintro ⟨i, hi, he⟩
    rw [List.getD_eq_getElem?_getD, List.getElem?_eq_getElem hi] at he
    simp at he
    exact he ▸ List.getElem_mem hi
  · intro h
    obtain ⟨i, hi, he⟩ := List.getElem_of_mem h
    exact ⟨i, hi, by rw [List.getD_eq_getElem?_getD, List.getElem?_eq_getElem hi]; simpa using he⟩
theorem php : ∀ (L gs : List Int), L.Nodup → (∀ x ∈ L, x ∈ gs) → L.length ≤ gs.length
  | [], _, _, _ => Nat.zero_le _
  | x :: L, gs, hn, hs => by
    have hx := hs x (by simp)
    obtain ⟨h1, h2⟩ := List.nodup_cons.1 hn
    have h3 := php L (gs.erase x) h2 (fun y hy => (List.mem_erase_of_ne (show y ≠ x from fun e => h1 (by rw [← e]; exact hy))).2 (hs y (by simp [hy])))
    rw [List.length_erase_of_mem hx] at h3
    have h4 := List.length_pos_of_mem hx
    simp only [List.length_cons]
    omega
theorem appB_len {gs L : List Int} (h : appB gs L = true) : L.length ≤ gs.length := by
  have h' := of_decide_eq_true h
  have gE : ∀ i (hi : i < L.length), L.getD i 0 = L[i] := fun i hi => by rw [List.getD_eq_getElem?_getD, List.getElem?_eq_getElem hi]; rfl
  refine php L gs (List.pairwise_iff_getElem.2 (fun i j hi hj hij he => ?_)) (fun x hx => ?_)
  · have h2 := (h' j hj).2
    have : hasB (L.take j) (L.getD j 0) = true := hasB_mem.2 (by
      rw [gE j hj, ← he]
      exact List.mem_take_iff_getElem.2 ⟨i, by omega, rfl⟩)
    rw [this] at h2
    cases h2
  · obtain ⟨i, hi, rfl⟩ := List.getElem_of_mem hx
    have := (h' i hi).1
    rw [gE i hi] at this
    exact hasB_mem.1 this
theorem lkM_len (ms : List Mg) : (lkM ms).length = ms.length := List.length_map _
theorem lkR_len (ms : List Rp) : (lkR ms).length = ms.length := List.length_map _
theorem lkM_get {ms : List Mg} {i : Nat} (h : i < ms.length) : (lkM ms).getD i 0 = (ms.getD i mg0).x1 := by simp [lkM, List.getD_eq_getElem?_getD, h]
theorem lkR_get {ms : List Rp} {i : Nat} (h : i < ms.length) : (lkR ms).getD i 0 = (ms.getD i rp0).x0 := by simp [lkR, List.getD_eq_getElem?_getD, h]
theorem goodN_len {b d ttl : Int} {ps : List Pr} {ms : List Mg} {gs : List Int} {rs : List Rp} (h : goodN b d ttl ps ms gs rs = true) : ms.length + rs.length ≤ gs.length ∧ gs.length ≤ 12 := by
  unfold goodN at h
  simp only [Bool.and_eq_true, decide_eq_true_eq] at h
  have := appB_len h.2
  rw [List.length_append, lkM_len, lkR_len] at this
  omega
def newB (b d : Int) (ps : List Pr) (ttl : Int) : Bool := goodP b d ps && inB ttl 0 1000
def newA (b d : Int) (ps : List Pr) (ttl : Int) : Nt := if newB b d ps ttl = true then ⟨b, d, ttl, ps, [], [], []⟩ else nt0
theorem newA_no {b d : Int} {ps : List Pr} {ttl : Int} (h : newB b d ps ttl = false) : newA b d ps ttl = nt0 := if_neg (by rw [h]; simp)
theorem newA_yes {b d : Int} {ps : List Pr} {ttl : Int} (h : newB b d ps ttl = true) : newA b d ps ttl = ⟨b, d, ttl, ps, [], [], []⟩ := if_pos h
theorem nt0_big : BigN nt0.ps nt0.ms nt0.gs nt0.rs := ⟨by simp [nt0, bsum], by simp [nt0, lsum, sumL], by simp [nt0], by simp [nt0]⟩
theorem newA_big (b d : Int) (ps : List Pr) (ttl : Int) (h : ps.length + bsum ps ≤ 1048576) : BigN (newA b d ps ttl).ps (newA b d ps ttl).ms (newA b d ps ttl).gs (newA b d ps ttl).rs := by
  unfold newA
  split
  · exact ⟨h, by simp [lsum, sumL], by simp, by simp⟩
  · exact nt0_big
end Go.Proofs.YtdceimnapbblnaaGreat
namespace Go.Proofs.YtdceimnapbblnaaGreat
open Go.RowKit
set_option linter.unusedVariables false
/-- how far it is up to the first number whose last n digits are the first n of the key -/
def up4 (b d f k n : Int) : Int := (k / sz ((b / d - n) * d) - f % sz (n * d) + sz (n * d)) % sz (n * d)
def best (b d f m k : Int) : Nat → Int × Int
  | 0 => (f, b / d)
  | n + 1 => if up4 b d f k (n + 1 : Nat) < m then ((f + up4 b d f k (n + 1 : Nat)) % sz b, b / d - (n + 1 : Nat)) else best b d f m k n
def bestI (b d f t k : Int) : Int × Int := best b d f (rnd b f t) k (cnt b d)
structure Wk where
  at_ : Int
  imag : Int
  left : Int
  points : Int
  succs : Int
  state : Int
  owner : Int
def wk0 : Wk := ⟨0, 0, 0, 0, 0, 0, 0⟩
def Wk.cells (v : Wk) : Array Value := #[.int .i64 v.at_, .int .i64 v.imag, .int .i64 v.left, .int .i64 v.points, .int .i64 v.succs, .int .i64 v.state, .int .i64 v.owner]
def prN : Pr := ⟨-1, 0, 0, []⟩
def peerI : List Pr → Int → Pr
  | [], _ => prN
  | p :: ps, x => if p.id = x then p else peerI ps x
def dgt4 (d k l : Int) : Int := k / sz ((l - 1) * d) % sz d
def stp (b d : Int) (ps : List Pr) (k ttl : Int) (v : Wk) : Wk :=
  if k = v.at_ then ⟨v.at_, v.imag, v.left, v.points, v.succs, 1, v.at_⟩
  else if arcB b v.at_ k (peerI ps v.at_).succ = true then ⟨v.at_, v.imag, v.left, v.points, v.succs, 1, (peerI ps v.at_).succ⟩
  else if ttl ≤ v.points + v.succs then ⟨v.at_, v.imag, v.left, v.points, v.succs, 2, v.owner⟩
  else if 0 < v.left ∧ (v.imag = v.at_ ∨ btwB b v.at_ v.imag (peerI ps v.at_).succ = true) then ⟨(peerI ps v.at_).point, shf b d v.imag (dgt4 d k v.left), v.left - 1, v.points + 1, v.succs, v.state, v.owner⟩
  else ⟨(peerI ps v.at_).succ, v.imag, v.left, v.points, v.succs + 1, v.state, v.owner⟩
def askP (b d : Int) (ps : List Pr) (x k : Int) : Bool := goodP b d ps && hasB (idsP ps) x && numB b d k
def stt (b d : Int) (ps : List Pr) (x k : Int) : Wk := ⟨x, (bestI b d x (peerI ps x).succ k).1, (bestI b d x (peerI ps x).succ k).2, 0, 0, 0, 0⟩
def wkB (b d : Int) (ps : List Pr) (v : Wk) : Bool := numB b d v.imag && inB v.left 0 (b / d) && inB v.points 0 1000 && inB v.succs 0 1000 && inB v.state 0 2 && (if v.state = 1 then hasB (idsP ps) v.owner else decide (v.owner = 0))
def goodW (b d : Int) (ps : List Pr) (k : Int) (v : Wk) : Bool := askP b d ps v.at_ k && wkB b d ps v
def rtW (b d : Int) (ps : List Pr) (k ttl : Int) : Nat → Wk → Wk
  | 0, v => v
  | n + 1, v => if v.state = 0 then rtW b d ps k ttl n (stp b d ps k ttl v) else v
def rtL (b d : Int) (ps : List Pr) (k ttl : Int) : Nat → Wk → List Int
  | 0, _ => []
  | n + 1, v => if v.state = 0 then (if v.points + v.succs < (stp b d ps k ttl v).points + (stp b d ps k ttl v).succs then [(stp b d ps k ttl v).at_] else []) ++ rtL b d ps k ttl n (stp b d ps k ttl v) else []
def bndI (b d : Int) (n : Nat) : Int := b / d + (b / d + 1) * ((n : Int) - 1)
theorem peerI_mem : ∀ (ps : List Pr) (x : Int), hasB (idsP ps) x = true → (peerI ps x).id = x ∧ ∃ i, i < ps.length ∧ peerI ps x = ps.getD i pr0
  | [], x, h => by
    have := of_decide_eq_true h
    obtain ⟨i, hi, _⟩ := this
    simp [idsP] at hi
  | p :: ps, x, h => by
    unfold peerI
    by_cases he : p.id = x
    · rw [if_pos he]
      exact ⟨he, 0, by simp, by simp⟩
    · rw [if_neg he]
      have h2 : hasB (idsP ps) x = true := by
        obtain ⟨i, hi, hx⟩ := of_decide_eq_true h
        cases i with
        | zero => exact absurd (by simpa [idsP] using hx) he
        | succ i => exact decide_eq_true ⟨i, by simpa [idsP] using hi, by simpa [idsP] using hx⟩
      obtain ⟨h3, i, hi, h4⟩ := peerI_mem ps x h2
      exact ⟨h3, i + 1, by simpa using hi, by simpa using h4⟩
/-- of good peers: what a peer's numbers are -/
theorem peerI_good {b d : Int} {ps : List Pr} (hg : goodP b d ps = true) {x : Int} (hx : hasB (idsP ps) x = true) : (peerI ps x).id = x ∧ (peerI ps x).succ = nxtI (idsP ps) x ∧ hasB (idsP ps) (peerI ps x).point = true := by
  obtain ⟨h1, i, hi, h2⟩ := peerI_mem ps x hx
  have := prB_parts.1 ((goodP_true hg).2 i hi)
  rw [← h2] at this
  exact ⟨h1, by rw [this.1, h1], this.2.1⟩
theorem has_rng {b d : Int} {zs : List Int} (R : Ring b d zs) {x : Int} (h : hasB zs x = true) : 0 ≤ x ∧ x < sz b := by
  obtain ⟨i, hi, rfl⟩ := of_decide_eq_true h
  exact R.rng i hi
theorem askP_parts {b d : Int} {ps : List Pr} {x k : Int} (h : askP b d ps x k = true) : goodP b d ps = true ∧ hasB (idsP ps) x = true ∧ 0 ≤ k ∧ k < sz b := by
  unfold askP at h
  simp only [Bool.and_eq_true] at h
  obtain ⟨_, h1, h2⟩ := numB_true h.2
  exact ⟨h.1.1, h.1.2, h1, h2⟩
theorem nxt_has {b d : Int} {zs : List Int} (R : Ring b d zs) (x : Int) : hasB zs (nxtI zs x) = true := decide_eq_true ⟨uptI zs x % zs.length, Nat.mod_lt _ (by have := R.l1; omega), rfl⟩
end Go.Proofs.YtdceimnapbblnaaGreat
namespace Go.Proofs.YtdceimnapbblnaaGreat
open Go.RowKit
set_option linter.unusedVariables false
theorem dist_up {b x y : Int} (x1 : 0 ≤ x) (y2 : y < sz b) (h : x ≤ y) : dist b x y = y - x := by
  unfold dist
  rw [show y - x + sz b = (y - x) + sz b * 1 by omega, Int.add_mul_emod_self_left]
  exact Int.emod_eq_of_lt (by omega) (by omega)
theorem dist_dn {b x y : Int} (y1 : 0 ≤ y) (x2 : x < sz b) (h : y < x) : dist b x y = y - x + sz b := by
  unfold dist
  exact Int.emod_eq_of_lt (by omega) (by omega)
/-- going up from place i to place t round a ring of n -/
def md (n t i : Nat) : Nat := (t + n - i) % n
theorem md_lt {n t i : Nat} (hn : 0 < n) : md n t i < n := Nat.mod_lt _ hn
theorem md_le {n t i : Nat} (ht : t < n) (h : i ≤ t) : md n t i = t - i := by
  unfold md
  rw [show t + n - i = (t - i) + n by omega, Nat.add_mod_right, Nat.mod_eq_of_lt (by omega)]
theorem md_gt {n t i : Nat} (hi : i < n) (h : t < i) : md n t i = t + n - i := by
  unfold md
  rw [Nat.mod_eq_of_lt (by omega)]
theorem md_zero {n t i : Nat} (ht : t < n) (hi : i < n) (h : md n t i = 0) : t = i := by
  by_cases hti : i ≤ t
  · rw [md_le ht hti] at h; omega
  · rw [md_gt hi (by omega)] at h; omega
theorem md_step {n t i : Nat} (ht : t < n) (hi : i < n) (h : ¬ md n t i = 0) : md n t ((i + 1) % n) + 1 = md n t i := by
  by_cases hti : i ≤ t
  · rw [md_le ht hti] at h ⊢
    rw [Nat.mod_eq_of_lt (show i + 1 < n by omega), md_le ht (by omega)]
    omega
  · rw [md_gt hi (by omega)]
    by_cases hl : i + 1 < n
    · rw [Nat.mod_eq_of_lt hl, md_gt hl (by omega)]
      omega
    · rw [show i + 1 = n by omega, Nat.mod_self, md_le ht (Nat.zero_le _)]
      omega
/-- the place of the first member going down from a number, it counted -/
def dnP (zs : List Int) (t : Int) : Nat := (uptI zs t + zs.length - 1) % zs.length
/-- the place of the first member going down from a number, it not counted -/
def pvP (zs : List Int) (t : Int) : Nat := (blw zs t + zs.length - 1) % zs.length
theorem dn_btw {b d : Int} {zs : List Int} (R : Ring b d zs) {t : Int} (t1 : 0 ≤ t) (t2 : t < sz b) {i : Nat} (hi : i < zs.length) (h : dnP zs t = i) : t = zs.getD i 0 ∨ btwB b (zs.getD i 0) t (nxtI zs (zs.getD i 0)) = true := by
  have l1 := R.l1
  have hle := upt_le zs t
  by_cases he : t = zs.getD i 0
  · exact .inl he
  · refine .inr (decide_eq_true ?_)
    rw [nxt_at R hi]
    obtain ⟨m1, m2⟩ := R.rng i hi
    unfold dnP at h
    by_cases hu : uptI zs t = 0
    · have hin : i = zs.length - 1 := by rw [← h, hu, Nat.zero_add, Nat.mod_eq_of_lt (by omega)]
      have h0 := R.upper t 0 (by omega) (by omega)
      have e : (i + 1) % zs.length = 0 := by rw [show i + 1 = zs.length by omega, Nat.mod_self]
      rw [e]
      by_cases hn : zs.length = 1
      · have hi0 : i = 0 := by omega
        subst hi0
        exact ⟨⟨he, by omega⟩, .inl rfl⟩
      · have h2 := R.ris 0 i (by omega) hi
        have r0 := R.rng 0 (by omega)
        refine ⟨⟨he, by omega⟩, .inr ⟨he, ?_⟩⟩
        rw [dist_dn t1 m2 (by omega), dist_dn r0.1 m2 h2]
        omega
    · have hin : i = uptI zs t - 1 := by
        rw [← h, show uptI zs t + zs.length - 1 = (uptI zs t - 1) + zs.length by omega, Nat.add_mod_right, Nat.mod_eq_of_lt (by omega)]
      have hlo := upt_low (zs := zs) (x := t) (i := i) (by omega)
      by_cases hl : i + 1 < zs.length
      · rw [Nat.mod_eq_of_lt hl]
        have hup := R.upper t (i + 1) (by omega) hl
        obtain ⟨q1, q2⟩ := R.rng (i + 1) hl
        refine ⟨⟨he, by omega⟩, .inr ⟨he, ?_⟩⟩
        rw [dist_up m1 t2 hlo, dist_up m1 q2 (by omega)]
        omega
      · have e : (i + 1) % zs.length = 0 := by rw [show i + 1 = zs.length by omega, Nat.mod_self]
        rw [e]
        by_cases hn : zs.length = 1
        · have hi0 : i = 0 := by omega
          subst hi0
          exact ⟨⟨he, he⟩, .inl rfl⟩
        · have h2 := R.ris 0 i (by omega) hi
          have r0 := R.rng 0 (by omega)
          refine ⟨⟨he, by omega⟩, .inr ⟨he, ?_⟩⟩
          rw [dist_up m1 t2 hlo, dist_dn r0.1 m2 h2]
          omega
theorem pv_arc {b d : Int} {zs : List Int} (R : Ring b d zs) {t : Int} (t1 : 0 ≤ t) (t2 : t < sz b) {i : Nat} (hi : i < zs.length) (h : pvP zs t = i) : t = zs.getD i 0 ∨ arcB b (zs.getD i 0) t (nxtI zs (zs.getD i 0)) = true := by
  have l1 := R.l1
  have hle := blw_le t zs
  by_cases he : t = zs.getD i 0
  · exact .inl he
  · refine .inr (decide_eq_true ?_)
    rw [nxt_at R hi]
    obtain ⟨m1, m2⟩ := R.rng i hi
    unfold pvP at h
    by_cases hu : blw zs t = 0
    · have hin : i = zs.length - 1 := by rw [← h, hu, Nat.zero_add, Nat.mod_eq_of_lt (by omega)]
      have h0 := R.above t 0 (by omega) (by omega)
      have e : (i + 1) % zs.length = 0 := by rw [show i + 1 = zs.length by omega, Nat.mod_self]
      rw [e]
      by_cases hn : zs.length = 1
      · have hi0 : i = 0 := by omega
        subst hi0
        exact .inl rfl
      · have h2 := R.ris 0 i (by omega) hi
        have r0 := R.rng 0 (by omega)
        refine .inr ⟨he, ?_⟩
        rw [dist_dn t1 m2 (by omega), dist_dn r0.1 m2 h2]
        omega
    · have hin : i = blw zs t - 1 := by
        rw [← h, show blw zs t + zs.length - 1 = (blw zs t - 1) + zs.length by omega, Nat.add_mod_right, Nat.mod_eq_of_lt (by omega)]
      have hlo := blw_lt (zs := zs) (x := t) i (by omega)
      by_cases hl : i + 1 < zs.length
      · rw [Nat.mod_eq_of_lt hl]
        have hup := R.above t (i + 1) (by omega) hl
        obtain ⟨q1, q2⟩ := R.rng (i + 1) hl
        refine .inr ⟨he, ?_⟩
        rw [dist_up m1 t2 (by omega), dist_up m1 q2 (by omega)]
        omega
      · have e : (i + 1) % zs.length = 0 := by rw [show i + 1 = zs.length by omega, Nat.mod_self]
        rw [e]
        by_cases hn : zs.length = 1
        · have hi0 : i = 0 := by omega
          subst hi0
          exact .inl rfl
        · have h2 := R.ris 0 i (by omega) hi
          have r0 := R.rng 0 (by omega)
          refine .inr ⟨he, ?_⟩
          rw [dist_up m1 t2 (by omega), dist_dn r0.1 m2 h2]
          omega
/-- who is found is the owner -/
theorem arc_own {b d : Int} {zs : List Int} (R : Ring b d zs) {t : Int} (t1 : 0 ≤ t) (t2 : t < sz b) {i : Nat} (hi : i < zs.length) (hne : ¬ t = zs.getD i 0) (h : arcB b (zs.getD i 0) t (nxtI zs (zs.getD i 0)) = true) : nxtI zs (zs.getD i 0) = ownI zs t := by
  have l1 := R.l1
  have h' := of_decide_eq_true h
  rw [nxt_at R hi] at h' ⊢
  obtain ⟨m1, m2⟩ := R.rng i hi
  have key : blw zs t % zs.length = (i + 1) % zs.length := by
    by_cases hn : zs.length = 1
    · rw [hn, Nat.mod_one, Nat.mod_one]
    · have hd : dist b (zs.getD i 0) t ≤ dist b (zs.getD i 0) (zs.getD ((i + 1) % zs.length) 0) := by
        rcases h' with h' | h'
        · have := inj R hi (Nat.mod_lt _ (by omega)) h'
          by_cases hl : i + 1 < zs.length
          · rw [Nat.mod_eq_of_lt hl] at this; omega
          · rw [show i + 1 = zs.length by omega, Nat.mod_self] at this; omega
        · exact h'.2
      by_cases hgt : zs.getD i 0 < t
      · rw [dist_up m1 t2 (by omega)] at hd
        by_cases hl : i + 1 < zs.length
        · rw [Nat.mod_eq_of_lt hl] at hd ⊢
          have hq := R.rng (i + 1) hl
          have hr := R.ris i (i + 1) (by omega) hl
          rw [dist_up m1 hq.2 (by omega)] at hd
          rw [blw_eq (k := i + 1) (by omega) (fun j hj => by
            by_cases hji : j = i
            · subst hji; exact hgt
            · have := R.ris j i (by omega) hi; omega) (fun _ => by omega)]
          exact Nat.mod_eq_of_lt hl
        · rw [blw_eq (k := zs.length) (Nat.le_refl _) (fun j hj => by
            by_cases hji : j = i
            · subst hji; exact hgt
            · have := R.ris j i (by omega) hi; omega) (fun h => by omega), show i + 1 = zs.length by omega]
      · have hlt : t < zs.getD i 0 := by omega
        rw [dist_dn t1 m2 hlt] at hd
        by_cases hl : i + 1 < zs.length
        · rw [Nat.mod_eq_of_lt hl] at hd
          have hq := R.rng (i + 1) hl
          have hr := R.ris i (i + 1) (by omega) hl
          rw [dist_up m1 hq.2 (by omega)] at hd
          omega
        · have e : (i + 1) % zs.length = 0 := by rw [show i + 1 = zs.length by omega, Nat.mod_self]
          rw [e] at hd ⊢
          have h2 := R.ris 0 i (by omega) hi
          have r0 := R.rng 0 (by omega)
          rw [dist_dn r0.1 m2 h2] at hd
          rw [blw_eq (k := 0) (by omega) (fun j hj => by omega) (fun _ => by omega)]
          simp
  unfold ownI
  rw [key]
theorem own_self {b d : Int} {zs : List Int} (R : Ring b d zs) {i : Nat} (hi : i < zs.length) : ownI zs (zs.getD i 0) = zs.getD i 0 := by
  unfold ownI
  rw [blw_mem R hi, Nat.mod_eq_of_lt hi]
end Go.Proofs.YtdceimnapbblnaaGreat
namespace Go.Proofs.YtdceimnapbblnaaGreat
open Go.RowKit
set_option linter.unusedVariables false
/-- a walk's At is a member, its Imag a number, and some digits are left -/
structure WOk (b : Int) (zs : List Int) (v : Wk) : Prop where
  mem : hasB zs v.at_ = true
  i1 : 0 ≤ v.imag
  i2 : v.imag < sz b
  l0 : 0 ≤ v.left
/-- how many forwards are left at most -/
def pot (zs : List Int) (k : Int) (v : Wk) : Nat :=
  if v.left = 0 then md zs.length (pvP zs k) (blw zs v.at_) else md zs.length (dnP zs v.imag) (blw zs v.at_) + v.left.toNat * zs.length
theorem at_place {b d : Int} {zs : List Int} (R : Ring b d zs) {x : Int} (h : hasB zs x = true) : blw zs x < zs.length ∧ zs.getD (blw zs x) 0 = x := by
  rw [← mem_has R] at h
  exact of_decide_eq_true h
theorem shf_rng (b d x g : Int) (hb1 : 1 ≤ b) (hb2 : b ≤ 12) : 0 ≤ shf b d x g ∧ shf b d x g < sz b := by
  unfold shf
  have h := sz_bd hb1 hb2
  exact ⟨Int.emod_nonneg _ (by omega), Int.emod_lt_of_pos _ (by omega)⟩
theorem pot_top {b d : Int} {zs : List Int} (R : Ring b d zs) (k : Int) {v : Wk} (l0 : 0 ≤ v.left) : pot zs k v + 1 ≤ (v.left.toNat + 1) * zs.length := by
  have l1 := R.l1
  unfold pot
  split
  · rename_i h
    have := md_lt (n := zs.length) (t := pvP zs k) (i := blw zs v.at_) (by omega)
    rw [h]
    simp
    omega
  · have := md_lt (n := zs.length) (t := dnP zs v.imag) (i := blw zs v.at_) (by omega)
    rw [Nat.add_mul, Nat.one_mul]
    omega
/-- what one step does -/
def Stp (b : Int) (zs : List Int) (k ttl : Int) (v x : Wk) : Prop :=
  x = ⟨v.at_, v.imag, v.left, v.points, v.succs, 1, ownI zs k⟩ ∨
  (x = ⟨v.at_, v.imag, v.left, v.points, v.succs, 2, v.owner⟩ ∧ ttl ≤ v.points + v.succs ∧ 1 ≤ pot zs k v) ∨
  (WOk b zs x ∧ x.state = v.state ∧ x.owner = v.owner ∧ v.points + v.succs < ttl ∧ pot zs k x + 1 ≤ pot zs k v ∧ ((x.points = v.points + 1 ∧ x.succs = v.succs ∧ x.left = v.left - 1) ∨ (x.points = v.points ∧ x.succs = v.succs + 1 ∧ x.left = v.left)))
theorem stp_kind {b d : Int} {ps : List Pr} {k ttl : Int} {v : Wk} (hg : goodP b d ps = true) (k1 : 0 ≤ k) (k2 : k < sz b) (hv : WOk b (idsP ps) v) : Stp b (idsP ps) k ttl v (stp b d ps k ttl v) := by
  have R := (goodP_true hg).1
  obtain ⟨hb1, hb2, hd1, hd2, _⟩ := gsB_true R.gs
  have l1 := R.l1
  obtain ⟨p1, p2, p3⟩ := peerI_good hg hv.mem
  obtain ⟨hi, he⟩ := at_place R hv.mem
  unfold stp
  by_cases c1 : k = v.at_
  · rw [if_pos c1]
    refine .inl ?_
    rw [c1, ← he, own_self R hi]
  · rw [if_neg c1]
    have c1' : ¬ k = (idsP ps).getD (blw (idsP ps) v.at_) 0 := by rw [he]; exact c1
    by_cases c2 : arcB b v.at_ k (peerI ps v.at_).succ = true
    · rw [if_pos c2]
      refine .inl ?_
      rw [p2] at c2 ⊢
      have := arc_own R k1 k2 hi c1' (by rw [he]; exact c2)
      rw [he] at this
      rw [this]
    · rw [if_neg c2]
      have hpv : ¬ pvP (idsP ps) k = blw (idsP ps) v.at_ := fun h => by
        rcases pv_arc R k1 k2 hi h with h | h
        · exact c1' h
        · rw [he, ← p2] at h; exact c2 h
      have hpl : pvP (idsP ps) k < (idsP ps).length := Nat.mod_lt _ (by omega)
      have hdl : dnP (idsP ps) v.imag < (idsP ps).length := Nat.mod_lt _ (by omega)
      have hmk : ¬ md (idsP ps).length (pvP (idsP ps) k) (blw (idsP ps) v.at_) = 0 := fun h => hpv (md_zero hpl hi h)
      by_cases c3 : ttl ≤ v.points + v.succs
      · rw [if_pos c3]
        refine .inr (.inl ⟨rfl, c3, ?_⟩)
        unfold pot
        split
        · omega
        · rename_i h
          have := hv.l0
          have h1 : 1 ≤ v.left.toNat := by omega
          have : 1 * 1 ≤ v.left.toNat * (idsP ps).length := Nat.mul_le_mul h1 l1
          omega
      · rw [if_neg c3]
        by_cases c4 : 0 < v.left ∧ (v.imag = v.at_ ∨ btwB b v.at_ v.imag (peerI ps v.at_).succ = true)
        · rw [if_pos c4]
          have hsh := shf_rng b d v.imag (dgt4 d k v.left) hb1 hb2
          refine .inr (.inr ⟨⟨p3, hsh.1, hsh.2, by show 0 ≤ v.left - 1; omega⟩, rfl, rfl, by omega, ?_, .inl ⟨rfl, rfl, rfl⟩⟩)
          have ht := pot_top R k (v := ⟨(peerI ps v.at_).point, shf b d v.imag (dgt4 d k v.left), v.left - 1, v.points + 1, v.succs, v.state, v.owner⟩) (by show 0 ≤ v.left - 1; omega)
          have e : (v.left - 1).toNat + 1 = v.left.toNat := by omega
          have hq : pot (idsP ps) k v = md (idsP ps).length (dnP (idsP ps) v.imag) (blw (idsP ps) v.at_) + v.left.toNat * (idsP ps).length := by
            unfold pot
            rw [if_neg (by omega)]
          rw [hq]
          show _ + 1 ≤ _
          have ht' : pot (idsP ps) k ⟨(peerI ps v.at_).point, shf b d v.imag (dgt4 d k v.left), v.left - 1, v.points + 1, v.succs, v.state, v.owner⟩ + 1 ≤ v.left.toNat * (idsP ps).length := by rw [← e]; exact ht
          omega
        · rw [if_neg c4]
          have hnx : (peerI ps v.at_).succ = (idsP ps).getD ((blw (idsP ps) v.at_ + 1) % (idsP ps).length) 0 := by rw [p2]; conv => lhs; rw [← he]; rw [nxt_at R hi]
          have hbs : blw (idsP ps) (peerI ps v.at_).succ = (blw (idsP ps) v.at_ + 1) % (idsP ps).length := by rw [hnx, blw_mem R (Nat.mod_lt _ (by omega))]
          refine .inr (.inr ⟨⟨by rw [p2]; exact nxt_has R _, hv.i1, hv.i2, hv.l0⟩, rfl, rfl, by omega, ?_, .inr ⟨rfl, rfl, rfl⟩⟩)
          unfold pot
          by_cases hl : v.left = 0
          · rw [if_pos hl, if_pos hl]
            show md _ _ (blw (idsP ps) (peerI ps v.at_).succ) + 1 ≤ _
            rw [hbs]
            exact Nat.le_of_eq (md_step hpl hi hmk)
          · rw [if_neg hl, if_neg hl]
            show md _ (dnP (idsP ps) v.imag) (blw (idsP ps) (peerI ps v.at_).succ) + v.left.toNat * _ + 1 ≤ _
            have hmi : ¬ md (idsP ps).length (dnP (idsP ps) v.imag) (blw (idsP ps) v.at_) = 0 := fun h => by
              rcases dn_btw R hv.i1 hv.i2 hi (md_zero hdl hi h) with h | h
              · exact c4 ⟨by have := hv.l0; omega, .inl (by rw [h, he])⟩
              · rw [he, ← p2] at h
                exact c4 ⟨by have := hv.l0; omega, .inr h⟩
            have := md_step hdl hi hmi
            rw [hbs]
            omega
/-- where a way ends -/
theorem rt_end {b d : Int} {ps : List Pr} {k ttl : Int} (hg : goodP b d ps = true) (k1 : 0 ≤ k) (k2 : k < sz b) : ∀ (F : Nat) (v : Wk), WOk b (idsP ps) v → v.state = 0 → v.owner = 0 → v.points + v.succs ≤ ttl → pot (idsP ps) k v < F →
    ((rtW b d ps k ttl F v).state = 1 ∧ (rtW b d ps k ttl F v).owner = ownI (idsP ps) k ∨ (rtW b d ps k ttl F v).state = 2 ∧ (rtW b d ps k ttl F v).owner = 0 ∧ ttl < v.points + v.succs + pot (idsP ps) k v) ∧
    (rtW b d ps k ttl F v).points + (rtW b d ps k ttl F v).succs ≤ v.points + v.succs + pot (idsP ps) k v ∧ (rtW b d ps k ttl F v).points + (rtW b d ps k ttl F v).succs ≤ ttl ∧
    (rtW b d ps k ttl F v).points + (rtW b d ps k ttl F v).succs = v.points + v.succs + ((rtL b d ps k ttl F v).length : Int) ∧ v.points ≤ (rtW b d ps k ttl F v).points ∧ v.succs ≤ (rtW b d ps k ttl F v).succs
  | 0, v, _, _, _, _, h => by omega
  | F + 1, v, hw, hs, ho, ht, hp => by
    have hk := stp_kind (ttl := ttl) hg k1 k2 hw
    unfold rtW rtL
    rw [if_pos hs, if_pos hs]
    rcases hk with h | ⟨h, h1, h2⟩ | ⟨hw', hs', ho', ht', hp', hl⟩
    ·
      have hst : (stp b d ps k ttl v).state = 1 := by rw [h]
      have e1 : rtW b d ps k ttl F (stp b d ps k ttl v) = stp b d ps k ttl v := by cases F <;> simp [rtW, hst]
      have e2 : rtL b d ps k ttl F (stp b d ps k ttl v) = [] := by cases F <;> simp [rtL, hst]
      rw [e1, e2, h]
      refine ⟨.inl ⟨rfl, rfl⟩, by show v.points + v.succs ≤ _; omega, ht, ?_, Int.le_refl _, Int.le_refl _⟩
      show v.points + v.succs = _
      simp
    ·
      have hst : (stp b d ps k ttl v).state = 2 := by rw [h]
      have e1 : rtW b d ps k ttl F (stp b d ps k ttl v) = stp b d ps k ttl v := by cases F <;> simp [rtW, hst]
      have e2 : rtL b d ps k ttl F (stp b d ps k ttl v) = [] := by cases F <;> simp [rtL, hst]
      rw [e1, e2, h]
      refine ⟨.inr ⟨rfl, ho, by omega⟩, by show v.points + v.succs ≤ _; omega, ht, ?_, Int.le_refl _, Int.le_refl _⟩
      show v.points + v.succs = _
      simp
    ·
      have hsum : (stp b d ps k ttl v).points + (stp b d ps k ttl v).succs = v.points + v.succs + 1 := by rcases hl with ⟨h1, h2, _⟩ | ⟨h1, h2, _⟩ <;> omega
      have ih := rt_end (ttl := ttl) hg k1 k2 F (stp b d ps k ttl v) hw' (hs'.trans hs) (ho'.trans ho) (by omega) (by omega)
      obtain ⟨i1, i2, i3, i4, i5, i6⟩ := ih
      rw [if_pos (by omega)]
      refine ⟨?_, by omega, i3, ?_, by rcases hl with ⟨h1, h2, _⟩ | ⟨h1, h2, _⟩ <;> omega, by rcases hl with ⟨h1, h2, _⟩ | ⟨h1, h2, _⟩ <;> omega⟩
      · rcases i1 with i1 | ⟨j1, j2, j3⟩
        · exact .inl i1
        · exact .inr ⟨j1, j2, by omega⟩
      · rw [i4, hsum]
        simp only [List.length_append, List.length_cons, List.length_nil]
        omega
/-- more fuel than is needed changes nothing -/
theorem rt_more {b d : Int} {ps : List Pr} {k ttl : Int} (hg : goodP b d ps = true) (k1 : 0 ≤ k) (k2 : k < sz b) : ∀ (F G : Nat) (v : Wk), WOk b (idsP ps) v → v.state = 0 → pot (idsP ps) k v < F → F ≤ G → rtW b d ps k ttl G v = rtW b d ps k ttl F v ∧ rtL b d ps k ttl G v = rtL b d ps k ttl F v
  | 0, _, v, _, _, h, _ => by omega
  | F + 1, 0, v, _, _, _, h => by omega
  | F + 1, G + 1, v, hw, hs, hp, hFG => by
    have hk := stp_kind (ttl := ttl) hg k1 k2 hw
    unfold rtW rtL
    rw [if_pos hs, if_pos hs, if_pos hs, if_pos hs]
    rcases hk with h | ⟨h, h1, h2⟩ | ⟨hw', hs', ho', ht', hp', hl⟩
    ·
      have hst : (stp b d ps k ttl v).state = 1 := by rw [h]
      constructor
      · cases F <;> cases G <;> simp [rtW, hst]
      · cases F <;> cases G <;> simp [rtL, hst]
    ·
      have hst : (stp b d ps k ttl v).state = 2 := by rw [h]
      constructor
      · cases F <;> cases G <;> simp [rtW, hst]
      · cases F <;> cases G <;> simp [rtL, hst]
    ·
      obtain ⟨e1, e2⟩ := rt_more (ttl := ttl) hg k1 k2 F G (stp b d ps k ttl v) hw' (hs'.trans hs) (by omega) (by omega)
      rw [e1, e2]
      exact ⟨rfl, rfl⟩
end Go.Proofs.YtdceimnapbblnaaGreat
namespace Go.Proofs.YtdceimnapbblnaaGreat
open Go.RowKit
set_option linter.unusedVariables false
theorem sz_add {x y : Int} (hx : 0 ≤ x) (hy : 0 ≤ y) : sz (x + y) = sz x * sz y := by
  unfold sz
  rw [Int.toNat_add hx hy, Int.pow_add]
theorem sz_pos (x : Int) : 0 < sz x := by unfold sz; exact Int.pow_pos (by omega)
theorem sz_zero : sz 0 = 1 := rfl
theorem bits_eq {b d : Int} (hg : gsB b d = true) : b / d * d = b := by
  obtain ⟨_, _, h3, _, h5⟩ := gsB_true hg
  have := Int.mul_ediv_add_emod b d
  rw [h5, Int.add_zero, Int.mul_comm] at this
  exact this
/-- how a space's numbers part into those of n digits and those of the rest -/
theorem sz_part {b d : Int} (hg : gsB b d = true) {n : Int} (n1 : 0 ≤ n) (n2 : n ≤ b / d) : sz (n * d) * sz ((b / d - n) * d) = sz b := by
  obtain ⟨_, _, h3, _, _⟩ := gsB_true hg
  have h1 : 0 ≤ n * d := Int.mul_nonneg n1 (by omega)
  have h2 : 0 ≤ (b / d - n) * d := Int.mul_nonneg (by omega) (by omega)
  rw [← sz_add h1 h2, ← Int.add_mul, show n + (b / d - n) = b / d by omega, bits_eq hg]
theorem mod_mod_part {b d : Int} (hg : gsB b d = true) {n : Int} (n1 : 0 ≤ n) (n2 : n ≤ b / d) (y : Int) : y % sz b % sz (n * d) = y % sz (n * d) := by
  rw [← sz_part hg n1 n2]
  exact Int.emod_emod_of_dvd _ ⟨_, rfl⟩
theorem want_lt {b d k : Int} (hg : gsB b d = true) {n : Int} (n1 : 0 ≤ n) (n2 : n ≤ b / d) (k1 : 0 ≤ k) (k2 : k < sz b) : 0 ≤ k / sz ((b / d - n) * d) ∧ k / sz ((b / d - n) * d) < sz (n * d) := by
  refine ⟨Int.ediv_nonneg k1 (Int.le_of_lt (sz_pos _)), ?_⟩
  rw [← sz_part hg n1 n2] at k2
  exact Int.ediv_lt_of_lt_mul (sz_pos _) k2
theorem up4_bd (b d f k n : Int) : 0 ≤ up4 b d f k n ∧ up4 b d f k n < sz (n * d) := by
  unfold up4
  exact ⟨Int.emod_nonneg _ (by have := sz_pos (n * d); omega), Int.emod_lt_of_pos _ (sz_pos _)⟩
theorem up4_hits {b d f k n : Int} (hg : gsB b d = true) (n1 : 0 ≤ n) (n2 : n ≤ b / d) (k1 : 0 ≤ k) (k2 : k < sz b) : (f + up4 b d f k n) % sz (n * d) = k / sz ((b / d - n) * d) := by
  obtain ⟨w1, w2⟩ := want_lt hg n1 n2 k1 k2
  unfold up4
  generalize k / sz ((b / d - n) * d) = t at w1 w2
  generalize sz (n * d) = p at w2
  rw [Int.add_emod_emod]
  have h := Int.mul_ediv_add_emod f p
  have e : f + (t - f % p + p) = t + p * (f / p + 1) := by
    rw [Int.mul_add, Int.mul_one]
    omega
  rw [e, Int.add_mul_emod_self_left]
  exact Int.emod_eq_of_lt w1 w2
theorem best_prop {b d f k m : Int} (hg : gsB b d = true) (f1 : 0 ≤ f) (f2 : f < sz b) (k1 : 0 ≤ k) (k2 : k < sz b) (hm : 0 < m) : ∀ N : Nat, (N : Int) ≤ b / d →
    ∃ n : Int, 0 ≤ n ∧ n ≤ b / d ∧ (best b d f m k N).2 = b / d - n ∧ 0 ≤ (best b d f m k N).1 ∧ (best b d f m k N).1 < sz b ∧ (best b d f m k N).1 % sz (n * d) = k / sz ((b / d - n) * d) ∧ ∃ u, 0 ≤ u ∧ u < m ∧ (best b d f m k N).1 = (f + u) % sz b
  | 0, hN => by
    unfold best
    refine ⟨0, Int.le_refl _, hN, by show b / d = _; omega, f1, f2, ?_, 0, Int.le_refl _, hm, ?_⟩
    · show f % sz (0 * d) = k / sz ((b / d - 0) * d)
      rw [Int.zero_mul, sz_zero, Int.emod_one, Int.sub_zero, bits_eq hg, Int.ediv_eq_zero_of_lt k1 k2]
    · show f = (f + 0) % sz b
      rw [Int.add_zero, Int.emod_eq_of_lt f1 f2]
  | N + 1, hN => by
    unfold best
    split
    · rename_i h
      have hb := up4_bd b d f k ((N + 1 : Nat) : Int)
      refine ⟨((N + 1 : Nat) : Int), by omega, hN, rfl, Int.emod_nonneg _ (by have := sz_pos b; omega), Int.emod_lt_of_pos _ (sz_pos _), ?_, up4 b d f k ((N + 1 : Nat) : Int), hb.1, h, rfl⟩
      show (f + up4 b d f k ((N + 1 : Nat) : Int)) % sz b % sz (((N + 1 : Nat) : Int) * d) = _
      rw [mod_mod_part hg (by omega) hN]
      exact up4_hits hg (by omega) hN k1 k2
    · exact best_prop hg f1 f2 k1 k2 hm N (by omega)
theorem rnd_pos {b x y : Int} (hb1 : 1 ≤ b) (x1 : 0 ≤ x) (x2 : x < sz b) (y1 : 0 ≤ y) (y2 : y < sz b) : 0 < rnd b x y ∧ rnd b x y ≤ sz b := by
  unfold rnd
  have := sz_pos b
  split
  · omega
  · rename_i h
    by_cases hl : x ≤ y
    · rw [dist_up x1 y2 hl]; omega
    · rw [dist_dn y1 x2 (by omega)]; omega
theorem bestI_prop {b d f t k : Int} (hg : gsB b d = true) (f1 : 0 ≤ f) (f2 : f < sz b) (t1 : 0 ≤ t) (t2 : t < sz b) (k1 : 0 ≤ k) (k2 : k < sz b) :
    ∃ n : Int, 0 ≤ n ∧ n ≤ b / d ∧ (bestI b d f t k).2 = b / d - n ∧ 0 ≤ (bestI b d f t k).1 ∧ (bestI b d f t k).1 < sz b ∧ (bestI b d f t k).1 % sz (n * d) = k / sz ((b / d - n) * d) ∧ ∃ u, 0 ≤ u ∧ u < rnd b f t ∧ (bestI b d f t k).1 = (f + u) % sz b := by
  obtain ⟨h1, h2, h3, h4, _⟩ := gsB_true hg
  have hc := cnt_bd h1 h2 h3 h4
  exact best_prop hg f1 f2 k1 k2 (rnd_pos h1 f1 f2 t1 t2).1 (cnt b d) (by omega)
/-- the number that is best lies from 'from' on, ahead of 'to' -/
theorem best_arc {b d f t k : Int} (hg : gsB b d = true) (f1 : 0 ≤ f) (f2 : f < sz b) (t1 : 0 ≤ t) (t2 : t < sz b) (k1 : 0 ≤ k) (k2 : k < sz b) (hft : ¬ f = t) (hi : ¬ (bestI b d f t k).1 = f) : arcB b t (bestI b d f t k).1 f = false := by
  obtain ⟨n, _, _, _, x1, x2, _, u, u1, u2, hx⟩ := bestI_prop hg f1 f2 t1 t2 k1 k2
  generalize (bestI b d f t k).1 = x at *
  have hs := sz_pos b
  unfold rnd at u2
  rw [if_neg hft] at u2
  refine decide_eq_false (fun h => ?_)
  rcases h with h | ⟨_, h⟩
  · exact hft h.symm
  · have hu : ¬ u = 0 := fun h => hi (by rw [hx, h, Int.add_zero, Int.emod_eq_of_lt f1 f2])
    by_cases hl : f ≤ t
    · rw [dist_up f1 t2 hl] at u2
      rw [Int.emod_eq_of_lt (by omega) (by omega)] at hx
      rw [dist_dn x1 t2 (by omega), dist_dn f1 t2 (by omega)] at h
      omega
    · rw [dist_dn t1 f2 (by omega)] at u2
      rw [dist_up t1 f2 (by omega)] at h
      by_cases hw : f + u < sz b
      · rw [Int.emod_eq_of_lt (by omega) hw] at hx
        rw [dist_up t1 x2 (by omega)] at h
        omega
      · have hx2 : x = f + u - sz b := by
          rw [hx, show f + u = (f + u - sz b) + sz b * 1 by omega, Int.add_mul_emod_self_left]
          rw [Int.emod_eq_of_lt (by omega) (by omega)]
          omega
        rw [dist_dn x1 t2 (by omega)] at h
        omega
/-- the digit of a key that comes next -/
theorem dgt4_bd (d k l : Int) : 0 ≤ dgt4 d k l ∧ dgt4 d k l < sz d := by
  unfold dgt4
  exact ⟨Int.emod_nonneg _ (by have := sz_pos d; omega), Int.emod_lt_of_pos _ (sz_pos _)⟩
/-- a digit more is shifted in -/
theorem shift_more {b d z k l : Int} (hg : gsB b d = true) (hl1 : 1 ≤ l) (hl2 : l ≤ b / d) (k1 : 0 ≤ k) (h : z % sz ((b / d - l) * d) = k / sz (l * d)) : shf b d z (dgt4 d k l) % sz ((b / d - (l - 1)) * d) = k / sz ((l - 1) * d) := by
  obtain ⟨_, _, h3, _, _⟩ := gsB_true hg
  have n1 : 0 ≤ (b / d - l) * d := Int.mul_nonneg (by omega) (by omega)
  have n2 : 0 ≤ (l - 1) * d := Int.mul_nonneg (by omega) (by omega)
  have e1 : (b / d - (l - 1)) * d = (b / d - l) * d + d := by rw [show b / d - (l - 1) = (b / d - l) + 1 by omega, Int.add_mul, Int.one_mul]
  have e2 : l * d = (l - 1) * d + d := by rw [Int.sub_mul, Int.one_mul]; omega
  unfold shf
  rw [mod_mod_part hg (by omega) (by omega), e1, sz_add n1 (by omega)]
  rw [e2, sz_add n2 (by omega)] at h
  unfold dgt4
  have hp := sz_pos ((b / d - l) * d)
  have hd := sz_pos d
  have hq := sz_pos ((l - 1) * d)
  generalize sz ((b / d - l) * d) = p at *
  generalize sz ((l - 1) * d) = q at *
  generalize sz d = s at *
  rw [← Int.ediv_ediv_of_nonneg (Int.le_of_lt hq)] at h
  have hk0 : 0 ≤ k / q := Int.ediv_nonneg k1 (Int.le_of_lt hq)
  generalize k / q = y at *
  have hy := Int.mul_ediv_add_emod y s
  have hz := Int.mul_ediv_add_emod z p
  have hg1 := Int.emod_nonneg y (show s ≠ 0 by omega)
  have hg2 := Int.emod_lt_of_pos y hd
  have e : z * s + y % s = (y / s * s + y % s) + p * s * (z / p) := by
    conv => lhs; rw [← hz, h]
    rw [Int.add_mul, Int.mul_right_comm]
    omega
  rw [e, Int.add_mul_emod_self_left, Int.mul_comm (y / s) s, hy]
  refine Int.emod_eq_of_lt hk0 ?_
  have hz2 := Int.emod_lt_of_pos z hp
  rw [h] at hz2
  have := Int.mul_le_mul_of_nonneg_right (show y / s + 1 ≤ p by omega) (Int.le_of_lt hd)
  rw [Int.add_mul, Int.one_mul] at this
  have hc := Int.mul_comm (y / s) s
  omega
end Go.Proofs.YtdceimnapbblnaaGreat
namespace Go.Proofs.YtdceimnapbblnaaGreat
open Go.RowKit
set_option linter.unusedVariables false

theorem zv_one (l : List Int) : (zv l).all (·.oneCell') = true := by
  rw [Array.all_eq_true_iff_forall_mem]
  intro v hv
  simp [zv] at hv
  obtain ⟨a, _, rfl⟩ := hv
  rfl
theorem digL_cons {j n : Nat} {B x xj : Int} {done : List Int} (h : digL (j + 1) B xj ++ done = digL n B x) : digL j B (xj / B) ++ (xj % B :: done) = digL n B x := by
  rw [← h, digL, List.append_assoc]; rfl

theorem div_bd {x B s : Int} (h0 : 0 ≤ x) (h1 : x < s) (hB : 1 ≤ B) : 0 ≤ x / B ∧ x / B < s := by
  refine ⟨Int.ediv_nonneg h0 (by omega), ?_⟩
  have : x / B ≤ x := Int.ediv_le_self _ h0
  omega

/-- what lies in the three blocks while the loop goes -/
structure RowSt (w wr : World) (b d : Int) (n j : Nat) (T A : TypeId) (done : List Int) : Prop where
  bel : Below w.heap.size w wr
  s : wr.heap[w.heap.size]? = some (.cells #[.int .i64 b, .int .i64 d] T (0, 0))
  r : wr.heap[w.heap.size + 1]? = some (.cells (zv (List.replicate 12 0)) A (0, 0))
  row : wr.heap[w.heap.size + 1 + 1]? = some (.cells (zv (rowZ n (List.replicate j 0 ++ done))) A (0, 0))
  sz : w.heap.size + 1 + 1 < wr.heap.size

theorem RowSt.keep {w wr w1 : World} {b d : Int} {n j : Nat} {T A : TypeId} {done : List Int} (h : RowSt w wr b d n j T A done) (hb : Below wr.heap.size wr w1) : RowSt w w1 b d n j T A done :=
  ⟨h.bel.trans (hb.mono h.bel.size), (hb.block _ (by have := h.sz; omega)).trans h.s, (hb.block _ (by have := h.sz; omega)).trans h.r, (hb.block _ h.sz).trans h.row, Nat.lt_of_lt_of_le h.sz hb.size⟩

theorem rowZ_set {n j : Nat} {done : List Int} (v : Int) : (rowZ n (List.replicate (j + 1) 0 ++ done)).set j v = rowZ n (List.replicate j 0 ++ (v :: done)) := by
  unfold rowZ
  rw [List.replicate_succ', List.append_assoc, List.append_assoc, List.append_assoc, List.set_append_right _ _ (by simp)]
  simp

theorem RowSt.put {w wr : World} {b d : Int} {n j : Nat} {T A : TypeId} {done : List Int} (h : RowSt w wr b d n (j + 1) T A done) (v : Int) : RowSt w (wr.setCell ⟨w.heap.size + 1 + 1, j, none⟩ (.int .i64 v)) b d n j T A (v :: done) := by
  refine ⟨h.bel.setCell (by simp; omega) _, ?_, ?_, ?_, by simpa [World.setCell] using h.sz⟩
  · rw [heap_setCell_other _ _ _ _ (by simp; omega)]; exact h.s
  · rw [heap_setCell_other _ _ _ _ (by simp)]; exact h.r
  · rw [heap_setCell_same _ _ _ _ _ _ h.row, zv_set, rowZ_set]

theorem RowSt.cells {w wr : World} {b d : Int} {n j : Nat} {T A : TypeId} {done : List Int} (h : RowSt w wr b d n j T A done) :
    wr.cell? ⟨w.heap.size, 0, none⟩ = some (.int .i64 b) ∧ wr.cell? ⟨w.heap.size, 1, none⟩ = some (.int .i64 d) :=
  ⟨(cell_of_row wr _ _ _ _ _ h.s).trans rfl, (cell_of_row wr _ _ _ _ _ h.s).trans rfl⟩

theorem RowSt.at {w wr : World} {b d : Int} {n j : Nat} {T A : TypeId} {done : List Int} (h : RowSt w wr b d n (j + 1) T A done) :
    wr.cell? ⟨w.heap.size + 1 + 1, j, none⟩ = some (.int .i64 ((rowZ n (List.replicate (j + 1) 0 ++ done)).getD j 0)) ∧ wr.frozen? ⟨w.heap.size + 1 + 1, j, none⟩ = false :=
  ⟨(cell_of_row wr _ _ _ _ _ h.row).trans (zv_get _ _ (by simp [rowZ]; omega)), frozen_of_row wr _ _ _ _ h.row⟩

theorem rowSt_init (w : World) (b d : Int) (n : Nat) (hn : n ≤ 12) (T A : TypeId) {w1 : World} {N : Nat} (hb : Below N (((w.alloc (.cells #[.int .i64 b, .int .i64 d] T)).alloc (.cells (zv (List.replicate 12 0)) A)).alloc (.cells (zv (List.replicate 12 0)) A)) w1) (hN : w.heap.size + 1 + 1 + 1 ≤ N) :
    RowSt w w1 b d n n T A [] := by
  have e : rowZ n (List.replicate n 0 ++ []) = List.replicate 12 0 := by
    unfold rowZ
    rw [List.append_nil, List.replicate_append_replicate]
    congr 1; omega
  have h0 : RowSt w (((w.alloc (.cells #[.int .i64 b, .int .i64 d] T)).alloc (.cells (zv (List.replicate 12 0)) A)).alloc (.cells (zv (List.replicate 12 0)) A)) b d n n T A [] := by
    refine ⟨(((Below.refl _ _).alloc (Nat.le_refl _) _).alloc (by simp) _).alloc (by simp; omega) _, ?_, ?_, ?_, by simp⟩
    · rw [heap_alloc_old _ _ (by simp; omega)]; exact heap_alloc2_old _ _ _
    · rw [heap_alloc_old _ _ (by simp)]; exact heap_alloc2_new _ _ _
    · rw [e]
      have := heap_alloc_new ((w.alloc (.cells #[.int .i64 b, .int .i64 d] T)).alloc (.cells (zv (List.replicate 12 0)) A)) (.cells (zv (List.replicate 12 0)) A)
      simpa using this
  exact h0.keep (hb.mono (by simpa using hN))

set_option maxHeartbeats 800000 in
theorem row_any (b d x : Int) (w : World) (hb1 : 1 ≤ b) (hb2 : b ≤ 12) (hd1 : 1 ≤ d) (hd2 : d ≤ b) (h1 : 0 ≤ x) (h2 : x < sz b) :
    Calls Tryz.prog 219 #[.agg #[.int .i64 b, .int .i64 d], .int .i64 x] w fun e w' => e = .returned (.agg (zv (rowZ (cnt b d) (digL (cnt b d) (sz d) x)))) ∧ Below w.heap.size w w' := by
  obtain ⟨hq, q1, q2⟩ := cnt_bd hb1 hb2 hd1 hd2
  have hd3 : d ≤ 12 := by omega
  obtain ⟨hs1, hs2⟩ := sz_bd hb1 hb2
  obtain ⟨hs3, hs4⟩ := sz_bd hd1 hd3
  go_enter Tryz.func219, Tryz.ntmps219
  go_wp2_with fail
  refine (count_any _ _ _ hb1 hb2 hd1 hd2).mono ?_
  rintro e w1 ⟨rfl, hw1⟩
  have st0 : RowSt w w1 b d (cnt b d) (cnt b d) 25 242 [] := rowSt_init w b d _ q2 _ _ (by exact hw1) (by simp)
  clear hw1
  go_wp2_with fail
  go_loopw [1, 6] (fun vx vi wr => ∃ (j : Nat) (iv xj : Int) (done : List Int), j ≤ 12 ∧ vi = .int .i64 iv ∧ iv = (j : Int) - 1 ∧ vx = .int .i64 xj ∧ 0 ≤ xj ∧ xj < sz b ∧ digL j (sz d) xj ++ done = digL (cnt b d) (sz d) x ∧ RowSt w wr b d (cnt b d) j 25 242 done) (fun _ vi _ => (intOf vi + 1).toNat)
  case atStart => exact ⟨cnt b d, _, x, [], q2, rfl, by omega, rfl, h1, h2, by simp, st0⟩
  case round =>
    obtain ⟨j, iv, xj, done, hj, rfl, hiv, rfl, hx1, hx2, hdig, st⟩ := hrel
    have HD : Hid (digL j (sz d) xj ++ done = digL (cnt b d) (sz d) x) := hdig
    clear hdig hq st0
    obtain ⟨c0, c1⟩ := st.cells
    cases j with
    | zero =>
      obtain rfl : iv = -1 := by omega
      clear hiv
      have hdone : done = digL (cnt b d) (sz d) x := by simpa [digL] using HD.out
      subst hdone
      have hlen : (zv (rowZ (cnt b d) (List.replicate 0 0 ++ digL (cnt b d) (sz d) x))).size = 12 := by rw [zv_size]; simp [rowZ, digL_len]; omega
      have hone : (zv (rowZ (cnt b d) (List.replicate 0 0 ++ digL (cnt b d) (sz d) x))).all (·.oneCell') = true := zv_one _
      have hinf : (Tryz.prog.info? 242).map (·.size) = some (zv (rowZ (cnt b d) (List.replicate 0 0 ++ digL (cnt b d) (sz d) x))).size := by rw [hlen]; kernel_rfl
      have hold : (zv (List.replicate 12 0)).size = (zv (rowZ (cnt b d) (List.replicate 0 0 ++ digL (cnt b d) (sz d) x))).size := by rw [hlen, zv_size]; rfl
      have SR : Hid (wr.heap[w.heap.size + 1 + 1]? = some (.cells (zv (rowZ (cnt b d) (List.replicate 0 0 ++ digL (cnt b d) (sz d) x))) 242 (0, 0))) := st.row
      have SQ : Hid (wr.heap[w.heap.size + 1]? = some (.cells (zv (List.replicate 12 0)) 242 (0, 0))) := st.r
      have HI : Hid ((Tryz.prog.info? 242).map (·.size) = some (zv (rowZ (cnt b d) (List.replicate 0 0 ++ digL (cnt b d) (sz d) x))).size) := hinf
      have HB : Hid (Below w.heap.size w wr) := st.bel
      have HO : Hid ((zv (List.replicate 12 0)).size = (zv (rowZ (cnt b d) (List.replicate 0 0 ++ digL (cnt b d) (sz d) x))).size) := hold
      have HN : Hid ((zv (rowZ (cnt b d) (List.replicate 0 0 ++ digL (cnt b d) (sz d) x))).all (·.oneCell') = true) := hone
      clear hinf hlen hold hone st
      go_wp2_with (first | (refine wpList_load_row rfl 242 (.tmp 5) rfl (w.heap.size + 1 + 1) rfl _ _ _ _ SR.out Tryz.underlying242 rfl HI.out ?_) | (refine wpList_store_row rfl 242 (.tmp 4) (.tmp 24) rfl (w.heap.size + 1) _ rfl rfl _ _ SQ.out HI.out HO.out HN.out ?_))
      refine bodyPost_ret (v := .agg (zv (rowZ (cnt b d) (List.replicate 0 0 ++ digL (cnt b d) (sz d) x)))) (results_cell_row Tryz.results219 _ _ (w.heap.size + 1) _ _ _ _ rfl (setRow_heap _ _ _ _ _ _ SQ.out) Tryz.underlying242 rfl HI.out) rfl ⟨rfl, below_setRow HB.out (by omega) _⟩
    | succ m =>
      obtain rfl : iv = (m : Int) := by omega
      clear hiv
      go_wp2_with fail
      refine (base_any _ _ _ hd1 hd3).mono ?_
      rintro e w2 ⟨rfl, hw2⟩
      have st2 := st.keep hw2
      clear st hw2 c0 c1
      obtain ⟨c0, c1⟩ := st2.cells
      obtain ⟨r0, r1⟩ := st2.at
      go_wp2_with fail
      refine (base_any _ _ _ hd1 hd3).mono ?_
      rintro e w3 ⟨rfl, hw3⟩
      have st3 := (st2.put (xj % sz d)).keep hw3
      clear st2 hw3 c0 c1 r0 r1
      go_wp2
      go_roundw
      case rel =>
        obtain ⟨y1, y2⟩ := div_bd hx1 hx2 (by omega : 1 ≤ sz d)
        exact ⟨m, _, xj / sz d, xj % sz d :: done, by omega, rfl, by omega, rfl, y1, y2, digL_cons HD.out, st3⟩
      case measure => simp [intOf]
end Go.Proofs.YtdceimnapbblnaaGreat
namespace Go.Proofs.YtdceimnapbblnaaGreat
open Go.RowKit
set_option linter.unusedVariables false

/-- digits that are made from behind -/
def drow (n j : Nat) (done : List Int) : List Int := List.replicate j 0 ++ done
theorem drow_set {n j : Nat} {done : List Int} (v : Int) : (drow n (j + 1) done).set j v = drow n j (v :: done) := by
  unfold drow
  rw [List.replicate_succ', List.append_assoc, List.set_append_right _ _ (by simp)]
  simp

theorem BoxAt.put {w wr : World} {b d : Int} (h : BoxAt w wr b d) {g : Nat} (hg : w.heap.size < g) (i : Nat) (v : Value) : BoxAt w (wr.setCell ⟨g, i, none⟩ v) b d := by
  have hb : (wr.setCell ⟨g, i, none⟩ v).heap[w.heap.size]? = wr.heap[w.heap.size]? := heap_setCell_other _ _ _ _ (by simp; omega)
  exact ⟨h.bel.setCell (by simp; omega) _, (World.cell?_of_block (w := wr) hb).trans h.c0, (World.cell?_of_block (w := wr) hb).trans h.c1, by simpa [World.setCell] using h.lt⟩

def gOk (b d x : Int) : Bool := numB b d x
/-- a list of digits that is answered: nil where there is none, else in a block of its own -/
def DigV (b d x : Int) (w w' : World) (v : Value) : Prop :=
  (numB b d x = false ∧ v = .slice none 0 0) ∨ (numB b d x = true ∧ ∃ g, v = .slice (some ⟨g, 0, none⟩) (cnt b d) (cnt b d) ∧ OwnZ w w' g (digL (cnt b d) (sz d) x))

end Go.Proofs.YtdceimnapbblnaaGreat
namespace Go.Proofs.YtdceimnapbblnaaGreat
open Go.RowKit
set_option linter.unusedVariables false
theorem ndbd {b d n : Int} (hg : gsB b d = true) (n1 : 0 ≤ n) (n2 : n ≤ b / d) : 0 ≤ n * d ∧ n * d ≤ 12 := by
  obtain ⟨h1, h2, h3, _, _⟩ := gsB_true hg
  refine ⟨Int.mul_nonneg n1 (by omega), ?_⟩
  have := Int.mul_le_mul_of_nonneg_right n2 (show 0 ≤ d by omega)
  rw [bits_eq hg] at this
  omega
theorem sz_nd {x : Int} (h1 : 0 ≤ x) (h2 : x ≤ 12) : 1 ≤ sz x ∧ sz x ≤ 4096 := by
  by_cases h : x = 0
  · subst h; decide
  · have := sz_bd (b := x) (by omega) h2; omega
theorem ret_two {x y a b : Int} (h1 : x = a) (h2 : y = b) : Ending.returned (.tuple #[.int .i64 x, .int .i64 y]) = .returned (.tuple #[.int .i64 a, .int .i64 b]) := by rw [h1, h2]
theorem dist_zero {b f t : Int} (f1 : 0 ≤ f) (f2 : f < sz b) (t1 : 0 ≤ t) (t2 : t < sz b) : dist b f t = 0 ↔ f = t := by
  rw [dist_eq f1 f2 t1 t2]
  split <;> omega
theorem rnd_dist {b f t : Int} (f1 : 0 ≤ f) (f2 : f < sz b) (t1 : 0 ≤ t) (t2 : t < sz b) : rnd b f t = if dist b f t = 0 then sz b else dist b f t := by
  unfold rnd
  by_cases h : f = t
  · rw [if_pos h, if_pos ((dist_zero f1 f2 t1 t2).2 h)]
  · rw [if_neg h, if_neg (fun hh => h ((dist_zero f1 f2 t1 t2).1 hh))]
set_option maxHeartbeats 1600000 in
theorem lbest_any (b d f t k : Int) (w : World) (hg : gsB b d = true) (f1 : 0 ≤ f) (f2 : f < sz b) (t1 : 0 ≤ t) (t2 : t < sz b) (k1 : 0 ≤ k) (k2 : k < sz b) :
    Calls Tryz.prog 157 #[.agg #[.int .i64 b, .int .i64 d], .int .i64 f, .int .i64 t, .int .i64 k] w fun e w' => e = .returned (.tuple #[.int .i64 (bestI b d f t k).1, .int .i64 (bestI b d f t k).2]) ∧ Below w.heap.size w w' := by
  obtain ⟨hb1, hb2, hd1, hd2, _⟩ := gsB_true hg
  obtain ⟨hs1, hs2⟩ := sz_bd hb1 hb2
  obtain ⟨hq, q1, q2⟩ := cnt_bd hb1 hb2 hd1 hd2
  have hr := rnd_dist f1 f2 t1 t2
  generalize hR : bestI b d f t k = R
  have HR : Hid (bestI b d f t k = R) := hR
  clear hR
  go_enter Tryz.func157, Tryz.ntmps157
  go_wp2_with fail
  refine (ldist_any _ _ _ _ _ hb1 hb2 f1 f2 t1 t2).mono ?_
  rintro e w1 ⟨rfl, hw1⟩
  have BX1 : Hid (BoxAt w w1 b d) := boxAt1 hw1 (by simp)
  clear hw1
  go_upto_if 26 with (fail)
  go_cut [11] (fun v11 wc => v11 = .int .i64 (rnd b f t) ∧ Hid (BoxAt w wc b d))
  case first =>
    obtain ⟨_, c0, c1, _⟩ := BX1.out
    by_cases h0 : dist b f t = 0
    · rw [if_pos h0] at hr
      go_wp2_with fail
      refine (lsize_any _ _ _ hb1 hb2).mono ?_
      rintro e w2 ⟨rfl, hw2⟩
      go_wp2_with fail
      go_meet
      exact ⟨by rw [hr], BX1.out.keep hw2⟩
    · rw [if_neg h0] at hr
      go_wp2_with fail
      go_meet
      exact ⟨by rw [hr], BX1⟩
  case rest =>
    obtain ⟨rfl, BX2⟩ := hcut
    clear BX1 hr
    obtain ⟨m2, m1⟩ := rnd_pos hb1 f1 f2 t1 t2
    have HG : Hid (gsB b d = true) := hg
    have HB : Hid (R = best b d f (rnd b f t) k (cnt b d)) := HR.out.symm
    generalize rnd b f t = m at *
    clear hg
    go_wp2_with fail
    go_loop [12] (fun v => ∃ (j : Nat) (n : Int), n = (j : Int) ∧ j ≤ cnt b d ∧ v = .int .i64 n ∧ Hid (R = best b d f m k j)) (fun v => (intOf v).toNat)
    case atStart => exact ⟨cnt b d, _, rfl, Nat.le_refl _, rfl, HB⟩
    case round =>
      obtain ⟨j, n, hn, hj, rfl, HI⟩ := hrel
      clear HB
      obtain ⟨_, c0, c1, _⟩ := BX2.out
      cases j with
      | zero =>
        obtain rfl : n = 0 := by omega
        clear hn
        go_wp2_with fail
        go_ret2
        exact ⟨ret_two (by rw [HI.out]; rfl) (by rw [HI.out]; exact hq.symm), BX2.out.bel⟩
      | succ j =>
        obtain ⟨nd1, nd2⟩ := ndbd HG.out (show 0 ≤ n by omega) (show n ≤ b / d by omega)
        obtain ⟨od1, od2⟩ := ndbd HG.out (show 0 ≤ b / d - n by omega) (show b / d - n ≤ b / d by omega)
        rw [hq] at od1 od2
        have HN : Hid (n = ((j + 1 : Nat) : Int)) := hn
        have n1 : 1 ≤ n := by omega
        have n2 : n ≤ 12 := by omega
        clear hn
        obtain ⟨x, hx⟩ : ∃ x, x = n * d := ⟨_, rfl⟩
        obtain ⟨y, hy⟩ : ∃ y, y = ((cnt b d : Int) - n) * d := ⟨_, rfl⟩
        have HX : Hid (x = n * d) := hx
        have HY : Hid (y = ((cnt b d : Int) - n) * d) := hy
        rw [← hx] at nd1 nd2
        rw [← hy] at od1 od2
        have hwx : wrap64 (n * d) = x := by rw [← hx]; exact IntWalk.wrap64_in x (by omega)
        have hwy : wrap64 (((cnt b d : Int) - n) * d) = y := by rw [← hy]; exact IntWalk.wrap64_in y (by omega)
        clear hx hy
        obtain ⟨p1, p2⟩ := sz_nd nd1 nd2
        have hP : wrap64 (2 ^ x.toNat) = sz x := IntWalk.wrap64_in (sz x) (by omega)
        have hK : k / 2 ^ y.toNat = k / sz y := rfl
        have K1 : 0 ≤ k / sz y := Int.ediv_nonneg k1 (Int.le_of_lt (sz_pos _))
        have K2 : k / sz y ≤ 4096 := Int.le_trans (Int.ediv_le_self _ k1) (by omega)
        go_upto_region 10 with (fail)
        simp only [hP]
        clear hP hK
        have HP : Hid (sz x = sz (n * d)) := by rw [← HX.out]; rfl
        have HK : Hid (k / sz y = k / sz (((cnt b d : Int) - n) * d)) := by rw [← HY.out]; rfl
        generalize sz x = P at *
        generalize k / sz y = K at *
        have g1 := Int.emod_nonneg f (show P ≠ 0 by omega)
        have g2 := Int.emod_lt_of_pos f (show 0 < P by omega)
        go_upto_region 11 with (fail)
        have HU : Hid (up4 b d f k n = (K - f % P + P) % P) := by unfold Hid up4; rw [hq, ← HP.out, ← HK.out]
        have u1 := Int.emod_nonneg (K - f % P + P) (show P ≠ 0 by omega)
        have u2 := Int.emod_lt_of_pos (K - f % P + P) (show 0 < P by omega)
        generalize (K - f % P + P) % P = U at *
        by_cases hu : U < m
        · have HV : Hid (R = ((f + U) % sz b, (cnt b d : Int) - n)) := by
            have h := HI.out
            unfold best at h
            rw [← HN.out, HU.out, if_pos hu, hq] at h
            exact h
          have hub : decide (U < m) = true := decide_eq_true hu
          go_wp2_with fail
          refine (lsize_any _ _ _ hb1 hb2).mono ?_
          rintro e w2 ⟨rfl, hw2⟩
          go_wp2_with fail
          go_ret2
          exact ⟨ret_two (by rw [HV.out]) (by rw [HV.out]), belt BX2.out.bel hw2⟩
        · have HV : Hid (R = best b d f m k j) := by
            have h := HI.out
            unfold best at h
            rw [← HN.out, HU.out, if_neg hu] at h
            exact h
          have hub : decide (U < m) = false := decide_eq_false hu
          go_wp2_with fail
          go_round
          case rel => exact ⟨j, _, by have := HN.out; omega, by omega, rfl, HV⟩
          case measure => simp [intOf]; omega
theorem up_eq {K f P S : Int} (h : P ∣ S) : (K - f + S) % P = (K - f % P + P) % P := by
  obtain ⟨q, rfl⟩ := h
  rw [Int.add_mul_emod_self_left, Int.add_emod_right, Int.sub_emod_emod]
set_option maxHeartbeats 1600000 in
theorem imagFrom_any (b d f t k : Int) (w : World) (hg : gsB b d = true) (f1 : 0 ≤ f) (f2 : f < sz b) (t1 : 0 ≤ t) (t2 : t < sz b) (k1 : 0 ≤ k) (k2 : k < sz b) :
    Calls Tryz.prog 214 #[.agg #[.int .i64 b, .int .i64 d], .int .i64 f, .int .i64 t, .int .i64 k] w fun e w' => e = .returned (.tuple #[.int .i64 (bestI b d f t k).1, .int .i64 (bestI b d f t k).2]) ∧ Below w.heap.size w w' := by
  obtain ⟨hb1, hb2, hd1, hd2, _⟩ := gsB_true hg
  obtain ⟨hs1, hs2⟩ := sz_bd hb1 hb2
  obtain ⟨hq, q1, q2⟩ := cnt_bd hb1 hb2 hd1 hd2
  obtain ⟨m2, m1⟩ := rnd_pos hb1 f1 f2 t1 t2
  generalize hR : bestI b d f t k = R
  have HB : Hid (R = best b d f (rnd b f t) k (cnt b d)) := hR.symm
  have HG : Hid (gsB b d = true) := hg
  have HRU := fun w => roundUp_any b d f t w hb1 hb2 f1 f2 t1 t2
  generalize rnd b f t = m at *
  clear hR hg
  go_enter Tryz.func214, Tryz.ntmps214
  go_wp2_with fail
  have BX2 : Hid (BoxAt w (w.alloc (.cells #[.int .i64 b, .int .i64 d] 25)) b d) := boxAt1 (N := w.heap.size + 1) (Below.refl _ _) (Nat.le_refl _)
  go_loopw [10] (fun v wr => ∃ (j : Nat) (l n : Int), l = (j : Int) ∧ n = (cnt b d : Int) - l ∧ j ≤ cnt b d ∧ v = .int .i64 l ∧ Hid (BoxAt w wr b d) ∧ Hid (R = best b d f m k (cnt b d - j))) (fun v _ => cnt b d + 1 - (intOf v).toNat)
  case atStart => exact ⟨0, _, _, rfl, rfl, by omega, rfl, BX2, HB⟩
  case round =>
    obtain ⟨j, l, n, hl, hn, hj, rfl, BX, HI⟩ := hrel
    clear HB BX2
    obtain ⟨_, c0, c1, _⟩ := BX.out
    obtain ⟨nd1, nd2⟩ := ndbd HG.out (show 0 ≤ n by omega) (show n ≤ b / d by omega)
    obtain ⟨od1, od2⟩ := ndbd HG.out (show 0 ≤ l by omega) (show l ≤ b / d by omega)
    have HN : Hid (l = (j : Int) ∧ n = (cnt b d : Int) - l) := ⟨hl, hn⟩
    have l1 : 0 ≤ l := by omega
    have l2 : l ≤ 12 := by omega
    have hpart : sz (n * d) * sz (l * d) = sz b := by
      have := sz_part HG.out (show 0 ≤ n by omega) (show n ≤ b / d by omega)
      rwa [show b / d - n = l by omega] at this
    clear hl hn
    obtain ⟨y, hy⟩ : ∃ y, y = l * d := ⟨_, rfl⟩
    have HY : Hid (y = l * d) := hy
    have hwy : wrap64 (l * d) = y := by rw [← hy]; exact IntWalk.wrap64_in y (by omega)
    rw [← hy] at od1 od2 hpart
    clear hy
    obtain ⟨p1, p2⟩ := sz_nd nd1 nd2
    have hP : sz b / 2 ^ y.toNat = sz (n * d) := by
      show sz b / sz y = _
      rw [← hpart]; exact Int.mul_ediv_cancel _ (by have := sz_pos y; omega)
    have HD : Hid (sz (n * d) ∣ sz b) := ⟨_, hpart.symm⟩
    have hK : k / 2 ^ y.toNat = k / sz y := rfl
    clear hpart
    have K1 : 0 ≤ k / sz y := Int.ediv_nonneg k1 (Int.le_of_lt (sz_pos _))
    have K2 : k / sz y ≤ 4096 := Int.le_trans (Int.ediv_le_self _ k1) (by omega)
    go_wp2_with fail
    refine (size_any _ _ _ hb1 hb2).mono ?_
    rintro e w2 ⟨rfl, hw2⟩
    have BX2 : Hid (BoxAt w w2 b d) := BX.out.keep hw2
    clear BX hw2 c0 c1
    obtain ⟨_, c0, c1, z2⟩ := BX2.out
    go_upto_region 5 with (fail)
    clear hP
    have HP : Hid (sz (n * d) = sz (n * d)) := rfl
    have HK : Hid (k / sz y = k / sz (l * d)) := by rw [← HY.out]; rfl
    obtain ⟨P, hP⟩ : ∃ P, P = sz (n * d) := ⟨_, rfl⟩
    clear HP
    have HP : Hid (P = sz (n * d)) := hP
    simp only [← hP] at p1 p2 HD ⊢
    clear hP
    have c0k : ∀ p : Kin w2.heap.size w2, p.v.cell? ⟨w.heap.size, 0, none⟩ = some (.int .i64 b) := kin_cell z2 c0
    have c1k : ∀ p : Kin w2.heap.size w2, p.v.cell? ⟨w.heap.size, 1, none⟩ = some (.int .i64 d) := kin_cell z2 c1
    refine region_kin w2.heap.size (by kernel_rfl) (by kernel_rfl) (fun hne => ?_)
    repeat (go_big_quiet_step ((go_at_call 140; exact kin_of (Nat.le_refl _) (size_any _ _ _ hb1 hb2))))
    refine wpQuiet_nil ?_
    intro w5 hw'
    obtain ⟨⟨w6, hw5⟩, hw''⟩ := hw'
    obtain rfl : w5 = w6 := hw''
    have BX5 : Hid (BoxAt w w5 b d) := BX2.out.keep hw5
    clear c0k c1k hne hw5 c0 c1 z2 BX2 hK
    have HU : Hid (up4 b d f k n = (k / sz y - f + sz b) % P) := by
      obtain ⟨h1, h2⟩ := HN.out
      unfold Hid up4
      rw [up_eq HD.out, HK.out, HP.out, hq, show (cnt b d : Int) - n = l by omega]
    have u1 := Int.emod_nonneg (k / sz y - f + sz b) (show P ≠ 0 by omega)
    have u2 := Int.emod_lt_of_pos (k / sz y - f + sz b) (show 0 < P by omega)
    generalize (k / sz y - f + sz b) % P = U at *
    obtain ⟨_, c0, c1, z5⟩ := BX5.out
    by_cases hu : U < m
    · have HV : Hid (R = ((f + U) % sz b, l)) := by
        obtain ⟨h1, h2⟩ := HN.out
        have h := HI.out
        by_cases hz : cnt b d - j = 0
        · rw [hz] at h
          unfold best at h
          have hn0 : n = 0 := by omega
          have hP := HP.out
          rw [hn0, Int.zero_mul, sz_zero] at hP
          have hU0 : U = 0 := by omega
          rw [hU0, Int.add_zero, Int.emod_eq_of_lt f1 f2]
          rw [hq, show (cnt b d : Int) = l by omega] at h
          exact h
        · obtain ⟨i, hi⟩ : ∃ i, cnt b d - j = i + 1 := ⟨cnt b d - j - 1, by omega⟩
          rw [hi] at h
          unfold best at h
          rw [show ((i + 1 : Nat) : Int) = n by omega, HU.out, if_pos hu, hq, show (cnt b d : Int) - n = l by omega] at h
          exact h
      go_wp2_with fail
      refine (HRU _).mono ?_
      rintro e w7 ⟨rfl, hw7⟩
      have BX7 : Hid (BoxAt w w7 b d) := BX5.out.keep hw7
      clear BX5 hw7 c0 c1
      obtain ⟨_, c0, c1, z7⟩ := BX7.out
      go_wp2_with fail
      refine (size_any _ _ _ hb1 hb2).mono ?_
      rintro e w8 ⟨rfl, hw8⟩
      go_wp2_with fail
      go_ret2
      exact ⟨ret_two (by rw [HV.out]) (by rw [HV.out]), belt BX7.out.bel hw8⟩
    · have HV : Hid (j < cnt b d ∧ R = best b d f m k (cnt b d - (j + 1))) := by
        obtain ⟨h1, h2⟩ := HN.out
        have h := HI.out
        have hz : ¬ cnt b d - j = 0 := fun hz => by
          have hn0 : n = 0 := by omega
          have hP := HP.out
          rw [hn0, Int.zero_mul, sz_zero] at hP
          omega
        obtain ⟨i, hi⟩ : ∃ i, cnt b d - j = i + 1 := ⟨cnt b d - j - 1, by omega⟩
        rw [hi] at h
        unfold best at h
        rw [show ((i + 1 : Nat) : Int) = n by omega, HU.out, if_neg hu] at h
        exact ⟨by omega, by rw [show cnt b d - (j + 1) = i by omega]; exact h⟩
      have hub : decide (U < m) = false := decide_eq_false hu
      go_wp2_with fail
      refine (HRU _).mono ?_
      rintro e w7 ⟨rfl, hw7⟩
      have BX7 : Hid (BoxAt w w7 b d) := BX5.out.keep hw7
      clear BX5 hw7 c0 c1
      obtain ⟨_, c0, c1, z7⟩ := BX7.out
      go_wp2_with fail
      go_roundw
      case rel =>
        obtain ⟨h1, h2⟩ := HN.out
        exact ⟨j + 1, _, _, by omega, rfl, HV.out.1, rfl, BX7, HV.out.2⟩
      case measure => have h := HN.out.1; have h2 := HV.out.1; simp [intOf]; omega
end Go.Proofs.YtdceimnapbblnaaGreat
namespace Go.Proofs.YtdceimnapbblnaaGreat
open Go.RowKit
set_option linter.unusedVariables false
def bstOk (b d f t k : Int) : Bool := numB b d f && numB b d t && numB b d k
def bstV (b d f t k : Int) : Int × Int := if bstOk b d f t k = true then bestI b d f t k else (0, 0)
end Go.Proofs.YtdceimnapbblnaaGreat
namespace Go.Proofs.YtdceimnapbblnaaGreat
open Go.RowKit Go.Deep
set_option linter.unusedVariables false
/-- block g holds these cells -/
def Bk (w : World) (g : Nat) (C : Array Value) (T : TypeId) : Prop := w.heap[g]? = some (.cells C T (0, 0))
theorem Bk.lt {w : World} {g : Nat} {C : Array Value} {T : TypeId} (h : Bk w g C T) : g < w.heap.size := (Array.getElem?_eq_some_iff.1 h).1
theorem Bk.keepN {w w1 : World} {g n : Nat} {C : Array Value} {T : TypeId} (h : Bk w g C T) (hb : Below n w w1) (hg : g < n) : Bk w1 g C T := (hb.block g hg).trans h
theorem Bk.keep {w w1 : World} {g : Nat} {C : Array Value} {T : TypeId} (h : Bk w g C T) (hb : Below w.heap.size w w1) : Bk w1 g C T := h.keepN hb h.lt
theorem Bk.new (w : World) (C : Array Value) (T : TypeId) : Bk (w.alloc (.cells C T)) w.heap.size C T := heap_alloc_new _ _
theorem Bk.alloc {w : World} {g : Nat} {C : Array Value} {T : TypeId} (h : Bk w g C T) (o : Obj) : Bk (w.alloc o) g C T := h.keep ((Below.refl _ _).alloc (Nat.le_refl _) o)
theorem Bk.cell {w : World} {g : Nat} {C : Array Value} {T : TypeId} (h : Bk w g C T) (i : Nat) : w.cell? ⟨g, i, none⟩ = C[i]? := cell_of_row w _ _ _ _ _ h
theorem Bk.fr {w : World} {g : Nat} {C : Array Value} {T : TypeId} (h : Bk w g C T) (i : Nat) : w.frozen? ⟨g, i, none⟩ = false := frozen_of_row w _ _ _ _ h
theorem Bk.set {w : World} {g : Nat} {C : Array Value} {T : TypeId} (h : Bk w g C T) (i : Nat) (v : Value) : Bk (w.setCell ⟨g, i, none⟩ v) g (C.setIfInBounds i v) T := heap_setCell_same _ _ _ _ _ _ h
theorem Bk.oth {w : World} {g k : Nat} {C : Array Value} {T : TypeId} (h : Bk w g C T) (hk : ¬ g = k) (i : Nat) (v : Value) : Bk (w.setCell ⟨k, i, none⟩ v) g C T := (heap_setCell_other _ _ _ _ (by simpa using hk)).trans h
theorem Bk.c3 {w : World} {g : Nat} {a b c : Value} {T : TypeId} (h : Bk w g #[a, b, c] T) : w.cell? ⟨g, 0, none⟩ = some a ∧ w.cell? ⟨g, 1, none⟩ = some b ∧ w.cell? ⟨g, 2, none⟩ = some c := ⟨h.cell 0, h.cell 1, h.cell 2⟩
theorem Bk.c2 {w : World} {g : Nat} {a b : Value} {T : TypeId} (h : Bk w g #[a, b] T) : w.cell? ⟨g, 0, none⟩ = some a ∧ w.cell? ⟨g, 1, none⟩ = some b := ⟨h.cell 0, h.cell 1⟩
theorem Bk.c4 {w : World} {g : Nat} {a b c d : Value} {T : TypeId} (h : Bk w g #[a, b, c, d] T) : w.cell? ⟨g, 0, none⟩ = some a ∧ w.cell? ⟨g, 1, none⟩ = some b ∧ w.cell? ⟨g, 2, none⟩ = some c ∧ w.cell? ⟨g, 3, none⟩ = some d := ⟨h.cell 0, h.cell 1, h.cell 2, h.cell 3⟩
theorem Bk.f4 {w : World} {g : Nat} {C : Array Value} {T : TypeId} (h : Bk w g C T) : w.frozen? ⟨g, 0, none⟩ = false ∧ w.frozen? ⟨g, 1, none⟩ = false ∧ w.frozen? ⟨g, 2, none⟩ = false ∧ w.frozen? ⟨g, 3, none⟩ = false := ⟨h.fr 0, h.fr 1, h.fr 2, h.fr 3⟩
theorem Bk.c7 {w : World} {g : Nat} {a b c d e f k : Value} {T : TypeId} (h : Bk w g #[a, b, c, d, e, f, k] T) : w.cell? ⟨g, 0, none⟩ = some a ∧ w.cell? ⟨g, 1, none⟩ = some b ∧ w.cell? ⟨g, 2, none⟩ = some c ∧ w.cell? ⟨g, 3, none⟩ = some d ∧ w.cell? ⟨g, 4, none⟩ = some e ∧ w.cell? ⟨g, 5, none⟩ = some f ∧ w.cell? ⟨g, 6, none⟩ = some k := ⟨h.cell 0, h.cell 1, h.cell 2, h.cell 3, h.cell 4, h.cell 5, h.cell 6⟩
theorem Bk.f7 {w : World} {g : Nat} {C : Array Value} {T : TypeId} (h : Bk w g C T) : w.frozen? ⟨g, 0, none⟩ = false ∧ w.frozen? ⟨g, 1, none⟩ = false ∧ w.frozen? ⟨g, 2, none⟩ = false ∧ w.frozen? ⟨g, 3, none⟩ = false ∧ w.frozen? ⟨g, 4, none⟩ = false ∧ w.frozen? ⟨g, 5, none⟩ = false ∧ w.frozen? ⟨g, 6, none⟩ = false := ⟨h.fr 0, h.fr 1, h.fr 2, h.fr 3, h.fr 4, h.fr 5, h.fr 6⟩
theorem Bk.drew {w : World} {g : Nat} {C : Array Value} {T : TypeId} (h : Bk w g C T) : Bk w.drew g C T := h
/-- cells from i on are written, one by one -/
def setL (w : World) (g : Nat) : Nat → List Value → World
  | _, [] => w
  | i, v :: vs => setL (w.setCell ⟨g, i, none⟩ v) g (i + 1) vs
def ovr (C : Array Value) : Nat → List Value → Array Value
  | _, [] => C
  | i, v :: vs => ovr (C.setIfInBounds i v) (i + 1) vs
theorem Bk.setL {g : Nat} {T : TypeId} : ∀ (vs : List Value) {w : World} {C : Array Value} (i : Nat), Bk w g C T → Bk (setL w g i vs) g (ovr C i vs) T
  | [], _, _, _, h => h
  | v :: vs, _, _, i, h => Bk.setL vs (i + 1) (h.set i v)
theorem setL_oth {g k : Nat} (hk : ¬ k = g) : ∀ (vs : List Value) (w : World) (i : Nat), (setL w g i vs).heap[k]? = w.heap[k]?
  | [], _, _ => rfl
  | v :: vs, w, i => by
    unfold setL
    rw [setL_oth hk vs _ (i + 1), heap_setCell_other _ _ _ _ (by simpa using hk)]
theorem setL_size {g : Nat} : ∀ (vs : List Value) (w : World) (i : Nat), (setL w g i vs).heap.size = w.heap.size
  | [], _, _ => rfl
  | v :: vs, w, i => by
    unfold setL
    rw [setL_size vs _ (i + 1)]
    simp [World.setCell]
theorem setL_below {g n : Nat} {w0 : World} (hg : n ≤ g) : ∀ (vs : List Value) {w : World} (i : Nat), Below n w0 w → Below n w0 (setL w g i vs)
  | [], _, _, h => h
  | v :: vs, _, i, h => setL_below hg vs (i + 1) (h.setCell (p := ⟨g, i, none⟩) hg v)
end Go.Proofs.YtdceimnapbblnaaGreat
namespace Go.Proofs.YtdceimnapbblnaaGreat
open Go.RowKit Go.Deep
set_option linter.unusedVariables false
theorem peerI_first : ∀ (ps : List Pr) (x : Int) (k : Nat), k < ps.length → (∀ i, i < k → ¬ (ps.getD i pr0).id = x) → (ps.getD k pr0).id = x → peerI ps x = ps.getD k pr0
  | [], x, k, hk, _, _ => by simp at hk
  | p :: ps, x, 0, _, _, h => by
    unfold peerI
    rw [if_pos (by simpa using h)]
    simp
  | p :: ps, x, k + 1, hk, h1, h2 => by
    unfold peerI
    rw [if_neg (by have := h1 0 (by omega); simpa using this)]
    have := peerI_first ps x k (by simpa using hk) (fun i hi => by have := h1 (i + 1) (by omega); simpa using this) (by simpa using h2)
    simpa using this
/-- the place of the first peer with an Id -/
def idxI : List Pr → Int → Nat
  | [], _ => 0
  | p :: ps, x => if p.id = x then 0 else idxI ps x + 1
theorem idxI_first : ∀ (ps : List Pr) (x : Int) (k : Nat), k < ps.length → (∀ i, i < k → ¬ (ps.getD i pr0).id = x) → (ps.getD k pr0).id = x → idxI ps x = k
  | [], x, k, hk, _, _ => by simp at hk
  | p :: ps, x, 0, _, _, h => by
    unfold idxI
    rw [if_pos (by simpa using h)]
  | p :: ps, x, k + 1, hk, h1, h2 => by
    unfold idxI
    rw [if_neg (by have := h1 0 (by omega); simpa using this)]
    have := idxI_first ps x k (by simpa using hk) (fun i hi => by have := h1 (i + 1) (by omega); simpa using this) (by simpa using h2)
    omega
theorem idxI_mem : ∀ (ps : List Pr) (x : Int), hasB (idsP ps) x = true → idxI ps x < ps.length ∧ peerI ps x = ps.getD (idxI ps x) pr0
  | [], x, h => by
    have := of_decide_eq_true h
    obtain ⟨i, hi, _⟩ := this
    simp [idsP] at hi
  | p :: ps, x, h => by
    unfold peerI idxI
    by_cases he : p.id = x
    · rw [if_pos he, if_pos he]
      exact ⟨by simp, by simp⟩
    · rw [if_neg he, if_neg he]
      have h2 : hasB (idsP ps) x = true := by
        obtain ⟨i, hi, hx⟩ := of_decide_eq_true h
        cases i with
        | zero => exact absurd (by simpa [idsP] using hx) he
        | succ i => exact decide_eq_true ⟨i, by simpa [idsP] using hi, by simpa [idsP] using hx⟩
      obtain ⟨h3, h4⟩ := idxI_mem ps x h2
      exact ⟨by simpa using h3, by simpa using h4⟩
theorem peer_at {w : World} {bk off : Nat} {ps : List Pr} {x : Int} (hx : hasB (idsP ps) x = true) (hr : PeersAt w (some ⟨bk, off, none⟩) ps) : bk < w.heap.size ∧ PeerAt w bk (off + idxI ps x * 4) (peerI ps x) := by
  obtain ⟨h1, h2⟩ := idxI_mem ps x hx
  obtain ⟨h3, h4⟩ := peersAt_cell hr (by omega)
  rw [h2]
  exact ⟨h3, h4 _ h1⟩
theorem fwd_any (n : Int) (w : World) :
    Calls Tryz.prog 76 #[.int .i64 n] w fun e w' => e = .returned (.bool (inB n 0 1000)) ∧ w' = w := by
  by_cases h1 : 0 ≤ n
  · by_cases h2 : n ≤ 1000
    · rw [inB_yes h1 h2]
      go_enter Tryz.func76, Tryz.ntmps76
      go_wp2
      go_ret
      exact ⟨rfl, rfl⟩
    · rw [inB_no (by omega)]
      go_enter Tryz.func76, Tryz.ntmps76
      go_wp2
      go_ret
      exact ⟨rfl, rfl⟩
  · rw [inB_no (by omega)]
    go_enter Tryz.func76, Tryz.ntmps76
    go_wp2
    go_ret
    exact ⟨rfl, rfl⟩
set_option maxHeartbeats 800000 in
theorem isId_any (b d : Int) (q : Nat) (a : Option Addr) (cap : Nat) (ps : List Pr) (x : Int) (w : World) (R : Ring b d (idsP ps)) (hq : q < w.heap.size) (c2 : w.cell? ⟨q, 2, none⟩ = some (.slice a ps.length cap)) (hr : PeersAt w a ps) :
    Calls Tryz.prog 137 #[.pointer (some ⟨q, 0, none⟩), .int .i64 x] w fun e w' => e = .returned (.bool (hasB (idsP ps) x)) ∧ Below w.heap.size w w' := by
  have hil := idsP_len ps
  have l2 := R.l2
  rw [hil] at l2
  have CI := idsOf_any q a cap ps w (by omega) hq c2 hr
  have hv : Hid (hasB (idsP ps) x = memI (idsP ps) x) := (mem_has R x).symm
  go_enter Tryz.func137, Tryz.ntmps137
  go_wp2_with fail
  refine CI.mono ?_
  rintro e w1 ⟨rfl, ow1⟩
  have C := isMember_any (some ⟨w.heap.size, 0, none⟩) ps.length (idsP ps) x w1 (by unfold maxLen; omega) (rowAt_of_row ow1.row)
  rw [hil] at C
  go_wp2_with fail
  refine C.mono ?_
  rintro e w2 ⟨rfl, hw2⟩
  subst hw2
  go_wp2
  go_ret
  exact ⟨ret_bool hv.out.symm, ow1.bel⟩
set_option maxHeartbeats 800000 in
theorem peerOf_any (q bk off : Nat) (cap : Nat) (ps : List Pr) (x : Int) (w : World) (hm : ps.length ≤ 1048576) (hx : hasB (idsP ps) x = true) (c2 : w.cell? ⟨q, 2, none⟩ = some (.slice (some ⟨bk, off, none⟩) ps.length cap)) (hr : PeersAt w (some ⟨bk, off, none⟩) ps) :
    Calls Tryz.prog 142 #[.pointer (some ⟨q, 0, none⟩), .int .i64 x] w fun e w' => e = .returned (.pointer (some ⟨bk, off + idxI ps x * 4, none⟩)) ∧ w' = w := by
  obtain ⟨i0, hi0, hx0⟩ := of_decide_eq_true hx
  rw [idsP_get] at hx0
  rw [idsP_len] at hi0
  obtain ⟨hbk, hc⟩ := peersAt_cell hr (by omega)
  have HC : Hid (∀ i, i < ps.length → PeerAt w bk (off + i * 4) (ps.getD i pr0)) := hc
  have HX : Hid ((ps.getD i0 pr0).id = x) := hx0
  clear hc hx0 hr hx
  go_enter Tryz.func142, Tryz.ntmps142
  go_wp2_with fail
  go_loop [5] (fun v => ∃ j : Nat, j ≤ i0 ∧ v = .int .i64 j ∧ Hid (∀ i, i < j → ¬ (ps.getD i pr0).id = x)) (fun v => i0 - (intOf v).toNat)
  case atStart => exact ⟨0, Nat.zero_le _, rfl, fun i hi => by omega⟩
  case round =>
    obtain ⟨j, hj, rfl, HT⟩ := hrel
    have hjl : j < ps.length := by omega
    obtain ⟨c0, _⟩ := HC.out j hjl
    by_cases he : (ps.getD j pr0).id = x
    · have HV : Hid (idxI ps x = j) := idxI_first ps x j hjl HT.out he
      have he' : ((ps.getD j pr0).id != x) = false := by rw [he]; simp
      clear he
      generalize (ps.getD j pr0).id = y at *
      go_wp2_with fail
      go_ret
      exact ⟨by rw [HV.out]; rfl, rfl⟩
    · have HT2 : Hid (∀ i, i < j + 1 → ¬ (ps.getD i pr0).id = x) := fun i hi => by
        by_cases h : i = j
        · subst h; exact he
        · exact HT.out i (by omega)
      have hlt : j < i0 := by
        by_cases h : j = i0
        · subst h; exact absurd HX.out he
        · omega
      have he' : ((ps.getD j pr0).id != x) = true := by simpa using he
      clear he
      generalize (ps.getD j pr0).id = y at c0 he'
      go_wp2_with fail
      go_round
      case rel => exact ⟨j + 1, by omega, by go_num, HT2⟩
      case measure => simp [intOf]; omega
theorem peerI_none : ∀ (ps : List Pr) (x : Int), (∀ i, i < ps.length → ¬ (ps.getD i pr0).id = x) → peerI ps x = prN
  | [], x, _ => rfl
  | p :: ps, x, h => by
    unfold peerI
    rw [if_neg (by have := h 0 (by simp); simpa using this)]
    exact peerI_none ps x (fun i hi => by have := h (i + 1) (by simpa using hi); simpa using this)
theorem hasB_at {ps : List Pr} {x : Int} {j : Nat} (hj : j < ps.length) (h : (ps.getD j pr0).id = x) : hasB (idsP ps) x = true := decide_eq_true ⟨j, by rw [idsP_len]; exact hj, by rw [idsP_get]; exact h⟩
theorem hasB_not {ps : List Pr} {x : Int} (h : ∀ i, i < ps.length → ¬ (ps.getD i pr0).id = x) : hasB (idsP ps) x = false := decide_eq_false (fun ⟨i, hi, he⟩ => h i (by rw [idsP_len] at hi; exact hi) (by rw [idsP_get] at he; exact he))
/-- the slice of the backs of a peer that is found -/
def bkV (w : World) (a : Option Addr) (ps : List Pr) (x : Int) : Value :=
  if hasB (idsP ps) x = true then (match a with | some p => (w.cell? ⟨p.block, p.off + idxI ps x * 4 + 3, none⟩).getD undef | none => undef) else .slice none 0 0
theorem bkV_keep {w w1 : World} {a : Option Addr} {ps : List Pr} {x : Int} {n : Nat} (hr : PeersAt w a ps) (hb : Below n w w1) (hn : w.heap.size ≤ n) : bkV w1 a ps x = bkV w a ps x := by
  unfold bkV
  by_cases h : hasB (idsP ps) x = true
  · rw [if_pos h, if_pos h]
    obtain ⟨h1, _⟩ := idxI_mem ps x h
    obtain ⟨bk, off, rfl⟩ := peersAt_form hr (by omega)
    obtain ⟨h3, _⟩ := peersAt_cell hr (by omega)
    show (w1.cell? ⟨bk, off + idxI ps x * 4 + 3, none⟩).getD undef = (w.cell? ⟨bk, off + idxI ps x * 4 + 3, none⟩).getD undef
    rw [hb.cell (p := ⟨bk, off + idxI ps x * 4 + 3, none⟩) (by show bk < n; omega)]
  · rw [if_neg h, if_neg h]
set_option maxHeartbeats 1600000 in
theorem lpeer_any (b d : Int) (a : Option Addr) (cap : Nat) (ps : List Pr) (x : Int) (w : World) (hm : ps.length ≤ 1048576) (hr : PeersAt w a ps) :
    Calls Tryz.prog 158 #[.agg #[.int .i64 b, .int .i64 d, .slice a ps.length cap], .int .i64 x] w fun e w' => e = .returned (.agg #[.int .i64 (peerI ps x).id, .int .i64 (peerI ps x).succ, .int .i64 (peerI ps x).point, bkV w a ps x]) ∧ Below w.heap.size w w' := by
  have HR : Hid (PeersAt w a ps) := hr
  clear hr
  go_enter Tryz.func158, Tryz.ntmps158
  go_wp2_with fail
  have B0 : Below w.heap.size w ((w.alloc (.cells #[.int .i64 b, .int .i64 d, .slice a ps.length cap] 28)).alloc (.cells #[.int .i64 0, .int .i64 0, .int .i64 0, .slice none 0 0] 130)) := ((Below.refl _ _).alloc (Nat.le_refl _) _).alloc (by simp) _
  have K0 : Bk ((w.alloc (.cells #[.int .i64 b, .int .i64 d, .slice a ps.length cap] 28)).alloc (.cells #[.int .i64 0, .int .i64 0, .int .i64 0, .slice none 0 0] 130)) (w.heap.size + 1) #[.int .i64 0, .int .i64 0, .int .i64 0, .slice none 0 0] 130 := by
    have := Bk.new (w.alloc (.cells #[.int .i64 b, .int .i64 d, .slice a ps.length cap] 28)) #[.int .i64 0, .int .i64 0, .int .i64 0, .slice none 0 0] 130
    simpa using this
  go_loopw [10] (fun v wr => ∃ j : Nat, j ≤ ps.length ∧ v = .int .i64 j ∧ Hid (∀ i, i < j → ¬ (ps.getD i pr0).id = x) ∧ Hid (Below w.heap.size w wr) ∧ Hid (Bk wr (w.heap.size + 1) #[.int .i64 0, .int .i64 0, .int .i64 0, .slice none 0 0] 130)) (fun v _ => ps.length - (intOf v).toNat)
  case atStart => exact ⟨0, Nat.zero_le _, rfl, fun i hi => by omega, B0, K0⟩
  case round =>
    obtain ⟨j, hj, rfl, HT, HB, HK⟩ := hrel
    clear B0 K0
    by_cases hjl : j < ps.length
    · obtain ⟨bk, off, rfl⟩ := peersAt_form HR.out (by omega)
      have HC : Hid (PeerAt wr bk (off + j * 4) (ps.getD j pr0)) := (peersAt_cell (HR.out.keep HB.out) (by omega)).2 j hjl
      obtain ⟨c0, c1, c2, ab, cb, c3, _⟩ := HC.out
      obtain ⟨f0, f1, f2, f3⟩ := HK.out.f4
      obtain ⟨r0, r1, r2, r3⟩ := HK.out.c4
      have hlt := HK.out.lt
      by_cases he : (ps.getD j pr0).id = x
      · have HV : Hid (peerI ps x = ps.getD j pr0) := peerI_first ps x j hjl HT.out he
        have he' : ((ps.getD j pr0).id == x) = true := by simpa using he
        have HV0 : Hid ((peerI ps x).id = (ps.getD j pr0).id ∧ (peerI ps x).succ = (ps.getD j pr0).succ ∧ (peerI ps x).point = (ps.getD j pr0).point) := by rw [HV.out]; exact ⟨rfl, rfl, rfl⟩
        have HW : Hid (bkV w (some ⟨bk, off, none⟩) ps x = .slice ab (ps.getD j pr0).backs.length cb) := by
          have hbk := (peersAt_cell HR.out (by omega)).1
          unfold Hid bkV
          rw [if_pos (hasB_at hjl he), idxI_first ps x j hjl HT.out he]
          show (w.cell? ⟨bk, off + j * 4 + 3, none⟩).getD undef = _
          rw [← HB.out.cell (p := ⟨bk, off + j * 4 + 3, none⟩) hbk, c3]
          rfl
        clear he HV HT HC
        generalize (ps.getD j pr0).id = x0 at *
        generalize (ps.getD j pr0).succ = x1 at *
        generalize (ps.getD j pr0).point = x2 at *
        generalize (ps.getD j pr0).backs.length = nb at *
        go_wp2_with fail
        refine bodyPost_ret (results_cell_row Tryz.results158 _ _ (w.heap.size + 1) _ _ _ _ rfl (Bk.alloc (Bk.setL [.int .i64 x0, .int .i64 x1, .int .i64 x2, .slice ab nb cb] 0 HK.out) _) Tryz.underlying130 rfl (by kernel_rfl)) rfl ⟨by rw [HV0.out.1, HV0.out.2.1, HV0.out.2.2, HW.out]; rfl, Below.alloc (setL_below (by omega) [.int .i64 x0, .int .i64 x1, .int .i64 x2, .slice ab nb cb] 0 HB.out) (by rw [setL_size]; omega) _⟩
      · have HT2 : Hid (∀ i, i < j + 1 → ¬ (ps.getD i pr0).id = x) := fun i hi => by
          by_cases h : i = j
          · subst h; exact he
          · exact HT.out i (by omega)
        have he' : ((ps.getD j pr0).id == x) = false := by simpa using he
        clear he HT HC
        generalize (ps.getD j pr0).id = x0 at c0 he'
        generalize (ps.getD j pr0).succ = x1 at c1
        generalize (ps.getD j pr0).point = x2 at c2
        generalize (ps.getD j pr0).backs.length = nb at c3
        have HB2 : Hid (Below w.heap.size w (wr.alloc (.cells #[.int .i64 x0, .int .i64 x1, .int .i64 x2, .slice ab nb cb] 130))) := HB.out.alloc HB.out.size _
        have HK2 : Hid (Bk (wr.alloc (.cells #[.int .i64 x0, .int .i64 x1, .int .i64 x2, .slice ab nb cb] 130)) (w.heap.size + 1) #[.int .i64 0, .int .i64 0, .int .i64 0, .slice none 0 0] 130) := HK.out.alloc _
        clear f0 f1 f2 f3 r0 r1 r2 r3
        go_wp2_with fail
        go_roundw
        case rel => exact ⟨j + 1, by omega, by go_num, HT2, HB2, HK2⟩
        case measure => simp [intOf]; omega
    · have HV : Hid (peerI ps x = prN) := peerI_none ps x (fun i hi => HT.out i (by omega))
      have HW : Hid (bkV w a ps x = .slice none 0 0) := by unfold Hid bkV; rw [hasB_not (fun i hi => HT.out i (by omega))]; rfl
      obtain ⟨f0, f1, f2, f3⟩ := HK.out.f4
      obtain ⟨r0, r1, r2, r3⟩ := HK.out.c4
      go_wp2_with fail
      refine bodyPost_ret (results_cell_row Tryz.results158 _ _ (w.heap.size + 1) _ _ _ _ rfl (Bk.setL [.int .i64 (-1), .int .i64 0, .int .i64 0, .slice none 0 0] 0 HK.out) Tryz.underlying130 rfl (by kernel_rfl)) rfl ⟨by rw [HV.out, HW.out]; rfl, setL_below (by omega) [.int .i64 (-1), .int .i64 0, .int .i64 0, .slice none 0 0] 0 HB.out⟩
end Go.Proofs.YtdceimnapbblnaaGreat
