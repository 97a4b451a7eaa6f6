/- For all peers, keys, numbers of forwards and walks StepWalk answers as its specification, and leaves the peers as they were: no condition. -/
import Derived.Test.YtejajlloipkkhaaG7Z
namespace Go.Proofs.Ytejajlloipkkhaa
open Go.ChangeShapes Go.WideShapes Go.ChangeAt Go.RowKit
set_option linter.unusedVariables false
theorem bxk10 {w wr : World} {g : Nat} {x y z y0 y1 y2 y3 y4 y5 y6 : Value} {T T' : TypeId} (h : BxV w wr #[x, y, z] T) (k : Bk wr g #[y0, y1, y2, y3, y4, y5, y6] T') : wr.cell? ⟨w.heap.size, 0, none⟩ = some x ∧ wr.cell? ⟨w.heap.size, 1, none⟩ = some y ∧ wr.cell? ⟨w.heap.size, 2, none⟩ = some z ∧ wr.cell? ⟨g, 0, none⟩ = some y0 ∧ wr.cell? ⟨g, 1, none⟩ = some y1 ∧ wr.cell? ⟨g, 2, none⟩ = some y2 ∧ wr.cell? ⟨g, 3, none⟩ = some y3 ∧ wr.cell? ⟨g, 4, none⟩ = some y4 ∧ wr.cell? ⟨g, 5, none⟩ = some y5 ∧ wr.cell? ⟨g, 6, none⟩ = some y6 :=
  ⟨h.c3.1, h.c3.2.1, h.c3.2.2, k.cell 0, k.cell 1, k.cell 2, k.cell 3, k.cell 4, k.cell 5, k.cell 6⟩
/-- the boxes of what came in -/
structure TS (w wr : World) (P K : Array Value) : Prop where
  bel : Below w.heap.size w wr
  ba : BxV w wr P 65
  bk : Bk wr (w.heap.size + 1) K 71
theorem TS.keep {w wr w1 : World} {P K : Array Value} (h : TS w wr P K) (hb : Below wr.heap.size wr w1) : TS w w1 P K := ⟨belt h.bel hb, h.ba.keep hb, h.bk.keep hb⟩
/-- .. and a walk's box beside them -/
structure TX (w wr : World) (P K : Array Value) (X : Nat) (U : Array Value) : Prop where
  st : TS w wr P K
  kx : Bk wr X U 32
  hX : w.heap.size + 1 < X
theorem TX.new {w wa : World} {P K : Array Value} (h : TS w wa P K) (U : Array Value) : TX w (wa.alloc (.cells U 32)) P K wa.heap.size U := ⟨h.keep (belA _ _), Bk.new _ _ _, h.bk.lt⟩
theorem TX.keep {w wr w1 : World} {P K : Array Value} {X : Nat} {U : Array Value} (h : TX w wr P K X U) (hb : Below wr.heap.size wr w1) : TX w w1 P K X U := ⟨h.st.keep hb, h.kx.keep hb, h.hX⟩
theorem BxV.of_block {w wr w1 : World} {cs : Array Value} {T : TypeId} (h : BxV w wr cs T) (he : w1.heap[w.heap.size]? = wr.heap[w.heap.size]?) : BxV w w1 cs T := ⟨he.trans h.row⟩
theorem TS.oth {w wr : World} {P K : Array Value} {X : Nat} (h : TS w wr P K) (hX : w.heap.size + 1 < X) (vs : List Value) : TS w (setL wr X 0 vs) P K :=
  ⟨setL_below (by omega) vs 0 h.bel, h.ba.of_block (setL_oth (by omega) vs wr 0), (setL_oth (by omega) vs wr 0).trans h.bk⟩
theorem TX.put {w wr : World} {P K : Array Value} {X : Nat} {U : Array Value} (h : TX w wr P K X U) (vs : List Value) : TX w (setL wr X 0 vs) P K X (ovr U 0 vs) := ⟨h.st.oth h.hX vs, h.kx.setL vs 0, h.hX⟩
theorem TX.oth {w wr : World} {P K : Array Value} {X X2 : Nat} {U : Array Value} (h : TX w wr P K X U) (hX : X < X2) (vs : List Value) : TX w (setL wr X2 0 vs) P K X U := ⟨h.st.oth (by have := h.hX; omega) vs, (setL_oth (by omega) vs wr 0).trans h.kx, h.hX⟩
/-- .. and the copy of the peers that is handed over -/
structure T7 (w w3 wr : World) (P K C : Array Value) (X B : Nat) (U : Array Value) (a : Option Addr) (n : Nat) (ps : List Pr) : Prop where
  tx : TX w wr P K X U
  bx : BxV w3 wr C 28
  op : OwnPs B w3.heap.size wr a n ps
  hx : X < w3.heap.size
theorem T7.keep {w w3 wr : World} {P K C : Array Value} {X B : Nat} {U : Array Value} {a : Option Addr} {n : Nat} {ps : List Pr} {w1 : World} (h : T7 w w3 wr P K C X B U a n ps) (hb : Below wr.heap.size wr w1) : T7 w w3 w1 P K C X B U a n ps := ⟨h.tx.keep hb, h.bx.keep hb, h.op.keep hb, h.hx⟩
structure T8 (w w3 wr : World) (P K C : Array Value) (X B : Nat) (U : Array Value) (a : Option Addr) (n : Nat) (ps : List Pr) (X2 : Nat) (U2 : Array Value) : Prop where
  st : T7 w w3 wr P K C X B U a n ps
  kx : Bk wr X2 U2 32
  hX : w3.heap.size < X2
theorem T8.new {w w3 wr : World} {P K C : Array Value} {X B : Nat} {U : Array Value} {a : Option Addr} {n : Nat} {ps : List Pr} (h : T7 w w3 wr P K C X B U a n ps) (U2 : Array Value) : T8 w w3 (wr.alloc (.cells U2 32)) P K C X B U a n ps wr.heap.size U2 := ⟨h.keep (belA _ _), Bk.new _ _ _, h.bx.lt⟩
theorem T8.keep {w w3 wr : World} {P K C : Array Value} {X B : Nat} {U : Array Value} {a : Option Addr} {n : Nat} {ps : List Pr} {X2 : Nat} {U2 : Array Value} {w1 : World} (h : T8 w w3 wr P K C X B U a n ps X2 U2) (hb : Below wr.heap.size wr w1) : T8 w w3 w1 P K C X B U a n ps X2 U2 := ⟨h.st.keep hb, h.kx.keep hb, h.hX⟩
theorem T8.put {w w3 wr : World} {P K C : Array Value} {X B : Nat} {U : Array Value} {a : Option Addr} {n : Nat} {ps : List Pr} {X2 : Nat} {U2 : Array Value} (h : T8 w w3 wr P K C X B U a n ps X2 U2) (vs : List Value) : T8 w w3 (setL wr X2 0 vs) P K C X B U a n ps X2 (ovr U2 0 vs) :=
  ⟨⟨h.st.tx.oth (by have := h.hX; have := h.st.hx; omega) vs, h.st.bx.of_block (setL_oth (by have := h.hX; omega) vs wr 0), h.st.op.blocks (fun k _ h2 _ => setL_oth (by have := h.hX; omega) vs wr 0), h.st.hx⟩, h.kx.setL vs 0, h.hX⟩
set_option maxRecDepth 100000 in
set_option maxHeartbeats 12800000 in
theorem wFnExactStepWalk (b0 d0 : Int) (a0 : Option Addr) (cap0 : Nat) (ps0 : List Pr) (x1 x2 : Int) (y30 y31 y32 y33 y34 y35 y36 : Int) (w : World) (hm0 : ps0.length ≤ maxLen) (hr0 : PeersAt w a0 ps0) :
    Calls Try.prog 7 #[.agg #[.int .i64 b0, .int .i64 d0, .slice a0 ps0.length cap0], .int .i64 x1, .int .i64 x2, .agg #[.int .i64 y30, .int .i64 y31, .int .i64 y32, .int .i64 y33, .int .i64 y34, .int .i64 y35, .int .i64 y36]] w fun e w' => e = .returned (.bool true) ∧ Below w.heap.size w w' := by
  have HR0 : Hid (PeersAt w a0 ps0) := hr0
  clear hr0
  go_enter Try.func7, Try.ntmps7
  go_wp2_with fail
  refine (szPeers_any b0 d0 a0 cap0 ps0 _ hm0 (HR0.out.keep (belt (belA _ _) (belA _ _)))).mono ?_
  rintro e w1 ⟨v1, rfl, hv1, HW⟩
  have S1 : Hid (TS w w1 #[.int .i64 b0, .int .i64 d0, .slice a0 ps0.length cap0] #[.int .i64 y30, .int .i64 y31, .int .i64 y32, .int .i64 y33, .int .i64 y34, .int .i64 y35, .int .i64 y36]) := ⟨belt (belt (belA _ _) (belA _ _)) HW, bxV1 (belt (belA _ _) HW), bk2 HW⟩
  clear HW
  by_cases hneg : v1 < 0
  · go_wp2
    go_ret
    exact ⟨rfl, S1.out.bel⟩
  have HS : Hid (ps0.length + bsum ps0 ≤ 1048576) := by
    rcases hv1 with h | h
    · exact absurd h hneg
    · exact h.2
  clear hv1
  have hp0 : ps0.length ≤ 1048576 := by have := HS.out; omega
  have CL := fun w1 a hr => lStepWalk_own b0 d0 a ps0.length ps0 x1 x2 ⟨y30, y31, y32, y33, y34, y35, y36⟩ w1 hp0 hr
  have CI := fun w1 a hr => StepWalk_own b0 d0 a ps0.length ps0 x1 x2 ⟨y30, y31, y32, y33, y34, y35, y36⟩ w1 hp0 hr
  generalize swV b0 d0 ps0 x1 x2 ⟨y30, y31, y32, y33, y34, y35, y36⟩ = V at CL CI
  generalize swOk b0 d0 ps0 x1 x2 ⟨y30, y31, y32, y33, y34, y35, y36⟩ = ok0 at CL CI
  obtain ⟨n0, n1, n2, n3, n4, n5, n6⟩ := V
  dsimp only at CL CI
  go_upto_region 5 with (fail)
  go_cut [10, 11] (fun v10 v11 wc => ∃ X, v10 = .pointer (some ⟨X, 0, none⟩) ∧ v11 = .bool ok0 ∧ Hid (TX w wc #[.int .i64 b0, .int .i64 d0, .slice a0 ps0.length cap0] #[.int .i64 y30, .int .i64 y31, .int .i64 y32, .int .i64 y33, .int .i64 y34, .int .i64 y35, .int .i64 y36] X #[.int .i64 n0, .int .i64 n1, .int .i64 n2, .int .i64 n3, .int .i64 n4, .int .i64 n5, .int .i64 n6]))
  case first =>
    have sta := S1.out.keep ((Below.refl _ _).drew)
    have xsa := (TX.new S1.out #[.int .i64 0, .int .i64 0, .int .i64 0, .int .i64 0, .int .i64 0, .int .i64 0, .int .i64 0]).keep ((Below.refl _ _).drew)
    go_region_held (fun w' => w'.cell? ⟨w.heap.size, 0, none⟩ = some (.int .i64 b0) ∧ w'.cell? ⟨w.heap.size, 1, none⟩ = some (.int .i64 d0) ∧ w'.cell? ⟨w.heap.size, 2, none⟩ = some (.slice a0 ps0.length cap0) ∧ w'.cell? ⟨w.heap.size + 1, 0, none⟩ = some (.int .i64 y30) ∧ w'.cell? ⟨w.heap.size + 1, 1, none⟩ = some (.int .i64 y31) ∧ w'.cell? ⟨w.heap.size + 1, 2, none⟩ = some (.int .i64 y32) ∧ w'.cell? ⟨w.heap.size + 1, 3, none⟩ = some (.int .i64 y33) ∧ w'.cell? ⟨w.heap.size + 1, 4, none⟩ = some (.int .i64 y34) ∧ w'.cell? ⟨w.heap.size + 1, 5, none⟩ = some (.int .i64 y35) ∧ w'.cell? ⟨w.heap.size + 1, 6, none⟩ = some (.int .i64 y36)) (first | with_reducible (first | exact bxk10 sta.ba sta.bk | exact bxk10 stb.ba stb.bk | exact bxk10 stc.ba stc.bk | exact bxk10 std.ba std.bk | exact bxk10 xsa.st.ba xsa.st.bk | exact bxk10 xsb.st.ba xsb.st.bk | exact bxk10 xsc.st.ba xsc.st.bk | exact bxk10 xsd.st.ba xsd.st.bk | exact bxk10 (TX.new stb _).st.ba (TX.new stb _).st.bk | exact bxk10 (TX.new stc _).st.ba (TX.new stc _).st.bk | exact bxk10 (TX.new std _).st.ba (TX.new std _).st.bk) | exact bxk10 (TX.put xsd [.int .i64 n0, .int .i64 n1, .int .i64 n2, .int .i64 n3, .int .i64 n4, .int .i64 n5, .int .i64 n6]).st.ba (TX.put xsd [.int .i64 n0, .int .i64 n1, .int .i64 n2, .int .i64 n3, .int .i64 n4, .int .i64 n5, .int .i64 n6]).st.bk | exact bxk10 (TX.put (TX.new std #[.int .i64 0, .int .i64 0, .int .i64 0, .int .i64 0, .int .i64 0, .int .i64 0, .int .i64 0]) [.int .i64 n0, .int .i64 n1, .int .i64 n2, .int .i64 n3, .int .i64 n4, .int .i64 n5, .int .i64 n6]).st.ba (TX.put (TX.new std #[.int .i64 0, .int .i64 0, .int .i64 0, .int .i64 0, .int .i64 0, .int .i64 0, .int .i64 0]) [.int .i64 n0, .int .i64 n1, .int .i64 n2, .int .i64 n3, .int .i64 n4, .int .i64 n5, .int .i64 n6]).st.bk) (first
      | (go_at_call 40; refine (toPeers_own b0 d0 a0 cap0 ps0 _ HS.out (HR0.out.keep sta.bel)).mono ?_; rintro e wb ⟨vc0, rfl, Oc0, hwb⟩; have stb := sta.keep hwb)
      | (go_at_call 40; refine (toPeers_own b0 d0 a0 cap0 ps0 _ HS.out (HR0.out.keep xsa.st.bel)).mono ?_; rintro e wb ⟨vc0, rfl, Oc0, hwb⟩; have xsb := xsa.keep hwb)
      | (go_at_call 43; have stb' := stb; refine (toWalk_any y30 y31 y32 y33 y34 y35 y36 wb).mono ?_; rintro e wc1 ⟨rfl, hwc⟩; have stc := stb.keep hwc; have Oc1 := Oc0.keep hwc)
      | (go_at_call 43; have xsb' := xsb; refine (toWalk_any y30 y31 y32 y33 y34 y35 y36 wb).mono ?_; rintro e wc1 ⟨rfl, hwc⟩; have xsc := xsb.keep hwc; have Oc1 := Oc0.keep hwc)
      | (go_at_call 43; refine (toWalk_any y30 y31 y32 y33 y34 y35 y36 (wb.alloc (.cells #[.int .i64 0, .int .i64 0, .int .i64 0, .int .i64 0, .int .i64 0, .int .i64 0, .int .i64 0] 32))).mono ?_; rintro e wc1 ⟨rfl, hwc⟩; have xsc := (TX.new stb #[.int .i64 0, .int .i64 0, .int .i64 0, .int .i64 0, .int .i64 0, .int .i64 0, .int .i64 0]).keep hwc; have Oc1 := (Oc0.keep (belA _ _)).keep hwc)
      | (go_at_call 27; have stc' := stc; refine (CL wc1 vc0 Oc1.peersAt).mono ?_; rintro e wd ⟨rfl, hwd⟩; have std := stc.keep hwd)
      | (go_at_call 27; have xsc' := xsc; refine (CL wc1 vc0 Oc1.peersAt).mono ?_; rintro e wd ⟨rfl, hwd⟩; have xsd := xsc.keep hwd; obtain ⟨r0, r1, r2, r3, r4, r5, r6⟩ := Bk.c7 xsd.kx; obtain ⟨g0, g1, g2, g3, g4, g5, g6⟩ := Bk.f7 xsd.kx)
      | (go_at_call 27; refine (CL (wc1.alloc (.cells #[.int .i64 0, .int .i64 0, .int .i64 0, .int .i64 0, .int .i64 0, .int .i64 0, .int .i64 0] 32)) vc0 (Oc1.keep (belA _ _)).peersAt).mono ?_; rintro e wd ⟨rfl, hwd⟩; have xsd := (TX.new stc #[.int .i64 0, .int .i64 0, .int .i64 0, .int .i64 0, .int .i64 0, .int .i64 0, .int .i64 0]).keep hwd; obtain ⟨r0, r1, r2, r3, r4, r5, r6⟩ := Bk.c7 xsd.kx; obtain ⟨g0, g1, g2, g3, g4, g5, g6⟩ := Bk.f7 xsd.kx))
    all_goals (go_wp2_with fail; go_meet; first | exact ⟨_, rfl, rfl, TX.new std _⟩ | exact ⟨_, rfl, rfl, xsd.put [.int .i64 n0, .int .i64 n1, .int .i64 n2, .int .i64 n3, .int .i64 n4, .int .i64 n5, .int .i64 n6]⟩ | exact ⟨_, rfl, rfl, (TX.new std #[.int .i64 0, .int .i64 0, .int .i64 0, .int .i64 0, .int .i64 0, .int .i64 0, .int .i64 0]).put [.int .i64 n0, .int .i64 n1, .int .i64 n2, .int .i64 n3, .int .i64 n4, .int .i64 n5, .int .i64 n6]⟩)
  case rest =>
  obtain ⟨X, rfl, rfl, S2⟩ := hcut
  clear S1 CL
  obtain ⟨q0, q1, q2⟩ := S2.out.st.ba.c3
  go_wp2_with fail
  refine (toPeers_own b0 d0 a0 cap0 ps0 _ HS.out (HR0.out.keep S2.out.st.bel)).mono ?_
  rintro e w3 ⟨vx0, rfl, Ox0, HW⟩
  clear q0 q1 q2
  have S3 : Hid (TX w w3 #[.int .i64 b0, .int .i64 d0, .slice a0 ps0.length cap0] #[.int .i64 y30, .int .i64 y31, .int .i64 y32, .int .i64 y33, .int .i64 y34, .int .i64 y35, .int .i64 y36] X #[.int .i64 n0, .int .i64 n1, .int .i64 n2, .int .i64 n3, .int .i64 n4, .int .i64 n5, .int .i64 n6]) := S2.out.keep HW
  have X3 : Hid (OwnPs wc.heap.size w3.heap.size w3 vx0 ps0.length ps0) := Ox0
  clear S2 HW Ox0
  go_upto_region 7 with (fail)
  have S4 : Hid (T7 w w3 (w3.alloc (.cells #[.int .i64 b0, .int .i64 d0, .slice vx0 ps0.length ps0.length] 28)) #[.int .i64 b0, .int .i64 d0, .slice a0 ps0.length cap0] #[.int .i64 y30, .int .i64 y31, .int .i64 y32, .int .i64 y33, .int .i64 y34, .int .i64 y35, .int .i64 y36] #[.int .i64 b0, .int .i64 d0, .slice vx0 ps0.length ps0.length] X wc.heap.size #[.int .i64 n0, .int .i64 n1, .int .i64 n2, .int .i64 n3, .int .i64 n4, .int .i64 n5, .int .i64 n6] vx0 ps0.length ps0) := ⟨S3.out.keep (belA _ _), ⟨heap_alloc_new _ _⟩, X3.out.keep (belA _ _), S3.out.kx.lt⟩
  clear S3 X3
  generalize w3.alloc (.cells #[.int .i64 b0, .int .i64 d0, .slice vx0 ps0.length ps0.length] 28) = w4 at *
  generalize wc.heap.size = BB at *
  go_cut [13, 14] (fun v13 v14 wd => ∃ X2, v13 = .pointer (some ⟨X2, 0, none⟩) ∧ v14 = .bool ok0 ∧ Hid (T8 w w3 wd #[.int .i64 b0, .int .i64 d0, .slice a0 ps0.length cap0] #[.int .i64 y30, .int .i64 y31, .int .i64 y32, .int .i64 y33, .int .i64 y34, .int .i64 y35, .int .i64 y36] #[.int .i64 b0, .int .i64 d0, .slice vx0 ps0.length ps0.length] X BB #[.int .i64 n0, .int .i64 n1, .int .i64 n2, .int .i64 n3, .int .i64 n4, .int .i64 n5, .int .i64 n6] vx0 ps0.length ps0 X2 #[.int .i64 n0, .int .i64 n1, .int .i64 n2, .int .i64 n3, .int .i64 n4, .int .i64 n5, .int .i64 n6]))
  case first =>
    have sta := S4.out.keep ((Below.refl _ _).drew)
    have xsa := (T8.new S4.out #[.int .i64 0, .int .i64 0, .int .i64 0, .int .i64 0, .int .i64 0, .int .i64 0, .int .i64 0]).keep ((Below.refl _ _).drew)
    go_region_held (fun w' => w'.cell? ⟨w3.heap.size, 0, none⟩ = some (.int .i64 b0) ∧ w'.cell? ⟨w3.heap.size, 1, none⟩ = some (.int .i64 d0) ∧ w'.cell? ⟨w3.heap.size, 2, none⟩ = some (.slice vx0 ps0.length ps0.length) ∧ w'.cell? ⟨w.heap.size + 1, 0, none⟩ = some (.int .i64 y30) ∧ w'.cell? ⟨w.heap.size + 1, 1, none⟩ = some (.int .i64 y31) ∧ w'.cell? ⟨w.heap.size + 1, 2, none⟩ = some (.int .i64 y32) ∧ w'.cell? ⟨w.heap.size + 1, 3, none⟩ = some (.int .i64 y33) ∧ w'.cell? ⟨w.heap.size + 1, 4, none⟩ = some (.int .i64 y34) ∧ w'.cell? ⟨w.heap.size + 1, 5, none⟩ = some (.int .i64 y35) ∧ w'.cell? ⟨w.heap.size + 1, 6, none⟩ = some (.int .i64 y36)) (first | with_reducible (first | exact bxk10 sta.bx sta.tx.st.bk | exact bxk10 stb.bx stb.tx.st.bk | exact bxk10 stc.bx stc.tx.st.bk | exact bxk10 xsa.st.bx xsa.st.tx.st.bk | exact bxk10 xsb.st.bx xsb.st.tx.st.bk | exact bxk10 xsc.st.bx xsc.st.tx.st.bk | exact bxk10 (T8.new stb _).st.bx (T8.new stb _).st.tx.st.bk | exact bxk10 (T8.new stc _).st.bx (T8.new stc _).st.tx.st.bk) | exact bxk10 (T8.put xsc [.int .i64 n0, .int .i64 n1, .int .i64 n2, .int .i64 n3, .int .i64 n4, .int .i64 n5, .int .i64 n6]).st.bx (T8.put xsc [.int .i64 n0, .int .i64 n1, .int .i64 n2, .int .i64 n3, .int .i64 n4, .int .i64 n5, .int .i64 n6]).st.tx.st.bk | exact bxk10 (T8.put (T8.new stc #[.int .i64 0, .int .i64 0, .int .i64 0, .int .i64 0, .int .i64 0, .int .i64 0, .int .i64 0]) [.int .i64 n0, .int .i64 n1, .int .i64 n2, .int .i64 n3, .int .i64 n4, .int .i64 n5, .int .i64 n6]).st.bx (T8.put (T8.new stc #[.int .i64 0, .int .i64 0, .int .i64 0, .int .i64 0, .int .i64 0, .int .i64 0, .int .i64 0]) [.int .i64 n0, .int .i64 n1, .int .i64 n2, .int .i64 n3, .int .i64 n4, .int .i64 n5, .int .i64 n6]).st.tx.st.bk) (first
      | (go_at_call 43; have sta' := sta; refine (toWalk_any y30 y31 y32 y33 y34 y35 y36 w4.drew).mono ?_; rintro e wb ⟨rfl, hwb⟩; have stb := sta.keep hwb)
      | (go_at_call 43; refine (toWalk_any y30 y31 y32 y33 y34 y35 y36 _).mono ?_; rintro e wb ⟨rfl, hwb⟩; have xsb := xsa.keep hwb)
      | (go_at_call 26; have stb' := stb; refine (CI wb vx0 stb.op.peersAt).mono ?_; rintro e we ⟨rfl, hwe⟩; have stc := stb.keep hwe)
      | (go_at_call 26; have xsb' := xsb; refine (CI wb vx0 xsb.st.op.peersAt).mono ?_; rintro e we ⟨rfl, hwe⟩; have xsc := xsb.keep hwe; obtain ⟨r0, r1, r2, r3, r4, r5, r6⟩ := Bk.c7 xsc.kx; obtain ⟨g0, g1, g2, g3, g4, g5, g6⟩ := Bk.f7 xsc.kx)
      | (go_at_call 26; refine (CI (wb.alloc (.cells #[.int .i64 0, .int .i64 0, .int .i64 0, .int .i64 0, .int .i64 0, .int .i64 0, .int .i64 0] 32)) vx0 (stb.keep (belA _ _)).op.peersAt).mono ?_; rintro e we ⟨rfl, hwe⟩; have xsc := (T8.new stb #[.int .i64 0, .int .i64 0, .int .i64 0, .int .i64 0, .int .i64 0, .int .i64 0, .int .i64 0]).keep hwe; obtain ⟨r0, r1, r2, r3, r4, r5, r6⟩ := Bk.c7 xsc.kx; obtain ⟨g0, g1, g2, g3, g4, g5, g6⟩ := Bk.f7 xsc.kx))
    all_goals (go_wp2_with fail; go_meet; first | exact ⟨_, rfl, rfl, T8.new stc _⟩ | exact ⟨_, rfl, rfl, xsc.put [.int .i64 n0, .int .i64 n1, .int .i64 n2, .int .i64 n3, .int .i64 n4, .int .i64 n5, .int .i64 n6]⟩ | exact ⟨_, rfl, rfl, (T8.new stc #[.int .i64 0, .int .i64 0, .int .i64 0, .int .i64 0, .int .i64 0, .int .i64 0, .int .i64 0]).put [.int .i64 n0, .int .i64 n1, .int .i64 n2, .int .i64 n3, .int .i64 n4, .int .i64 n5, .int .i64 n6]⟩)
  case rest =>
  obtain ⟨X2, rfl, rfl, S5⟩ := hcut
  clear S4 CI
  obtain ⟨r0, r1, r2, r3, r4, r5, r6⟩ := Bk.c7 S5.out.kx
  obtain ⟨u0, u1, u2, u3, u4, u5, u6⟩ := Bk.c7 S5.out.st.tx.kx
  go_wp2_with fail
  refine (eqWalk_same n0 n1 n2 n3 n4 n5 n6 _).mono ?_
  rintro e w6 ⟨rfl, HW⟩
  have S6 : Hid (T7 w w3 w6 #[.int .i64 b0, .int .i64 d0, .slice a0 ps0.length cap0] #[.int .i64 y30, .int .i64 y31, .int .i64 y32, .int .i64 y33, .int .i64 y34, .int .i64 y35, .int .i64 y36] #[.int .i64 b0, .int .i64 d0, .slice vx0 ps0.length ps0.length] X BB #[.int .i64 n0, .int .i64 n1, .int .i64 n2, .int .i64 n3, .int .i64 n4, .int .i64 n5, .int .i64 n6] vx0 ps0.length ps0) := S5.out.st.keep HW
  clear r0 r1 r2 r3 r4 r5 r6 u0 u1 u2 u3 u4 u5 u6 S5 HW
  have hg0 := bne_self_bool ok0
  go_wp2_with fail
  have sta := S6.out.keep ((Below.refl _ _).drew)
  go_region_held (fun w' => w'.cell? ⟨w.heap.size, 0, none⟩ = some (.int .i64 b0) ∧ w'.cell? ⟨w.heap.size, 1, none⟩ = some (.int .i64 d0) ∧ w'.cell? ⟨w.heap.size, 2, none⟩ = some (.slice a0 ps0.length cap0) ∧ w'.cell? ⟨w3.heap.size, 0, none⟩ = some (.int .i64 b0) ∧ w'.cell? ⟨w3.heap.size, 1, none⟩ = some (.int .i64 d0) ∧ w'.cell? ⟨w3.heap.size, 2, none⟩ = some (.slice vx0 ps0.length ps0.length)) (with_reducible (first | exact bxv6 sta.tx.st.ba sta.bx | exact bxv6 stb.tx.st.ba stb.bx | exact bxv6 stc.tx.st.ba stc.bx)) (first
    | (go_at_call 40; refine (toPeers_own b0 d0 a0 cap0 ps0 _ HS.out (HR0.out.keep sta.tx.st.bel)).mono ?_; rintro e we ⟨vd, rfl, Od, hwd⟩; have stb := sta.keep hwd)
    | (go_at_call 42; refine (eqPeers_own b0 d0 _ _ _ _ _ ps0 _ rfl hp0 stb.op.peersAt Od.peersAt).mono ?_; rintro e wf ⟨rfl, hwe⟩; have stc := stb.keep hwe))
  have BL5 : Hid (Below w.heap.size w wf) := stc.tx.st.bel
  clear sta stb stc hwd hwe Od
  go_wp2
  go_ret
  exact ⟨rfl, BL5.out⟩

set_option maxRecDepth 100000 in
theorem fnExactStepWalk_lifted (os : Os) (started : os.Started) (H : Type) (enc : TypeId × Value → H) :
    ReturnsInHanded {} Try.checked os 7 .any (Rows.fnExactStepWalkSpec.pre6 enc Try.prog Try.f7 Rows.fnExactStepWalkRow.domain false) (Rows.fnExactStepWalkSpec.post enc Try.prog Try.f7 false true false false) := by
  refine returnsInHanded_of_change (C := Try.checked) own started (by kernel_rfl) Try.func7
    (ChangeSpec.witness6 (enc := enc) (C := Try.checked) false ⟨#[], #[.agg #[.int .i64 0, .int .i64 0, .slice none 0 0], .int .i64 0, .int .i64 0, .agg #[.int .i64 0, .int .i64 0, .int .i64 0, .int .i64 0, .int .i64 0, .int .i64 0, .int .i64 0]], []⟩ 8 (by kernel_rfl) (by kernel_rfl) (by kernel_rfl) (by kernel_rfl)) ?_
  intro W base args ds gs before hval0 hW hcnd _
  have hval : ∀ (j : Nat) t v, Try.f7.params[j]? = some t → args[j]? = some v → Value.okWide Try.prog W .any base t v := hval0
  have hW' := hW
  obtain ⟨p, q, hA0, hV, rfl, hfz, hnd⟩ := hW
  have hA : DataW.TrodAll enc Try.prog W 0 (fun _ => true) true Try.f7.params.toList args.toList ds p := hA0
  rw [Try.params7] at hA hval
  obtain ⟨v0, vs0, d0, ds0, p0, q0, hargs, rfl, rfl, h0, r0⟩ := trodAll_cons hA
  obtain ⟨v1, vs1, d1, ds1, p1, q1, rfl, rfl, rfl, h1, r1⟩ := trodAll_cons r0
  obtain ⟨v2, vs2, d2, ds2, p2, q2, rfl, rfl, rfl, h2, r2⟩ := trodAll_cons r1
  obtain ⟨v3, vs3, d3, ds3, p3, q3, rfl, rfl, rfl, h3, r3⟩ := trodAll_cons r2
  obtain ⟨rfl, rfl, rfl⟩ := trodAll_nil r3
  obtain rfl : args = #[v0, v1, v2, v3] := by cases args; simp_all
  obtain ⟨rfl, rfl⟩ := trodVars_none hV
  have k0 := h0
  have lt0 : ∀ x ∈ p0, x.block < W.heap.size := by obtain ⟨m, hm⟩ := k0; exact DataW.trod_lt m _ _ _ hm
  obtain ⟨b0, g0, a0, cap0, ps0, rfl, hm0, hc0, hr0⟩ := open_peers (hval 0 65 v0 rfl rfl) h0
  obtain ⟨a1, rfl, rfl, rfl, w1⟩ := open_int Try.underlying3 (hval 1 3 v1 rfl rfl) h1
  obtain ⟨a2, rfl, rfl, rfl, w2⟩ := open_int Try.underlying3 (hval 2 3 v2 rfl rfl) h2
  have k3 := h3
  have lt3 : ∀ x ∈ p3, x.block < W.heap.size := by obtain ⟨m, hm⟩ := k3; exact DataW.trod_lt m _ _ _ hm
  obtain ⟨n30, n31, n32, n33, n34, n35, n36, rfl⟩ := open_walk (hval 3 71 v3 rfl rfl) h3
  clear hA0 hval0
  refine (wFnExactStepWalk b0 g0 a0 cap0 ps0 a1 a2 n30 n31 n32 n33 n34 n35 n36 W hm0 hr0).mono fun e W' ⟨he, bel⟩ => ?_
  subst he
  exact ⟨_, rfl, _, _, _, [], _, [], hW', trodAll_mk1 (shut_bool Try.underlying4 _), (trodAll_cons_mk (Below.trod laidOut (by kernel_rfl) (of_decide_eq_true (by kernel_rfl)) k0 bel lt0) (trodAll_cons_mk (shut_int Try.underlying3 w1) (trodAll_cons_mk (shut_int Try.underlying3 w2) (trodAll_cons_mk (Below.trod laidOut (by kernel_rfl) (of_decide_eq_true (by kernel_rfl)) k3 bel lt3) trodAll_mk0)))), rfl, bel.frame _, fun h => by cases h⟩

theorem fnExactStepWalk_holds : Rows.FnExactStepWalkSaid :=
  OpenClaim.holds_of_wide 7 Try.f7 rfl rfl rfl rfl rfl rfl rfl ⟨rfl, rfl, rfl, rfl, rfl⟩ rfl rfl rfl rfl rfl (by kernel_rfl) Try.func7 (by kernel_rfl)
    (of_decide_eq_true (by kernel_rfl)) (by unfold Func.isWrapper; first | (rw [if_pos (by decide +kernel)]; kernel_rfl) | (rw [if_neg (by decide +kernel)]; exact ⟨rfl, rfl⟩))
    (fun os started H enc _ => fnExactStepWalk_lifted os started H enc)
#print axioms fnExactStepWalk_holds
end Go.Proofs.Ytejajlloipkkhaa
