/- The bytes of a message: the specification. -/
import Derived.Test.YtabbicfakkehpaaBy1
import Derived.Test.YtabbicfakkehpaaF6
import Derived.Lib.SmallJoins
import Derived.Laws.BytesArg
namespace Go.Proofs.Ytabbicfakkehpaa
open Go.RowKit
set_option linter.unusedVariables false
set_option linter.unusedSimpArgs false
def fB (x4 x5 x6 x7 : Int) (l : List Int) (f : Int) : List Int := if f = 5 then (l.length : Int) :: l.flatMap tw else tw (vf x4 x5 x6 x7 f)
def body (x0 x1 x2 x3 x4 x5 x6 x7 : Int) (l : List Int) : List Int := [x0, x1] ++ tw x2 ++ tw x3 ++ (fld x0).flatMap (fB x4 x5 x6 x7 l)
def wire (x0 x1 x2 x3 x4 x5 x6 x7 : Int) (l : List Int) : List Int := ((body x0 x1 x2 x3 x4 x5 x6 x7 l).length : Int) :: body x0 x1 x2 x3 x4 x5 x6 x7 l
/-- the bounds of a good message -/
structure MBd (x0 x1 x2 x3 x4 x5 x6 x7 : Int) (l : List Int) : Prop where
  b0 : 0 ≤ x0 ∧ x0 ≤ 255
  b1 : 0 ≤ x1 ∧ x1 ≤ 255
  b2 : 0 ≤ x2 ∧ x2 ≤ 65535
  b3 : 0 ≤ x3 ∧ x3 ≤ 65535
  b4 : 0 ≤ x4 ∧ x4 ≤ 65535
  b5 : 0 ≤ x5 ∧ x5 ≤ 65535
  b6 : 0 ≤ x6 ∧ x6 ≤ 65535
  b7 : 0 ≤ x7 ∧ x7 ≤ 65535
  len : l.length ≤ 4
  row : ∀ i, i < l.length → 0 ≤ l.getD i 0 ∧ l.getD i 0 ≤ 65535
theorem allB_at {l : List Int} {lo hi : Int} (h : allB l lo hi = true) : ∀ i, i < l.length → lo ≤ l.getD i 0 ∧ l.getD i 0 ≤ hi := by
  intro i hi
  unfold allB at h
  rw [List.all_eq_true] at h
  have := h (l.getD i 0) (by rw [List.getD_eq_getElem?_getD, List.getElem?_eq_getElem hi]; simp)
  exact inB_true this
theorem gm_bd {b d x0 x1 x2 x3 x4 x5 x6 x7 : Int} {l : List Int} (h : gmB b d x0 x1 x2 x3 x4 x5 x6 x7 l = true) : MBd x0 x1 x2 x3 x4 x5 x6 x7 l := by
  unfold gmB at h
  simp only [Bool.and_eq_true] at h
  obtain ⟨⟨⟨h1, h2⟩, h3⟩, ⟨⟨⟨h4, h5⟩, h6⟩, h7⟩, h8⟩ := h
  have hg := numsB_gs h1
  obtain ⟨g1, g2, g3, g4, _⟩ := gsB_true hg
  obtain ⟨s1, s2⟩ := sz_bd g1 g2
  rw [numsB_2] at h1
  simp only [Bool.and_eq_true] at h1
  have n2 := numB_true h1.1
  have n3 := numB_true h1.2
  have k0 := inB_true h2
  have k1 := inB_true h3
  have c4 : 0 ≤ x4 ∧ x4 ≤ 65535 := by
    unfold fldB at h4
    split at h4
    · have := numB_true (b := b) (d := d) (x := x4) (by simpa [okF] using h4); omega
    · simp [noF] at h4; omega
  have c5 : 0 ≤ x5 ∧ x5 ≤ 65535 := by
    unfold fldB at h5
    split at h5
    · have := numB_true (b := b) (d := d) (x := x5) (by simpa [okF] using h5); omega
    · simp [noF] at h5; omega
  have c6 : 0 ≤ x6 ∧ x6 ≤ 65535 := by
    unfold fldB at h6
    split at h6
    · have := inB_true (n := x6) (lo := 0) (hi := b / d) (by simpa [okF] using h6)
      have hd : b / d ≤ b := Int.ediv_le_self _ (by omega)
      omega
    · simp [noF] at h6; omega
  have c7 : 0 ≤ x7 ∧ x7 ≤ 65535 := by
    unfold fldB at h7
    split at h7
    · have := inB_true (n := x7) (lo := 0) (hi := 1000) (by simpa [okF] using h7); omega
    · simp [noF] at h7; omega
  have c8 : l.length ≤ 4 ∧ ∀ i, i < l.length → 0 ≤ l.getD i 0 ∧ l.getD i 0 ≤ 65535 := by
    unfold fldB at h8
    split at h8
    · simp [okF, numsB] at h8
      refine ⟨h8.1, fun i hi => ?_⟩
      have := allB_at h8.2.2 i hi
      omega
    · simp [noF] at h8
      subst h8
      exact ⟨by simp, fun i hi => by simp at hi⟩
  exact ⟨by omega, by omega, by omega, by omega, c4, c5, c6, c7, c8.1, c8.2⟩
theorem cells_new1 (w : World) (x : Int) : ∀ j u, ([.int .u8 x] : List Value)[j]? = some u → (w.alloc (.cells #[.int .u8 x] 5)).cell? ((⟨w.heap.size, 0, none⟩ : Addr).add j) = some u := by
  intro j u hj
  have e : (⟨w.heap.size, 0, none⟩ : Addr).add j = ⟨w.heap.size, j, none⟩ := by unfold Addr.add; split <;> simp_all
  rw [e, cell_of_row _ _ _ _ _ _ (heap_alloc_new w (.cells #[.int .u8 x] 5))]
  simpa using hj
theorem OwB.lit1 (w : World) (x : Int) : OwB w.heap.size (w.alloc (.cells #[.int .u8 x] 5)) (.slice (some ⟨w.heap.size, 0, none⟩) 1 1) [x] :=
  World.ownsRow_lit w #[.int .u8 x] 1 (Nat.le_refl _) (by simp [maxLen]) rfl
theorem OwB.lo {B : Nat} {w : World} {v : Value} {l : List Int} (h : OwB B w v l) : ∀ k, v.ownBlock = some k → B ≤ k ∧ k < w.heap.size := World.ownsRow.lt h
theorem OwB.mono {B B' : Nat} {w : World} {v : Value} {l : List Int} (h : OwB B w v l) (hB : B' ≤ B) : OwB B' w v l := by
  obtain ⟨h1, h2⟩ := h
  refine ⟨h1, ?_⟩
  rcases h2 with h2 | ⟨g, cap, cur, rfl, hg, rest⟩
  · exact .inl h2
  · exact .inr ⟨g, cap, cur, rfl, by omega, rest⟩
theorem fB_len (x4 x5 x6 x7 : Int) (l : List Int) (hl : l.length ≤ 4) (f : Int) : (fB x4 x5 x6 x7 l f).length ≤ 9 := by
  unfold fB
  split
  · rw [List.length_cons, flat_len]; omega
  · simp [tw]
theorem fB_flat (x4 x5 x6 x7 : Int) (l : List Int) (hl : l.length ≤ 4) : ∀ (F : List Int), (F.flatMap (fB x4 x5 x6 x7 l)).length ≤ 9 * F.length
  | [] => by simp
  | f :: F => by
    have h1 := fB_len x4 x5 x6 x7 l hl f
    have h2 := fB_flat x4 x5 x6 x7 l hl F
    simp only [List.flatMap_cons, List.length_append, List.length_cons]
    omega
theorem fB_take {x4 x5 x6 x7 : Int} {l : List Int} {F : List Int} {k : Nat} (hk : k < F.length) : (F.take (k + 1)).flatMap (fB x4 x5 x6 x7 l) = (F.take k).flatMap (fB x4 x5 x6 x7 l) ++ fB x4 x5 x6 x7 l (F.getD k 0) := by
  rw [List.take_succ_eq_append_getElem hk, List.flatMap_append]
  simp [List.getD_eq_getElem?_getD, List.getElem?_eq_getElem hk]
theorem body_len (x0 x1 x2 x3 x4 x5 x6 x7 : Int) (l : List Int) (hl : l.length ≤ 4) : (body x0 x1 x2 x3 x4 x5 x6 x7 l).length ≤ 60 := by
  have h1 := fld_big x0
  have h2 := fB_flat x4 x5 x6 x7 l hl (fld x0)
  unfold body
  simp only [List.length_append, List.length_cons, List.length_nil, tw]
  omega
theorem OwB.cellsA {B : Nat} {w : World} {g n cap : Nat} {L : List Int} (h : OwB B w (.slice (some ⟨g, 0, none⟩) n cap) L) : ∀ j u, (L.map (Value.int .u8))[j]? = some u → w.cell? ((⟨g, 0, none⟩ : Addr).add j) = some u :=
  World.ownsRow.cells h (g := g) rfl
theorem conv_owb {B : Nat} {w : World} {g n cap : Nat} {L : List Int} (h : OwB B w (.slice (some ⟨g, 0, none⟩) n cap) L) :
    (convert 22 9 (.slice (some ⟨g, 0, none⟩) n cap)).run Try.prog w = .ok (.string (strOfNums L)) w := by
  have hn : L.length = n := by
    rcases h.2 with ⟨h1, _⟩ | ⟨g', cap', cur, h1, _⟩
    · cases h1
    · simp at h1; exact h1.2.1.symm
  refine run_convert_bytes_arg w 22 5 Try.underlying22 Try.underlying5 g 0 n cap L hn (fun i hi => ?_) 9 Try.underlying9
  have hc := h.cellsA i (.int .u8 (L.getD i 0)) (by simp [List.getD_eq_getElem?_getD, List.getElem?_eq_getElem (show i < L.length by omega)])
  have e : (⟨g, 0, none⟩ : Addr).add i = ⟨g, 0 + i, none⟩ := by unfold Addr.add; split <;> simp_all
  rw [e] at hc
  exact hc
theorem app_bel {C : Nat} {w2 wc w5 : World} {o : Obj} {v v5 : Value} {L : List Int} (hb : Below C w2 wc) (hC : C ≤ wc.heap.size) (ho : OwB C wc v L) (hg : Gw (wc.alloc o) w5 v v5) : Below C w2 w5 :=
  hb.trans ((((Gw.refl wc v).alloc o).trans hg).below hC (fun k hk => (ho.lo k hk).1))
theorem fld_apart {B : Nat} {w w3 : World} {v : Value} {L l : List Int} {a : Option Addr} {n : Nat} (ho : OwB B w v L) (h : OwnLs w.heap.size w3.heap.size w3 a n l) (hl : 0 < l.length) : ∀ g off, a = some ⟨g, off, none⟩ → v.ownBlock ≠ some g := by
  intro g off ha hv
  have h1 := (ho.lo g hv).2
  rcases h.2 with h2 | ⟨g', ha', _, os⟩
  · rw [h2] at hl; simp at hl
  · rw [ha] at ha'
    simp at ha'
    have := os.lo
    omega
set_option maxRecDepth 100000 in
set_option maxHeartbeats 6400000 in
theorem lBytes_any (x0 x1 x2 x3 x4 x5 x6 x7 : Int) (a : Option Addr) (cap n : Nat) (l : List Int) (w : World) (hn : l.length = n) (hbd : MBd x0 x1 x2 x3 x4 x5 x6 x7 l) (hr : RowAt w a l) :
    Calls Try.prog 57 #[.agg #[.int .i64 x0, .int .i64 x1, .int .i64 x2, .int .i64 x3, .int .i64 x4, .int .i64 x5, .int .i64 x6, .int .i64 x7, .slice a n cap]] w fun e w' => e = .returned (.string (strOfNums (wire x0 x1 x2 x3 x4 x5 x6 x7 l))) ∧ Below w.heap.size w w' := by
  subst hn
  have HR : Hid (RowAt w a l) := hr
  have HBD : Hid (MBd x0 x1 x2 x3 x4 x5 x6 x7 l) := hbd
  obtain ⟨⟨p0, p0'⟩, ⟨p1, p1'⟩, ⟨p2, p2'⟩, ⟨p3, p3'⟩, ⟨p4, p4'⟩, ⟨p5, p5'⟩, ⟨p6, p6'⟩, ⟨p7, p7'⟩, hl4, _⟩ := hbd
  clear hr
  obtain ⟨i0, hi, hieq⟩ := Option.map_eq_some_iff.1 info_byte
  obtain ⟨hz0, hz1, hz2⟩ : i0.zero = some (.int .u8 0) ∧ i0.size = 1 ∧ i0.bytes = 1 := by simpa using hieq
  clear hieq
  have O1 : Hid (OwB (w.heap.size + 1) ((w.alloc (.cells #[.int .i64 x0, .int .i64 x1, .int .i64 x2, .int .i64 x3, .int .i64 x4, .int .i64 x5, .int .i64 x6, .int .i64 x7, .slice a l.length cap] 33)).alloc (.cells #[.int .u8 x0, .int .u8 x1] 5)) (.slice (some ⟨w.heap.size + 1, 0, none⟩) 2 2) [x0, x1]) := by
    have h := OwB.lit2 (w.alloc (.cells #[.int .i64 x0, .int .i64 x1, .int .i64 x2, .int .i64 x3, .int .i64 x4, .int .i64 x5, .int .i64 x6, .int .i64 x7, .slice a l.length cap] 33)) x0 x1
    simp only [World.size_alloc] at h
    exact h
  have K1 : Hid (Bk ((w.alloc (.cells #[.int .i64 x0, .int .i64 x1, .int .i64 x2, .int .i64 x3, .int .i64 x4, .int .i64 x5, .int .i64 x6, .int .i64 x7, .slice a l.length cap] 33)).alloc (.cells #[.int .u8 x0, .int .u8 x1] 5)) w.heap.size #[.int .i64 x0, .int .i64 x1, .int .i64 x2, .int .i64 x3, .int .i64 x4, .int .i64 x5, .int .i64 x6, .int .i64 x7, .slice a l.length cap] 33) := (Bk.new _ _ _).alloc _
  have B1 : Hid (Below w.heap.size w ((w.alloc (.cells #[.int .i64 x0, .int .i64 x1, .int .i64 x2, .int .i64 x3, .int .i64 x4, .int .i64 x5, .int .i64 x6, .int .i64 x7, .slice a l.length cap] 33)).alloc (.cells #[.int .u8 x0, .int .u8 x1] 5))) := ((Below.refl _ _).alloc (Nat.le_refl _) _).alloc (by simp) _
  go_enter Try.func57, Try.ntmps57
  go_wp2_with fail
  have hs2 : w.heap.size + 1 ≤ ((w.alloc (.cells #[.int .i64 x0, .int .i64 x1, .int .i64 x2, .int .i64 x3, .int .i64 x4, .int .i64 x5, .int .i64 x6, .int .i64 x7, .slice a l.length cap] 33)).alloc (.cells #[.int .u8 x0, .int .u8 x1] 5)).heap.size := by simp
  generalize ((w.alloc (.cells #[.int .i64 x0, .int .i64 x1, .int .i64 x2, .int .i64 x3, .int .i64 x4, .int .i64 x5, .int .i64 x6, .int .i64 x7, .slice a l.length cap] 33)).alloc (.cells #[.int .u8 x0, .int .u8 x1] 5)) = w2 at *
  have B2 : Hid (Below (w.heap.size + 1) w2 w2) := Below.refl _ _
  have hL1 : ([x0, x1] : List Int).length = 2 := rfl
  have hL2 : ([x0, x1] ++ tw x2 : List Int).length = 4 := rfl
  have hL3 : ([x0, x1] ++ tw x2 ++ tw x3 : List Int).length = 6 := rfl
  refine (two_any x2 _ p2 p2').mono ?_
  rintro e w9 ⟨rfl, rfl⟩
  go_wp2_with (at_builtin; refine wpList_append_gw _ rfl _ _ 22 rfl (w.heap.size + 1) 5 i0 (.int .u8 0) 1 1 Try.underlying22 hi hz0 hz1 hz2 rfl (by decide) _ _ _ rfl (OwB.alloc O1.out _) ⟨_, 0, none⟩ 2 2 [.int .u8 (x2 / 256), .int .u8 (x2 % 256)] rfl rfl (cells_new2 _ _ _) (by simp [Value.oneCell']) (by unfold maxLen; omega) (by omega) (by have := B2.out.size; simp; omega) ?_; intro va wa hown hgrow; have Ba : Hid (Below (w.heap.size + 1) w2 wa) := app_bel B2.out (by have := B2.out.size; omega) O1.out hgrow; have Oa : Hid (OwB (w.heap.size + 1) wa va (([x0, x1]) ++ tw x2)) := OwB.snoc (k := tw x2) rfl hown; clear hown hgrow; obtain ⟨q0, q1, q2, q3, q4, q5, q6, q7, q8⟩ := Bk.c9 (K1.out.keepN Ba.out (by omega)))
  refine (two_any x3 _ p3 p3').mono ?_
  rintro e w9 ⟨rfl, rfl⟩
  go_wp2_with (at_builtin; refine wpList_append_gw _ rfl _ _ 22 rfl (w.heap.size + 1) 5 i0 (.int .u8 0) 1 1 Try.underlying22 hi hz0 hz1 hz2 rfl (by decide) _ _ _ rfl (OwB.alloc Oa.out _) ⟨_, 0, none⟩ 2 2 [.int .u8 (x3 / 256), .int .u8 (x3 % 256)] rfl rfl (cells_new2 _ _ _) (by simp [Value.oneCell']) (by unfold maxLen; omega) (by omega) (by have := Ba.out.size; simp; omega) ?_; intro v3 wb hown hgrow; have Bb : Hid (Below (w.heap.size + 1) w2 wb) := app_bel Ba.out (by have := Ba.out.size; omega) Oa.out hgrow; have Ob : Hid (OwB (w.heap.size + 1) wb v3 (([x0, x1] ++ tw x2) ++ tw x3)) := OwB.snoc (k := tw x3) rfl hown; clear hown hgrow; clear q0 q1 q2 q3 q4 q5 q6 q7 q8; obtain ⟨q0, q1, q2, q3, q4, q5, q6, q7, q8⟩ := Bk.c9 (K1.out.keepN Bb.out (by omega)))
  refine (lfieldsOf_any x0 _).mono ?_
  rintro e w3 ⟨aF, nF, cF, rfl, hnF, hcF, oF, hw⟩
  have O3 : Hid (OwB (w.heap.size + 1) w3 v3 ([x0, x1] ++ tw x2 ++ tw x3)) := Ob.out.keep hw
  have B3 : Hid (Below (w.heap.size + 1) w2 w3) := Bb.out.trans (hw.mono (by have := Bb.out.size; omega))
  have F3 : Hid (RowAt w3 aF (fld x0)) := oF.rowAt
  have HN : Hid (0 < nF → ∀ g off, aF = some ⟨g, off, none⟩ → v3.ownBlock ≠ some g) := fun h0 => fld_apart Ob.out oF (by omega)
  have hl3 := O3.out.lo
  have hs3 : w.heap.size + 1 ≤ w3.heap.size := by have := B3.out.size; omega
  have hF4 := fld_big x0
  clear hw oF O1 B2 Oa Ba Ob Bb q0 q1 q2 q3 q4 q5 q6 q7 q8
  go_wp2_with fail
  go_loopw [3, 29] (fun vb vi wr => ∃ (vv : Value) (j : Nat), vb = vv ∧ j ≤ nF ∧ vi = .int .i64 j ∧ Hid (OwB (w.heap.size + 1) wr vv ([x0, x1] ++ tw x2 ++ tw x3 ++ ((fld x0).take j).flatMap (fB x4 x5 x6 x7 l))) ∧ Hid (Below (w.heap.size + 1) w2 wr) ∧ Hid (Gw w3 wr v3 vv)) (fun _ vi _ => nF - (intOf vi).toNat)
  case atStart => exact ⟨v3, 0, rfl, Nat.zero_le _, rfl, by simpa [Hid] using O3.out, B3, Gw.refl _ _⟩
  case round =>
    obtain ⟨vv, j, rfl, hj, rfl, ob, bb, gw⟩ := hrel
    obtain ⟨q0, q1, q2, q3, q4, q5, q6, q7, q8⟩ := Bk.c9 (K1.out.keepN bb.out (by omega))
    by_cases hlt : j < nF
    · have hmem := fld_mem x0 j (by omega)
      have hrow := F3.out.gw gw.out (HN.out (by omega))
      obtain ⟨bk, off, hform⟩ := rowAt_form hrow (by omega)
      subst hform
      have hc1 := (rowAt_cell hrow (by omega)).2 j (by omega)
      clear hrow
      have HT : Hid (((fld x0).take (j + 1)).flatMap (fB x4 x5 x6 x7 l) = ((fld x0).take j).flatMap (fB x4 x5 x6 x7 l) ++ fB x4 x5 x6 x7 l ((fld x0).getD j 0)) := fB_take (by omega)
      have hLn : ([x0, x1] ++ tw x2 ++ tw x3 ++ ((fld x0).take j).flatMap (fB x4 x5 x6 x7 l)).length ≤ 100 := by
        have h9 := fB_flat x4 x5 x6 x7 l hl4 ((fld x0).take j)
        rw [List.length_take] at h9
        rw [List.length_append, hL3]
        omega
      have h9 : (fld x0).getD j 0 = 1 ∨ (fld x0).getD j 0 = 2 ∨ (fld x0).getD j 0 = 3 ∨ (fld x0).getD j 0 = 4 ∨ (fld x0).getD j 0 = 5 := by omega
      generalize ((fld x0).take j).flatMap (fB x4 x5 x6 x7 l) = M at *
      clear hmem
      rcases h9 with h9 | h9 | h9 | h9 | h9
      · rw [h9] at hc1 HT
        clear h9
        have e1 : fB x4 x5 x6 x7 l 1 = tw x4 := rfl
        rw [e1] at HT
        clear e1
        go_wp2_with fail
        refine (two_any x4 _ p4 p4').mono ?_
        rintro e w9 ⟨rfl, rfl⟩
        go_wp2_with (at_builtin; refine wpList_append_gw _ rfl _ _ 22 rfl (w.heap.size + 1) 5 i0 (.int .u8 0) 1 1 Try.underlying22 hi hz0 hz1 hz2 rfl (by decide) _ _ _ rfl (OwB.alloc ob.out _) ⟨_, 0, none⟩ 2 2 [.int .u8 (x4 / 256), .int .u8 (x4 % 256)] rfl rfl (cells_new2 _ _ _) (by simp [Value.oneCell']) (by unfold maxLen; omega) (by omega) (by have := bb.out.size; simp; omega) ?_; intro v5 w5 hown hgrow; have B5 : Hid (Below (w.heap.size + 1) w2 w5) := app_bel bb.out (by have := bb.out.size; omega) ob.out hgrow; have O5 : Hid (OwB (w.heap.size + 1) w5 v5 (([x0, x1] ++ tw x2 ++ tw x3 ++ M) ++ tw x4)) := OwB.snoc (k := tw x4) rfl hown; have G5 : Hid (Gw w3 w5 v3 v5) := Gw.trans gw.out (Gw.trans ((Gw.refl _ _).alloc _) hgrow); clear hown hgrow)
        clear q0 q1 q2 q3 q4 q5 q6 q7 q8
        go_roundw
        case rel => exact ⟨v5, j + 1, rfl, by omega, by go_num, by rw [HT.out, ← List.append_assoc]; exact O5, B5, G5⟩
        case measure => simp [intOf]; omega
      · rw [h9] at hc1 HT
        clear h9
        have e1 : fB x4 x5 x6 x7 l 2 = tw x5 := rfl
        rw [e1] at HT
        clear e1
        go_wp2_with fail
        refine (two_any x5 _ p5 p5').mono ?_
        rintro e w9 ⟨rfl, rfl⟩
        go_wp2_with (at_builtin; refine wpList_append_gw _ rfl _ _ 22 rfl (w.heap.size + 1) 5 i0 (.int .u8 0) 1 1 Try.underlying22 hi hz0 hz1 hz2 rfl (by decide) _ _ _ rfl (OwB.alloc ob.out _) ⟨_, 0, none⟩ 2 2 [.int .u8 (x5 / 256), .int .u8 (x5 % 256)] rfl rfl (cells_new2 _ _ _) (by simp [Value.oneCell']) (by unfold maxLen; omega) (by omega) (by have := bb.out.size; simp; omega) ?_; intro v5 w5 hown hgrow; have B5 : Hid (Below (w.heap.size + 1) w2 w5) := app_bel bb.out (by have := bb.out.size; omega) ob.out hgrow; have O5 : Hid (OwB (w.heap.size + 1) w5 v5 (([x0, x1] ++ tw x2 ++ tw x3 ++ M) ++ tw x5)) := OwB.snoc (k := tw x5) rfl hown; have G5 : Hid (Gw w3 w5 v3 v5) := Gw.trans gw.out (Gw.trans ((Gw.refl _ _).alloc _) hgrow); clear hown hgrow)
        clear q0 q1 q2 q3 q4 q5 q6 q7 q8
        go_roundw
        case rel => exact ⟨v5, j + 1, rfl, by omega, by go_num, by rw [HT.out, ← List.append_assoc]; exact O5, B5, G5⟩
        case measure => simp [intOf]; omega
      · rw [h9] at hc1 HT
        clear h9
        have e1 : fB x4 x5 x6 x7 l 3 = tw x6 := rfl
        rw [e1] at HT
        clear e1
        go_wp2_with fail
        refine (two_any x6 _ p6 p6').mono ?_
        rintro e w9 ⟨rfl, rfl⟩
        go_wp2_with (at_builtin; refine wpList_append_gw _ rfl _ _ 22 rfl (w.heap.size + 1) 5 i0 (.int .u8 0) 1 1 Try.underlying22 hi hz0 hz1 hz2 rfl (by decide) _ _ _ rfl (OwB.alloc ob.out _) ⟨_, 0, none⟩ 2 2 [.int .u8 (x6 / 256), .int .u8 (x6 % 256)] rfl rfl (cells_new2 _ _ _) (by simp [Value.oneCell']) (by unfold maxLen; omega) (by omega) (by have := bb.out.size; simp; omega) ?_; intro v5 w5 hown hgrow; have B5 : Hid (Below (w.heap.size + 1) w2 w5) := app_bel bb.out (by have := bb.out.size; omega) ob.out hgrow; have O5 : Hid (OwB (w.heap.size + 1) w5 v5 (([x0, x1] ++ tw x2 ++ tw x3 ++ M) ++ tw x6)) := OwB.snoc (k := tw x6) rfl hown; have G5 : Hid (Gw w3 w5 v3 v5) := Gw.trans gw.out (Gw.trans ((Gw.refl _ _).alloc _) hgrow); clear hown hgrow)
        clear q0 q1 q2 q3 q4 q5 q6 q7 q8
        go_roundw
        case rel => exact ⟨v5, j + 1, rfl, by omega, by go_num, by rw [HT.out, ← List.append_assoc]; exact O5, B5, G5⟩
        case measure => simp [intOf]; omega
      · rw [h9] at hc1 HT
        clear h9
        have e1 : fB x4 x5 x6 x7 l 4 = tw x7 := rfl
        rw [e1] at HT
        clear e1
        go_wp2_with fail
        refine (two_any x7 _ p7 p7').mono ?_
        rintro e w9 ⟨rfl, rfl⟩
        go_wp2_with (at_builtin; refine wpList_append_gw _ rfl _ _ 22 rfl (w.heap.size + 1) 5 i0 (.int .u8 0) 1 1 Try.underlying22 hi hz0 hz1 hz2 rfl (by decide) _ _ _ rfl (OwB.alloc ob.out _) ⟨_, 0, none⟩ 2 2 [.int .u8 (x7 / 256), .int .u8 (x7 % 256)] rfl rfl (cells_new2 _ _ _) (by simp [Value.oneCell']) (by unfold maxLen; omega) (by omega) (by have := bb.out.size; simp; omega) ?_; intro v5 w5 hown hgrow; have B5 : Hid (Below (w.heap.size + 1) w2 w5) := app_bel bb.out (by have := bb.out.size; omega) ob.out hgrow; have O5 : Hid (OwB (w.heap.size + 1) w5 v5 (([x0, x1] ++ tw x2 ++ tw x3 ++ M) ++ tw x7)) := OwB.snoc (k := tw x7) rfl hown; have G5 : Hid (Gw w3 w5 v3 v5) := Gw.trans gw.out (Gw.trans ((Gw.refl _ _).alloc _) hgrow); clear hown hgrow)
        clear q0 q1 q2 q3 q4 q5 q6 q7 q8
        go_roundw
        case rel => exact ⟨v5, j + 1, rfl, by omega, by go_num, by rw [HT.out, ← List.append_assoc]; exact O5, B5, G5⟩
        case measure => simp [intOf]; omega
      · rw [h9] at hc1 HT
        clear h9
        have e1 : fB x4 x5 x6 x7 l 5 = (l.length : Int) :: l.flatMap tw := rfl
        rw [e1] at HT
        clear e1
        go_wp2_with (at_builtin; refine wpList_append_gw _ rfl _ _ 22 rfl (w.heap.size + 1) 5 i0 (.int .u8 0) 1 1 Try.underlying22 hi hz0 hz1 hz2 rfl (by decide) _ _ _ rfl (OwB.alloc ob.out _) ⟨_, 0, none⟩ 1 1 [.int .u8 (l.length : Int)] rfl rfl (cells_new1 _ _) (by simp [Value.oneCell']) (by unfold maxLen; omega) (by omega) (by have := bb.out.size; simp; omega) ?_; intro v5 w5 hown hgrow; have B5 : Hid (Below (w.heap.size + 1) w2 w5) := app_bel bb.out (by have := bb.out.size; omega) ob.out hgrow; have O5 : Hid (OwB (w.heap.size + 1) w5 v5 (([x0, x1] ++ tw x2 ++ tw x3 ++ M) ++ [(l.length : Int)])) := OwB.snoc (k := [(l.length : Int)]) rfl hown; have G5 : Hid (Gw w3 w5 v3 v5) := Gw.trans gw.out (Gw.trans ((Gw.refl _ _).alloc _) hgrow); clear hown hgrow; obtain ⟨r0, r1, r2, r3, r4, r5, r6, r7, r8⟩ := Bk.c9 (K1.out.keepN B5.out (by omega)))
        have hL5 : ([x0, x1] ++ tw x2 ++ tw x3 ++ M ++ [(l.length : Int)]).length ≤ 101 := by rw [List.length_append]; simp only [List.length_cons, List.length_nil]; omega
        have HT5 : Hid ([x0, x1] ++ tw x2 ++ tw x3 ++ M ++ [(l.length : Int)] ++ l.flatMap tw = [x0, x1] ++ tw x2 ++ tw x3 ++ ((fld x0).take (j + 1)).flatMap (fB x4 x5 x6 x7 l)) := by
          unfold Hid
          rw [HT.out]
          simp only [List.append_assoc, List.cons_append, List.nil_append]
        generalize [x0, x1] ++ tw x2 ++ tw x3 ++ M ++ [(l.length : Int)] = M5 at *
        clear q0 q1 q2 q3 q4 q5 q6 q7 q8 r0 r1 r2 r3 r4 r5 r6 r7 r8 ob bb gw HT
        go_loopw [3, 44] (fun vb vi wr => ∃ (vv : Value) (k : Nat), vb = vv ∧ k ≤ l.length ∧ vi = .int .i64 k ∧ Hid (OwB (w.heap.size + 1) wr vv (M5 ++ (l.take k).flatMap tw)) ∧ Hid (Below (w.heap.size + 1) w2 wr) ∧ Hid (Gw w3 wr v3 vv)) (fun _ vi _ => l.length - (intOf vi).toNat)
        case atStart => exact ⟨v5, 0, rfl, Nat.zero_le _, rfl, by simpa [Hid] using O5.out, B5, G5⟩
        case round =>
          clear O5 B5 G5
          obtain ⟨vv, k, rfl, hk, rfl, ob, bb, gw⟩ := hrel
          by_cases hltk : k < l.length
          · have hrow := HR.out.keep (B1.out.trans (bb.out.mono (by omega)))
            obtain ⟨bl, ofl, hform⟩ := rowAt_form hrow (by omega)
            subst hform
            have hc2 := (rowAt_cell hrow (by omega)).2 k hltk
            obtain ⟨z1, z2⟩ := HBD.out.row k hltk
            have HTk : Hid ((l.take (k + 1)).flatMap tw = (l.take k).flatMap tw ++ tw (l.getD k 0)) := take_flat hltk
            have hLk : (M5 ++ (l.take k).flatMap tw).length ≤ 200 := by rw [List.length_append, flat_len, List.length_take]; omega
            clear hrow
            generalize l.getD k 0 = y at *
            go_wp2_with fail
            refine (two_any y _ z1 z2).mono ?_
            rintro e w9 ⟨rfl, rfl⟩
            go_wp2_with (at_builtin; refine wpList_append_gw _ rfl _ _ 22 rfl (w.heap.size + 1) 5 i0 (.int .u8 0) 1 1 Try.underlying22 hi hz0 hz1 hz2 rfl (by decide) _ _ _ rfl (OwB.alloc ob.out _) ⟨_, 0, none⟩ 2 2 [.int .u8 (y / 256), .int .u8 (y % 256)] rfl rfl (cells_new2 _ _ _) (by simp [Value.oneCell']) (by unfold maxLen; omega) (by omega) (by have := bb.out.size; simp; omega) ?_; intro v6 w6 hown hgrow; have B6 : Hid (Below (w.heap.size + 1) w2 w6) := app_bel bb.out (by have := bb.out.size; omega) ob.out hgrow; have O6 : Hid (OwB (w.heap.size + 1) w6 v6 ((M5 ++ (l.take k).flatMap tw) ++ tw y)) := OwB.snoc (k := tw y) rfl hown; have G6 : Hid (Gw w3 w6 v3 v6) := Gw.trans gw.out (Gw.trans ((Gw.refl _ _).alloc _) hgrow); clear hown hgrow)
            go_roundw
            case rel => exact ⟨v6, k + 1, rfl, by omega, by go_num, by rw [HTk.out, ← List.append_assoc]; exact O6, B6, G6⟩
            case measure => simp [intOf]; omega
          · have hkl : l.length ≤ k := by omega
            have OE : Hid (OwB (w.heap.size + 1) wr u3 ([x0, x1] ++ tw x2 ++ tw x3 ++ ((fld x0).take (j + 1)).flatMap (fB x4 x5 x6 x7 l))) := by
              have h := ob.out
              rw [List.take_of_length_le hkl, HT5.out] at h
              exact h
            clear ob
            go_wp2
            go_roundw
            case rel => exact ⟨u3, j + 1, rfl, by omega, by go_num, OE, bb, gw⟩
            case measure => simp [intOf]; omega
    · have hjn : (fld x0).length ≤ j := by omega
      have OE : Hid (OwB (w.heap.size + 1) wr u3 (body x0 x1 x2 x3 x4 x5 x6 x7 l)) := by
        have h := ob.out
        rw [List.take_of_length_le hjn] at h
        exact h
      clear ob
      have hbl : (body x0 x1 x2 x3 x4 x5 x6 x7 l).length ≤ 60 := body_len x0 x1 x2 x3 x4 x5 x6 x7 l hl4
      have hb0 : 0 < (body x0 x1 x2 x3 x4 x5 x6 x7 l).length := by unfold body; simp
      have HBB : Hid (Below w.heap.size w wr) := B1.out.trans (bb.out.mono (by omega))
      have HWI : Hid (wire x0 x1 x2 x3 x4 x5 x6 x7 l = [((body x0 x1 x2 x3 x4 x5 x6 x7 l).length : Int)] ++ body x0 x1 x2 x3 x4 x5 x6 x7 l) := rfl
      generalize body x0 x1 x2 x3 x4 x5 x6 x7 l = L at *
      obtain ⟨g, cp, rfl⟩ := Joins.ownsRow_form OE.out hb0
      clear q0 q1 q2 q3 q4 q5 q6 q7 q8
      go_wp2_with (at_builtin; refine wpList_append_gw _ rfl _ _ 22 rfl wr.heap.size 5 i0 (.int .u8 0) 1 1 Try.underlying22 hi hz0 hz1 hz2 rfl (by decide) _ _ _ rfl (OwB.lit1 wr (L.length : Int)) ⟨g, 0, none⟩ L.length cp (L.map (Value.int .u8)) rfl (by simp) ((OE.out.alloc _).cellsA) (by simp [Value.oneCell']) (by simp; unfold maxLen; omega) (by simp; omega) (by simp) ?_; intro v6 w6 hown hgrow; have O6 : Hid (OwB wr.heap.size w6 v6 ([(L.length : Int)] ++ L)) := OwB.snoc (by simp) hown; have hgr2 : Gw (wr.alloc (.cells #[.int .u8 (L.length : Int)] 5)) w6 (.slice (some ⟨wr.heap.size, 0, none⟩) 1 1) v6 := hgrow; have B6 : Hid (Below wr.heap.size wr w6) := (((Gw.refl _ _).alloc _).trans hgr2).below (Nat.le_refl _) (fun k hk => by simp [Value.ownBlock] at hk; omega); clear hown hgrow hgr2; obtain ⟨g6, c6, hv6⟩ := Joins.ownsRow_form O6.out (by simp); rw [show ([(L.length : Int)] ++ L).length = L.length + 1 from by simp] at hv6; subst hv6; have hcv := conv_owb O6.out)
      go_ret
      exact ⟨by rw [HWI.out]; rfl, HBB.out.trans (B6.out.mono (HBB.out.size))⟩
end Go.Proofs.Ytabbicfakkehpaa
