/- The program's copy of peers; the mathematics of a pointer that is set. -/
import Derived.Test.YtgmdbihdnacpjaaX5
import Derived.Test.YtgmdbihdnacpjaaQ5
namespace Go.Proofs.Ytgmdbihdnacpjaa
open Go.RowKit Go.Deep
set_option linter.unusedVariables false
theorem made_len (n : Nat) : (madeCells #[Value.int .i64 0, .int .i64 0, .int .i64 0, .slice none 0 0] (n * 4)).size = n * 4 := by simp [size_madeCells]
set_option maxHeartbeats 3200000 in
theorem copyPeers_any (q : Nat) (b d : Int) (a : Option Addr) (cap : Nat) (ps : List Pr) (w : World) (hz : 0 < ps.length) (hm : ps.length ≤ 16) (h3 : ∀ i, i < ps.length → (ps.getD i pr0).backs.length ≤ 3) (hq : q < w.heap.size) (c0 : w.cell? ⟨q, 0, none⟩ = some (.int .i64 b)) (c1 : w.cell? ⟨q, 1, none⟩ = some (.int .i64 d)) (c2 : w.cell? ⟨q, 2, none⟩ = some (.slice a ps.length cap)) (hr : PeersAt w a ps) :
    Calls Try.prog 47 #[.pointer (some ⟨q, 0, none⟩)] w fun e w' => ∃ g L, e = .returned (.agg #[.int .i64 b, .int .i64 d, .slice (some ⟨g, 0, none⟩) ps.length ps.length]) ∧ L.map (·.1) = ps ∧ OwnP w.heap.size w'.heap.size w' g L ∧ Below w.heap.size w w' := by
  obtain ⟨bk, off, rfl⟩ := peersAt_form hr hz
  obtain ⟨L0, hL0, hl0, hsrc, hone, hval⟩ := peers_src hr hz
  have hmk := make_peers ps.length (by omega)
  have hbk := (peersAt_cell hr hz).1
  have hA1 : Below w.heap.size w (w.alloc (.cells #[.int .i64 0, .int .i64 0, .slice none 0 0] 28)) := belA _ _
  have hA2 : Below w.heap.size w ((w.alloc (.cells #[.int .i64 0, .int .i64 0, .slice none 0 0] 28)).alloc (.cells (madeCells #[.int .i64 0, .int .i64 0, .int .i64 0, .slice none 0 0] (ps.length * 4)) 37)) := belt hA1 (belA _ _)
  have k2 : (w.alloc (.cells #[.int .i64 0, .int .i64 0, .slice none 0 0] 28)).cell? ⟨q, 2, none⟩ = some (.slice (some ⟨bk, off, none⟩) ps.length cap) := (hA1.cell (p := ⟨q, 2, none⟩) hq).trans c2
  have e2 : ((w.alloc (.cells #[.int .i64 0, .int .i64 0, .slice none 0 0] 28)).alloc (.cells (madeCells #[.int .i64 0, .int .i64 0, .int .i64 0, .slice none 0 0] (ps.length * 4)) 37)).cell? ⟨q, 2, none⟩ = some (.slice (some ⟨bk, off, none⟩) ps.length cap) := (hA2.cell (p := ⟨q, 2, none⟩) hq).trans c2
  have HSRC : Hid (∀ j v, (flatP L0)[j]? = some v → ((w.alloc (.cells #[.int .i64 0, .int .i64 0, .slice none 0 0] 28)).alloc (.cells (madeCells #[.int .i64 0, .int .i64 0, .int .i64 0, .slice none 0 0] (ps.length * 4)) 37)).cell? ((⟨bk, off, none⟩ : Addr).add j) = some v) := fun j v hj => by
    rw [add_none']
    exact (hA2.cell (p := ⟨bk, off + j, none⟩) hbk).trans (hsrc j v hj)
  have HMIN : Hid (Nat.min ps.length ps.length = ps.length) := by show min _ _ = _; simp
  have HCL : Hid ((flatP L0).length = ps.length * 4) := by unfold Hid; rw [flatP_len, hl0]
  have HFIT : Hid (0 + (flatP L0).length ≤ (madeCells #[.int .i64 0, .int .i64 0, .int .i64 0, .slice none 0 0] (ps.length * 4)).size) := by unfold Hid; rw [HCL.out, made_len]; omega
  have HONE : Hid (∀ v ∈ flatP L0, v.oneCell' = true) := hone
  have HG : Hid (((w.alloc (.cells #[.int .i64 0, .int .i64 0, .slice none 0 0] 28)).alloc (.cells (madeCells #[.int .i64 0, .int .i64 0, .int .i64 0, .slice none 0 0] (ps.length * 4)) 37)).heap[w.heap.size + 1]? = some (.cells (madeCells #[.int .i64 0, .int .i64 0, .int .i64 0, .slice none 0 0] (ps.length * 4)) 37 (0, 0))) := by
    have := heap_alloc_new (w.alloc (.cells #[.int .i64 0, .int .i64 0, .slice none 0 0] 28)) (.cells (madeCells #[.int .i64 0, .int .i64 0, .int .i64 0, .slice none 0 0] (ps.length * 4)) 37)
    unfold Hid
    simpa using this
  have HR0 : Hid (((w.alloc (.cells #[.int .i64 0, .int .i64 0, .slice none 0 0] 28)).alloc (.cells (madeCells #[.int .i64 0, .int .i64 0, .int .i64 0, .slice none 0 0] (ps.length * 4)) 37)).heap[w.heap.size]? = some (.cells #[.int .i64 0, .int .i64 0, .slice none 0 0] 28 (0, 0))) := by
    unfold Hid
    rw [heap_alloc_old _ _ (by simp)]
    exact heap_alloc_new _ _
  have HB2 : Hid (Below w.heap.size w ((w.alloc (.cells #[.int .i64 0, .int .i64 0, .slice none 0 0] 28)).alloc (.cells (madeCells #[.int .i64 0, .int .i64 0, .int .i64 0, .slice none 0 0] (ps.length * 4)) 37))) := hA2
  have HVAL : Hid (∀ i, i < ps.length → (L0.getD i d0).1 = ps.getD i pr0 ∧ ∃ ab cb, (L0.getD i d0).2 = .slice ab (ps.getD i pr0).backs.length cb ∧ RowAt w ab (ps.getD i pr0).backs) := hval
  have HL0 : Hid (L0.map (·.1) = ps) := hL0
  have HLL : Hid (L0.length = ps.length) := hl0
  have H3 : Hid (∀ i, i < ps.length → (ps.getD i pr0).backs.length ≤ 3) := h3
  have C0 : Hid (w.cell? ⟨q, 0, none⟩ = some (.int .i64 b)) := c0
  have C1 : Hid (w.cell? ⟨q, 1, none⟩ = some (.int .i64 d)) := c1
  clear hr hL0 hl0 hsrc hone hval hbk hA1 hA2 h3 c0 c1 c2
  go_enter Try.func47, Try.ntmps47
  go_wp2_with (refine wpList_copy_many rfl (.tmp 12) (.tmp 16) 26 26 rfl 37 4 ps.length Try.underlying26 size_peer4 (w.heap.size + 1) 0 ps.length ps.length ⟨bk, off, none⟩ ps.length cap rfl rfl (madeCells #[.int .i64 0, .int .i64 0, .int .i64 0, .slice none 0 0] (ps.length * 4)) 37 HG.out (flatP L0) HMIN.out HCL.out HSRC.out HFIT.out HONE.out w.heap.size w HB2.out (by omega) ?_; intro w1 hrow1 hb1 hk1; have ST0 : Hid (CPS w w1 L0 L0 0) := ⟨hb1.out, (hk1.out.2 _ (by omega)).trans HR0.out, by rw [hrow1.out]; simp [HCL.out, made_len], rfl, fun _ _ => rfl, fun _ _ _ => rfl, fun i hi _ => by omega, fun i j _ hj _ => by omega⟩; clear hrow1 hb1 hk1 hmk k2 e2)
  clear HSRC HMIN HCL HFIT HONE HG HR0 HB2
  go_loopw [20] (fun vi wr => ∃ (k : Nat) (M : List (Pr × Value)), k ≤ ps.length ∧ vi = .int .i64 k ∧ Hid (CPS w wr L0 M k)) (fun vi _ => ps.length - (intOf vi).toNat)
  case atStart => exact ⟨0, L0, Nat.zero_le _, rfl, ST0⟩
  case round =>
    obtain ⟨k, M, hk, rfl, ST⟩ := hrel
    clear ST0
    by_cases hlt : k < ps.length
    · have hk0 : k < L0.length := by rw [HLL.out]; exact hlt
      obtain ⟨g3, f3⟩ := ST.out.cell hk0
      obtain ⟨hv1, ab, cb, hv2, hrow⟩ := HVAL.out k hlt
      rw [ST.out.old k (Nat.le_refl _) hk0, hv2] at g3
      have hb3 := H3.out k hlt
      have hbs : (ps.getD k pr0).backs = (M.getD k d0).1.backs := by rw [ST.out.old k (Nat.le_refl _) hk0, hv1]
      have HBS : Hid ((ps.getD k pr0).backs = (M.getD k d0).1.backs) := hbs
      have hsz := ST.out.lt
      have HRW : Hid (RowAt w ab (ps.getD k pr0).backs) := hrow
      have hge : Hid ((M.getD k d0).1 = ps.getD k pr0) := by unfold Hid; rw [ST.out.old k (Nat.le_refl _) hk0, hv1]
      clear hv1 hv2 hbs hrow
      generalize (ps.getD k pr0).backs = bs at g3 hb3 HBS HRW
      have C := copyList_any ab cb bs wr (by omega) (HRW.out.keep ST.out.bel)
      go_wp2_with fail
      refine C.mono ?_
      rintro e w2 ⟨rfl, ow⟩
      have ST2 : Hid _ := ST.out.step hk0 ow.bel HBS.out (by omega) ow.owns
      have g4 : w2.cell? ⟨w.heap.size + 1, k * 4 + 3, none⟩ = some (.slice ab bs.length cb) := (ow.bel.cell (p := ⟨w.heap.size + 1, k * 4 + 3, none⟩) hsz).trans g3
      have f4 : w2.frozen? ⟨w.heap.size + 1, k * 4 + 3, none⟩ = false := frozen_of_row w2 _ _ _ _ ((ow.bel.block _ hsz).trans ST.out.row)
      clear ow C g3 f3 ST
      go_wp2_with fail
      go_roundw
      case rel => exact ⟨k + 1, _, by omega, by go_num, ST2⟩
      case measure => simp [intOf]; omega
    · obtain rfl : k = ps.length := by omega
      have hsz := ST.out.lt
      have r0 : wr.cell? ⟨w.heap.size, 0, none⟩ = some (.int .i64 0) := (cell_of_row wr _ _ _ _ _ ST.out.r).trans rfl
      have r1 : wr.cell? ⟨w.heap.size, 1, none⟩ = some (.int .i64 0) := (cell_of_row wr _ _ _ _ _ ST.out.r).trans rfl
      have r2 : wr.cell? ⟨w.heap.size, 2, none⟩ = some (.slice none 0 0) := (cell_of_row wr _ _ _ _ _ ST.out.r).trans rfl
      have q0 : wr.frozen? ⟨w.heap.size, 0, none⟩ = false := frozen_of_row wr _ _ _ _ ST.out.r
      have q1 : wr.frozen? ⟨w.heap.size, 1, none⟩ = false := frozen_of_row wr _ _ _ _ ST.out.r
      have q2 : wr.frozen? ⟨w.heap.size, 2, none⟩ = false := frozen_of_row wr _ _ _ _ ST.out.r
      have k0 : wr.cell? ⟨q, 0, none⟩ = some (.int .i64 b) := (ST.out.bel.cell (p := ⟨q, 0, none⟩) hq).trans C0.out
      have k1 : wr.cell? ⟨q, 1, none⟩ = some (.int .i64 d) := (ST.out.bel.cell (p := ⟨q, 1, none⟩) hq).trans C1.out
      have HM : Hid (M.map (·.1) = ps) := map_getD (by rw [ST.out.len, HLL.out]) (fun j hj => by rw [ST.out.fst j (by rw [HLL.out]; exact hj)]; exact (HVAL.out j hj).1)
      have OW : Hid (OwnP w.heap.size (set3 wr w.heap.size (.int .i64 b) (.int .i64 d) (.slice (some ⟨w.heap.size + 1, 0, none⟩) ps.length ps.length)).heap.size (set3 wr w.heap.size (.int .i64 b) (.int .i64 d) (.slice (some ⟨w.heap.size + 1, 0, none⟩) ps.length ps.length)) (w.heap.size + 1) M) := by
        unfold Hid
        rw [set3_size]
        have := ST.out
        rw [← HLL.out] at this
        exact (this.done.blocks (fun k hk _ _ => set3_block (by omega))).mono (by omega)
      go_wp2
      refine bodyPost_ret (results_cell_row Try.results47 _ _ w.heap.size _ _ _ _ rfl (set3_row ST.out.r) Try.underlying28 rfl (by kernel_rfl)) rfl ⟨w.heap.size + 1, M, rfl, HM.out, OW.out, set3_below ST.out.bel (Nat.le_refl _)⟩

def spL (ps : List Pr) (x pt : Int) (bs : List Int) : List Pr := ps.map (fun p => if p.id = x then ⟨p.id, p.succ, pt, bs⟩ else p)
def spOk (b d : Int) (ps : List Pr) (x pt : Int) (bs : List Int) : Bool := goodP b d ps && memI (idsP ps) x && memI (idsP ps) pt && bokB (idsP ps) bs
theorem spL_len (ps : List Pr) (x pt : Int) (bs : List Int) : (spL ps x pt bs).length = ps.length := by simp [spL]
theorem spL_get {ps : List Pr} {x pt : Int} {bs : List Int} {i : Nat} (hi : i < ps.length) : (spL ps x pt bs).getD i pr0 = if (ps.getD i pr0).id = x then ⟨(ps.getD i pr0).id, (ps.getD i pr0).succ, pt, bs⟩ else ps.getD i pr0 := by
  simp [spL, List.getD_eq_getElem?_getD, hi]
/-- in a ring the member below whom as many are as the place tells is one alone -/
theorem blw_one {b d : Int} {zs : List Int} (R : Ring b d zs) {x : Int} (hx : memI zs x = true) {i : Nat} (hi : i < zs.length) : zs.getD i 0 = x ↔ i = blw zs x := by
  have h := of_decide_eq_true hx
  constructor
  · intro he
    by_cases h1 : i < blw zs x
    · have := R.ris i (blw zs x) h1 h.1
      omega
    · by_cases h2 : blw zs x < i
      · have := R.ris (blw zs x) i h2 hi
        omega
      · omega
  · intro he
    rw [he]; exact h.2
end Go.Proofs.Ytgmdbihdnacpjaa
