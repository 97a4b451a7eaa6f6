/- A good message that is drawn, with its space. -/
import Derived.Test.YtabbicfakkehpaaFr1
namespace Go.Proofs.Ytabbicfakkehpaa
open Go.RowKit Go.Deep
set_option linter.unusedVariables false
set_option linter.unusedSimpArgs false
theorem results_two {fn : Func} {p q : Tmp} {ty ty2 : TypeId} (h : fn.results = #[.cell p ty, .cell q ty2]) (tmps : Array Value) (w : World) (g g2 : Nat) (t t2 : TypeId) (cs cs2 : Array Value) (fr fr2 : Nat × Nat) (d d2 : TypeDesc)
    (hp : tmps.getD p undef = .pointer (some ⟨g, 0, none⟩)) (hq : tmps.getD q undef = .pointer (some ⟨g2, 0, none⟩)) (hg : w.heap[g]? = some (.cells cs t fr)) (hg2 : w.heap[g2]? = some (.cells cs2 t2 fr2))
    (hu : Try.prog.underlying ty = some d) (hd : isRowD d = true) (hi : (Try.prog.info? ty).map (·.size) = some cs.size) (hu2 : Try.prog.underlying ty2 = some d2) (hd2 : isRowD d2 = true) (hi2 : (Try.prog.info? ty2).map (·.size) = some cs2.size) :
    (results fn tmps).run Try.prog w = .ok (.tuple #[.agg cs, .agg cs2]) w := by
  have hp' : tmps[p]?.getD undef = .pointer (some ⟨g, 0, none⟩) := by simpa using hp
  have hq' : tmps[q]?.getD undef = .pointer (some ⟨g2, 0, none⟩) := by simpa using hq
  have hl := run_loadVar_row w g t ty cs fr d hg hu (by cases d <;> first | rfl | (simp [isRowD] at hd)) hi
  have hl2 := run_loadVar_row w g2 t2 ty2 cs2 fr2 d2 hg2 hu2 (by cases d2 <;> first | rfl | (simp [isRowD] at hd2)) hi2
  simp [results, h, hp', hq', asAddr, hl, hl2]
/-- the two answers' variables, the cursor, the space -/
structure DM (w wr : World) (N : Nat) (a : Option Addr) (cap : Nat) (zs : List Int) (b d : Int) (X : Nat) : Prop where
  bel : Below w.heap.size w wr
  r0 : Bk wr w.heap.size #[.int .i64 0, .int .i64 0] 30
  r1 : Bk wr (w.heap.size + 1) #[.int .i64 0, .int .i64 0, .int .i64 0, .int .i64 0, .int .i64 0, .int .i64 0, .int .i64 0, .int .i64 0, .slice none 0 0] 33
  cur : CurAt wr (w.heap.size + 1 + 1) N a cap zs
  sp : Bk wr X #[.int .i64 b, .int .i64 d] 30
  hX : w.heap.size + 2 < X
section
variable {w wr w1 : World} {N M : Nat} {a : Option Addr} {cap : Nat} {zs : List Int} {b d : Int} {X B : Nat}
theorem DM.step (h : DM w wr N a cap zs b d X) (mv : Mv (w.heap.size + 1 + 1) wr w1) (hc : CurAt w1 (w.heap.size + 1 + 1) M a cap zs) : DM w w1 M a cap zs b d X :=
  ⟨mv.below h.bel (by omega), h.r0.mv mv (by omega), h.r1.mv mv (by omega), hc, h.sp.mv mv (by have := h.hX; omega), h.hX⟩
/-- the space is written -/
structure DN (w wr : World) (b d : Int) (X : Nat) : Prop where
  bel : Below w.heap.size w wr
  r1 : Bk wr (w.heap.size + 1) #[.int .i64 0, .int .i64 0, .int .i64 0, .int .i64 0, .int .i64 0, .int .i64 0, .int .i64 0, .int .i64 0, .slice none 0 0] 33
  sp : Bk wr X #[.int .i64 b, .int .i64 d] 30
  hX : w.heap.size + 2 < X
theorem dm_one (h : DM w wr N a cap zs b d X) {v : Value} {L : List Int} (ho : wr.ownsRow B 3 1 v L.length (L.map (Value.int .i64))) (hB : w.heap.size + 1 + 1 < B) :
    DN w ((wr.setCell ⟨w.heap.size, 0, none⟩ (.int .i64 b)).setCell ⟨w.heap.size, 1, none⟩ (.int .i64 d)) b d X ∧ Bk ((wr.setCell ⟨w.heap.size, 0, none⟩ (.int .i64 b)).setCell ⟨w.heap.size, 1, none⟩ (.int .i64 d)) w.heap.size #[.int .i64 b, .int .i64 d] 30 ∧
    ((wr.setCell ⟨w.heap.size, 0, none⟩ (.int .i64 b)).setCell ⟨w.heap.size, 1, none⟩ (.int .i64 d)).ownsRow B 3 1 v L.length (L.map (Value.int .i64)) := by
  have hX := h.hX
  exact ⟨⟨(h.bel.setCell (p := ⟨w.heap.size, 0, none⟩) (Nat.le_refl _) _).setCell (p := ⟨w.heap.size, 1, none⟩) (Nat.le_refl _) _, (h.r1.oth (by omega) 0 _).oth (by omega) 1 _, (h.sp.oth (by omega) 0 _).oth (by omega) 1 _, hX⟩,
    by simpa using (h.r0.set 0 (.int .i64 b)).set 1 (.int .i64 d), own_oth (own_oth ho (by omega) 0 _) (by omega) 1 _⟩
theorem dm_two (h : DN w wr b d X) (hr : Bk wr w.heap.size #[.int .i64 b, .int .i64 d] 30) {v : Value} {L : List Int} (ho : wr.ownsRow B 3 1 v L.length (L.map (Value.int .i64))) (hB : w.heap.size + 1 + 1 < B) (vs : List Value) :
    Bk (setL wr (w.heap.size + 1) 0 vs) X #[.int .i64 b, .int .i64 d] 30 ∧ Bk (setL wr (w.heap.size + 1) 0 vs) w.heap.size #[.int .i64 b, .int .i64 d] 30 ∧ Bk (setL wr (w.heap.size + 1) 0 vs) (w.heap.size + 1) (ovr #[.int .i64 0, .int .i64 0, .int .i64 0, .int .i64 0, .int .i64 0, .int .i64 0, .int .i64 0, .int .i64 0, .slice none 0 0] 0 vs) 33 ∧
    (setL wr (w.heap.size + 1) 0 vs).ownsRow B 3 1 v L.length (L.map (Value.int .i64)) ∧ Below w.heap.size w (setL wr (w.heap.size + 1) 0 vs) := by
  have hX := h.hX
  exact ⟨(setL_oth (by omega) vs wr 0).trans h.sp, (setL_oth (by omega) vs wr 0).trans hr, h.r1.setL vs 0, own_setL (by omega) vs wr 0 ho, setL_below (by omega) vs 0 h.bel⟩
end
set_option maxRecDepth 100000 in
set_option maxHeartbeats 6400000 in
theorem drawMsg_any (a : Option Addr) (cap : Nat) (zs : List Int) (w : World) (hm : zs.length ≤ 1048576) (hr : RowB w a zs) :
    Calls Try.prog 14 #[.slice a zs.length cap] w fun e w' => ∃ (b d m0 m1 m2 m3 m4 m5 m6 m7 : Int) (va : Option Addr) (vc : Nat) (L : List Int), e = .returned (.tuple #[.agg #[.int .i64 b, .int .i64 d], .agg #[.int .i64 m0, .int .i64 m1, .int .i64 m2, .int .i64 m3, .int .i64 m4, .int .i64 m5, .int .i64 m6, .int .i64 m7, .slice va L.length vc]]) ∧ RowAt w' va L ∧ L.length ≤ 20 ∧ Below w.heap.size w w' := by
  have hc0 := cur_new (cap := cap) hr hm (((Below.refl w.heap.size w).alloc (Nat.le_refl _) (.cells #[.int .i64 0, .int .i64 0] 30)).alloc (by simp) (.cells #[.int .i64 0, .int .i64 0, .int .i64 0, .int .i64 0, .int .i64 0, .int .i64 0, .int .i64 0, .int .i64 0, .slice none 0 0] 33))
  have HC0 : Hid _ := hc0
  clear hc0
  go_enter Try.func14, Try.ntmps14
  go_wp2_with fail
  refine (space_any _ _ _ _ _ _ (by simpa using HC0.out) (by omega)).mono ?_
  rintro e w1 ⟨b, d, rfl, b1, b2, d1, d2, mv1, hc1⟩
  have st : Hid (DM w (w1.alloc (.cells #[.int .i64 b, .int .i64 d] 30)) 12 a cap zs b d w1.heap.size) := by
    have hb : Below w.heap.size w w1 := mv1.below (((( Below.refl _ _).alloc (Nat.le_refl _) _).alloc (by simp) _).alloc (by simp; omega) _) (by omega)
    have hs := mv1.size
    simp at hs
    have k0 := ((Bk.new w #[.int .i64 0, .int .i64 0] 30).alloc (.cells #[.int .i64 0, .int .i64 0, .int .i64 0, .int .i64 0, .int .i64 0, .int .i64 0, .int .i64 0, .int .i64 0, .slice none 0 0] 33)).alloc (.cells #[.slice a zs.length cap, .int .i64 0, .int .u64 0] 57)
    have k1 := (Bk.new (w.alloc (.cells #[.int .i64 0, .int .i64 0] 30)) #[.int .i64 0, .int .i64 0, .int .i64 0, .int .i64 0, .int .i64 0, .int .i64 0, .int .i64 0, .int .i64 0, .slice none 0 0] 33).alloc (.cells #[.slice a zs.length cap, .int .i64 0, .int .u64 0] 57)
    simp only [World.size_alloc] at k1
    exact ⟨hb.alloc hb.size _, (k0.mv mv1 (by omega)).alloc _, (k1.mv mv1 (by omega)).alloc _, hc1.keep ((Below.refl _ _).alloc (Nat.le_refl _) _), Bk.new _ _ _, by omega⟩
  clear mv1 hc1 HC0
  obtain ⟨X, hX⟩ : ∃ X, w1.heap.size = X := ⟨_, rfl⟩
  go_wp2_with fail
  rw [hX] at st
  generalize w1.alloc (.cells #[.int .i64 b, .int .i64 d] 30) = w2 at *
  clear hX
  refine wp_region_held_drew (S := fun w' => Bk w' X #[.int .i64 b, .int .i64 d] 30) (by kernel_rfl) (st.out.sp.drew) (fun hs0 => ?_)
  have st0 : Hid (DM w w2.drew 12 a cap zs b d X) := st.out.step (Mv.of_below ((Below.refl _ _).drew)) (st.out.cur.keep ((Below.refl _ _).drew))
  clear st
  generalize w2.drew = wd at *
  refine wpAnyH_take (i := 0) (oi := _) (v := _) rfl (by kernel_rfl) (by kernel_rfl) (by kernel_rfl) (fun _ _ _ h => h) (yieldsIf_bk rfl rfl rfl (fun w' h => h) Try.underlying30 rfl (by kernel_rfl)) hs0 ?_
  simp only [Act.put, List.setIfInBounds_toArray, List.set_cons_zero, List.set_cons_succ]
  refine wpAnyH_take (i := 1) (oi := _) (v := _) rfl (by kernel_rfl) (by kernel_rfl) (by kernel_rfl) (fun _ _ _ h => h) (.inl ⟨by rfl, by intro w hSw; go_simp; with_reducible rfl⟩) hs0 ?_
  simp only [Act.put, List.setIfInBounds_toArray, List.set_cons_zero, List.set_cons_succ]
  refine wpAnyH_take (i := 2) (oi := _) (v := _) rfl (by kernel_rfl) (by kernel_rfl) (by kernel_rfl) (fun _ _ _ h => h) (yieldsIf_bk rfl rfl rfl (fun w' h => h) Try.underlying30 rfl (by kernel_rfl)) hs0 ?_
  simp only [Act.put, List.setIfInBounds_toArray, List.set_cons_zero, List.set_cons_succ]
  refine wpAnyH_ready (rs := [3]) (by kernel_rfl) (by simp) ?_
  refine AllReadyH.cons rfl (fun K hK => ?_) AllReadyH.nil
  go_simp
  refine (msg_any b d _ (w.heap.size + 1 + 1) 12 a cap zs st0.out.cur (by omega)).mono ?_
  rintro e w3 ⟨m0, m1, m2, m3, m4, m5, m6, m7, vl, L, rfl, hown, hlen, mv, hc⟩
  obtain ⟨va, vc, hvl, hrw⟩ := row_of_owns hown
  subst hvl
  have st2 : Hid (DM w w3 412 a cap zs b d X) := st0.out.step mv hc
  have hs1 := st2.out.sp
  refine hK.out _ _ hs1 (fun _ => ?_)
  have HW : Hid (∀ k, w.heap.size + 2 ≤ k → k < w3.heap.size → True) := fun _ _ _ => trivial
  have HO : Hid (w3.ownsRow wd.heap.size 3 1 (.slice va L.length vc) L.length (L.map (Value.int .i64))) := hown
  have hwd : w.heap.size + 1 + 1 < wd.heap.size := st0.out.cur.lt
  clear hK K mv hc st0 hown hrw HW
  obtain ⟨p0, p1⟩ := Bk.c2 st2.out.r0
  have z0 := st2.out.r0.fr 0
  have z1 := st2.out.r0.fr 1
  refine wpAnyH_ready (rs := [4]) (by kernel_rfl) (by simp) ?_
  refine AllReadyH.cons rfl (fun K hK => ?_) AllReadyH.nil
  go_simp
  have hE := dm_one st2.out HO.out hwd
  refine hK.out _ _ hE.1.sp (fun _ => ?_)
  clear hK K p0 p1 z0 z1 st2 HO
  have HE : Hid _ := hE
  clear hE
  generalize (w3.setCell ⟨w.heap.size, 0, none⟩ (.int .i64 b)).setCell ⟨w.heap.size, 1, none⟩ (.int .i64 d) = w4 at *
  obtain ⟨st4, hr4, ho4⟩ := HE.out
  have ST4 : Hid _ := st4
  have HO4 : Hid _ := ho4
  have HR4 : Hid _ := hr4
  obtain ⟨r0, r1, r2, r3, r4, r5, r6, r7, r8⟩ := Bk.c9 st4.r1
  obtain ⟨f0, f1, f2, f3, f4, f5, f6, f7, f8⟩ := Bk.f9 st4.r1
  clear st4 ho4 hr4 HE
  refine wpAnyH_ready (rs := [5]) (by kernel_rfl) (by simp) ?_
  refine AllReadyH.cons rfl (fun K hK => ?_) AllReadyH.nil
  go_simp
  obtain ⟨e1, e2, e3, e4, e5⟩ := dm_two ST4.out HR4.out HO4.out hwd [.int .i64 m0, .int .i64 m1, .int .i64 m2, .int .i64 m3, .int .i64 m4, .int .i64 m5, .int .i64 m6, .int .i64 m7, .slice va L.length vc]
  refine hK.out _ _ e1 (fun _ => ?_)
  clear hK K
  refine wpAnyH_done (by kernel_rfl) ?_ _
  rw [ovr9] at e3
  obtain ⟨va', vc', hv', hrow⟩ := row_of_owns e4
  simp at hv'
  rw [← hv'.1] at hrow
  go_wp2
  refine bodyPost_ret (results_two Try.results14 _ _ w.heap.size (w.heap.size + 1) _ _ _ _ _ _ _ _ rfl rfl e2 e3 Try.underlying30 rfl (by kernel_rfl) Try.underlying33 rfl (by kernel_rfl)) rfl ⟨b, d, m0, m1, m2, m3, m4, m5, m6, m7, va, vc, L, rfl, hrow, hlen, e5⟩
end Go.Proofs.Ytabbicfakkehpaa
