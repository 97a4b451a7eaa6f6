/- What is drawn for SetPoint. -/
import Derived.Test.YtgmdbihdnacpjaaY3
namespace Go.Proofs.Ytgmdbihdnacpjaa
open Go.RowKit Go.Deep
set_option linter.unusedVariables false
theorem OwnPs.wide {B T T' : Nat} {w : World} {a : Option Addr} {n : Nat} {ps : List Pr} (h : OwnPs B T w a n ps) (ht : T ≤ T') : OwnPs B T' w a n ps := by
  refine ⟨h.1, ?_⟩
  rcases h.2 with h | ⟨g, L, ha, hL, os⟩
  · exact .inl h
  · exact .inr ⟨g, L, ha, hL, os.wide ht⟩
/-- cells of some members, in a block that is not the cursor's -/
def MC (w : World) (bm om : Nat) (ms : List Int) : Prop := ∀ i, i < ms.length → w.cell? ⟨bm, om + i, none⟩ = some (.int .i64 (ms.getD i 0))
theorem MC.block {w w1 : World} {bm om : Nat} {ms : List Int} (h : MC w bm om ms) (hb : w1.heap[bm]? = w.heap[bm]?) : MC w1 bm om ms := fun i hi => (World.cell?_of_block (a := ⟨bm, om + i, none⟩) hb).trans (h i hi)
theorem MC.keep {w w1 : World} {bm om : Nat} {ms : List Int} (h : MC w bm om ms) (hl : bm < w.heap.size) (hb : Below w.heap.size w w1) : MC w1 bm om ms := h.block (hb.block bm hl)
section
variable {w wr : World} {N : Nat} {a : Option Addr} {cap : Nat} {zs : List Int} {b d : Int} {X cp T : Nat} {ap : Option Addr} {ps : List Pr}
theorem DSt.raise {T' : Nat} (h : DSt w wr N a cap zs b d X cp T ap ps) (h1 : T ≤ T') (h2 : T' ≤ wr.heap.size) : DSt w wr N a cap zs b d X cp T' ap ps :=
  ⟨h.bel, h.cur, h.r, h.x, h.ow.wide h1, h.xlo, by have := h.xhi; omega, h2, h.row⟩
/-- the drawing of a pointer's last number: what is read, and kept while the answer is written -/
theorem DSt.e4 {bm om : Nat} {ms : List Int} (h : DSt w wr N a cap zs b d X cp T ap ps) (m : MC wr bm om ms) : wr.cell? ⟨X, 0, none⟩ = some (.int .i64 b) ∧ wr.cell? ⟨X, 1, none⟩ = some (.int .i64 d) ∧ wr.cell? ⟨X, 2, none⟩ = some (.slice ap ps.length cp) ∧ ∀ i, i < ms.length → wr.cell? ⟨bm, om + i, none⟩ = some (.int .i64 (ms.getD i 0)) := ⟨h.xc.1, h.xc.2.1, h.xc.2.2, m⟩
theorem DSt.e5 {bm om : Nat} {ms : List Int} (h : DSt w wr N a cap zs b d X cp T ap ps) (m : MC wr bm om ms) (hm : ¬ bm = w.heap.size) (v0 v1 v2 : Value) : (((wr.setCell ⟨w.heap.size, 0, none⟩ v0).setCell ⟨w.heap.size, 1, none⟩ v1).setCell ⟨w.heap.size, 2, none⟩ v2).cell? ⟨X, 0, none⟩ = some (.int .i64 b) ∧ (((wr.setCell ⟨w.heap.size, 0, none⟩ v0).setCell ⟨w.heap.size, 1, none⟩ v1).setCell ⟨w.heap.size, 2, none⟩ v2).cell? ⟨X, 1, none⟩ = some (.int .i64 d) ∧ (((wr.setCell ⟨w.heap.size, 0, none⟩ v0).setCell ⟨w.heap.size, 1, none⟩ v1).setCell ⟨w.heap.size, 2, none⟩ v2).cell? ⟨X, 2, none⟩ = some (.slice ap ps.length cp) ∧ ∀ i, i < ms.length → (((wr.setCell ⟨w.heap.size, 0, none⟩ v0).setCell ⟨w.heap.size, 1, none⟩ v1).setCell ⟨w.heap.size, 2, none⟩ v2).cell? ⟨bm, om + i, none⟩ = some (.int .i64 (ms.getD i 0)) := by
  have hn : ¬ X = w.heap.size := by have := h.xlo; omega
  refine ⟨?_, ?_, ?_, fun i hi => ?_⟩
  · rw [cell_far hn, cell_far hn, cell_far hn]; exact h.xc.1
  · rw [cell_far hn, cell_far hn, cell_far hn]; exact h.xc.2.1
  · rw [cell_far hn, cell_far hn, cell_far hn]; exact h.xc.2.2
  · rw [cell_far hm, cell_far hm, cell_far hm]; exact m i hi
end
theorem results_cell_tmp3 {fn : Func} {p q r s : Tmp} {ty : TypeId} (h : fn.results = #[.cell p ty, .tmp q, .tmp r, .tmp s]) (tmps : Array Value) (w : World) (g : Nat) (t : TypeId) (cs : Array Value) (fr : Nat × Nat) (d : TypeDesc) (u1 u2 u3 : Value)
    (hp : tmps.getD p undef = .pointer (some ⟨g, 0, none⟩)) (hq : tmps.getD q undef = u1) (hr : tmps.getD r undef = u2) (hs : tmps.getD s undef = u3) (hg : w.heap[g]? = some (.cells cs t fr))
    (hu : Try.prog.underlying ty = some d) (hd : isRowD d = true) (hi : (Try.prog.info? ty).map (·.size) = some cs.size) :
    (results fn tmps).run Try.prog w = .ok (.tuple #[.agg cs, u1, u2, u3]) w := by
  have hp' : tmps[p]?.getD undef = .pointer (some ⟨g, 0, none⟩) := by simpa using hp
  have hq' : tmps[q]?.getD undef = u1 := by simpa using hq
  have hr' : tmps[r]?.getD undef = u2 := by simpa using hr
  have hs' : tmps[s]?.getD undef = u3 := by simpa using hs
  have hl := run_loadVar_row w g t ty cs fr d hg hu (by cases d <;> first | rfl | (simp [isRowD] at hd)) hi
  simp [results, h, hp', hq', hr', hs', asAddr, hl]
/-- a list of few numbers that is read -/
def SomeL (w : World) (v : Value) : Prop := ∃ ab cb bs, v = .slice ab bs.length cb ∧ bs.length ≤ 4 ∧ RowAt w ab bs ∧ (ab = none → cb = 0)
set_option maxRecDepth 100000 in
set_option maxHeartbeats 25600000 in
theorem drawSetPoint_any (a : Option Addr) (cap : Nat) (zs : List Int) (w : World) (hm : zs.length ≤ 1048576) (hr : RowB w a zs) :
    Calls Try.prog 12 #[.slice a zs.length cap] w fun e w' => ∃ (b d : Int) (ap : Option Addr) (cp : Nat) (ps : List Pr) (x pt : Int) (ab : Option Addr) (cb : Nat) (bs : List Int), e = .returned (.tuple #[.agg #[.int .i64 b, .int .i64 d, .slice ap ps.length cp], .int .i64 x, .int .i64 pt, .slice ab bs.length cb]) ∧ PeersAt w' ap ps ∧ ps.length ≤ 16 ∧ (∀ i, i < ps.length → (ps.getD i pr0).backs.length ≤ 3) ∧ RowAt w' ab bs ∧ bs.length ≤ 4 ∧ (ab = none → cb = 0) ∧ Below w.heap.size w w' := by
  have hc0 := cur_new (cap := cap) hr hm ((Below.refl _ _).alloc (Nat.le_refl _) (.cells #[.int .i64 0, .int .i64 0, .slice none 0 0] 28))
  have HC0 : Hid (CurAt ((w.alloc (.cells #[.int .i64 0, .int .i64 0, .slice none 0 0] 28)).alloc (.cells #[.slice a zs.length cap, .int .i64 0, .int .u64 0] 66)) (w.alloc (.cells #[.int .i64 0, .int .i64 0, .slice none 0 0] 28)).heap.size 0 a cap zs) := hc0
  have HR : Hid (RowB w a zs) := hr
  obtain ⟨i0, hi, hz0, hz1, hz2⟩ := info_parts'
  clear hc0 hr
  go_enter Try.func12, Try.ntmps12
  go_wp2_with fail
  refine (peers_any _ _ _ _ _ _ (by simpa using HC0.out) (by omega)).mono ?_
  rintro e w1 ⟨b, d, ap, cp, ps, rfl, ow1, l16, few, mv1, hc1⟩
  have hs1 := mv1.size
  simp at hs1 ow1
  have D10 : DSt w ((w1.alloc (.cells #[.int .i64 b, .int .i64 d, .slice ap ps.length cp] 28)).alloc (.cells #[.int .i64 0] 3)) 300 a cap zs b d w1.heap.size cp (w1.heap.size + 2) ap ps := by
    have hb1 : Below w.heap.size w w1 := mv1.below (((Below.refl _ _).alloc (Nat.le_refl _) _).alloc (by simp) _) (by omega)
    have hbA := belt (belA w1 (.cells #[.int .i64 b, .int .i64 d, .slice ap ps.length cp] 28)) (belA (w1.alloc (.cells #[.int .i64 b, .int .i64 d, .slice ap ps.length cp] 28)) (.cells #[.int .i64 0] 3))
    refine ⟨belt hb1 hbA, by simpa using hc1.keep hbA, ?_, ?_, ?_, by omega, by omega, by simp, HR.out⟩
    · rw [hbA.block _ (by omega), mv1.block _ (by simp; omega) (by omega)]
      exact heap_alloc2_old _ _ _
    · rw [heap_alloc_old _ _ (by simp)]
      exact heap_alloc_new _ _
    · exact ((ow1.keep hbA).lower (by omega)).wide (by omega)
  have D1 : Hid _ := D10
  have M10 : MC ((w1.alloc (.cells #[.int .i64 b, .int .i64 d, .slice ap ps.length cp] 28)).alloc (.cells #[.int .i64 0] 3)) (w1.heap.size + 1) 0 [0] := fun i hi => by
    have hi0 : i = 0 := by simp at hi; exact hi
    subst hi0
    have := heap_alloc_new (w1.alloc (.cells #[.int .i64 b, .int .i64 d, .slice ap ps.length cp] 28)) (.cells #[.int .i64 0] 3)
    simp only [World.size_alloc] at this
    exact (cell_of_row _ _ _ _ _ _ this).trans rfl
  have M1 : Hid (MC _ (w1.heap.size + 1) 0 [0]) := M10
  have FEW : Hid (∀ i, i < ps.length → (ps.getD i pr0).backs.length ≤ 3) := few
  clear D10 M10 ow1 few mv1 hc1 HC0 HR
  obtain ⟨x0, x1, x2⟩ := D1.out.xc
  have CM := lMembersOf_new b d ap cp ps _ (by omega) D1.out.ow.peersAt
  have hsz := D1.out.thi
  simp at hsz
  go_wp2_with fail
  refine CM.mono ?_
  rintro e w4 ⟨a4, n4, c4, ok, rfl, hw4, hok⟩
  have hs4 := hw4.size
  simp at hs4
  have D4 : Hid (DSt w w4 300 a cap zs b d w1.heap.size cp w4.heap.size ap ps) := (D1.out.keep hw4).raise (by omega) (Nat.le_refl _)
  have M4 : Hid (MC w4 (w1.heap.size + 1) 0 [0]) := MC.keep M1.out (by simp) hw4
  have HOK : Hid (ok = true → 1 ≤ n4 ∧ n4 ≤ 16 ∧ ∃ g l, a4 = some ⟨g, 0, none⟩ ∧ l.length = n4 ∧ OwnS (w1.heap.size + 2) w4 g l) := fun h => by
    have := hok h
    simp only [World.size_alloc] at this
    exact this
  clear D1 M1 CM hw4 hok x0 x1 x2 hsz
  obtain ⟨X, hX⟩ : ∃ X, w1.heap.size = X := ⟨_, rfl⟩
  rw [hX] at D4 M4 HOK hs1 hs4
  go_upto_if 25 with (fail)
  clear hX
  go_cut [8] (fun v8 wc => ∃ bm om cm ms, v8 = .slice (some ⟨bm, om, none⟩) ms.length cm ∧ 1 ≤ ms.length ∧ ms.length ≤ 16 ∧ w.heap.size + 2 ≤ bm ∧ bm < wc.heap.size ∧ Hid (MC wc bm om ms) ∧ Hid (DSt w wc 300 a cap zs b d X cp wc.heap.size ap ps))
  case first =>
    cases ok
    · go_wp2_with fail
      go_meet
      exact ⟨X + 1, 0, 1, [0], rfl, by simp, by simp, by omega, by omega, M4, D4⟩
    · obtain ⟨n1, n2, g4, l4, rfl, rfl, os4⟩ := HOK.out rfl
      have hlo := os4.lo
      have hlt := os4.lt
      go_wp2_with fail
      go_meet
      exact ⟨g4, 0, _, l4, rfl, n1, n2, by omega, hlt, fun i hi => by rw [Nat.zero_add]; exact (os4.at i hi).1, D4⟩
  case rest =>
    obtain ⟨bm, om, cm, ms, rfl, m1, m2, hb2, hb3, MM, DD⟩ := hcut
    clear D4 M4 HOK
    obtain ⟨T, hT⟩ : ∃ T, wc.heap.size = T := ⟨_, rfl⟩
    rw [hT] at DD hb3
    have hTc : T ≤ wc.heap.size := by omega
    clear hT
    go_wp2_with fail
    refine (pick_any _ _ _ _ _ _ _ DD.out.cur (by omega) (by omega) (by omega)).mono ?_
    rintro e w5 ⟨x5, rfl, x51, x52, mv5, hc5⟩
    obtain ⟨t5, rfl⟩ := Int.eq_ofNat_of_zero_le x51
    have D5 : Hid (DSt w w5 302 a cap zs b d X cp T ap ps) := DD.out.step mv5 hc5
    have M5 : Hid (MC w5 bm om ms) := MM.out.block (mv5.block bm (by omega) (by omega))
    clear DD MM mv5 hc5
    go_wp2_with fail
    go_loopw [11, 12] (fun vb vn wr => ∃ (v0 : Value) (bs : List Int) (j : Nat), vb = v0 ∧ vn = .int .i64 (j : Int) ∧ bs.length + j ≤ 4 ∧ OwnM T wr v0 bs ∧ Hid (DSt w wr (302 + 2 * bs.length) a cap zs b d X cp T ap ps) ∧ Hid (MC wr bm om ms)) (fun _ vn _ => (intOf vn).toNat)
    case atStart => exact ⟨_, [], t5, rfl, rfl, by simp; omega, World.ownsRow_nil _ _ _ _, D5, M5⟩
    case round =>
      obtain ⟨v0, bs, j, hv0, rfl, hj, hown, DL, ML⟩ := hrel
      have hv0 := hv0.symm
      subst hv0
      have HO : Hid (OwnM T wr v0 bs) := hown
      clear hown D5 M5
      by_cases hlt : 0 < j
      · go_wp2_with fail
        refine (pick_any _ _ _ _ _ _ _ DL.out.cur (by omega) (by omega) (by omega)).mono ?_
        rintro e w6 ⟨x6, rfl, x61, x62, mv6, hc6⟩
        obtain ⟨i6, rfl⟩ := Int.eq_ofNat_of_zero_le x61
        have hT6 := DL.out.thi
        have D6 : Hid (DSt w w6 (302 + 2 * bs.length + 2) a cap zs b d X cp T ap ps) := DL.out.step mv6 hc6
        have M6 : Hid (MC w6 bm om ms) := ML.out.block (mv6.block bm (by omega) (by omega))
        have O6 : Hid (OwnM T w6 v0 bs) := HO.out.mv mv6 (by omega)
        have hT7 := D6.out.thi
        have hii : i6 < ms.length := by omega
        have cz := M6.out i6 hii
        generalize ms.getD i6 0 = z at cz
        clear DL ML HO mv6 hc6
        go_wp2_with (at_builtin; refine wpList_append_own _ rfl (.tmp 33) (.tmp 41) 29 rfl T 3 i0 (.int .i64 0) 1 8 Try.underlying29 hi hz0 hz1 hz2 rfl (by decide) _ _ _ rfl (O6.out.alloc _) ⟨w6.heap.size, 0, none⟩ 1 1 [.int .i64 z] rfl rfl (cell_one_new _ _ _) (by simp [Value.oneCell']) (by unfold maxLen; omega) (by omega) (by simp; omega) ?_; intro v7 w7 hown7 hgrow7 _; have OM : Hid (OwnM T w7 v7 (bs ++ [z])) := OwnM.snoc hown7; have D7 : Hid (DSt w w7 (302 + 2 * bs.length + 2) a cap zs b d X cp T ap ps) := (D6.out.keep (belA _ _)).grown hgrow7 (fun k hk => (O6.out.lt k hk).1); have M7 : Hid (MC w7 bm om ms) := (M6.out.keep (by omega) (belA _ _)).block (hgrow7.block bm (by simp; omega) (fun he => by have := (O6.out.lt bm he.symm).1; omega)); clear hown7 hgrow7 D6 M6 O6 cz)
        go_roundw
        case rel => exact ⟨v7, bs ++ [z], j - 1, rfl, by go_num, by simp; omega, OM.out, D7.out.more (by simp; omega), M7⟩
        case measure => simp [intOf]; omega
      · have hLB : Hid (bs.length ≤ 4) := by unfold Hid; omega
        have D8 : Hid (DSt w wr 312 a cap zs b d X cp T ap ps) := DL.out.more (by omega)
        have hT8 := D8.out.thi
        clear DL
        go_wp2_with fail
        refine (pick_any _ _ _ _ _ _ _ D8.out.cur (by omega) (by omega) (by omega)).mono ?_
        rintro e w9 ⟨x9, rfl, x91, x92, mv9, hc9⟩
        obtain ⟨i9, rfl⟩ := Int.eq_ofNat_of_zero_le x91
        have D9 : Hid (DSt w w9 314 a cap zs b d X cp T ap ps) := D8.out.step mv9 hc9
        have M9 : Hid (MC w9 bm om ms) := ML.out.block (mv9.block bm (by omega) (by omega))
        have O9 : Hid (OwnM T w9 v0 bs) := HO.out.mv mv9 (by omega)
        have hii : i9 < ms.length := by omega
        have cz := M9.out i9 hii
        have hT9 := D9.out.thi
        generalize ms.getD i9 0 = z at cz
        clear D8 ML HO mv9 hc9
        go_wp2_with fail
        refine (one_any _ _ _ _ _ _ _ D9.out.cur (by omega) (by omega) (by omega)).mono ?_
        rintro e wA ⟨vA, rfl, mvA, hcA⟩
        have DA : Hid (DSt w wA 316 a cap zs b d X cp T ap ps) := D9.out.step mvA hcA
        have MA : Hid (MC wA bm om ms) := M9.out.block (mvA.block bm (by omega) (by omega))
        have OA : Hid (OwnM T wA v0 bs) := O9.out.mv mvA (by omega)
        have hTA := DA.out.thi
        clear D9 M9 O9 mvA hcA cz
        go_upto_if 51 with (fail)
        go_cut [13] (fun v13 wc => ∃ y, v13 = .int .i64 y ∧ Hid (DSt w wc 320 a cap zs b d X cp T ap ps) ∧ Hid (MC wc bm om ms) ∧ Hid (OwnM T wc v0 bs))
        case first =>
          cases vA
          · go_wp2_with fail
            go_meet
            exact ⟨z, rfl, DA.out.more (by omega), MA, OA⟩
          · obtain ⟨k0, k1, k2⟩ := DA.out.xc
            go_wp2_with fail
            refine (num_any _ _ _ _ _ _ _ _ DA.out.cur (by omega)).mono ?_
            rintro e wB ⟨xB, rfl, xB1, xB2, mvB, hcB⟩
            have DB : Hid (DSt w wB 320 a cap zs b d X cp T ap ps) := DA.out.step mvB hcB
            have MB : Hid (MC wB bm om ms) := MA.out.block (mvB.block bm (by omega) (by omega))
            have OB : Hid (OwnM T wB v0 bs) := OA.out.mv mvB (by omega)
            go_wp2_with fail
            go_meet
            exact ⟨xB, rfl, DB, MB, OB⟩
        case rest =>
          obtain ⟨y, rfl, DC, MX, OC⟩ := hcut
          clear DA MA OA
          have hTC := DC.out.thi
          have hxlo := DC.out.xlo
          go_wp2_with fail
          have sta := DC.out.keep ((Below.refl _ _).drew)
          have mca : MC wc.drew bm om ms := MX.out
          have oma : OwnM T wc.drew v0 bs := OC.out.keep ((Below.refl _ _).drew)
          have hbm : ¬ bm = w.heap.size := by omega
          go_region_held (fun w' => w'.cell? ⟨X, 0, none⟩ = some (.int .i64 b) ∧ w'.cell? ⟨X, 1, none⟩ = some (.int .i64 d) ∧ w'.cell? ⟨X, 2, none⟩ = some (.slice ap ps.length cp) ∧ ∀ i, i < ms.length → w'.cell? ⟨bm, om + i, none⟩ = some (.int .i64 (ms.getD i 0))) (with_reducible (first | exact sta.e4 mca | exact stb.e4 mcb | exact stb.e5 mcb hbm _ _ _)) ((go_at_call 41; refine (pick_any _ _ _ _ _ _ _ sta.cur (by omega) (by omega) (by omega)).mono ?_; rintro e wa ⟨xa, rfl, xa1, xa2, mva, hca⟩; obtain ⟨i, rfl⟩ := Int.eq_ofNat_of_zero_le xa1; have stb := sta.step mva hca; have hii : i < ms.length := (by omega); have mcb : MC wa bm om ms := mca.block (mva.block bm (by show bm < wc.heap.size; omega) (by omega)); have omb : OwnM T wa v0 bs := oma.mv mva (by omega); obtain ⟨r0, r1, r2, q0, q1, q2⟩ := stb.rc))
          have HRW : Hid _ := stb.r
          have PP : Hid (PeersAt (set3 wa w.heap.size (.int .i64 b) (.int .i64 d) (.slice ap ps.length cp)) ap ps) := (stb.ow.blocks (w1 := set3 wa w.heap.size (.int .i64 b) (.int .i64 d) (.slice ap ps.length cp)) (fun k hk _ _ => set3_block (by omega))).peersAt
          have BB : Hid (Below w.heap.size w (set3 wa w.heap.size (.int .i64 b) (.int .i64 d) (.slice ap ps.length cp))) := set3_below stb.bel (Nat.le_refl _)
          have OL : Hid (OwnM T (set3 wa w.heap.size (.int .i64 b) (.int .i64 d) (.slice ap ps.length cp)) v0 bs) := omb.block (fun k _ hk => set3_block (by omega))
          obtain ⟨ab, cb, rfl, hrowb, hcb⟩ : ∃ ab cb, v0 = .slice ab bs.length cb ∧ RowAt (set3 wa w.heap.size (.int .i64 b) (.int .i64 d) (.slice ap ps.length cp)) ab bs ∧ (ab = none → cb = 0) := by
            rcases OL.out.form with ⟨rfl, rfl⟩ | ⟨gf, cf, rfl, _, os⟩
            · exact ⟨none, 0, rfl, .inl rfl, fun _ => rfl⟩
            · exact ⟨_, cf, rfl, os.rowAt, fun h => by cases h⟩
          clear OL omb oma sta stb mca mcb
          go_wp2
          exact bodyPost_ret (results_cell_tmp3 Try.results12 _ _ w.heap.size _ _ _ _ _ _ _ rfl rfl rfl rfl (set3_row HRW.out) Try.underlying28 rfl (by kernel_rfl)) rfl ⟨b, d, ap, cp, ps, y, _, ab, cb, bs, rfl, PP.out, l16, FEW.out, hrowb, hLB.out, hcb, BB.out⟩
end Go.Proofs.Ytgmdbihdnacpjaa
