/- What is drawn for SetPoint. What is drawn for CrowdOf. What the law on owners draws, looks up and adds up. Crowds: how many members lie between two shifted numbers, on both sides. CrowdOf, on both sides. CrowdOf of the specification. The laws' own sameness of lists and of peers; SetPoint of the specification over any list. -/
import Derived.Laws.Small
import Derived.Test.YtgmdbihdnacpjaaZ0
import Derived.Test.YtgmdbihdnacpjaaZ1
import Derived.Test.YtgmdbihdnacpjaaZ2
import Derived.Test.YtgmdbihdnacpjaaZ3
import Derived.Test.YtgmdbihdnacpjaaZ4
import Derived.Test.YtgmdbihdnacpjaaZ5
namespace Go.Proofs.Ytgmdbihdnacpjaa
open Go.RowKit Go.Deep
set_option linter.unusedVariables false
theorem OwnPs.wide {B T T' : Nat} {w : World} {a : Option Addr} {n : Nat} {ps : List Pr} (h : OwnPs B T w a n ps) (ht : T ≤ T') : OwnPs B T' w a n ps := by
  refine ⟨h.1, ?_⟩
  rcases h.2 with h | ⟨g, L, ha, hL, os⟩
  · exact .inl h
  · exact .inr ⟨g, L, ha, hL, os.wide ht⟩
/-- cells of some members, in a block that is not the cursor's -/
def MC (w : World) (bm om : Nat) (ms : List Int) : Prop := ∀ i, i < ms.length → w.cell? ⟨bm, om + i, none⟩ = some (.int .i64 (ms.getD i 0))
theorem MC.block {w w1 : World} {bm om : Nat} {ms : List Int} (h : MC w bm om ms) (hb : w1.heap[bm]? = w.heap[bm]?) : MC w1 bm om ms := fun i hi => (World.cell?_of_block (a := ⟨bm, om + i, none⟩) hb).trans (h i hi)
theorem MC.keep {w w1 : World} {bm om : Nat} {ms : List Int} (h : MC w bm om ms) (hl : bm < w.heap.size) (hb : Below w.heap.size w w1) : MC w1 bm om ms := h.block (hb.block bm hl)
section
variable {w wr : World} {N : Nat} {a : Option Addr} {cap : Nat} {zs : List Int} {b d : Int} {X cp T : Nat} {ap : Option Addr} {ps : List Pr}
theorem DSt.raise {T' : Nat} (h : DSt w wr N a cap zs b d X cp T ap ps) (h1 : T ≤ T') (h2 : T' ≤ wr.heap.size) : DSt w wr N a cap zs b d X cp T' ap ps :=
  ⟨h.bel, h.cur, h.r, h.x, h.ow.wide h1, h.xlo, by have := h.xhi; omega, h2, h.row⟩
/-- the drawing of a pointer's last number: what is read, and kept while the answer is written -/
theorem DSt.e4 {bm om : Nat} {ms : List Int} (h : DSt w wr N a cap zs b d X cp T ap ps) (m : MC wr bm om ms) : wr.cell? ⟨X, 0, none⟩ = some (.int .i64 b) ∧ wr.cell? ⟨X, 1, none⟩ = some (.int .i64 d) ∧ wr.cell? ⟨X, 2, none⟩ = some (.slice ap ps.length cp) ∧ ∀ i, i < ms.length → wr.cell? ⟨bm, om + i, none⟩ = some (.int .i64 (ms.getD i 0)) := ⟨h.xc.1, h.xc.2.1, h.xc.2.2, m⟩
theorem DSt.e5 {bm om : Nat} {ms : List Int} (h : DSt w wr N a cap zs b d X cp T ap ps) (m : MC wr bm om ms) (hm : ¬ bm = w.heap.size) (v0 v1 v2 : Value) : (((wr.setCell ⟨w.heap.size, 0, none⟩ v0).setCell ⟨w.heap.size, 1, none⟩ v1).setCell ⟨w.heap.size, 2, none⟩ v2).cell? ⟨X, 0, none⟩ = some (.int .i64 b) ∧ (((wr.setCell ⟨w.heap.size, 0, none⟩ v0).setCell ⟨w.heap.size, 1, none⟩ v1).setCell ⟨w.heap.size, 2, none⟩ v2).cell? ⟨X, 1, none⟩ = some (.int .i64 d) ∧ (((wr.setCell ⟨w.heap.size, 0, none⟩ v0).setCell ⟨w.heap.size, 1, none⟩ v1).setCell ⟨w.heap.size, 2, none⟩ v2).cell? ⟨X, 2, none⟩ = some (.slice ap ps.length cp) ∧ ∀ i, i < ms.length → (((wr.setCell ⟨w.heap.size, 0, none⟩ v0).setCell ⟨w.heap.size, 1, none⟩ v1).setCell ⟨w.heap.size, 2, none⟩ v2).cell? ⟨bm, om + i, none⟩ = some (.int .i64 (ms.getD i 0)) := by
  have hn : ¬ X = w.heap.size := by have := h.xlo; omega
  refine ⟨?_, ?_, ?_, fun i hi => ?_⟩
  · rw [cell_far hn, cell_far hn, cell_far hn]; exact h.xc.1
  · rw [cell_far hn, cell_far hn, cell_far hn]; exact h.xc.2.1
  · rw [cell_far hn, cell_far hn, cell_far hn]; exact h.xc.2.2
  · rw [cell_far hm, cell_far hm, cell_far hm]; exact m i hi
end
theorem results_cell_tmp3 {fn : Func} {p q r s : Tmp} {ty : TypeId} (h : fn.results = #[.cell p ty, .tmp q, .tmp r, .tmp s]) (tmps : Array Value) (w : World) (g : Nat) (t : TypeId) (cs : Array Value) (fr : Nat × Nat) (d : TypeDesc) (u1 u2 u3 : Value)
    (hp : tmps.getD p undef = .pointer (some ⟨g, 0, none⟩)) (hq : tmps.getD q undef = u1) (hr : tmps.getD r undef = u2) (hs : tmps.getD s undef = u3) (hg : w.heap[g]? = some (.cells cs t fr))
    (hu : Try.prog.underlying ty = some d) (hd : isRowD d = true) (hi : (Try.prog.info? ty).map (·.size) = some cs.size) :
    (results fn tmps).run Try.prog w = .ok (.tuple #[.agg cs, u1, u2, u3]) w := by
  have hp' : tmps[p]?.getD undef = .pointer (some ⟨g, 0, none⟩) := by simpa using hp
  have hq' : tmps[q]?.getD undef = u1 := by simpa using hq
  have hr' : tmps[r]?.getD undef = u2 := by simpa using hr
  have hs' : tmps[s]?.getD undef = u3 := by simpa using hs
  have hl := run_loadVar_row w g t ty cs fr d hg hu (by cases d <;> first | rfl | (simp [isRowD] at hd)) hi
  simp [results, h, hp', hq', hr', hs', asAddr, hl]
/-- a list of few numbers that is read -/
def SomeL (w : World) (v : Value) : Prop := ∃ ab cb bs, v = .slice ab bs.length cb ∧ bs.length ≤ 4 ∧ RowAt w ab bs ∧ (ab = none → cb = 0)
set_option maxRecDepth 100000 in
set_option maxHeartbeats 25600000 in
theorem drawSetPoint_any (a : Option Addr) (cap : Nat) (zs : List Int) (w : World) (hm : zs.length ≤ 1048576) (hr : RowB w a zs) :
    Calls Try.prog 12 #[.slice a zs.length cap] w fun e w' => ∃ (b d : Int) (ap : Option Addr) (cp : Nat) (ps : List Pr) (x pt : Int) (ab : Option Addr) (cb : Nat) (bs : List Int), e = .returned (.tuple #[.agg #[.int .i64 b, .int .i64 d, .slice ap ps.length cp], .int .i64 x, .int .i64 pt, .slice ab bs.length cb]) ∧ PeersAt w' ap ps ∧ ps.length ≤ 16 ∧ (∀ i, i < ps.length → (ps.getD i pr0).backs.length ≤ 3) ∧ RowAt w' ab bs ∧ bs.length ≤ 4 ∧ (ab = none → cb = 0) ∧ Below w.heap.size w w' := by
  have hc0 := cur_new (cap := cap) hr hm ((Below.refl _ _).alloc (Nat.le_refl _) (.cells #[.int .i64 0, .int .i64 0, .slice none 0 0] 28))
  have HC0 : Hid (CurAt ((w.alloc (.cells #[.int .i64 0, .int .i64 0, .slice none 0 0] 28)).alloc (.cells #[.slice a zs.length cap, .int .i64 0, .int .u64 0] 66)) (w.alloc (.cells #[.int .i64 0, .int .i64 0, .slice none 0 0] 28)).heap.size 0 a cap zs) := hc0
  have HR : Hid (RowB w a zs) := hr
  obtain ⟨i0, hi, hz0, hz1, hz2⟩ := info_parts'
  clear hc0 hr
  go_enter Try.func12, Try.ntmps12
  go_wp2_with fail
  refine (peers_any _ _ _ _ _ _ (by simpa using HC0.out) (by omega)).mono ?_
  rintro e w1 ⟨b, d, ap, cp, ps, rfl, ow1, l16, few, mv1, hc1⟩
  have hs1 := mv1.size
  simp at hs1 ow1
  have D10 : DSt w ((w1.alloc (.cells #[.int .i64 b, .int .i64 d, .slice ap ps.length cp] 28)).alloc (.cells #[.int .i64 0] 3)) 300 a cap zs b d w1.heap.size cp (w1.heap.size + 2) ap ps := by
    have hb1 : Below w.heap.size w w1 := mv1.below (((Below.refl _ _).alloc (Nat.le_refl _) _).alloc (by simp) _) (by omega)
    have hbA := belt (belA w1 (.cells #[.int .i64 b, .int .i64 d, .slice ap ps.length cp] 28)) (belA (w1.alloc (.cells #[.int .i64 b, .int .i64 d, .slice ap ps.length cp] 28)) (.cells #[.int .i64 0] 3))
    refine ⟨belt hb1 hbA, by simpa using hc1.keep hbA, ?_, ?_, ?_, by omega, by omega, by simp, HR.out⟩
    · rw [hbA.block _ (by omega), mv1.block _ (by simp; omega) (by omega)]
      exact heap_alloc2_old _ _ _
    · rw [heap_alloc_old _ _ (by simp)]
      exact heap_alloc_new _ _
    · exact ((ow1.keep hbA).lower (by omega)).wide (by omega)
  have D1 : Hid _ := D10
  have M10 : MC ((w1.alloc (.cells #[.int .i64 b, .int .i64 d, .slice ap ps.length cp] 28)).alloc (.cells #[.int .i64 0] 3)) (w1.heap.size + 1) 0 [0] := fun i hi => by
    have hi0 : i = 0 := by simp at hi; exact hi
    subst hi0
    have := heap_alloc_new (w1.alloc (.cells #[.int .i64 b, .int .i64 d, .slice ap ps.length cp] 28)) (.cells #[.int .i64 0] 3)
    simp only [World.size_alloc] at this
    exact (cell_of_row _ _ _ _ _ _ this).trans rfl
  have M1 : Hid (MC _ (w1.heap.size + 1) 0 [0]) := M10
  have FEW : Hid (∀ i, i < ps.length → (ps.getD i pr0).backs.length ≤ 3) := few
  clear D10 M10 ow1 few mv1 hc1 HC0 HR
  obtain ⟨x0, x1, x2⟩ := D1.out.xc
  have CM := lMembersOf_new b d ap cp ps _ (by omega) D1.out.ow.peersAt
  have hsz := D1.out.thi
  simp at hsz
  go_wp2_with fail
  refine CM.mono ?_
  rintro e w4 ⟨a4, n4, c4, ok, rfl, hw4, hok⟩
  have hs4 := hw4.size
  simp at hs4
  have D4 : Hid (DSt w w4 300 a cap zs b d w1.heap.size cp w4.heap.size ap ps) := (D1.out.keep hw4).raise (by omega) (Nat.le_refl _)
  have M4 : Hid (MC w4 (w1.heap.size + 1) 0 [0]) := MC.keep M1.out (by simp) hw4
  have HOK : Hid (ok = true → 1 ≤ n4 ∧ n4 ≤ 16 ∧ ∃ g l, a4 = some ⟨g, 0, none⟩ ∧ l.length = n4 ∧ OwnS (w1.heap.size + 2) w4 g l) := fun h => by
    have := hok h
    simp only [World.size_alloc] at this
    exact this
  clear D1 M1 CM hw4 hok x0 x1 x2 hsz
  obtain ⟨X, hX⟩ : ∃ X, w1.heap.size = X := ⟨_, rfl⟩
  rw [hX] at D4 M4 HOK hs1 hs4
  go_upto_if 25 with (fail)
  clear hX
  go_cut [8] (fun v8 wc => ∃ bm om cm ms, v8 = .slice (some ⟨bm, om, none⟩) ms.length cm ∧ 1 ≤ ms.length ∧ ms.length ≤ 16 ∧ w.heap.size + 2 ≤ bm ∧ bm < wc.heap.size ∧ Hid (MC wc bm om ms) ∧ Hid (DSt w wc 300 a cap zs b d X cp wc.heap.size ap ps))
  case first =>
    cases ok
    · go_wp2_with fail
      go_meet
      exact ⟨X + 1, 0, 1, [0], rfl, by simp, by simp, by omega, by omega, M4, D4⟩
    · obtain ⟨n1, n2, g4, l4, rfl, rfl, os4⟩ := HOK.out rfl
      have hlo := os4.lo
      have hlt := os4.lt
      go_wp2_with fail
      go_meet
      exact ⟨g4, 0, _, l4, rfl, n1, n2, by omega, hlt, fun i hi => by rw [Nat.zero_add]; exact (os4.at i hi).1, D4⟩
  case rest =>
    obtain ⟨bm, om, cm, ms, rfl, m1, m2, hb2, hb3, MM, DD⟩ := hcut
    clear D4 M4 HOK
    obtain ⟨T, hT⟩ : ∃ T, wc.heap.size = T := ⟨_, rfl⟩
    rw [hT] at DD hb3
    have hTc : T ≤ wc.heap.size := by omega
    clear hT
    go_wp2_with fail
    refine (pick_any _ _ _ _ _ _ _ DD.out.cur (by omega) (by omega) (by omega)).mono ?_
    rintro e w5 ⟨x5, rfl, x51, x52, mv5, hc5⟩
    obtain ⟨t5, rfl⟩ := Int.eq_ofNat_of_zero_le x51
    have D5 : Hid (DSt w w5 302 a cap zs b d X cp T ap ps) := DD.out.step mv5 hc5
    have M5 : Hid (MC w5 bm om ms) := MM.out.block (mv5.block bm (by omega) (by omega))
    clear DD MM mv5 hc5
    go_wp2_with fail
    go_loopw [11, 12] (fun vb vn wr => ∃ (v0 : Value) (bs : List Int) (j : Nat), vb = v0 ∧ vn = .int .i64 (j : Int) ∧ bs.length + j ≤ 4 ∧ OwnM T wr v0 bs ∧ Hid (DSt w wr (302 + 2 * bs.length) a cap zs b d X cp T ap ps) ∧ Hid (MC wr bm om ms)) (fun _ vn _ => (intOf vn).toNat)
    case atStart => exact ⟨_, [], t5, rfl, rfl, by simp; omega, World.ownsRow_nil _ _ _ _, D5, M5⟩
    case round =>
      obtain ⟨v0, bs, j, hv0, rfl, hj, hown, DL, ML⟩ := hrel
      have hv0 := hv0.symm
      subst hv0
      have HO : Hid (OwnM T wr v0 bs) := hown
      clear hown D5 M5
      by_cases hlt : 0 < j
      · go_wp2_with fail
        refine (pick_any _ _ _ _ _ _ _ DL.out.cur (by omega) (by omega) (by omega)).mono ?_
        rintro e w6 ⟨x6, rfl, x61, x62, mv6, hc6⟩
        obtain ⟨i6, rfl⟩ := Int.eq_ofNat_of_zero_le x61
        have hT6 := DL.out.thi
        have D6 : Hid (DSt w w6 (302 + 2 * bs.length + 2) a cap zs b d X cp T ap ps) := DL.out.step mv6 hc6
        have M6 : Hid (MC w6 bm om ms) := ML.out.block (mv6.block bm (by omega) (by omega))
        have O6 : Hid (OwnM T w6 v0 bs) := HO.out.mv mv6 (by omega)
        have hT7 := D6.out.thi
        have hii : i6 < ms.length := by omega
        have cz := M6.out i6 hii
        generalize ms.getD i6 0 = z at cz
        clear DL ML HO mv6 hc6
        go_wp2_with (at_builtin; refine wpList_append_own _ rfl (.tmp 33) (.tmp 41) 29 rfl T 3 i0 (.int .i64 0) 1 8 Try.underlying29 hi hz0 hz1 hz2 rfl (by decide) _ _ _ rfl (O6.out.alloc _) ⟨w6.heap.size, 0, none⟩ 1 1 [.int .i64 z] rfl rfl (cell_one_new _ _ _) (by simp [Value.oneCell']) (by unfold maxLen; omega) (by omega) (by simp; omega) ?_; intro v7 w7 hown7 hgrow7 _; have OM : Hid (OwnM T w7 v7 (bs ++ [z])) := OwnM.snoc hown7; have D7 : Hid (DSt w w7 (302 + 2 * bs.length + 2) a cap zs b d X cp T ap ps) := (D6.out.keep (belA _ _)).grown hgrow7 (fun k hk => (O6.out.lt k hk).1); have M7 : Hid (MC w7 bm om ms) := (M6.out.keep (by omega) (belA _ _)).block (hgrow7.block bm (by simp; omega) (fun he => by have := (O6.out.lt bm he.symm).1; omega)); clear hown7 hgrow7 D6 M6 O6 cz)
        go_roundw
        case rel => exact ⟨v7, bs ++ [z], j - 1, rfl, by go_num, by simp; omega, OM.out, D7.out.more (by simp; omega), M7⟩
        case measure => simp [intOf]; omega
      · have hLB : Hid (bs.length ≤ 4) := by unfold Hid; omega
        have D8 : Hid (DSt w wr 312 a cap zs b d X cp T ap ps) := DL.out.more (by omega)
        have hT8 := D8.out.thi
        clear DL
        go_wp2_with fail
        refine (pick_any _ _ _ _ _ _ _ D8.out.cur (by omega) (by omega) (by omega)).mono ?_
        rintro e w9 ⟨x9, rfl, x91, x92, mv9, hc9⟩
        obtain ⟨i9, rfl⟩ := Int.eq_ofNat_of_zero_le x91
        have D9 : Hid (DSt w w9 314 a cap zs b d X cp T ap ps) := D8.out.step mv9 hc9
        have M9 : Hid (MC w9 bm om ms) := ML.out.block (mv9.block bm (by omega) (by omega))
        have O9 : Hid (OwnM T w9 v0 bs) := HO.out.mv mv9 (by omega)
        have hii : i9 < ms.length := by omega
        have cz := M9.out i9 hii
        have hT9 := D9.out.thi
        generalize ms.getD i9 0 = z at cz
        clear D8 ML HO mv9 hc9
        go_wp2_with fail
        refine (one_any _ _ _ _ _ _ _ D9.out.cur (by omega) (by omega) (by omega)).mono ?_
        rintro e wA ⟨vA, rfl, mvA, hcA⟩
        have DA : Hid (DSt w wA 316 a cap zs b d X cp T ap ps) := D9.out.step mvA hcA
        have MA : Hid (MC wA bm om ms) := M9.out.block (mvA.block bm (by omega) (by omega))
        have OA : Hid (OwnM T wA v0 bs) := O9.out.mv mvA (by omega)
        have hTA := DA.out.thi
        clear D9 M9 O9 mvA hcA cz
        go_upto_if 51 with (fail)
        go_cut [13] (fun v13 wc => ∃ y, v13 = .int .i64 y ∧ Hid (DSt w wc 320 a cap zs b d X cp T ap ps) ∧ Hid (MC wc bm om ms) ∧ Hid (OwnM T wc v0 bs))
        case first =>
          cases vA
          · go_wp2_with fail
            go_meet
            exact ⟨z, rfl, DA.out.more (by omega), MA, OA⟩
          · obtain ⟨k0, k1, k2⟩ := DA.out.xc
            go_wp2_with fail
            refine (num_any _ _ _ _ _ _ _ _ DA.out.cur (by omega)).mono ?_
            rintro e wB ⟨xB, rfl, xB1, xB2, mvB, hcB⟩
            have DB : Hid (DSt w wB 320 a cap zs b d X cp T ap ps) := DA.out.step mvB hcB
            have MB : Hid (MC wB bm om ms) := MA.out.block (mvB.block bm (by omega) (by omega))
            have OB : Hid (OwnM T wB v0 bs) := OA.out.mv mvB (by omega)
            go_wp2_with fail
            go_meet
            exact ⟨xB, rfl, DB, MB, OB⟩
        case rest =>
          obtain ⟨y, rfl, DC, MX, OC⟩ := hcut
          clear DA MA OA
          have hTC := DC.out.thi
          have hxlo := DC.out.xlo
          go_wp2_with fail
          have sta := DC.out.keep ((Below.refl _ _).drew)
          have mca : MC wc.drew bm om ms := MX.out
          have oma : OwnM T wc.drew v0 bs := OC.out.keep ((Below.refl _ _).drew)
          have hbm : ¬ bm = w.heap.size := by omega
          go_region_held (fun w' => w'.cell? ⟨X, 0, none⟩ = some (.int .i64 b) ∧ w'.cell? ⟨X, 1, none⟩ = some (.int .i64 d) ∧ w'.cell? ⟨X, 2, none⟩ = some (.slice ap ps.length cp) ∧ ∀ i, i < ms.length → w'.cell? ⟨bm, om + i, none⟩ = some (.int .i64 (ms.getD i 0))) (with_reducible (first | exact sta.e4 mca | exact stb.e4 mcb | exact stb.e5 mcb hbm _ _ _)) ((go_at_call 41; refine (pick_any _ _ _ _ _ _ _ sta.cur (by omega) (by omega) (by omega)).mono ?_; rintro e wa ⟨xa, rfl, xa1, xa2, mva, hca⟩; obtain ⟨i, rfl⟩ := Int.eq_ofNat_of_zero_le xa1; have stb := sta.step mva hca; have hii : i < ms.length := (by omega); have mcb : MC wa bm om ms := mca.block (mva.block bm (by show bm < wc.heap.size; omega) (by omega)); have omb : OwnM T wa v0 bs := oma.mv mva (by omega); obtain ⟨r0, r1, r2, q0, q1, q2⟩ := stb.rc))
          have HRW : Hid _ := stb.r
          have PP : Hid (PeersAt (set3 wa w.heap.size (.int .i64 b) (.int .i64 d) (.slice ap ps.length cp)) ap ps) := (stb.ow.blocks (w1 := set3 wa w.heap.size (.int .i64 b) (.int .i64 d) (.slice ap ps.length cp)) (fun k hk _ _ => set3_block (by omega))).peersAt
          have BB : Hid (Below w.heap.size w (set3 wa w.heap.size (.int .i64 b) (.int .i64 d) (.slice ap ps.length cp))) := set3_below stb.bel (Nat.le_refl _)
          have OL : Hid (OwnM T (set3 wa w.heap.size (.int .i64 b) (.int .i64 d) (.slice ap ps.length cp)) v0 bs) := omb.block (fun k _ hk => set3_block (by omega))
          obtain ⟨ab, cb, rfl, hrowb, hcb⟩ : ∃ ab cb, v0 = .slice ab bs.length cb ∧ RowAt (set3 wa w.heap.size (.int .i64 b) (.int .i64 d) (.slice ap ps.length cp)) ab bs ∧ (ab = none → cb = 0) := by
            rcases OL.out.form with ⟨rfl, rfl⟩ | ⟨gf, cf, rfl, _, os⟩
            · exact ⟨none, 0, rfl, .inl rfl, fun _ => rfl⟩
            · exact ⟨_, cf, rfl, os.rowAt, fun h => by cases h⟩
          clear OL omb oma sta stb mca mcb
          go_wp2
          exact bodyPost_ret (results_cell_tmp3 Try.results12 _ _ w.heap.size _ _ _ _ _ _ _ rfl rfl rfl rfl (set3_row HRW.out) Try.underlying28 rfl (by kernel_rfl)) rfl ⟨b, d, ap, cp, ps, y, _, ab, cb, bs, rfl, PP.out, l16, FEW.out, hrowb, hLB.out, hcb, BB.out⟩
end Go.Proofs.Ytgmdbihdnacpjaa
namespace Go.Proofs.Ytgmdbihdnacpjaa
open Go.RowKit Go.Deep
set_option linter.unusedVariables false
def SomeQ (B : Nat) (w : World) (v : Value) : Prop := ∃ (a0 : Option Addr) (cp : Nat) (ms : List Int), v = .slice a0 ms.length cp ∧ ms.length ≤ 16 ∧ RowAt w a0 ms ∧ (ms = [] ∨ ∃ bk off, a0 = some ⟨bk, off, none⟩ ∧ B ≤ bk)
theorem SomeQ.block {B : Nat} {w w1 : World} {v : Value} (h : SomeQ B w v) (hb : ∀ k, k < w.heap.size → B ≤ k → w1.heap[k]? = w.heap[k]?) (hs : w.heap.size ≤ w1.heap.size) : SomeQ B w1 v := by
  obtain ⟨a0, cp, ms, hv, hl, hr, hB⟩ := h
  refine ⟨a0, cp, ms, hv, hl, ?_, hB⟩
  rcases hB with hn | ⟨bk, off, ha, hbk⟩
  · exact .inl hn
  · rcases hr with hn | ⟨b', o', ha', hl', hc⟩
    · exact .inl hn
    · rw [ha] at ha'
      simp at ha'
      obtain ⟨rfl, rfl⟩ := ha'
      exact .inr ⟨bk, off, ha, by omega, fun i hi => (World.cell?_of_block (a := ⟨bk, off + i, none⟩) (hb bk hl' hbk)).trans (hc i hi)⟩
theorem SomeR.q {B B' : Nat} {w : World} {v : Value} (h : SomeR B w v) (hB : B' ≤ B) : SomeQ B' w v := by
  obtain ⟨a0, cp, ms, hv, _, hl, hr, hb⟩ := h
  refine ⟨a0, cp, ms, hv, by omega, hr, ?_⟩
  rcases hb with hn | ⟨bk, off, ha, hbk⟩
  · exact .inl hn
  · exact .inr ⟨bk, off, ha, by omega⟩
theorem OwnM.q {B B' : Nat} {w : World} {v : Value} {l : List Int} (h : OwnM B w v l) (hl : l.length ≤ 16) (hB : B' ≤ B) : SomeQ B' w v := by
  rcases h.form with ⟨rfl, rfl⟩ | ⟨g, cf, rfl, _, os⟩
  · exact ⟨none, 0, [], rfl, by simp, .inl rfl, .inl rfl⟩
  · exact ⟨_, cf, l, rfl, hl, os.rowAt, .inr ⟨g, 0, rfl, by have := os.lo; omega⟩⟩
section
variable {w wr : World} {n q : Nat} {a : Option Addr} {cap : Nat} {zs : List Int} {b d : Int}
theorem DrSt.more {m : Nat} (h : DrSt w wr n q a cap zs b d) (hm : n ≤ m) : DrSt w wr m q a cap zs b d := ⟨h.bel, h.cur.more hm, h.q0, h.q1, h.r, h.lo, h.hi⟩
theorem DrSt.grown {w1 : World} {r : Option Nat} (h : DrSt w wr n q a cap zs b d) (hR : RowB w a zs) (hg : wr.grownBy w1 r) (hr : ∀ k, r = some k → q + 1 ≤ k) : DrSt w w1 n q a cap zs b d := by
  have h1 := h.lo
  have h2 := h.hi
  have hblk : ∀ k, k ≤ q → w1.heap[k]? = wr.heap[k]? := fun k hk => hg.block k (by omega) (fun he => by have := hr k he.symm; omega)
  have hb : Below w.heap.size w w1 := h.bel.grown hg (by omega) (fun k hk => by have := hr k hk; omega)
  obtain ⟨k, sd, hB, hk, hw⟩ := h.cur.st
  exact ⟨hb, ⟨⟨k, sd, (hblk _ (by omega)).trans hB, hk, hw⟩, rowU_of hR hb, h.cur.len⟩, (World.cell?_of_block (a := ⟨q, 0, none⟩) (hblk q (Nat.le_refl _))).trans h.q0, (World.cell?_of_block (a := ⟨q, 1, none⟩) (hblk q (Nat.le_refl _))).trans h.q1, (hblk _ (by omega)).trans h.r, h.lo, by have := hg.size; omega⟩
end
set_option maxRecDepth 100000 in
set_option maxHeartbeats 25600000 in
theorem drawCrowd_any (a : Option Addr) (cap : Nat) (zs : List Int) (w : World) (hm : zs.length ≤ 1048576) (hr : RowB w a zs) :
    Calls Try.prog 18 #[.slice a zs.length cap] w fun e w' => ∃ (b d : Int) (v : Value), e = .returned (.tuple #[.agg #[.int .i64 b, .int .i64 d], v]) ∧ SomeQ w.heap.size w' v ∧ Below w.heap.size w w' := by
  have hc0 := cur_new (cap := cap) hr hm ((Below.refl _ _).alloc (Nat.le_refl _) (.cells #[.int .i64 0, .int .i64 0] 25))
  have HC0 : Hid (CurAt ((w.alloc (.cells #[.int .i64 0, .int .i64 0] 25)).alloc (.cells #[.slice a zs.length cap, .int .i64 0, .int .u64 0] 66)) (w.alloc (.cells #[.int .i64 0, .int .i64 0] 25)).heap.size 0 a cap zs) := hc0
  have HR : Hid (RowB w a zs) := hr
  obtain ⟨i0, hi, hz0, hz1, hz2⟩ := info_parts'
  clear hc0 hr
  go_enter Try.func18, Try.ntmps18
  go_wp2_with fail
  refine (ring_any _ _ _ _ _ _ (by simpa using HC0.out) (by omega)).mono ?_
  rintro e w1 ⟨b, d, v, rfl, sm1, mv1, hc1⟩
  have hs1 := mv1.size
  simp at hs1
  have D1 : Hid (DrSt w (w1.alloc (.cells #[.int .i64 b, .int .i64 d] 25)) 60 w1.heap.size a cap zs b d) := drSt_init mv1 (by simpa using hc1)
  have Q10 : SomeQ (w.heap.size + 2) w1 v := sm1.q (by simp)
  have Q1 : Hid (SomeQ (w.heap.size + 2) (w1.alloc (.cells #[.int .i64 b, .int .i64 d] 25)) v) := Q10.block (fun k hk _ => heap_alloc_old _ _ hk) (by simp)
  clear sm1 mv1 hc1 HC0 Q10
  obtain ⟨q0, q1⟩ : _ ∧ _ := ⟨D1.out.q0, D1.out.q1⟩
  have CS := lspace_any b d (w1.alloc (.cells #[.int .i64 b, .int .i64 d] 25))
  obtain ⟨a0, cp0, ms0, rfl, hml, hrm, hbm⟩ := Q1.out
  clear hrm hbm hml
  go_wp2_with fail
  refine CS.mono ?_
  rintro e w2 ⟨rfl, hw2⟩
  have D2 : Hid (DrSt w w2 60 w1.heap.size a cap zs b d) := D1.out.keep hw2
  have Q2 : Hid (SomeQ (w.heap.size + 2) w2 (.slice a0 ms0.length cp0)) := Q1.out.block (fun k hk _ => hw2.block k hk) hw2.size
  obtain ⟨q, hq⟩ : ∃ q, w1.heap.size = q := ⟨_, rfl⟩
  rw [hq] at D2
  clear D1 Q1 CS hw2 q0 q1
  have fin : ∀ (N : Nat) (wc : World) (vm : Value), DrSt w wc N q a cap zs b d → SomeQ (w.heap.size + 2) wc vm → SomeQ w.heap.size ((wc.setCell ⟨w.heap.size, 0, none⟩ (.int .i64 b)).setCell ⟨w.heap.size, 1, none⟩ (.int .i64 d)) vm := fun N wc vm D Q => by
    have := Q.block (w1 := (wc.setCell ⟨w.heap.size, 0, none⟩ (.int .i64 b)).setCell ⟨w.heap.size, 1, none⟩ (.int .i64 d)) (fun k hk hb => by
      rw [heap_setCell_other _ _ _ _ (by simp; omega), heap_setCell_other _ _ _ _ (by simp; omega)]) (by simp [World.setCell])
    obtain ⟨x1, x2, x3, x4, x5, x6, x7⟩ := this
    refine ⟨x1, x2, x3, x4, x5, x6, ?_⟩
    rcases x7 with h | ⟨bk, off, ha, hb⟩
    · exact .inl h
    · exact .inr ⟨bk, off, ha, by omega⟩
  have FIN : Hid _ := fin
  clear fin
  obtain ⟨q0, q1⟩ : _ ∧ _ := ⟨D2.out.q0, D2.out.q1⟩
  cases hg : gsB b d
  ·
    have hrow := D2.out.res_end (.int .i64 b) (.int .i64 d)
    obtain ⟨r0, r1, f0, f1⟩ := D2.out.res
    have hlo := D2.out.lo
    have HROW : Hid _ := hrow
    clear hrow
    go_wp2
    exact bodyPost_ret (results_cell_tmp Try.results18 _ _ w.heap.size _ _ _ _ _ rfl rfl HROW.out Try.underlying25 rfl (by kernel_rfl)) rfl ⟨b, d, _, rfl, FIN.out _ _ _ D2.out Q2.out, D2.out.bel_end _ _⟩
  · obtain ⟨hb1, hb2, _, _, _⟩ := gsB_true hg
    clear hg
    by_cases h2 : 2 ≤ b
    · go_wp2_with fail
      refine (one_any _ _ _ _ _ _ _ D2.out.cur (by omega) (by omega) (by omega)).mono ?_
      rintro e w3 ⟨v3, rfl, mv3, hc3⟩
      have D3 : Hid (DrSt w w3 62 q a cap zs b d) := D2.out.step mv3 hc3
      have Q3 : Hid (SomeQ (w.heap.size + 2) w3 (.slice a0 ms0.length cp0)) := by
        obtain ⟨x1, x2, x3, x4, x5, x6, x7⟩ := Q2.out
        refine ⟨x1, x2, x3, x4, x5, ?_, x7⟩
        rcases x7 with h | ⟨bk, off, ha, hb⟩
        · exact .inl h
        · rcases x6 with h | ⟨b', o', ha', hl', hc⟩
          · exact .inl h
          · exact .inr ⟨b', o', ha', Nat.lt_of_lt_of_le hl' mv3.size, fun i hi => keepM mv3 hl' (by rw [ha] at ha'; simp at ha'; have := D2.out.lo; omega) (hc i hi)⟩
      clear D2 Q2 mv3 hc3 q0 q1
      obtain ⟨q0, q1⟩ : _ ∧ _ := ⟨D3.out.q0, D3.out.q1⟩
      cases v3
      ·
        have hrow := D3.out.res_end (.int .i64 b) (.int .i64 d)
        obtain ⟨r0, r1, f0, f1⟩ := D3.out.res
        have hlo := D3.out.lo
        have HROW : Hid _ := hrow
        clear hrow
        go_wp2
        exact bodyPost_ret (results_cell_tmp Try.results18 _ _ w.heap.size _ _ _ _ _ rfl rfl HROW.out Try.underlying25 rfl (by kernel_rfl)) rfl ⟨b, d, _, rfl, FIN.out _ _ _ D3.out Q3.out, D3.out.bel_end _ _⟩
      · go_upto_region 5 with (fail)
        go_cut [7] (fun v7 wc => ∃ nn : Nat, v7 = .int .i64 (nn : Int) ∧ 1 ≤ nn ∧ nn ≤ 16 ∧ Hid (DrSt w wc 64 q a cap zs b d))
        case first =>
          go_wp2_with fail
          refine (least_any _ _ _).mono ?_
          rintro e w4 ⟨rfl, he4⟩
          have he4 := he4.symm
          subst he4
          have hmin1 : 1 ≤ min b 4 := by omega
          have hmin2 : min b 4 ≤ 4 := by omega
          generalize min b 4 = mb at hmin1 hmin2
          go_wp2_with fail
          refine (pick_any _ _ _ _ _ _ _ D3.out.cur (by omega) (by omega) (by omega)).mono ?_
          rintro e w5 ⟨x5, rfl, x51, x52, mv5, hc5⟩
          have D5 : Hid (DrSt w w5 64 q a cap zs b d) := D3.out.step mv5 hc5
          have hx : x5 = 0 ∨ x5 = 1 ∨ x5 = 2 ∨ x5 = 3 := by omega
          clear D3 Q3 mv5 hc5 q0 q1
          rcases hx with rfl | rfl | rfl | rfl
          · go_wp2_with fail
            go_meet
            exact ⟨2, rfl, by omega, by omega, D5⟩
          · go_wp2_with fail
            go_meet
            exact ⟨4, rfl, by omega, by omega, D5⟩
          · go_wp2_with fail
            go_meet
            exact ⟨8, rfl, by omega, by omega, D5⟩
          · go_wp2_with fail
            go_meet
            exact ⟨16, rfl, by omega, by omega, D5⟩
        case rest =>
          obtain ⟨nn, rfl, n1, n2, D6⟩ := hcut
          clear D3 Q3 q0 q1
          have hqq := D6.out.hi
          go_wp2_with fail
          go_loopw [6, 8] (fun vm vk wr => ∃ (v0 : Value) (ms : List Int) (k : Nat), vm = v0 ∧ vk = .int .i64 (k : Int) ∧ k ≤ nn ∧ ms.length = k ∧ OwnM (q + 1) wr v0 ms ∧ Hid (DrSt w wr 64 q a cap zs b d)) (fun _ vk _ => nn - (intOf vk).toNat)
          case atStart => exact ⟨_, [], 0, rfl, rfl, Nat.zero_le _, rfl, World.ownsRow_nil _ _ _ _, D6⟩
          case round =>
            obtain ⟨v0, ms, k, hv0, rfl, hk, hml, hown, DL⟩ := hrel
            have hv0 := hv0.symm
            subst hv0
            have HO : Hid (OwnM (q + 1) wr v0 ms) := hown
            clear hown D6
            obtain ⟨q0, q1⟩ : _ ∧ _ := ⟨DL.out.q0, DL.out.q1⟩
            by_cases hlt : k < nn
            · obtain ⟨s1, s2⟩ := sz_bd hb1 (by omega)
              go_wp2_with fail
              refine (lsize_any b d _ (by omega) (by omega)).mono ?_
              rintro e w7 ⟨rfl, hw7⟩
              have D7 : Hid (DrSt w w7 64 q a cap zs b d) := DL.out.keep hw7
              have O7 : Hid (OwnM (q + 1) w7 v0 ms) := HO.out.keep hw7
              have hq7 := D7.out.hi
              clear DL HO hw7 q0 q1
              generalize sz b = sb at s1 s2
              go_wp2_with (at_builtin; refine wpList_append_own _ rfl (.tmp 41) (.tmp 48) 29 rfl (q + 1) 3 i0 (.int .i64 0) 1 8 Try.underlying29 hi hz0 hz1 hz2 rfl (by decide) _ _ _ rfl (O7.out.alloc _) ⟨w7.heap.size, 0, none⟩ 1 1 [.int .i64 _] rfl rfl (cell_one_new _ _ _) (by simp [Value.oneCell']) (by unfold maxLen; omega) (by omega) (by simp; omega) ?_; intro v8 w8 hown8 hgrow8 _; have OM := OwnM.snoc hown8; have D8 : Hid (DrSt w w8 64 q a cap zs b d) := (D7.out.keep (belA _ _)).grown HR.out hgrow8 (fun k hk => (O7.out.lt k hk).1); clear hown8 hgrow8 D7 O7)
              go_roundw
              case rel => exact ⟨v8, _, k + 1, rfl, by go_num, by omega, by simp; omega, OM, D8⟩
              case measure => simp [intOf]; omega
            · have QE : SomeQ (w.heap.size + 2) wr v0 := HO.out.q (by omega) (by have := DL.out.lo; omega)
              have hrow := DL.out.res_end (.int .i64 b) (.int .i64 d)
              obtain ⟨r0, r1, f0, f1⟩ := DL.out.res
              have hlo := DL.out.lo
              have HROW : Hid _ := hrow
              clear hrow
              go_wp2
              exact bodyPost_ret (results_cell_tmp Try.results18 _ _ w.heap.size _ _ _ _ _ rfl rfl HROW.out Try.underlying25 rfl (by kernel_rfl)) rfl ⟨b, d, _, rfl, FIN.out _ _ _ DL.out QE, DL.out.bel_end _ _⟩
    ·
      have h2' : b < 2 := by omega
      have hrow := D2.out.res_end (.int .i64 b) (.int .i64 d)
      obtain ⟨r0, r1, f0, f1⟩ := D2.out.res
      have hlo := D2.out.lo
      have HROW : Hid _ := hrow
      clear hrow
      go_wp2
      exact bodyPost_ret (results_cell_tmp Try.results18 _ _ w.heap.size _ _ _ _ _ rfl rfl HROW.out Try.underlying25 rfl (by kernel_rfl)) rfl ⟨b, d, _, rfl, FIN.out _ _ _ D2.out Q2.out, D2.out.bel_end _ _⟩
end Go.Proofs.Ytgmdbihdnacpjaa
namespace Go.Proofs.Ytgmdbihdnacpjaa
open Go.RowKit
set_option linter.unusedVariables false

def IsRowU (w : World) (a : Option Addr) (len cap : Nat) (zs : List Int) : Prop :=
  (a = none ∧ len = 0 ∧ cap = 0 ∧ zs = []) ∨
  ∃ x, a = some x ∧ len ≤ cap ∧ cap ≤ maxLen ∧ zs.length = cap ∧ (∀ i, i < zs.length → w.cell? (x.add i) = some (.int .u8 (zs.getD i 0))) ∧ ∀ n ∈ zs, (Lit.int .u8 n).wf = true
theorem isRowU_rowB {w : World} {a : Option Addr} {len cap : Nat} {zs : List Int} (h : IsRowU w a len cap zs) : ∃ ys : List Int, ys.length = len ∧ len ≤ maxLen ∧ RowB w a ys := by
  rcases h with ⟨rfl, rfl, rfl, rfl⟩ | ⟨⟨b, off, spot⟩, rfl, hl, hm, hz, hc, hw⟩
  · exact ⟨[], rfl, Nat.zero_le _, .inl rfl⟩
  · by_cases h0 : len = 0
    · subst h0; exact ⟨[], rfl, Nat.zero_le _, .inl rfl⟩
    · have ad : ∀ j, (⟨b, off, none⟩ : Addr).add j = ⟨b, off + j, none⟩ := by intro j; unfold Addr.add; split <;> simp_all
      have hc0 := hc 0 (by omega)
      have hs : spot = none := by simpa [Addr.add] using World.cell?_spot hc0
      subst hs
      refine ⟨zs.take len, by simp; omega, by omega, .inr ⟨b, off, rfl, by simpa [ad] using block_lt_of_cell hc0, fun i hi => ?_⟩⟩
      have hi' : i < len := by simp at hi; omega
      have hci := hc i (by omega)
      rw [ad] at hci
      have e : (zs.take len).getD i 0 = zs.getD i 0 := by simp [List.getD_eq_getElem?_getD, hi']
      have hb := bounds_u8 (hw (zs.getD i 0) (by rw [List.getD_eq_getElem?_getD, List.getElem?_eq_getElem (by omega)]; exact List.getElem_mem _))
      rw [e]
      exact ⟨hci, hb⟩

def bigB (n m : Nat) : Bool := decide (1048576 < n ∨ (1048576 : Int) - n < m)
theorem big_any (a a' : Option Addr) (n m cap cap' : Nat) (w : World) (hn : n ≤ maxLen) (hm : m ≤ maxLen) :
    Calls Try.prog 11 #[.slice a n cap, .slice a' m cap'] w fun e w' => e = .returned (.bool (bigB n m)) ∧ w' = w := by
  unfold maxLen at hn hm
  unfold bigB
  by_cases h1 : 1048576 < n
  · rw [decide_eq_true (Or.inl h1)]
    go_enter Try.func11, Try.ntmps11
    go_wp2
    go_ret
    exact ⟨rfl, rfl⟩
  · by_cases h2 : (1048576 : Int) - n < m
    · rw [decide_eq_true (Or.inr h2)]
      go_enter Try.func11, Try.ntmps11
      go_wp2
      go_ret
      exact ⟨rfl, rfl⟩
    · rw [decide_eq_false (by omega)]
      go_enter Try.func11, Try.ntmps11
      go_wp2
      go_ret
      exact ⟨ret_bool (decide_eq_false (by omega)), rfl⟩

/-- the boxed space, of whatever type, and all that lay below it, are as they were -/
structure Bt (w : World) (b d : Int) (wk : World) : Prop where
  bel : Below (w.heap.size + 1) (w.alloc (.cells #[.int .i64 b, .int .i64 d] 25)) wk
theorem Bt.at {w wk : World} {b d : Int} (h : Bt w b d wk) : wk.cell? ⟨w.heap.size, 0, none⟩ = some (.int .i64 b) ∧ wk.cell? ⟨w.heap.size, 1, none⟩ = some (.int .i64 d) ∧ w.heap.size < wk.heap.size :=
  ⟨(h.bel.cell (p := ⟨w.heap.size, 0, none⟩) (by simp)).trans (by simp), (h.bel.cell (p := ⟨w.heap.size, 1, none⟩) (by simp)).trans (by simp), by have := h.bel.size; simp at this; omega⟩
theorem Bt.old {w wk : World} {b d : Int} (h : Bt w b d wk) : Below w.heap.size w wk := bel1 h.bel (by omega)
theorem Bt.step {w wk w' : World} {b d : Int} (h : Bt w b d wk) (hw : Below wk.heap.size wk w') : Bt w b d w' :=
  ⟨h.bel.trans (hw.mono (by have := h.at.2.2; omega))⟩
theorem Bt.first {w w1 : World} {b d : Int} (h : Below (w.alloc (.cells #[.int .i64 b, .int .i64 d] 25)).heap.size (w.alloc (.cells #[.int .i64 b, .int .i64 d] 25)) w1) : Bt w b d w1 := ⟨h.mono (by simp)⟩

theorem has_at {zs : List Int} {t : Nat} (ht : t < zs.length) {y : Int} (e : y = zs.getD t 0) : hasB zs y = true := decide_eq_true ⟨t, ht, e.symm⟩
theorem own_arc {b d : Int} {zs : List Int} (R : Ring b d zs) {x : Int} (x1 : 0 ≤ x) (x2 : x < sz b) : arcB b (prvI zs x) x (ownI zs x) = true := by
  obtain ⟨t, ht, ep, hp⟩ := prv_place R x
  obtain ⟨u, hu, eo, ho⟩ := own_place R x
  have rt := R.rng t ht
  have ru := R.rng u hu
  have l1 := R.l1
  rw [ep, eo]
  unfold arcB
  refine decide_eq_true ?_
  rw [dist_eq rt.1 rt.2 x1 x2, dist_eq rt.1 rt.2 ru.1 ru.2]
  rcases hp with ⟨hb, rfl⟩ | ⟨hb, rfl⟩
  · rcases ho with ⟨h1, rfl⟩ | ⟨h1, rfl⟩
    · have ha := R.above x (blw zs x) (Nat.le_refl _) h1
      rw [hb] at ha ru ⊢
      by_cases hn : zs.length = 1
      · left; rw [hn]
      · right
        have := R.ris 0 (zs.length - 1) (by omega) (by omega)
        refine ⟨by omega, ?_⟩
        split <;> split <;> omega
    · omega
  · have hlo := blw_lt (x := x) (zs := zs) (blw zs x - 1) (by omega)
    rcases ho with ⟨h1, rfl⟩ | ⟨h1, rfl⟩
    · have ha := R.above x (blw zs x) (Nat.le_refl _) h1
      right
      refine ⟨by omega, ?_⟩
      split <;> split <;> omega
    · rw [h1] at hlo rt ⊢
      by_cases hn : zs.length = 1
      · left; rw [hn]
      · right
        have := R.ris 0 (zs.length - 1) (by omega) (by omega)
        refine ⟨by omega, ?_⟩
        split <;> split <;> omega
theorem own_has {b d : Int} {zs : List Int} (R : Ring b d zs) (x : Int) : hasB zs x = (ownI zs x == x) := by
  obtain ⟨u, hu, eo, ho⟩ := own_place R x
  by_cases h : ownI zs x = x
  · rw [beq_iff_eq.2 h]; exact has_at hu (by rw [← eo, h])
  · have : (ownI zs x == x) = false := by simp only [beq_eq_false_iff_ne, ne_eq]; exact h
    rw [this, ← mem_has R]
    refine decide_eq_false (fun g => h ?_)
    rcases ho with ⟨h1, rfl⟩ | ⟨h1, rfl⟩
    · rw [eo]; exact g.2
    · omega
theorem own_nxt {b d : Int} {zs : List Int} (R : Ring b d zs) {x : Int} (h : hasB zs x = false) : nxtI zs x = ownI zs x := by
  rw [← mem_has R] at h
  unfold nxtI ownI uptI
  rw [h]; rfl
def kSum (b : Int) (zs : List Int) (j : Nat) : Int := if j = 0 then 0 else zs.getD (j - 1) 0 - zs.getD (zs.length - 1) 0 + sz b
def gSum (b : Int) (zs : List Int) (j : Nat) : Int := if j < zs.length then zs.getD j 0 - zs.getD 0 0 else sz b
theorem rnd_up {b x y : Int} (x1 : 0 ≤ x) (x2 : x < sz b) (y1 : 0 ≤ y) (y2 : y < sz b) (h : x < y) : rnd b x y = y - x := by
  unfold rnd
  rw [if_neg (by omega), dist_eq x1 x2 y1 y2, if_pos (by omega)]
theorem rnd_round {b x y : Int} (x1 : 0 ≤ x) (x2 : x < sz b) (y1 : 0 ≤ y) (y2 : y < sz b) (h : y ≤ x) : rnd b x y = y - x + sz b := by
  unfold rnd
  by_cases e : x = y
  · rw [if_pos e]; omega
  · rw [if_neg e, dist_eq x1 x2 y1 y2, if_neg (by omega)]
theorem top_le {b d : Int} {zs : List Int} (R : Ring b d zs) {j : Nat} (hj : j < zs.length) : zs.getD j 0 ≤ zs.getD (zs.length - 1) 0 ∧ zs.getD 0 0 ≤ zs.getD j 0 := by
  constructor
  · by_cases h : j = zs.length - 1
    · rw [h]; exact Int.le_refl _
    · have := R.ris j (zs.length - 1) (by omega) (by omega); omega
  · by_cases h : j = 0
    · rw [h]; exact Int.le_refl _
    · have := R.ris 0 j (by omega) hj; omega
theorem kSum_succ {b d : Int} {zs : List Int} (R : Ring b d zs) {j : Nat} (hj : j < zs.length) : kSum b zs (j + 1) = kSum b zs j + rnd b (prvI zs (zs.getD j 0)) (zs.getD j 0) := by
  have l1 := R.l1
  have rj := R.rng j hj
  have rl := R.rng (zs.length - 1) (by omega)
  have tp := (top_le R hj).1
  unfold kSum
  rw [if_neg (by omega), Nat.add_sub_cancel, prv_at R hj]
  rcases mod_back l1 (show j ≤ zs.length by omega) with ⟨h, e⟩ | ⟨h, e⟩
  · rw [if_pos h, e, rnd_round rl.1 rl.2 rj.1 rj.2 tp]; omega
  · have rp := R.rng (j - 1) (by omega)
    rw [if_neg (by omega), e, rnd_up rp.1 rp.2 rj.1 rj.2 (R.ris (j - 1) j (by omega) hj)]; omega
theorem gSum_succ {b d : Int} {zs : List Int} (R : Ring b d zs) {j : Nat} (hj : j < zs.length) : gSum b zs (j + 1) = gSum b zs j + rnd b (zs.getD j 0) (nxtI zs (zs.getD j 0)) := by
  have l1 := R.l1
  have rj := R.rng j hj
  have r0 := R.rng 0 (by omega)
  have tp := (top_le R hj).2
  unfold gSum
  rw [if_pos hj, nxt_at R hj]
  rcases mod_wrap l1 (show j + 1 ≤ zs.length by omega) with ⟨h, e⟩ | ⟨h, e⟩
  · have rp := R.rng (j + 1) h
    rw [if_pos h, e, rnd_up rj.1 rj.2 rp.1 rp.2 (R.ris j (j + 1) (by omega) h)]; omega
  · rw [if_neg (by omega), e, rnd_round rj.1 rj.2 r0.1 r0.2 tp]; omega
theorem kSum_end {b d : Int} {zs : List Int} (R : Ring b d zs) : kSum b zs zs.length = sz b ∧ gSum b zs zs.length = sz b := by
  have l1 := R.l1
  unfold kSum gSum
  rw [if_neg (by omega), if_neg (by omega)]
  exact ⟨by omega, rfl⟩
theorem kSum_bd {b d : Int} {zs : List Int} (R : Ring b d zs) {j : Nat} (hj : j ≤ zs.length) : (0 ≤ kSum b zs j ∧ kSum b zs j ≤ sz b) ∧ 0 ≤ gSum b zs j ∧ gSum b zs j ≤ sz b := by
  have l1 := R.l1
  have r0 := R.rng 0 (by omega)
  have rl := R.rng (zs.length - 1) (by omega)
  unfold kSum gSum
  refine ⟨?_, ?_⟩
  · split
    · omega
    · have rp := R.rng (j - 1) (by omega)
      have tp := top_le R (show j - 1 < zs.length by omega)
      omega
  · split
    · rename_i h
      have rp := R.rng j h
      have tp := top_le R h
      omega
    · omega
end Go.Proofs.Ytgmdbihdnacpjaa
namespace Go.Proofs.Ytgmdbihdnacpjaa
open Go.RowKit
set_option linter.unusedVariables false

def bcnt (b f t : Int) (zs : List Int) : Nat := (zs.filter (fun y => btwB b f y t)).length
theorem bcnt_take {b f t : Int} {zs : List Int} {k : Nat} (hk : k < zs.length) : bcnt b f t (zs.take (k + 1)) = bcnt b f t (zs.take k) + (btwB b f (zs.getD k 0) t).toNat := by
  unfold bcnt
  rw [List.take_succ_eq_append_getElem hk, List.filter_append, List.length_append]
  congr 1
  have e : zs.getD k 0 = zs[k] := by simp [List.getD_eq_getElem?_getD, List.getElem?_eq_getElem hk]
  rw [e]
  cases h : btwB b f zs[k] t <;> simp [h]
theorem bcnt_le (b f t : Int) (zs : List Int) : bcnt b f t zs ≤ zs.length := List.length_filter_le _ _
def crw1 (b d : Int) (zs : List Int) (x : Int) (m : Nat) : Nat :=
  if rnd b x (nxtI zs x) * sz d ≤ sz b then (if bcnt b (shf b d x 0) (shf b d (nxtI zs x) 0) zs > m then bcnt b (shf b d x 0) (shf b d (nxtI zs x) 0) zs else m) else m
def crw (b d : Int) (zs : List Int) : Nat → Nat
  | 0 => 0
  | k + 1 => crw1 b d zs (zs.getD k 0) (crw b d zs k)
theorem crw_le (b d : Int) (zs : List Int) : ∀ k, crw b d zs k ≤ zs.length
  | 0 => Nat.zero_le _
  | k + 1 => by
    have h1 := crw_le b d zs k
    have h2 := bcnt_le b (shf b d (zs.getD k 0) 0) (shf b d (nxtI zs (zs.getD k 0)) 0) zs
    unfold crw crw1
    split
    · split <;> omega
    · exact h1
theorem rnd_bd {b x y : Int} (h1 : 1 ≤ b) (h2 : b ≤ 12) : 0 ≤ rnd b x y ∧ rnd b x y ≤ sz b := by
  have := sz_bd h1 h2
  have := dist_bd x y h1 h2
  unfold rnd
  split <;> omega

set_option maxHeartbeats 1600000 in
theorem countBetween_any (b d : Int) (a : Option Addr) (cap : Nat) (zs : List Int) (f t : Int) (w : World) (R : Ring b d zs) (hr : RowAt w a zs) (f1 : 0 ≤ f) (f2 : f < sz b) (t1 : 0 ≤ t) (t2 : t < sz b) :
    Calls Try.prog 65 #[.agg #[.int .i64 b, .int .i64 d], .slice a zs.length cap, .int .i64 f, .int .i64 t] w fun e w' => e = .returned (.int .i64 (bcnt b f t zs)) ∧ Below w.heap.size w w' := by
  obtain ⟨hb1, hb2, hd1, hd2, _⟩ := gsB_true R.gs
  have l2 := R.l2
  have RR : Hid (Ring b d zs) := R
  have HR : Hid (RowAt w a zs) := hr
  clear R hr
  go_enter Try.func65, Try.ntmps65
  go_wp2_with fail
  go_loopw [9, 14] (fun vn vi wr => ∃ k n : Nat, k ≤ zs.length ∧ n ≤ k ∧ vi = .int .i64 k ∧ vn = .int .i64 n ∧ Hid (n = bcnt b f t (zs.take k)) ∧ Below (w.heap.size + 1) (w.alloc (.cells #[.int .i64 b, .int .i64 d] 25)) wr) (fun _ vi _ => zs.length - (intOf vi).toNat)
  case atStart => exact ⟨0, 0, Nat.zero_le _, Nat.zero_le _, rfl, rfl, rfl, Below.refl _ _⟩
  case round =>
    obtain ⟨k, n, hk, hnk, rfl, rfl, HN, hbel⟩ := hrel
    have q0 : wr.cell? ⟨w.heap.size, 0, none⟩ = some (.int .i64 b) := (hbel.cell (p := ⟨w.heap.size, 0, none⟩) (by simp)).trans (by simp)
    have q1 : wr.cell? ⟨w.heap.size, 1, none⟩ = some (.int .i64 d) := (hbel.cell (p := ⟨w.heap.size, 1, none⟩) (by simp)).trans (by simp)
    have hsz : w.heap.size < wr.heap.size := by have := hbel.size; simp at this; omega
    have HB : Hid (Below w.heap.size w wr) := bel1 hbel (by simp)
    by_cases hlt : k < zs.length
    · obtain ⟨bk, off, rfl⟩ := rowAt_form HR.out (by omega)
      have hc1 := (rowAt_cell (HR.out.keep HB.out) (by omega)).2 k hlt
      obtain ⟨x1, x2⟩ := RR.out.rng k hlt
      have HT : Hid (bcnt b f t (zs.take (k + 1)) = bcnt b f t (zs.take k) + (btwB b f (zs.getD k 0) t).toNat) := bcnt_take hlt
      generalize zs.getD k 0 = z at hc1 x1 x2 HT
      have C := place_any b d f z t wr hb1 hb2 f1 f2 x1 x2 t1 t2
      rcases plc_btw (b := b) f1 f2 x1 x2 t1 t2 with ⟨hp, hv⟩ | ⟨hp, hv⟩
      · rw [hp] at C
        have HN2 : Hid (n + 1 = bcnt b f t (zs.take (k + 1))) := by unfold Hid; rw [HT.out, hv, HN.out]; rfl
        clear hp hv HT
        go_wp2_with fail
        refine C.mono ?_
        rintro e w1 ⟨rfl, hw1⟩
        have hbel1 := hbel.trans (hw1.mono (by omega))
        go_wp2
        go_roundw
        case rel => exact ⟨k + 1, n + 1, by omega, by omega, by go_num, by go_num, HN2, hbel1⟩
        case measure => simp [intOf]; omega
      · have hpb : (plc b f z t == 2) = false := by simpa using hp
        have HN2 : Hid (n = bcnt b f t (zs.take (k + 1))) := by unfold Hid; rw [HT.out, hv, HN.out]; rfl
        clear hp hv HT
        generalize plc b f z t = pl at C hpb
        go_wp2_with fail
        refine C.mono ?_
        rintro e w1 ⟨rfl, hw1⟩
        have hbel1 := hbel.trans (hw1.mono (by omega))
        go_wp2
        go_roundw
        case rel => exact ⟨k + 1, n, by omega, by omega, by go_num, rfl, HN2, hbel1⟩
        case measure => simp [intOf]; omega
    · have HN2 : Hid (n = bcnt b f t zs) := by have := HN.out; rwa [List.take_of_length_le (by omega)] at this
      go_wp2
      go_ret
      exact ⟨ret_nat HN2.out, HB.out⟩
end Go.Proofs.Ytgmdbihdnacpjaa
namespace Go.Proofs.Ytgmdbihdnacpjaa
open Go.RowKit
set_option linter.unusedVariables false

def crwV (b d : Int) (zs : List Int) : Int := if ringB b d zs = true then (crw b d zs zs.length : Int) else 0
theorem ret_crw {b d : Int} {zs : List Int} {m k : Nat} (hg : ringB b d zs = true) (hk : k ≤ zs.length) (hlt : ¬ k < zs.length) (h : m = crw b d zs k) : (Ending.returned (.tuple #[.int .i64 (m : Int), .bool true])) = .returned (.tuple #[.int .i64 (crwV b d zs), .bool true]) := by
  have : k = zs.length := by omega
  subst this
  unfold crwV
  rw [if_pos hg, h]

set_option maxHeartbeats 3200000 in
theorem CrowdOf_any (b d : Int) (a : Option Addr) (cap : Nat) (zs : List Int) (w : World) (hm : zs.length ≤ maxLen) (hr : RowAt w a zs) :
    Calls Try.prog 19 #[.agg #[.int .i64 b, .int .i64 d], .slice a zs.length cap] w fun e w' => e = .returned (.tuple #[.int .i64 (crwV b d zs), .bool (ringB b d zs)]) ∧ Below w.heap.size w w' := by
  have hr1 := hr.alloc (.cells #[.int .i64 b, .int .i64 d] 25)
  cases hg : ringB b d zs
  · have hv : crwV b d zs = 0 := by unfold crwV; rw [if_neg (by rw [hg]; simp)]
    rw [hv]
    go_enter Try.func19, Try.ntmps19
    go_wp2_with fail
    refine (GoodRing_any b d a cap zs _ hm hr1).mono ?_
    rintro e w1 ⟨rfl, hw1⟩
    go_wp2
    go_ret2
    exact ⟨rfl, bel1 hw1 (by simp)⟩
  · have R := ringB_true hg
    obtain ⟨hb1, hb2, hd1, hd2, _⟩ := gsB_true R.gs
    have l2 := R.l2
    have CG := GoodRing_any b d a cap zs _ hm hr1
    rw [hg] at CG
    have RR : Hid (Ring b d zs) := R
    have HR : Hid (RowAt w a zs) := hr
    have HG : Hid (ringB b d zs = true) := hg
    clear R hr hg hr1 hm
    go_enter Try.func19, Try.ntmps19
    go_wp2_with fail
    refine CG.mono ?_
    rintro e w0 ⟨rfl, hw0⟩
    clear CG
    have hbel0 : Below (w.heap.size + 1) (w.alloc (.cells #[.int .i64 b, .int .i64 d] 25)) w0 := hw0.mono (by simp)
    clear hw0
    go_wp2_with fail
    go_loopw [6, 16] (fun vm vi wr => ∃ k m : Nat, k ≤ zs.length ∧ m ≤ 16 ∧ vi = .int .i64 k ∧ vm = .int .i64 m ∧ Hid (m = crw b d zs k) ∧ Below (w.heap.size + 1) (w.alloc (.cells #[.int .i64 b, .int .i64 d] 25)) wr) (fun _ vi _ => zs.length - (intOf vi).toNat)
    case atStart => exact ⟨0, 0, Nat.zero_le _, Nat.zero_le _, rfl, rfl, rfl, hbel0⟩
    case round =>
      obtain ⟨k, m, hk, hm16, rfl, rfl, HM, hbel⟩ := hrel
      clear hbel0
      have q0 : wr.cell? ⟨w.heap.size, 0, none⟩ = some (.int .i64 b) := (hbel.cell (p := ⟨w.heap.size, 0, none⟩) (by simp)).trans (by simp)
      have q1 : wr.cell? ⟨w.heap.size, 1, none⟩ = some (.int .i64 d) := (hbel.cell (p := ⟨w.heap.size, 1, none⟩) (by simp)).trans (by simp)
      have hsz : w.heap.size < wr.heap.size := by have := hbel.size; simp at this; omega
      have HB : Hid (Below w.heap.size w wr) := bel1 hbel (by simp)
      by_cases hlt : k < zs.length
      · obtain ⟨bk, off, rfl⟩ := rowAt_form HR.out (by omega)
        have HRW : Hid (RowAt wr (some ⟨bk, off, none⟩) zs) := HR.out.keep HB.out
        have hc1 := (rowAt_cell HRW.out (by omega)).2 k hlt
        obtain ⟨x1, x2⟩ := RR.out.rng k hlt
        have HS : Hid (crw b d zs (k + 1) = crw1 b d zs (zs.getD k 0) m) := by unfold Hid; rw [HM.out]; rfl
        have hle := crw_le b d zs (k + 1)
        generalize zs.getD k 0 = x at hc1 x1 x2 HS
        obtain ⟨n1, n2⟩ := nxt_rng RR.out x
        have CN := nextIn_any (some ⟨bk, off, none⟩) cap zs x wr (by omega) l2 HRW.out
        have HX : Hid (numB b d x = true) := numB_yes RR.out.gs x1 x2
        have HY : Hid (numB b d (nxtI zs x) = true) := numB_yes RR.out.gs n1 n2
        have hs1 := shf_bd d x 0 hb1 hb2
        have hs2 := shf_bd d (nxtI zs x) 0 hb1 hb2
        have hrd := rnd_bd (x := x) (y := nxtI zs x) hb1 hb2
        obtain ⟨z1, z2⟩ := sz_bd hb1 hb2
        obtain ⟨z3, z4⟩ := sz_bd hd1 (by omega)
        obtain ⟨m1, m2⟩ := mul_bd hrd.1 (by omega) (by omega : 0 ≤ sz d) z4
        have c0 : ∀ p : Kin wr.heap.size wr, p.v.cell? ⟨w.heap.size, 0, none⟩ = some (.int .i64 b) := kin_cell hsz q0
        have c1 : ∀ p : Kin wr.heap.size wr, p.v.cell? ⟨w.heap.size, 1, none⟩ = some (.int .i64 d) := kin_cell hsz q1
        have C1 : ∀ w1, Calls Try.prog 62 #[.agg #[.int .i64 b, .int .i64 d], .int .i64 x, .int .i64 (nxtI zs x)] w1 fun e w' => e = .returned (.int .i64 (rnd b x (nxtI zs x))) ∧ Below w1.heap.size w1 w' := fun w1 => roundUp_any b d x _ w1 hb1 hb2 x1 x2 n1 n2
        unfold crw1 at HS
        generalize rnd b x (nxtI zs x) = r at *
        by_cases hP : r * sz d ≤ sz b
        · have hbl := bcnt_le b (shf b d x 0) (shf b d (nxtI zs x) 0) zs
          have C3 : ∀ w1, Below wr.heap.size wr w1 → Calls Try.prog 65 #[.agg #[.int .i64 b, .int .i64 d], .slice (some ⟨bk, off, none⟩) zs.length cap, .int .i64 (shf b d x 0), .int .i64 (shf b d (nxtI zs x) 0)] w1 fun e w' => e = .returned (.int .i64 (bcnt b (shf b d x 0) (shf b d (nxtI zs x) 0) zs)) ∧ Below w1.heap.size w1 w' := fun w1 h => countBetween_any b d _ cap zs _ _ w1 RR.out (HRW.out.keepB h (Nat.le_refl _)) hs1.1 hs1.2 hs2.1 hs2.2
          have HS2 : Hid (crw b d zs (k + 1) = if bcnt b (shf b d x 0) (shf b d (nxtI zs x) 0) zs > m then bcnt b (shf b d x 0) (shf b d (nxtI zs x) 0) zs else m) := by unfold Hid; rw [HS.out, if_pos hP]
          clear HS
          generalize bcnt b (shf b d x 0) (shf b d (nxtI zs x) 0) zs = n at *
          have CMx : ∀ w1, Calls Try.prog 66 #[.agg #[.int .i64 b, .int .i64 d], .int .i64 x] w1 fun e w' => e = .returned (.int .i64 (shf b d x 0)) ∧ Below w1.heap.size w1 w' := fun w1 => makeRoom_any b d x w1 HX.out
          have CMy : ∀ w1, Calls Try.prog 66 #[.agg #[.int .i64 b, .int .i64 d], .int .i64 (nxtI zs x)] w1 fun e w' => e = .returned (.int .i64 (shf b d (nxtI zs x) 0)) ∧ Below w1.heap.size w1 w' := fun w1 => makeRoom_any b d _ w1 HY.out
          generalize shf b d (nxtI zs x) 0 = sy at *
          generalize shf b d x 0 = sx at *
          generalize nxtI zs x = nx at *
          generalize hsd : sz d = sd at *
          have CB : ∀ w1, Calls Try.prog 63 #[.agg #[.int .i64 b, .int .i64 d]] w1 fun e w' => e = .returned (.int .i64 sd) ∧ Below w1.heap.size w1 w' := fun w1 => by rw [← hsd]; exact base_any _ _ _ hd1 (by omega)
          have CZ : ∀ w1, Calls Try.prog 64 #[.agg #[.int .i64 b, .int .i64 d]] w1 fun e w' => e = .returned (.int .i64 (sz b)) ∧ Below w1.heap.size w1 w' := fun w1 => size_any _ _ _ hb1 hb2
          generalize sz b = sb at *
          clear hsd
          by_cases hmx : n > m
          · have HM2 : Hid (n = crw b d zs (k + 1)) := by unfold Hid; rw [HS2.out, if_pos hmx]
            have hmi : (n : Int) > (m : Int) := by omega
            go_wp2_with fail
            refine CN.mono ?_
            rintro e w1 ⟨rfl, he1⟩
            have he1 := he1.symm
            subst he1
            go_wp2
            refine region_kin wr.heap.size (by kernel_rfl) (by kernel_rfl) (fun hne => ?_)
            repeat (go_big_quiet_step (first | (go_at_call 62; exact kin_of (Nat.le_refl _) (C1 _)) | (go_at_call 63; exact kin_of (Nat.le_refl _) (CB _)) | (go_at_call 64; exact kin_of (Nat.le_refl _) (CZ _))))
            refine wpQuiet_nil ?_
            intro w5 hw'
            obtain ⟨⟨w6, hw5⟩, hw''⟩ := hw'
            obtain rfl : w5 = w6 := hw''
            have q05 := c0 ⟨w5, hw5⟩
            have q15 := c1 ⟨w5, hw5⟩
            have hsz5 : w.heap.size < w5.heap.size := Nat.lt_of_lt_of_le hsz hw5.size
            clear c0 c1 hne
            go_wp2
            have c0 : ∀ p : Kin w5.heap.size w5, p.v.cell? ⟨w.heap.size, 0, none⟩ = some (.int .i64 b) := kin_cell hsz5 q05
            have c1 : ∀ p : Kin w5.heap.size w5, p.v.cell? ⟨w.heap.size, 1, none⟩ = some (.int .i64 d) := kin_cell hsz5 q15
            refine region_kin w5.heap.size (by kernel_rfl) (by kernel_rfl) (fun hne => ?_)
            repeat (go_big_quiet_step (first | (go_at_call 66; with_reducible exact kin_of (Nat.le_refl _) (CMx _)) | (go_at_call 66; with_reducible exact kin_of (Nat.le_refl _) (CMy _)) | (go_at_call 65; exact kin_of (Nat.le_refl _) (C3 _ (hw5.trans ((Kin.bel _).mono hw5.size))))))
            refine wpQuiet_nil ?_
            intro w7 hw'
            obtain ⟨⟨w8, hw7⟩, hw''⟩ := hw'
            obtain rfl : w7 = w8 := hw''
            clear c0 c1 hne
            have hbel7 := (hbel.trans (hw5.mono (by omega))).trans (hw7.mono (by omega))
            go_wp2
            go_roundw
            case rel => exact ⟨k + 1, n, by omega, by omega, by go_num, rfl, HM2, hbel7⟩
            case measure => simp [intOf]; omega
          · have HM2 : Hid (m = crw b d zs (k + 1)) := by unfold Hid; rw [HS2.out, if_neg hmx]
            have hmi : ¬ (n : Int) > (m : Int) := by omega
            go_wp2_with fail
            refine CN.mono ?_
            rintro e w1 ⟨rfl, he1⟩
            have he1 := he1.symm
            subst he1
            go_wp2
            refine region_kin wr.heap.size (by kernel_rfl) (by kernel_rfl) (fun hne => ?_)
            repeat (go_big_quiet_step (first | (go_at_call 62; exact kin_of (Nat.le_refl _) (C1 _)) | (go_at_call 63; exact kin_of (Nat.le_refl _) (CB _)) | (go_at_call 64; exact kin_of (Nat.le_refl _) (CZ _))))
            refine wpQuiet_nil ?_
            intro w5 hw'
            obtain ⟨⟨w6, hw5⟩, hw''⟩ := hw'
            obtain rfl : w5 = w6 := hw''
            have q05 := c0 ⟨w5, hw5⟩
            have q15 := c1 ⟨w5, hw5⟩
            have hsz5 : w.heap.size < w5.heap.size := Nat.lt_of_lt_of_le hsz hw5.size
            clear c0 c1 hne
            go_wp2
            have c0 : ∀ p : Kin w5.heap.size w5, p.v.cell? ⟨w.heap.size, 0, none⟩ = some (.int .i64 b) := kin_cell hsz5 q05
            have c1 : ∀ p : Kin w5.heap.size w5, p.v.cell? ⟨w.heap.size, 1, none⟩ = some (.int .i64 d) := kin_cell hsz5 q15
            refine region_kin w5.heap.size (by kernel_rfl) (by kernel_rfl) (fun hne => ?_)
            repeat (go_big_quiet_step (first | (go_at_call 66; with_reducible exact kin_of (Nat.le_refl _) (CMx _)) | (go_at_call 66; with_reducible exact kin_of (Nat.le_refl _) (CMy _)) | (go_at_call 65; exact kin_of (Nat.le_refl _) (C3 _ (hw5.trans ((Kin.bel _).mono hw5.size))))))
            refine wpQuiet_nil ?_
            intro w7 hw'
            obtain ⟨⟨w8, hw7⟩, hw''⟩ := hw'
            obtain rfl : w7 = w8 := hw''
            clear c0 c1 hne
            have hbel7 := (hbel.trans (hw5.mono (by omega))).trans (hw7.mono (by omega))
            go_wp2
            go_roundw
            case rel => exact ⟨k + 1, m, by omega, by omega, by go_num, rfl, HM2, hbel7⟩
            case measure => simp [intOf]; omega
        · have HM2 : Hid (m = crw b d zs (k + 1)) := by unfold Hid; rw [HS.out, if_neg hP]
          clear HS
          generalize nxtI zs x = nx at *
          generalize hsd : sz d = sd at *
          have CB : ∀ w1, Calls Try.prog 63 #[.agg #[.int .i64 b, .int .i64 d]] w1 fun e w' => e = .returned (.int .i64 sd) ∧ Below w1.heap.size w1 w' := fun w1 => by rw [← hsd]; exact base_any _ _ _ hd1 (by omega)
          have CZ : ∀ w1, Calls Try.prog 64 #[.agg #[.int .i64 b, .int .i64 d]] w1 fun e w' => e = .returned (.int .i64 (sz b)) ∧ Below w1.heap.size w1 w' := fun w1 => size_any _ _ _ hb1 hb2
          generalize sz b = sb at *
          clear hsd
          go_wp2_with fail
          refine CN.mono ?_
          rintro e w1 ⟨rfl, he1⟩
          have he1 := he1.symm
          subst he1
          go_wp2
          refine region_kin wr.heap.size (by kernel_rfl) (by kernel_rfl) (fun hne => ?_)
          repeat (go_big_quiet_step (first | (go_at_call 62; exact kin_of (Nat.le_refl _) (C1 _)) | (go_at_call 63; exact kin_of (Nat.le_refl _) (CB _)) | (go_at_call 64; exact kin_of (Nat.le_refl _) (CZ _))))
          refine wpQuiet_nil ?_
          intro w5 hw'
          obtain ⟨⟨w6, hw5⟩, hw''⟩ := hw'
          obtain rfl : w5 = w6 := hw''
          clear c0 c1 hne
          have hbel5 := hbel.trans (hw5.mono (by omega))
          go_wp2
          go_roundw
          case rel => exact ⟨k + 1, m, by omega, by omega, by go_num, rfl, HM2, hbel5⟩
          case measure => simp [intOf]; omega
      · go_wp2
        go_ret2
        exact ⟨ret_crw HG.out hk hlt HM.out, HB.out⟩
end Go.Proofs.Ytgmdbihdnacpjaa
namespace Go.Proofs.Ytgmdbihdnacpjaa
open Go.RowKit
set_option linter.unusedVariables false

theorem lmost_any (x y : Nat) (w : World) :
    Calls Try.prog 73 #[.int .i64 (x : Int), .int .i64 (y : Int)] w fun e w' => e = .returned (.int .i64 ((if y > x then y else x : Nat) : Int)) ∧ w' = w := by
  by_cases h : (x : Int) > (y : Int)
  · rw [if_neg (by omega)]
    go_enter Try.func73, Try.ntmps73
    go_wp2
    go_ret
    exact ⟨rfl, rfl⟩
  · have e : (if y > x then y else x) = y := by split <;> omega
    rw [e]
    go_enter Try.func73, Try.ntmps73
    go_wp2
    go_ret
    exact ⟨rfl, rfl⟩

set_option maxHeartbeats 3200000 in
theorem lCrowdOf_any (b d : Int) (a : Option Addr) (cap : Nat) (zs : List Int) (w : World) (hm : zs.length ≤ maxLen) (hr : RowAt w a zs) :
    Calls Try.prog 20 #[.agg #[.int .i64 b, .int .i64 d], .slice a zs.length cap] w fun e w' => e = .returned (.tuple #[.int .i64 (crwV b d zs), .bool (ringB b d zs)]) ∧ Below w.heap.size w w' := by
  have hr1 := hr.alloc (.cells #[.int .i64 b, .int .i64 d] 25)
  cases hg : ringB b d zs
  · have hv : crwV b d zs = 0 := by unfold crwV; rw [if_neg (by rw [hg]; simp)]
    rw [hv]
    go_enter Try.func20, Try.ntmps20
    go_wp2_with fail
    refine (lring_any b d a cap zs _ hm hr1).mono ?_
    rintro e w1 ⟨rfl, hw1⟩
    go_wp2
    go_ret2
    exact ⟨rfl, bel1 hw1 (by simp)⟩
  · have R := ringB_true hg
    obtain ⟨hb1, hb2, hd1, hd2, _⟩ := gsB_true R.gs
    have l2 := R.l2
    have CG := lring_any b d a cap zs _ hm hr1
    rw [hg] at CG
    have RR : Hid (Ring b d zs) := R
    have HR : Hid (RowAt w a zs) := hr
    have HG : Hid (ringB b d zs = true) := hg
    clear R hr hg hr1 hm
    go_enter Try.func20, Try.ntmps20
    go_wp2_with fail
    refine CG.mono ?_
    rintro e w0 ⟨rfl, hw0⟩
    clear CG
    have hbel0 : Below (w.heap.size + 1) (w.alloc (.cells #[.int .i64 b, .int .i64 d] 25)) w0 := hw0.mono (by simp)
    clear hw0
    go_wp2_with fail
    go_loopw [6, 18] (fun vm vi wr => ∃ k m : Nat, k ≤ zs.length ∧ m ≤ 16 ∧ vi = .int .i64 k ∧ vm = .int .i64 m ∧ Hid (m = crw b d zs k) ∧ Below (w.heap.size + 1) (w.alloc (.cells #[.int .i64 b, .int .i64 d] 25)) wr) (fun _ vi _ => zs.length - (intOf vi).toNat)
    case atStart => exact ⟨0, 0, Nat.zero_le _, Nat.zero_le _, rfl, rfl, rfl, hbel0⟩
    case round =>
      rename World => wo
      obtain ⟨k, m, hk, hm16, rfl, rfl, HM, hbel⟩ := hrel
      clear hbel0
      have q0 : wo.cell? ⟨w.heap.size, 0, none⟩ = some (.int .i64 b) := (hbel.cell (p := ⟨w.heap.size, 0, none⟩) (by simp)).trans (by simp)
      have q1 : wo.cell? ⟨w.heap.size, 1, none⟩ = some (.int .i64 d) := (hbel.cell (p := ⟨w.heap.size, 1, none⟩) (by simp)).trans (by simp)
      have hsz : w.heap.size < wo.heap.size := by have := hbel.size; simp at this; omega
      have HB : Hid (Below w.heap.size w wo) := bel1 hbel (by simp)
      by_cases hlt : k < zs.length
      · obtain ⟨bk, off, rfl⟩ := rowAt_form HR.out (by omega)
        have HRW : Hid (RowAt wo (some ⟨bk, off, none⟩) zs) := HR.out.keep HB.out
        have hc1 := (rowAt_cell HRW.out (by omega)).2 k hlt
        obtain ⟨x1, x2⟩ := RR.out.rng k hlt
        have HS : Hid (crw b d zs (k + 1) = crw1 b d zs (zs.getD k 0) m) := by unfold Hid; rw [HM.out]; rfl
        have hle := crw_le b d zs (k + 1)
        have HGE : Hid (gapS b zs (zs.getD k 0) = rnd b (zs.getD k 0) (nxtI zs (zs.getD k 0))) := gap_eq RR.out (mem_at RR.out hlt)
        generalize zs.getD k 0 = x at hc1 x1 x2 HS HGE
        obtain ⟨n1, n2⟩ := nxt_rng RR.out x
        have hs1 := shf_bd d x 0 hb1 hb2
        have hs2 := shf_bd d (nxtI zs x) 0 hb1 hb2
        have hrd := rnd_bd (x := x) (y := nxtI zs x) hb1 hb2
        obtain ⟨z1, z2⟩ := sz_bd hb1 hb2
        obtain ⟨z3, z4⟩ := sz_bd hd1 (by omega)
        obtain ⟨m1, m2⟩ := mul_bd hrd.1 (by omega) (by omega : 0 ≤ sz d) z4
        have c0 : ∀ p : Kin wo.heap.size wo, p.v.cell? ⟨w.heap.size, 0, none⟩ = some (.int .i64 b) := kin_cell hsz q0
        have c1 : ∀ p : Kin wo.heap.size wo, p.v.cell? ⟨w.heap.size, 1, none⟩ = some (.int .i64 d) := kin_cell hsz q1
        have C1 : ∀ w1, Below wo.heap.size wo w1 → Calls Try.prog 68 #[.agg #[.int .i64 b, .int .i64 d], .slice (some ⟨bk, off, none⟩) zs.length cap, .int .i64 x] w1 fun e w' => e = .returned (.int .i64 (rnd b x (nxtI zs x))) ∧ Below w1.heap.size w1 w' := fun w1 h => by rw [← HGE.out]; exact lgap_any b d _ cap zs x w1 RR.out (HRW.out.keepB h (Nat.le_refl _)) x1 x2
        have CB : ∀ w1, Calls Try.prog 69 #[.agg #[.int .i64 b, .int .i64 d]] w1 fun e w' => e = .returned (.int .i64 (sz d)) ∧ Below w1.heap.size w1 w' := fun w1 => lbase_any _ _ _ hd1 (by omega)
        have CZ : ∀ w1, Calls Try.prog 60 #[.agg #[.int .i64 b, .int .i64 d]] w1 fun e w' => e = .returned (.int .i64 (sz b)) ∧ Below w1.heap.size w1 w' := fun w1 => lsize_any _ _ _ hb1 hb2
        have CSx : ∀ w1, Calls Try.prog 71 #[.agg #[.int .i64 b, .int .i64 d], .int .i64 x, .int .i64 0] w1 fun e w' => e = .returned (.int .i64 (shf b d x 0)) ∧ Below w1.heap.size w1 w' := fun w1 => lshift_any b d x 0 w1 hb1 hb2 hd1 (by omega) x1 x2 (by omega) (by omega)
        have CSy : ∀ w1, Calls Try.prog 71 #[.agg #[.int .i64 b, .int .i64 d], .int .i64 (nxtI zs x), .int .i64 0] w1 fun e w' => e = .returned (.int .i64 (shf b d (nxtI zs x) 0)) ∧ Below w1.heap.size w1 w' := fun w1 => lshift_any b d _ 0 w1 hb1 hb2 hd1 (by omega) n1 n2 (by omega) (by omega)
        have CN : ∀ w1, Below wo.heap.size wo w1 → Calls Try.prog 72 #[.agg #[.int .i64 b, .int .i64 d], .slice (some ⟨bk, off, none⟩) zs.length cap, .int .i64 x] w1 fun e w' => e = .returned (.int .i64 (nxtI zs x)) ∧ Below w1.heap.size w1 w' := fun w1 h => lnext_any b d _ cap zs x w1 RR.out (HRW.out.keepB h (Nat.le_refl _)) x1 x2
        have CT : ∀ y w1, 0 ≤ y → y < sz b → Calls Try.prog 70 #[.agg #[.int .i64 b, .int .i64 d], .int .i64 (shf b d x 0), .int .i64 y, .int .i64 (shf b d (nxtI zs x) 0)] w1 fun e w' => e = .returned (.bool (btwB b (shf b d x 0) y (shf b d (nxtI zs x) 0))) ∧ Below w1.heap.size w1 w' := fun y w1 y1 y2 => lbetween_any b d _ y _ w1 hb1 hb2 hs1.1 hs1.2 y1 y2 hs2.1 hs2.2
        unfold crw1 at HS
        clear HGE
        generalize rnd b x (nxtI zs x) = r at *
        by_cases hP : r * sz d ≤ sz b
        · have HS2 : Hid (crw b d zs (k + 1) = if bcnt b (shf b d x 0) (shf b d (nxtI zs x) 0) zs > m then bcnt b (shf b d x 0) (shf b d (nxtI zs x) 0) zs else m) := by unfold Hid; rw [HS.out, if_pos hP]
          clear HS
          generalize shf b d (nxtI zs x) 0 = sy at *
          generalize shf b d x 0 = sx at *
          generalize nxtI zs x = nx at *
          generalize sz d = sd at *
          have HZB : Hid (∀ i, i < zs.length → 0 ≤ zs.getD i 0 ∧ zs.getD i 0 < sz b) := RR.out.rng
          generalize sz b = sb at *
          go_wp2
          refine region_kin wo.heap.size (by kernel_rfl) (by kernel_rfl) (fun hne => ?_)
          repeat (go_big_quiet_step (first | (go_at_call 68; exact kin_of (Nat.le_refl _) (C1 _ (Kin.bel _))) | (go_at_call 69; exact kin_of (Nat.le_refl _) (CB _)) | (go_at_call 60; exact kin_of (Nat.le_refl _) (CZ _))))
          refine wpQuiet_nil ?_
          intro w5 hw'
          obtain ⟨⟨w6, hw5⟩, hw''⟩ := hw'
          obtain rfl : w5 = w6 := hw''
          have Q0 : Hid (wo.cell? ⟨w.heap.size, 0, none⟩ = some (.int .i64 b)) := q0
          have Q1 : Hid (wo.cell? ⟨w.heap.size, 1, none⟩ = some (.int .i64 d)) := q1
          clear c0 c1 hne q0 q1 hc1
          have hbel5 := hbel.trans (hw5.mono (by omega))
          go_wp2_with fail
          go_loopw [9, 34] (fun vn vj wj => ∃ j n : Nat, j ≤ zs.length ∧ n ≤ j ∧ vj = .int .i64 j ∧ vn = .int .i64 n ∧ Hid (n = bcnt b sx sy (zs.take j)) ∧ Below wo.heap.size wo wj) (fun _ vj _ => zs.length - (intOf vj).toNat)
          case atStart => exact ⟨0, 0, Nat.zero_le _, Nat.zero_le _, rfl, rfl, rfl, hw5⟩
          case round =>
            obtain ⟨j, n, hj, hnj, rfl, rfl, HN, hbj⟩ := hrel
            have q0 : wr.cell? ⟨w.heap.size, 0, none⟩ = some (.int .i64 b) := (hbj.cell (p := ⟨w.heap.size, 0, none⟩) hsz).trans Q0.out
            have q1 : wr.cell? ⟨w.heap.size, 1, none⟩ = some (.int .i64 d) := (hbj.cell (p := ⟨w.heap.size, 1, none⟩) hsz).trans Q1.out
            have hszj : w.heap.size < wr.heap.size := Nat.lt_of_lt_of_le hsz hbj.size
            by_cases hjl : j < zs.length
            · have hcj := (rowAt_cell (HRW.out.keep hbj) (by omega)).2 j hjl
              obtain ⟨y1, y2⟩ := HZB.out j hjl
              have HT : Hid (bcnt b sx sy (zs.take (j + 1)) = bcnt b sx sy (zs.take j) + (btwB b sx (zs.getD j 0) sy).toNat) := bcnt_take hjl
              generalize zs.getD j 0 = y at hcj y1 y2 HT
              have CTy : ∀ w1, Calls Try.prog 70 #[.agg #[.int .i64 b, .int .i64 d], .int .i64 sx, .int .i64 y, .int .i64 sy] w1 fun e w' => e = .returned (.bool (btwB b sx y sy)) ∧ Below w1.heap.size w1 w' := fun w1 => CT y w1 y1 y2
              cases hv : btwB b sx y sy
              · rw [hv] at CTy
                have HN2 : Hid (n = bcnt b sx sy (zs.take (j + 1))) := by unfold Hid; rw [HT.out, hv, HN.out]; rfl
                clear HT hv
                go_wp2
                have c0 : ∀ p : Kin wr.heap.size wr, p.v.cell? ⟨w.heap.size, 0, none⟩ = some (.int .i64 b) := kin_cell hszj q0
                have c1 : ∀ p : Kin wr.heap.size wr, p.v.cell? ⟨w.heap.size, 1, none⟩ = some (.int .i64 d) := kin_cell hszj q1
                refine region_kin wr.heap.size (by kernel_rfl) (by kernel_rfl) (fun hne => ?_)
                repeat (go_big_quiet_step (first | (go_at_call 71; with_reducible exact kin_of (Nat.le_refl _) (CSx _)) | (go_at_call 71; with_reducible exact kin_of (Nat.le_refl _) (CSy _)) | (go_at_call 72; exact kin_of (Nat.le_refl _) (CN _ (hbj.trans ((Kin.bel _).mono hbj.size)))) | (go_at_call 70; exact kin_of (Nat.le_refl _) (CTy _))))
                refine wpQuiet_nil ?_
                intro w7 hw'
                obtain ⟨⟨w8, hw7⟩, hw''⟩ := hw'
                obtain rfl : w7 = w8 := hw''
                clear c0 c1 hne
                have hbj7 := hbj.trans (hw7.mono hbj.size)
                go_wp2
                go_roundw
                case rel => exact ⟨j + 1, n, by omega, by omega, by go_num, rfl, HN2, hbj7⟩
                case measure => simp [intOf]; omega
              · rw [hv] at CTy
                have HN2 : Hid (n + 1 = bcnt b sx sy (zs.take (j + 1))) := by unfold Hid; rw [HT.out, hv, HN.out]; rfl
                clear HT hv
                go_wp2
                have c0 : ∀ p : Kin wr.heap.size wr, p.v.cell? ⟨w.heap.size, 0, none⟩ = some (.int .i64 b) := kin_cell hszj q0
                have c1 : ∀ p : Kin wr.heap.size wr, p.v.cell? ⟨w.heap.size, 1, none⟩ = some (.int .i64 d) := kin_cell hszj q1
                refine region_kin wr.heap.size (by kernel_rfl) (by kernel_rfl) (fun hne => ?_)
                repeat (go_big_quiet_step (first | (go_at_call 71; with_reducible exact kin_of (Nat.le_refl _) (CSx _)) | (go_at_call 71; with_reducible exact kin_of (Nat.le_refl _) (CSy _)) | (go_at_call 72; exact kin_of (Nat.le_refl _) (CN _ (hbj.trans ((Kin.bel _).mono hbj.size)))) | (go_at_call 70; exact kin_of (Nat.le_refl _) (CTy _))))
                refine wpQuiet_nil ?_
                intro w7 hw'
                obtain ⟨⟨w8, hw7⟩, hw''⟩ := hw'
                obtain rfl : w7 = w8 := hw''
                clear c0 c1 hne
                have hbj7 := hbj.trans (hw7.mono hbj.size)
                go_wp2
                go_roundw
                case rel => exact ⟨j + 1, n + 1, by omega, by omega, by go_num, by go_num, HN2, hbj7⟩
                case measure => simp [intOf]; omega
            · have HN2 : Hid (n = bcnt b sx sy zs) := by have := HN.out; rwa [List.take_of_length_le (by omega)] at this
              have HM2 : Hid ((if n > m then n else m) = crw b d zs (k + 1)) := by unfold Hid; rw [HS2.out, ← HN2.out]
              have hbelj := hbel.trans (hbj.mono (by omega))
              have hml : (if n > m then n else m) ≤ 16 := by split <;> omega
              have CL := lmost_any m n wr
              generalize (if n > m then n else m) = mm at CL HM2 hml
              go_wp2_with fail
              refine CL.mono ?_
              rintro e w9 ⟨rfl, he9⟩
              have he9 := he9.symm
              subst he9
              go_wp2
              go_roundw
              case rel => exact ⟨k + 1, mm, by omega, hml, by go_num, rfl, HM2, hbelj⟩
              case measure => simp [intOf]; omega
        · have HM2 : Hid (m = crw b d zs (k + 1)) := by unfold Hid; rw [HS.out, if_neg hP]
          clear HS
          generalize nxtI zs x = nx at *
          generalize sz d = sd at *
          generalize sz b = sb at *
          go_wp2
          refine region_kin wo.heap.size (by kernel_rfl) (by kernel_rfl) (fun hne => ?_)
          repeat (go_big_quiet_step (first | (go_at_call 68; exact kin_of (Nat.le_refl _) (C1 _ (Kin.bel _))) | (go_at_call 69; exact kin_of (Nat.le_refl _) (CB _)) | (go_at_call 60; exact kin_of (Nat.le_refl _) (CZ _))))
          refine wpQuiet_nil ?_
          intro w5 hw'
          obtain ⟨⟨w6, hw5⟩, hw''⟩ := hw'
          obtain rfl : w5 = w6 := hw''
          clear c0 c1 hne
          have hbel5 := hbel.trans (hw5.mono (by omega))
          go_wp2
          go_roundw
          case rel => exact ⟨k + 1, m, by omega, by omega, by go_num, rfl, HM2, hbel5⟩
          case measure => simp [intOf]; omega
      · go_wp2
        go_ret2
        exact ⟨ret_crw HG.out hk hlt HM.out, HB.out⟩
end Go.Proofs.Ytgmdbihdnacpjaa
namespace Go.Proofs.Ytgmdbihdnacpjaa
open Go.RowKit
set_option linter.unusedVariables false
set_option maxHeartbeats 800000 in
theorem sameInts_any (a a' : Option Addr) (cap cap' : Nat) (xs ys : List Int) (w : World) (hm : xs.length ≤ maxLen) (hx : RowAt w a xs) (hy : RowAt w a' ys) :
    Calls Try.prog 17 #[.slice a xs.length cap, .slice a' ys.length cap'] w fun e w' => e = .returned (.bool (sameB xs ys)) ∧ Below w.heap.size w w' := by
  unfold maxLen at hm
  have HX : Hid (RowAt w a xs) := hx
  have HY : Hid (RowAt w a' ys) := hy
  clear hx hy
  by_cases hl : xs.length = ys.length
  · have HL : Hid (xs.length = ys.length) := hl
    have hle : ((xs.length : Int) != (ys.length : Int)) = false := by simp [hl]
    clear hl
    go_enter Try.func17, Try.ntmps17
    go_wp2_with fail
    go_loopw [13] (fun vi wr => ∃ k : Nat, k ≤ xs.length ∧ vi = .int .i64 k ∧ xs.take k = ys.take k ∧ ∃ n, wr = w.drewN n) (fun vi _ => xs.length - (intOf vi).toNat)
    case atStart => exact ⟨0, Nat.zero_le _, rfl, rfl, 0, rfl⟩
    case round =>
      obtain ⟨k, hk, rfl, hs, n, rfl⟩ := hrel
      have HS : Hid (xs.take k = ys.take k) := hs
      clear hs
      by_cases hlt : k < xs.length
      · have hlt2 : k < ys.length := by have := HL.out; omega
        obtain ⟨bk, off, rfl⟩ := rowAt_form HX.out (by omega)
        obtain ⟨bk2, off2, rfl⟩ := rowAt_form HY.out (by omega)
        have hc1 := (rowAt_cell HX.out (by omega)).2 k hlt
        have hc2 := (rowAt_cell HY.out (by omega)).2 k hlt2
        by_cases he : xs.getD k 0 = ys.getD k 0
        · have ht : Hid (xs.take (k + 1) = ys.take (k + 1)) := same_take hlt hlt2 HS.out he
          have he' : (xs.getD k 0 != ys.getD k 0) = false := by rw [he]; simp
          generalize xs.getD k 0 = x at hc1 he'
          generalize ys.getD k 0 = y at hc2 he'
          clear he
          go_wp2
          go_quiet (fail)
          go_wp2
          go_roundw
          case rel => exact ⟨k + 1, by omega, by go_num, ht.out, _, rfl⟩
          case measure => simp [intOf]; omega
        · have hv : Hid (sameB xs ys = false) := sameB_no he
          have he' : (xs.getD k 0 != ys.getD k 0) = true := by simpa using he
          generalize xs.getD k 0 = x at hc1 he'
          generalize ys.getD k 0 = y at hc2 he'
          clear he
          go_wp2
          go_quiet (fail)
          go_wp2
          go_ret
          exact ⟨ret_bool hv.out.symm, by first | exact below_drewN (below_drewN (Below.refl _ _) _) _ | exact below_drewN (Below.refl _ _) _⟩
      · have hv : Hid (sameB xs ys = true) := sameB_yes HL.out hlt HS.out
        go_wp2
        go_ret
        exact ⟨ret_bool hv.out.symm, below_drewN (Below.refl _ _) _⟩
  · have hv : sameB xs ys = false := decide_eq_false (fun h => hl (by rw [h]))
    rw [hv]
    have hle : ((xs.length : Int) != (ys.length : Int)) = true := by simp; omega
    clear hl hv
    go_enter Try.func17, Try.ntmps17
    go_wp2
    go_ret
    exact ⟨rfl, Below.refl _ _⟩

set_option maxHeartbeats 6400000 in
theorem samePeers_any (b d : Int) (a a' : Option Addr) (cap cap' : Nat) (ps qs : List Pr) (w : World) (hm : ps.length ≤ maxLen) (hx : PeersAt w a ps) (hy : PeersAt w a' qs) :
    Calls Try.prog 15 #[.agg #[.int .i64 b, .int .i64 d, .slice a ps.length cap], .agg #[.int .i64 b, .int .i64 d, .slice a' qs.length cap']] w fun e w' => e = .returned (.bool (sameP ps qs)) ∧ Below w.heap.size w w' := by
  unfold maxLen at hm
  have HX : Hid (PeersAt w a ps) := hx
  have HY : Hid (PeersAt w a' qs) := hy
  clear hx hy
  by_cases hl : ps.length = qs.length
  · have HL : Hid (ps.length = qs.length) := hl
    have hle : ((ps.length : Int) != (qs.length : Int)) = false := by simp [hl]
    clear hl
    have HB0 : Hid (Below w.heap.size w ((w.alloc (.cells #[.int .i64 b, .int .i64 d, .slice a ps.length cap] 28)).alloc (.cells #[.int .i64 b, .int .i64 d, .slice a' qs.length cap'] 28))) := (((Below.refl _ _).alloc (Nat.le_refl _) _).alloc (by simp) _)
    have HC0 : Hid (((w.alloc (.cells #[.int .i64 b, .int .i64 d, .slice a ps.length cap] 28)).alloc (.cells #[.int .i64 b, .int .i64 d, .slice a' qs.length cap'] 28)).cell? ⟨w.heap.size + 1, 2, none⟩ = some (.slice a' qs.length cap')) := by unfold Hid; go_simp
    go_enter Try.func15, Try.ntmps15
    go_wp2_with fail
    go_loopw [25] (fun vi wr => ∃ k : Nat, k ≤ ps.length ∧ vi = .int .i64 k ∧ Hid (Below w.heap.size w wr) ∧ w.heap.size + 1 < wr.heap.size ∧ Hid (wr.cell? ⟨w.heap.size + 1, 2, none⟩ = some (.slice a' qs.length cap')) ∧ Hid (∀ i, i < k → smP (ps.getD i pr0) (qs.getD i pr0) = true)) (fun vi _ => ps.length - (intOf vi).toNat)
    case atStart => exact ⟨0, Nat.zero_le _, rfl, HB0, by simp, HC0, fun i hi => by omega⟩
    case round =>
      obtain ⟨k, hk, rfl, HB, hsz, HC, HS⟩ := hrel
      clear HB0 HC0
      by_cases hlt : k < ps.length
      · have hlt2 : k < qs.length := by have := HL.out; omega
        obtain ⟨bk, off, rfl⟩ := peersAt_form HX.out (by omega)
        obtain ⟨bk2, off2, rfl⟩ := peersAt_form HY.out (by omega)
        have fx := peersAt_cell (HX.out.keep HB.out) (by omega)
        have fy := peersAt_cell (HY.out.keep HB.out) (by omega)
        have fx1 := fx.1
        have fy1 := fy.1
        obtain ⟨c0, c1, c2, ab, cb, c3, hrx, hnx, _⟩ := fx.2 k hlt
        obtain ⟨e0, e1, e2, ab2, cb2, e3, hry, hny, _⟩ := fy.2 k hlt2
        clear fx fy
        have hN := sameP_no (qs := qs) hlt
        have hY : smP (ps.getD k pr0) (qs.getD k pr0) = true → ∀ i, i < k + 1 → smP (ps.getD i pr0) (qs.getD i pr0) = true := fun hp i hi => by
          by_cases he : i = k
          · subst he; exact hp
          · exact HS.out i (by omega)
        rw [smP_parts] at hN hY
        have HN : Hid _ := hN
        have HYY : Hid _ := hY
        clear hN hY HS
        generalize (ps.getD k pr0).id = x0 at c0 HN HYY
        generalize (ps.getD k pr0).succ = x1 at c1 HN HYY
        generalize (ps.getD k pr0).point = x2 at c2 HN HYY
        generalize (ps.getD k pr0).backs = xs at c3 hrx hnx HN HYY
        generalize (qs.getD k pr0).id = y0 at e0 HN HYY
        generalize (qs.getD k pr0).succ = y1 at e1 HN HYY
        generalize (qs.getD k pr0).point = y2 at e2 HN HYY
        generalize (qs.getD k pr0).backs = ys at e3 hry hny HN HYY
        have hc2 : wr.cell? ⟨w.heap.size + 1, 2, none⟩ = some (.slice (some ⟨bk2, off2, none⟩) qs.length cap') := HC.out
        have HW : Hid (Below wr.heap.size wr ((wr.alloc (.cells #[.int .i64 x0, .int .i64 x1, .int .i64 x2, .slice ab xs.length cb] 37)).alloc (.cells #[.int .i64 y0, .int .i64 y1, .int .i64 y2, .slice ab2 ys.length cb2] 37))) := ((Below.refl _ _).alloc (Nat.le_refl _) _).alloc (by simp) _
        have HB2 : Hid (Below w.heap.size w ((wr.alloc (.cells #[.int .i64 x0, .int .i64 x1, .int .i64 x2, .slice ab xs.length cb] 37)).alloc (.cells #[.int .i64 y0, .int .i64 y1, .int .i64 y2, .slice ab2 ys.length cb2] 37))) := belt HB.out HW.out
        have CS := sameInts_any ab ab2 cb cb2 xs ys _ hnx (hrx.keep HW.out) (hry.keep HW.out)
        clear hrx hry
        by_cases h0 : x0 = y0
        · have d0' : (x0 != y0) = false := by rw [h0]; simp
          by_cases h1 : x1 = y1
          · have d1' : (x1 != y1) = false := by rw [h1]; simp
            by_cases h2 : x2 = y2
            · have d2' : (x2 != y2) = false := by rw [h2]; simp
              cases h3 : sameB xs ys
              · have hv : Hid (sameP ps qs = false) := HN.out (fun ⟨_, _, _, hh⟩ => by rw [h3] at hh; cases hh)
                rw [h3] at CS
                clear h0 h1 h2
                go_wp2_with fail
                refine CS.mono ?_
                rintro e w5 ⟨rfl, hw5⟩
                go_wp2
                go_ret
                exact ⟨ret_bool hv.out.symm, belt HB2.out hw5⟩
              · have HS2 : Hid (∀ i, i < k + 1 → smP (ps.getD i pr0) (qs.getD i pr0) = true) := HYY.out ⟨h0, h1, h2, h3⟩
                rw [h3] at CS
                clear h0 h1 h2
                go_wp2_with fail
                refine CS.mono ?_
                rintro e w5 ⟨rfl, hw5⟩
                have HW5 : Hid (Below wr.heap.size wr w5) := belt HW.out hw5
                go_wp2_with fail
                go_roundw
                case rel => exact ⟨k + 1, by omega, by go_num, belt HB.out HW5.out, Nat.lt_of_lt_of_le hsz HW5.out.size, (HW5.out.cell (p := ⟨w.heap.size + 1, 2, none⟩) hsz).trans hc2, HS2⟩
                case measure => simp [intOf]; omega
            · have d2' : (x2 != y2) = true := by simpa using h2
              have hv : Hid (sameP ps qs = false) := HN.out (fun ⟨_, _, hh, _⟩ => h2 hh)
              clear h0 h1 h2
              go_wp2
              go_ret
              exact ⟨ret_bool hv.out.symm, HB2.out⟩
          · have d1' : (x1 != y1) = true := by simpa using h1
            have hv : Hid (sameP ps qs = false) := HN.out (fun ⟨_, hh, _⟩ => h1 hh)
            clear h0 h1
            go_wp2
            go_ret
            exact ⟨ret_bool hv.out.symm, HB2.out⟩
        · have d0' : (x0 != y0) = true := by simpa using h0
          have hv : Hid (sameP ps qs = false) := HN.out (fun ⟨hh, _⟩ => h0 hh)
          clear h0
          go_wp2
          go_ret
          exact ⟨ret_bool hv.out.symm, HB2.out⟩
      · have hv : Hid (sameP ps qs = true) := sameP_yes HL.out (fun i hi => HS.out i (by omega))
        go_wp2
        go_ret
        exact ⟨ret_bool hv.out.symm, HB.out⟩
  · have hv : Hid (sameP ps qs = false) := by unfold Hid sameP; rw [decide_eq_false hl]; rfl
    have hle : ((ps.length : Int) != (qs.length : Int)) = true := by simp; omega
    clear hl
    go_enter Try.func15, Try.ntmps15
    go_wp2
    go_ret
    exact ⟨ret_bool hv.out.symm, (((Below.refl _ _).alloc (Nat.le_refl _) _).alloc (by simp) _)⟩

theorem sameP_self (ps : List Pr) : sameP ps ps = true := sameP_yes rfl (fun i _ => smP_parts.2 ⟨rfl, rfl, rfl, decide_eq_true rfl⟩)
theorem lSetPoint_own2 (b d : Int) (a : Option Addr) (cap : Nat) (ps : List Pr) (x pt : Int) (ab : Option Addr) (cb : Nat) (bs : List Int) (w : World) (hm : ps.length ≤ 1048576) (hr : PeersAt w a ps) (hmb : bs.length ≤ 1048576) (hrb : RowAt w ab bs) (hnb : ab = none → cb = 0) :
    Calls Try.prog 14 #[.agg #[.int .i64 b, .int .i64 d, .slice a ps.length cap], .int .i64 x, .int .i64 pt, .slice ab bs.length cb] w fun e w' => ∃ b' d' a' n' c, e = .returned (.tuple #[.agg #[.int .i64 b', .int .i64 d', .slice a' n' c], .bool (spOk b d ps x pt bs)]) ∧ (spR b d ps x pt bs).length = n' ∧ (b', d') = spcOf (spOk b d ps x pt bs) b d ∧ PeersAt w' a' (spR b d ps x pt bs) ∧ Below w.heap.size w w' := by
  refine (lSetPoint_any b d a cap ps x pt ab cb bs w hm hr hmb hrb hnb).mono ?_
  rintro e w1 ⟨v, rfl, hw, ⟨hg, rfl⟩ | ⟨hg, a0, cp, rfl, os⟩⟩
  · rw [hg]
    have e0 : spR b d ps x pt bs = [] := by unfold spR; rw [hg]; rfl
    rw [e0]
    exact ⟨_, _, _, _, _, rfl, rfl, rfl, .inl rfl, hw⟩
  · rw [hg]
    have e0 : spR b d ps x pt bs = spL ps x pt bs := by unfold spR; rw [hg]; rfl
    rw [e0]
    exact ⟨_, _, _, _, _, rfl, spL_len _ _ _ _, rfl, os, hw⟩
theorem samePeers_self (b d : Int) (a a' : Option Addr) (cap cap' n : Nat) (ps : List Pr) (w : World) (hn : ps.length = n) (hm : n ≤ maxLen) (hx : PeersAt w a ps) (hy : PeersAt w a' ps) :
    Calls Try.prog 15 #[.agg #[.int .i64 b, .int .i64 d, .slice a n cap], .agg #[.int .i64 b, .int .i64 d, .slice a' n cap']] w fun e w' => e = .returned (.bool true) ∧ Below w.heap.size w w' := by
  subst hn
  have := samePeers_any b d a a' cap cap' ps ps w hm hx hy
  rwa [sameP_self] at this
end Go.Proofs.Ytgmdbihdnacpjaa
