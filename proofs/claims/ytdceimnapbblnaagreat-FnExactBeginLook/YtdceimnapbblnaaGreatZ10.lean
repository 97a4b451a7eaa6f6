/- BeginLook by the specification. BeginLook, both sides, as the laws call them. A law's argument that is a net, opened. -/
import Derived.Test.YtdceimnapbblnaaGreatZ0
import Derived.Test.YtdceimnapbblnaaGreatZ1
import Derived.Test.YtdceimnapbblnaaGreatZ2
import Derived.Test.YtdceimnapbblnaaGreatZ3
import Derived.Test.YtdceimnapbblnaaGreatZ4
import Derived.Test.YtdceimnapbblnaaGreatZ5
import Derived.Test.YtdceimnapbblnaaGreatZ6
import Derived.Test.YtdceimnapbblnaaGreatZ7
import Derived.Test.YtdceimnapbblnaaGreatZ8
import Derived.Test.YtdceimnapbblnaaGreatZ9
namespace Go.Proofs.YtdceimnapbblnaaGreat
open Go.RowKit Go.Deep
set_option linter.unusedVariables false
set_option linter.unusedSimpArgs false
theorem lput_new (g cg : Nat) (gs : List Int) (x : Int) (w : World) (h2 : gs.length ≤ 16) (hcap : gs.length ≤ cg) (hr : RowAt w (some ⟨g, 0, none⟩) gs) (hx : memI gs x = false) :
    Calls Tryz.prog 86 #[.slice (some ⟨g, 0, none⟩) gs.length cg, .int .i64 x] w fun e w' => ∃ gB cB, e = .returned (.slice (some ⟨gB, 0, none⟩) (gs.length + 1) cB) ∧ w'.ownsRow w.heap.size 3 1 (.slice (some ⟨gB, 0, none⟩) (gs.length + 1) cB) (gs.length + 1) ((joinL gs x).map (Value.int .i64)) ∧ Below w.heap.size w w' := by
  by_cases h0 : gs.length = 0
  · have : gs = [] := List.length_eq_zero_iff.1 h0
    subst this
    refine (lput_e g 0 cg x w).mono ?_
    rintro e w1 ⟨v, rfl, ho, hb⟩
    obtain ⟨gB, cB, rfl⟩ := Joins.ownsRow_form ho (by simp)
    exact ⟨gB, cB, rfl, ho, hb⟩
  · refine (lputO_any g 0 cg gs x w (by omega) h2 hcap hr).mono ?_
    rintro e w1 (⟨hm, _⟩ | ⟨_, gB, cB, he, ho, hb⟩)
    · rw [hx] at hm; cases hm
    · exact ⟨gB, cB, he, ho, hb⟩
theorem BagS.snoc {N : Nat} {w1 : World} {g c : Nat} {ms : List Mg} {m : Mg} {zs : List Value} (hx : RowN zs ms ms.length) (ho : w1.ownsRow N 102 9 (.slice (some ⟨g, 0, none⟩) (ms.length + 1) c) (ms.length + 1) (zs ++ mgV m (.slice none 0 0))) : BagS g (g + 1) w1 (some ⟨g, 0, none⟩) c (ms ++ [m]) := by
  have hl : (ms ++ [m]).length = ms.length + 1 := by simp
  have hx2 : RowN zs (ms ++ [m]) ms.length := ⟨hx.len, fun i hi => by
    obtain ⟨a, c, e1, e2⟩ := hx.el i hi
    refine ⟨a, c, e1, ?_⟩
    rw [getD_app _ _ _ _ (by omega), if_pos hi]
    exact e2⟩
  have hx3 := hx2.snoc none 0 (fun _ => rfl)
  rw [getD_app _ _ _ _ (Nat.le_refl _), if_neg (Nat.lt_irrefl _)] at hx3
  refine ⟨zs ++ mgV m (.slice none 0 0), ?_, by rw [hl]; exact hx3, fun z h => by
    have : g = z := by simpa [Value.ownBlock] using h
    omega⟩
  rw [hl]
  obtain ⟨h1, h2 | ⟨g', cap', cur, h', hb, hc', r1, r2, r3, r4⟩⟩ := ho
  · exact absurd h2.1 (by simp)
  · have h'' := h'
    simp only [Value.slice.injEq, Option.some.injEq, Addr.mk.injEq, and_true, true_and] at h''
    obtain ⟨rfl, rfl⟩ := h''
    exact ⟨h1, .inr ⟨g, c, cur, rfl, Nat.le_refl _, hc', r1, r2, r3, r4⟩⟩
/-- behind the append: all that is held -/
structure BG9 (w w9 : World) (N X : Nat) (A R C : Array Value) (TN TR TI : TypeId) (p0 p1 r0 r1 m0 m1 G0 : Nat) (ap ar : Option Addr) (ps : List Pr) (gs : List Int) (rs : List Rp) (look : Int) (gA cA gB cB : Nat) (zs : List Value) (n : Nat) (mc : List Value) : Prop where
  t2 : T2 w w9 A TN R TN
  bx : Wire.Bk w9 X C TN
  pp : OwnPs p0 p1 w9 ap ps.length ps
  rr : OwnEs tyRp TR r0 r1 w9 ar rs.length rs
  gb : w9.ownsRow G0 TI 1 (.slice (some ⟨gB, 0, none⟩) (gs.length + 1) cB) (gs.length + 1) ((joinL gs look).map (Value.int .i64))
  ga : w9.ownsRow N 102 9 (.slice (some ⟨gA, 0, none⟩) (n + 1) cA) (n + 1) (zs ++ mc)
  where_ : ((m0 ≤ gA ∧ gA < m1 ∧ gA < X) ∨ X < gA) ∧ ¬ gA = gB ∧ gA < w9.heap.size ∧ gB < w9.heap.size ∧ G0 ≤ gB
theorem bg_gather {w w8 w9 : World} {N M X : Nat} {A R C : Array Value} {p0 p1 r0 r1 m0 m1 g0 g1 G0 : Nat} {ap ar am : Option Addr} {cm : Nat} {ps : List Pr} {ms : List Mg} {gs : List Int} {rs : List Rp} {look : Int} {gA cA gB cB : Nat} {zs mc : List Value}
    (hX : X < w8.heap.size) (hz : ∀ z, (Value.slice am ms.length cm).ownBlock = some z → m0 ≤ z ∧ z < m1 ∧ z < X) (h1 : w.heap.size + 1 < N) (h2 : N ≤ X) (h3 : N ≤ m0) (t2 : T2 w w8 A 36 R 36) (bx : Wire.Bk w8 X C 36)
    (gb : w8.ownsRow G0 3 1 (.slice (some ⟨gB, 0, none⟩) (gs.length + 1) cB) (gs.length + 1) ((joinL gs look).map (Value.int .i64))) (hgB : G0 ≤ gB) (pp : OwnPs p0 p1 w8 ap ps.length ps) (rr : OwnEs tyRp 45 r0 r1 w8 ar rs.length rs)
    (hgr : Gw w8 w9 (.slice am ms.length cm) (.slice (some ⟨gA, 0, none⟩) (ms.length + 1) cA)) (hown : w9.ownsRow N 102 9 (.slice (some ⟨gA, 0, none⟩) (ms.length + 1) cA) (ms.length + 1) (zs ++ mc)) (hG0 : G0 = X + 1)
    (hd : (p1 ≤ m0 ∨ m1 ≤ p0) ∧ (p1 ≤ g0 ∨ g1 ≤ p0) ∧ (p1 ≤ r0 ∨ r1 ≤ p0) ∧ (m1 ≤ g0 ∨ g1 ≤ m0) ∧ (m1 ≤ r0 ∨ r1 ≤ m0) ∧ (g1 ≤ r0 ∨ r1 ≤ g0)) (hr : M ≤ p0 ∧ p0 ≤ p1 ∧ p1 ≤ X ∧ M ≤ m0 ∧ m1 ≤ X ∧ M ≤ g0 ∧ g1 ≤ X ∧ M ≤ r0 ∧ r1 ≤ X) :
    BG9 w w9 N X A R C 36 45 3 p0 p1 r0 r1 m0 m1 G0 ap ar ps gs rs look gA cA gB cB zs ms.length mc := by
  have hgb := gb.lt gB rfl
  have hga := hown.lt gA rfl
  have hsz := hgr.size
  have keep : ∀ z, z < w8.heap.size → ¬ (m0 ≤ z ∧ z < m1 ∧ z < X) → w9.heap[z]? = w8.heap[z]? := fun z a1 a2 => hgr.block z a1 (fun h => a2 (hz z h))
  have hw : ((m0 ≤ gA ∧ gA < m1 ∧ gA < X) ∨ w8.heap.size ≤ gA) := by
    rcases hgr.own with h | h
    · exact .inl (hz gA (by rw [← h]; rfl))
    · exact .inr (h gA rfl)
  refine ⟨⟨t2.bel.trans (hgr.below t2.bel.size (fun z h => by have := hz z h; omega)), (keep _ t2.ka.lt (by omega)).trans t2.ka, (keep _ t2.kr.lt (by omega)).trans t2.kr⟩, (keep X hX (by omega)).trans bx, pp.blocks (fun z a1 a2 a3 => keep z a3 (by omega)), rr.blocks (fun z a1 a2 a3 => keep z a3 (by omega)),
    own_blocks gb (fun z h => keep z (gb.lt z h).2 (by have := (gb.lt z h).1; omega)), hown, by omega, ?_, hga.2, by omega, hgB⟩
  rcases hw with h | h <;> omega
set_option maxRecDepth 100000 in
set_option maxHeartbeats 6400000 in
theorem lBeginLook_any (b d ttl : Int) (ap am ag ar : Option Addr) (cp cm cg cr : Nat) (ps : List Pr) (ms : List Mg) (gs : List Int) (rs : List Rp) (look x k : Int) (w : World) (hb : BigN ps ms gs rs) (hr : NetAt w ap am ag ar ps ms gs rs) (hcm : am = none → cm = 0) (hcg : ag = none → cg = 0) (hcr : ar = none → cr = 0) :
    Calls Tryz.prog 33 #[.agg #[.int .i64 b, .int .i64 d, .slice ap ps.length cp, .int .i64 ttl, .slice am ms.length cm, .slice ag gs.length cg, .slice ar rs.length cr], .int .i64 look, .int .i64 x, .int .i64 k] w (NetSay w (bgnA b d ttl ps ms gs rs look x k) (bgnB b d ttl ps ms gs rs look x k)) := by
  have N0 : Hid (T2 w ((w.alloc (.cells #[.int .i64 b, .int .i64 d, .slice ap ps.length cp, .int .i64 ttl, .slice am ms.length cm, .slice ag gs.length cg, .slice ar rs.length cr] 36)).alloc (.cells #[.int .i64 0, .int .i64 0, .slice none 0 0, .int .i64 0, .slice none 0 0, .slice none 0 0, .slice none 0 0] 36)) #[.int .i64 b, .int .i64 d, .slice ap ps.length cp, .int .i64 ttl, .slice am ms.length cm, .slice ag gs.length cg, .slice ar rs.length cr] 36 #[.int .i64 0, .int .i64 0, .slice none 0 0, .int .i64 0, .slice none 0 0, .slice none 0 0, .slice none 0 0] 36) := t20 w _ _ _ _
  have HR : Hid (NetAt w ap am ag ar ps ms gs rs) := hr
  have HBG : Hid (BigN ps ms gs rs) := hb
  have CG := lgoodN_any b d ttl ap am ag ar cp cm cg cr ps ms gs rs _ hb (hr.keep N0.out.bel)
  have hm : ms.length ≤ 1048576 := by have := hb.m; omega
  have hgl0 : gs.length ≤ 1048576 := hb.g
  clear hr hb
  cases hg : goodN b d ttl ps ms gs rs
  · have HV : Hid (bgnB b d ttl ps ms gs rs look x k = false) := by unfold Hid bgnB cbB; rw [hg]; rfl
    rw [bgnA, if_neg (by rw [HV.out]; simp), HV.out]
    rw [hg] at CG
    clear hg
    go_enter Tryz.func33, Tryz.ntmps33
    go_wp2_with fail
    refine CG.mono ?_
    rintro e w1 ⟨rfl, HW⟩
    have N1 : Hid (T2 w w1 #[.int .i64 b, .int .i64 d, .slice ap ps.length cp, .int .i64 ttl, .slice am ms.length cm, .slice ag gs.length cg, .slice ar rs.length cr] 36 #[.int .i64 0, .int .i64 0, .slice none 0 0, .int .i64 0, .slice none 0 0, .slice none 0 0, .slice none 0 0] 36) := N0.out.keep HW
    clear CG N0 HW
    obtain ⟨r0, r1, r2, r3, r4, r5, r6⟩ := Wire.Bk.m7 N1.out.kr
    obtain ⟨s0, s1, s2, s3, s4, s5, s6⟩ := Wire.Bk.g7 N1.out.kr
    go_wp2
    obtain ⟨E1, E2⟩ := netOut_no N1.out
    exact bodyPost_ret (results_cell_tmp Tryz.results33 _ _ (w.heap.size + 1) _ _ _ _ _ rfl rfl E1 Tryz.underlying36 rfl (by kernel_rfl)) rfl E2.say
  have HG : Hid (goodN b d ttl ps ms gs rs = true) := hg
  have hlen := goodN_len hg
  rw [hg] at CG
  cases hA : inB look 0 255
  · have HV : Hid (bgnB b d ttl ps ms gs rs look x k = false) := by unfold Hid bgnB cbB; rw [hg, hA]; rfl
    rw [bgnA, if_neg (by rw [HV.out]; simp), HV.out]
    have HA : Hid (inB look 0 255 = false) := hA
    clear hg hA
    go_enter Tryz.func33, Tryz.ntmps33
    go_wp2_with fail
    refine CG.mono ?_
    rintro e w1 ⟨rfl, HW⟩
    have N1 : Hid (T2 w w1 #[.int .i64 b, .int .i64 d, .slice ap ps.length cp, .int .i64 ttl, .slice am ms.length cm, .slice ag gs.length cg, .slice ar rs.length cr] 36 #[.int .i64 0, .int .i64 0, .slice none 0 0, .int .i64 0, .slice none 0 0, .slice none 0 0, .slice none 0 0] 36) := N0.out.keep HW
    clear CG N0 HW
    go_wp2_with fail
    refine (lin_any look 0 255 w1).mono ?_
    rintro e w9 ⟨rfl, he⟩
    have he' := he.symm
    subst he'
    clear he
    rw [HA.out]
    obtain ⟨r0, r1, r2, r3, r4, r5, r6⟩ := Wire.Bk.m7 N1.out.kr
    obtain ⟨s0, s1, s2, s3, s4, s5, s6⟩ := Wire.Bk.g7 N1.out.kr
    go_wp2
    obtain ⟨E1, E2⟩ := netOut_no N1.out
    exact bodyPost_ret (results_cell_tmp Tryz.results33 _ _ (w.heap.size + 1) _ _ _ _ _ rfl rfl E1 Tryz.underlying36 rfl (by kernel_rfl)) rfl E2.say
  have HA : Hid (inB look 0 255 = true) := hA
  cases hM : hasB gs look
  · have HM : Hid (hasB gs look = false) := hM
    by_cases hL : gs.length = 12
    · have HV : Hid (bgnB b d ttl ps ms gs rs look x k = false) := by unfold Hid bgnB cbB; rw [hg, hA, hM, hL]; rfl
      rw [bgnA, if_neg (by rw [HV.out]; simp), HV.out]
      have hL2 : (gs.length : Int) = 12 := by omega
      clear hg hA hM hL hlen
      go_enter Tryz.func33, Tryz.ntmps33
      go_wp2_with fail
      refine CG.mono ?_
      rintro e w1 ⟨rfl, HW⟩
      have N1 : Hid (T2 w w1 #[.int .i64 b, .int .i64 d, .slice ap ps.length cp, .int .i64 ttl, .slice am ms.length cm, .slice ag gs.length cg, .slice ar rs.length cr] 36 #[.int .i64 0, .int .i64 0, .slice none 0 0, .int .i64 0, .slice none 0 0, .slice none 0 0, .slice none 0 0] 36) := N0.out.keep HW
      clear CG N0 HW
      go_wp2_with fail
      refine (lin_any look 0 255 w1).mono ?_
      rintro e w9 ⟨rfl, he⟩
      have he' := he.symm
      subst he'
      clear he
      rw [HA.out]
      obtain ⟨q0, q1, q2, q3, q4, q5, q6⟩ := Wire.Bk.m7 N1.out.ka
      go_wp2_with fail
      refine (lhas_any ag cg gs look w1 (by unfold maxLen; omega) (HR.out.g.keep N1.out.bel)).mono ?_
      rintro e w9 ⟨rfl, he⟩
      have he' := he.symm
      subst he'
      clear he
      rw [HM.out]
      obtain ⟨r0, r1, r2, r3, r4, r5, r6⟩ := Wire.Bk.m7 N1.out.kr
      obtain ⟨s0, s1, s2, s3, s4, s5, s6⟩ := Wire.Bk.g7 N1.out.kr
      go_wp2
      obtain ⟨E1, E2⟩ := netOut_no N1.out
      exact bodyPost_ret (results_cell_tmp Tryz.results33 _ _ (w.heap.size + 1) _ _ _ _ _ rfl rfl E1 Tryz.underlying36 rfl (by kernel_rfl)) rfl E2.say
    · have hL2 : ¬ (gs.length : Int) = 12 := by omega
      cases hK : askP b d ps x k
      · have HV : Hid (bgnB b d ttl ps ms gs rs look x k = false) := by unfold Hid bgnB cbB; unfold askP at hK; rw [hg, hA, hM, decide_eq_false hL]; rw [(goodN_parts hg).1, Bool.true_and] at hK; simpa using hK
        rw [bgnA, if_neg (by rw [HV.out]; simp), HV.out]
        have HAK : Hid (askP b d ps x k = false) := hK
        clear hg hA hM hK hL
        go_enter Tryz.func33, Tryz.ntmps33
        go_wp2_with fail
        refine CG.mono ?_
        rintro e w1 ⟨rfl, HW⟩
        have N1 : Hid (T2 w w1 #[.int .i64 b, .int .i64 d, .slice ap ps.length cp, .int .i64 ttl, .slice am ms.length cm, .slice ag gs.length cg, .slice ar rs.length cr] 36 #[.int .i64 0, .int .i64 0, .slice none 0 0, .int .i64 0, .slice none 0 0, .slice none 0 0, .slice none 0 0] 36) := N0.out.keep HW
        clear CG N0 HW
        go_wp2_with fail
        refine (lin_any look 0 255 w1).mono ?_
        rintro e w9 ⟨rfl, he⟩
        have he' := he.symm
        subst he'
        clear he
        rw [HA.out]
        obtain ⟨q0, q1, q2, q3, q4, q5, q6⟩ := Wire.Bk.m7 N1.out.ka
        go_wp2_with fail
        refine (lhas_any ag cg gs look w1 (by unfold maxLen; omega) (HR.out.g.keep N1.out.bel)).mono ?_
        rintro e w9 ⟨rfl, he⟩
        have he' := he.symm
        subst he'
        clear he
        rw [HM.out]
        go_wp2_with fail
        refine (lasked4_any b d ap cp ps x k w1 (by have := HBG.out.p; omega) (HR.out.p.keep N1.out.bel)).mono ?_
        rintro e w2 ⟨rfl, HW⟩
        have N2 : Hid (T2 w w2 #[.int .i64 b, .int .i64 d, .slice ap ps.length cp, .int .i64 ttl, .slice am ms.length cm, .slice ag gs.length cg, .slice ar rs.length cr] 36 #[.int .i64 0, .int .i64 0, .slice none 0 0, .int .i64 0, .slice none 0 0, .slice none 0 0, .slice none 0 0] 36) := N1.out.keep HW
        clear HW N1
        rw [HAK.out]
        obtain ⟨r0, r1, r2, r3, r4, r5, r6⟩ := Wire.Bk.m7 N2.out.kr
        obtain ⟨s0, s1, s2, s3, s4, s5, s6⟩ := Wire.Bk.g7 N2.out.kr
        go_wp2
        obtain ⟨E1, E2⟩ := netOut_no N2.out
        exact bodyPost_ret (results_cell_tmp Tryz.results33 _ _ (w.heap.size + 1) _ _ _ _ _ rfl rfl E1 Tryz.underlying36 rfl (by kernel_rfl)) rfl E2.say
      have HV : Hid (bgnB b d ttl ps ms gs rs look x k = true) := by
        have h2 := hK
        unfold askP at h2
        rw [Bool.and_eq_true, Bool.and_eq_true] at h2
        unfold Hid bgnB cbB; rw [hg, hA, hM, h2.1.2, h2.2, decide_eq_false hL]; rfl
      rw [bgnA, if_pos HV.out, HV.out]
      have HAK : Hid (askP b d ps x k = true) := hK
      clear hg hA hM hK hL
      go_enter Tryz.func33, Tryz.ntmps33
      go_wp2_with fail
      refine CG.mono ?_
      rintro e w1 ⟨rfl, HW⟩
      have N1 : Hid (T2 w w1 #[.int .i64 b, .int .i64 d, .slice ap ps.length cp, .int .i64 ttl, .slice am ms.length cm, .slice ag gs.length cg, .slice ar rs.length cr] 36 #[.int .i64 0, .int .i64 0, .slice none 0 0, .int .i64 0, .slice none 0 0, .slice none 0 0, .slice none 0 0] 36) := N0.out.keep HW
      clear CG N0 HW
      go_wp2_with fail
      refine (lin_any look 0 255 w1).mono ?_
      rintro e w9 ⟨rfl, he⟩
      have he' := he.symm
      subst he'
      clear he
      rw [HA.out]
      obtain ⟨q0, q1, q2, q3, q4, q5, q6⟩ := Wire.Bk.m7 N1.out.ka
      go_wp2_with fail
      refine (lhas_any ag cg gs look w1 (by unfold maxLen; omega) (HR.out.g.keep N1.out.bel)).mono ?_
      rintro e w9 ⟨rfl, he⟩
      have he' := he.symm
      subst he'
      clear he
      rw [HM.out]
      go_wp2_with fail
      refine (lasked4_any b d ap cp ps x k w1 (by have := HBG.out.p; omega) (HR.out.p.keep N1.out.bel)).mono ?_
      rintro e w2 ⟨rfl, HW⟩
      have N2 : Hid (T2 w w2 #[.int .i64 b, .int .i64 d, .slice ap ps.length cp, .int .i64 ttl, .slice am ms.length cm, .slice ag gs.length cg, .slice ar rs.length cr] 36 #[.int .i64 0, .int .i64 0, .slice none 0 0, .int .i64 0, .slice none 0 0, .slice none 0 0, .slice none 0 0] 36) := N1.out.keep HW
      clear HW N1
      rw [HAK.out]
      clear q0 q1 q2 q3 q4 q5 q6
      obtain ⟨q0, q1, q2, q3, q4, q5, q6⟩ := Wire.Bk.m7 N2.out.ka
      go_wp2_with fail
      clear q0 q1 q2 q3 q4 q5 q6
      refine (l6Own_any b d ttl ap am ag ar cp cm cg cr ps ms gs rs w2 HG.out HBG.out (HR.out.keep N2.out.bel) hcm hcg hcr).mono ?_
      rintro e w3 ⟨ap', am', ag', ar', cp', cm', cg', cr', rfl, hNN, HW, hcap0, hN⟩
      clear hNN
      have N3 : Hid (T2 w w3 #[.int .i64 b, .int .i64 d, .slice ap ps.length cp, .int .i64 ttl, .slice am ms.length cm, .slice ag gs.length cg, .slice ar rs.length cr] 36 #[.int .i64 0, .int .i64 0, .slice none 0 0, .int .i64 0, .slice none 0 0, .slice none 0 0, .slice none 0 0] 36) := N2.out.keep HW
      have hw2 : w.heap.size + 1 < w2.heap.size := N2.out.kr.lt
      have hw23 : w2.heap.size ≤ w3.heap.size := HW.size
      clear HW N2
      obtain ⟨p0, p1, m0, m1, g0, g1, r0, r1, hr, hd, OP, OB, OG, OR⟩ := hN.ex
      obtain ⟨gG, hgG⟩ := hN.gss
      have hcgl := hN.cgl
      clear hN
      subst hgG
      obtain ⟨zs, hzs, hzn, hzl⟩ := OB
      obtain ⟨w4, hw4⟩ : ∃ w4, w4 = w3.alloc (.cells #[.int .i64 b, .int .i64 d, .slice ap' ps.length cp', .int .i64 ttl, .slice am' ms.length cm', .slice (some ⟨gG, 0, none⟩) gs.length cg', .slice ar' rs.length cr'] 36) := ⟨_, rfl⟩
      have HX4 : Hid (Wire.Bk w4 w3.heap.size #[.int .i64 b, .int .i64 d, .slice ap' ps.length cp', .int .i64 ttl, .slice am' ms.length cm', .slice (some ⟨gG, 0, none⟩) gs.length cg', .slice ar' rs.length cr'] 36) := by rw [hw4]; exact Wire.Bk.new _ _ _
      have hb4 : Below w3.heap.size w3 w4 := by rw [hw4]; exact belA _ _
      have hs4 : w4.heap.size = w3.heap.size + 1 := by rw [hw4]; simp
      have HPA : Hid (askP b d ps x k = true) := HAK
      have hmm : memI gs look = false := by rw [memI_begun (goodN_parts HG.out).2.1 (goodN_parts HG.out).2.2]; exact HM.out
      have CP := lput_new gG cg' gs look w4 (by omega) hcgl ((OG.rowAt).keep hb4) hmm
      clear hmm hcgl
      have e4 := HX4.out.cell 5
      simp at e4
      rw [hw4] at e4 CP
      go_wp2_with fail
      refine CP.mono ?_
      rintro e w5 ⟨gB, cB, rfl, hoB, hw5⟩
      rw [← hw4] at hoB hw5
      clear CP hw4 e4
      have N5 : Hid (T2 w w5 #[.int .i64 b, .int .i64 d, .slice ap ps.length cp, .int .i64 ttl, .slice am ms.length cm, .slice ag gs.length cg, .slice ar rs.length cr] 36 #[.int .i64 0, .int .i64 0, .slice none 0 0, .int .i64 0, .slice none 0 0, .slice none 0 0, .slice none 0 0] 36) := N3.out.keep (belt hb4 hw5)
      have HX5 : Hid (Wire.Bk w5 w3.heap.size #[.int .i64 b, .int .i64 d, .slice ap' ps.length cp', .int .i64 ttl, .slice am' ms.length cm', .slice (some ⟨gG, 0, none⟩) gs.length cg', .slice ar' rs.length cr'] 36) := HX4.out.keep hw5
      have hn0 : ¬ w.heap.size = w3.heap.size := by omega
      have hn1 : ¬ w.heap.size + 1 = w3.heap.size := by omega
      have HBL5 : Hid (∀ z, z < w3.heap.size → w5.heap[z]? = w3.heap[z]?) := fun z hz => (hw5.block z (by omega)).trans (hb4.block z hz)
      have hS5 : w3.heap.size + 1 ≤ w5.heap.size := by have := hw5.size; omega
      have HOB5 : Hid (w5.ownsRow w4.heap.size 3 1 (.slice (some ⟨gB, 0, none⟩) (gs.length + 1) cB) (gs.length + 1) ((joinL gs look).map (Value.int .i64))) := hoB
      clear hoB hw5 hb4 HX4 N3
      obtain ⟨q0, q1, q2, q3, q4, q5, q6⟩ := Wire.Bk.m7 N5.out.ka
      have e5 := HX5.out.cell 5
      have f5 := HX5.out.fr 5
      simp at e5
      obtain ⟨w6, hw6⟩ : ∃ w6, w6 = w5.setCell ⟨w3.heap.size, 5, none⟩ (.slice (some ⟨gB, 0, none⟩) (gs.length + 1) cB) := ⟨_, rfl⟩
      have hO6 : ∀ z, ¬ z = w3.heap.size → w6.heap[z]? = w5.heap[z]? := fun z hz => by rw [hw6]; exact heap_setCell_other _ _ _ _ (by simpa using hz)
      have hS6 : w6.heap.size = w5.heap.size := by rw [hw6]; simp [World.setCell]
      have HX6 : Hid (Wire.Bk w6 w3.heap.size #[.int .i64 b, .int .i64 d, .slice ap' ps.length cp', .int .i64 ttl, .slice am' ms.length cm', .slice (some ⟨gB, 0, none⟩) (gs.length + 1) cB, .slice ar' rs.length cr'] 36) := by rw [hw6]; exact HX5.out.set 5 _
      have N6 : Hid (T2 w w6 #[.int .i64 b, .int .i64 d, .slice ap ps.length cp, .int .i64 ttl, .slice am ms.length cm, .slice ag gs.length cg, .slice ar rs.length cr] 36 #[.int .i64 0, .int .i64 0, .slice none 0 0, .int .i64 0, .slice none 0 0, .slice none 0 0, .slice none 0 0] 36) := ⟨by rw [hw6]; exact N5.out.bel.setCell (p := ⟨w3.heap.size, 5, none⟩) (by show w.heap.size ≤ w3.heap.size; omega) _, (hO6 _ hn0).trans N5.out.ka, (hO6 _ hn1).trans N5.out.kr⟩
      obtain ⟨hPk1, hPk2⟩ : hasB (idsP ps) x = true ∧ numB b d k = true := by
        have h2 := HPA.out
        unfold askP at h2
        rw [Bool.and_eq_true, Bool.and_eq_true] at h2
        exact ⟨h2.1.2, h2.2⟩
      obtain ⟨_, k1, k2⟩ := numB_true hPk2
      have CS := lstart_any b d ap cp ps x k w6 (goodN_parts HG.out).1 hPk1 k1 k2 (HR.out.p.keep N6.out.bel)
      clear hPk1 hPk2 k1 k2 N5 HX5
      go_wp2_with fail
      rw [← hw6]
      clear q0 q1 q2 q3 q4 q5 q6 e5 f5
      refine CS.mono ?_
      rintro e w7 ⟨rfl, hw7⟩
      clear CS hw6
      have hst : (stt b d ps x k).cells = #[.int .i64 (stt b d ps x k).at_, .int .i64 (stt b d ps x k).imag, .int .i64 (stt b d ps x k).left, .int .i64 0, .int .i64 0, .int .i64 0, .int .i64 0] := rfl
      rw [hst]
      have HM1 : Hid (mgV (bgM b d ps look x k) (.slice none 0 0) = [.int .i64 1, .int .i64 look, .int .i64 x, .int .i64 x, .int .i64 k, .int .i64 (stt b d ps x k).imag, .int .i64 (stt b d ps x k).left, .int .i64 0, .slice none 0 0]) := rfl
      clear hst
      generalize (stt b d ps x k).imag = im at *
      generalize (stt b d ps x k).left = le at *
      generalize (stt b d ps x k).at_ = at1 at *
      have hS7 : w6.heap.size ≤ w7.heap.size := hw7.size
      have hb8 : Below w7.heap.size w7 ((w7.alloc (.cells #[.int .i64 at1, .int .i64 im, .int .i64 le, .int .i64 0, .int .i64 0, .int .i64 0, .int .i64 0] 49)).alloc (.cells #[.int .i64 1, .int .i64 look, .int .i64 x, .int .i64 x, .int .i64 k, .int .i64 im, .int .i64 le, .int .i64 0, .slice none 0 0] 102)) := belt (belA _ _) (belA _ _)
      have hs8 : (((w7.alloc (.cells #[.int .i64 at1, .int .i64 im, .int .i64 le, .int .i64 0, .int .i64 0, .int .i64 0, .int .i64 0] 49)).alloc (.cells #[.int .i64 1, .int .i64 look, .int .i64 x, .int .i64 x, .int .i64 k, .int .i64 im, .int .i64 le, .int .i64 0, .slice none 0 0] 102))).heap.size = w7.heap.size + 2 := by simp
      have N8 : Hid (T2 w ((w7.alloc (.cells #[.int .i64 at1, .int .i64 im, .int .i64 le, .int .i64 0, .int .i64 0, .int .i64 0, .int .i64 0] 49)).alloc (.cells #[.int .i64 1, .int .i64 look, .int .i64 x, .int .i64 x, .int .i64 k, .int .i64 im, .int .i64 le, .int .i64 0, .slice none 0 0] 102)) #[.int .i64 b, .int .i64 d, .slice ap ps.length cp, .int .i64 ttl, .slice am ms.length cm, .slice ag gs.length cg, .slice ar rs.length cr] 36 #[.int .i64 0, .int .i64 0, .slice none 0 0, .int .i64 0, .slice none 0 0, .slice none 0 0, .slice none 0 0] 36) := (N6.out.keep hw7).keep hb8
      have HX8 : Hid (Wire.Bk ((w7.alloc (.cells #[.int .i64 at1, .int .i64 im, .int .i64 le, .int .i64 0, .int .i64 0, .int .i64 0, .int .i64 0] 49)).alloc (.cells #[.int .i64 1, .int .i64 look, .int .i64 x, .int .i64 x, .int .i64 k, .int .i64 im, .int .i64 le, .int .i64 0, .slice none 0 0] 102)) w3.heap.size #[.int .i64 b, .int .i64 d, .slice ap' ps.length cp', .int .i64 ttl, .slice am' ms.length cm', .slice (some ⟨gB, 0, none⟩) (gs.length + 1) cB, .slice ar' rs.length cr'] 36) := (HX6.out.keep hw7).keep hb8
      have HX7a : Hid (Wire.Bk (w7.alloc (.cells #[.int .i64 at1, .int .i64 im, .int .i64 le, .int .i64 0, .int .i64 0, .int .i64 0, .int .i64 0] 49)) w3.heap.size #[.int .i64 b, .int .i64 d, .slice ap' ps.length cp', .int .i64 ttl, .slice am' ms.length cm', .slice (some ⟨gB, 0, none⟩) (gs.length + 1) cB, .slice ar' rs.length cr'] 36) := (HX6.out.keep hw7).alloc _
      have HY7a : Hid (Wire.Bk (w7.alloc (.cells #[.int .i64 at1, .int .i64 im, .int .i64 le, .int .i64 0, .int .i64 0, .int .i64 0, .int .i64 0] 49)) w7.heap.size #[.int .i64 at1, .int .i64 im, .int .i64 le, .int .i64 0, .int .i64 0, .int .i64 0, .int .i64 0] 49) := Wire.Bk.new _ _ _
      have HBL8 : Hid (∀ z, z < w5.heap.size → ¬ z = w3.heap.size → (((w7.alloc (.cells #[.int .i64 at1, .int .i64 im, .int .i64 le, .int .i64 0, .int .i64 0, .int .i64 0, .int .i64 0] 49)).alloc (.cells #[.int .i64 1, .int .i64 look, .int .i64 x, .int .i64 x, .int .i64 k, .int .i64 im, .int .i64 le, .int .i64 0, .slice none 0 0] 102))).heap[z]? = w5.heap[z]?) := fun z h1 h2 => (hb8.block z (by omega)).trans ((hw7.block z (by omega)).trans (hO6 z h2))
      have hgB := HOB5.out.lt gB rfl
      have hzlt : ∀ z, (Value.slice am' ms.length cm').ownBlock = some z → m0 ≤ z ∧ z < m1 ∧ z < w3.heap.size := fun z hz => ⟨(hzs.lt z hz).1, hzl z hz, (hzs.lt z hz).2⟩
      have HOB8 : Hid ((((w7.alloc (.cells #[.int .i64 at1, .int .i64 im, .int .i64 le, .int .i64 0, .int .i64 0, .int .i64 0, .int .i64 0] 49)).alloc (.cells #[.int .i64 1, .int .i64 look, .int .i64 x, .int .i64 x, .int .i64 k, .int .i64 im, .int .i64 le, .int .i64 0, .slice none 0 0] 102))).ownsRow w4.heap.size 3 1 (.slice (some ⟨gB, 0, none⟩) (gs.length + 1) cB) (gs.length + 1) ((joinL gs look).map (Value.int .i64))) := own_blocks HOB5.out (fun z hz => HBL8.out z (HOB5.out.lt z hz).2 (by have := (HOB5.out.lt z hz).1; omega))
      have HZS8 : Hid ((((w7.alloc (.cells #[.int .i64 at1, .int .i64 im, .int .i64 le, .int .i64 0, .int .i64 0, .int .i64 0, .int .i64 0] 49)).alloc (.cells #[.int .i64 1, .int .i64 look, .int .i64 x, .int .i64 x, .int .i64 k, .int .i64 im, .int .i64 le, .int .i64 0, .slice none 0 0] 102))).ownsRow m0 102 9 (.slice am' ms.length cm') ms.length zs) := own_blocks hzs (fun z hz => (HBL8.out z (by have := (hzlt z hz).2.2; omega) (by have := (hzlt z hz).2.2; omega)).trans (HBL5.out z (hzlt z hz).2.2))
      have HP8 : Hid (OwnPs p0 p1 ((w7.alloc (.cells #[.int .i64 at1, .int .i64 im, .int .i64 le, .int .i64 0, .int .i64 0, .int .i64 0, .int .i64 0] 49)).alloc (.cells #[.int .i64 1, .int .i64 look, .int .i64 x, .int .i64 x, .int .i64 k, .int .i64 im, .int .i64 le, .int .i64 0, .slice none 0 0] 102)) ap' ps.length ps) := OP.blocks (fun z a1 a2 a3 => (HBL8.out z (by omega) (by omega)).trans (HBL5.out z a3))
      have HR8 : Hid (OwnEs tyRp 45 r0 r1 ((w7.alloc (.cells #[.int .i64 at1, .int .i64 im, .int .i64 le, .int .i64 0, .int .i64 0, .int .i64 0, .int .i64 0] 49)).alloc (.cells #[.int .i64 1, .int .i64 look, .int .i64 x, .int .i64 x, .int .i64 k, .int .i64 im, .int .i64 le, .int .i64 0, .slice none 0 0] 102)) ar' rs.length rs) := OR.blocks (fun z a1 a2 a3 => (HBL8.out z (by omega) (by omega)).trans (HBL5.out z a3))
      have HNC8 : Hid (∀ j u, ([.int .i64 1, .int .i64 look, .int .i64 x, .int .i64 x, .int .i64 k, .int .i64 im, .int .i64 le, .int .i64 0, .slice none 0 0] : List Value)[j]? = some u → (((w7.alloc (.cells #[.int .i64 at1, .int .i64 im, .int .i64 le, .int .i64 0, .int .i64 0, .int .i64 0, .int .i64 0] 49)).alloc (.cells #[.int .i64 1, .int .i64 look, .int .i64 x, .int .i64 x, .int .i64 k, .int .i64 im, .int .i64 le, .int .i64 0, .slice none 0 0] 102))).cell? ((⟨w7.heap.size + 1, 0, none⟩ : Addr).add j) = some u) := by
        have h1 := new_cells (w7.alloc (.cells #[.int .i64 at1, .int .i64 im, .int .i64 le, .int .i64 0, .int .i64 0, .int .i64 0, .int .i64 0] 49)) #[.int .i64 1, .int .i64 look, .int .i64 x, .int .i64 x, .int .i64 k, .int .i64 im, .int .i64 le, .int .i64 0, .slice none 0 0] 102 [.int .i64 1, .int .i64 look, .int .i64 x, .int .i64 x, .int .i64 k, .int .i64 im, .int .i64 le, .int .i64 0, .slice none 0 0] rfl
        simp only [World.size_alloc] at h1
        exact h1
      have HZN : Hid (RowN zs ms ms.length) := hzn
      have HNM : Hid (m0 ≤ w3.heap.size ∨ (Value.slice am' ms.length cm').ownBlock = none) := by
        cases hob : (Value.slice am' ms.length cm').ownBlock with
        | none => exact .inr rfl
        | some z => have := hzlt z hob; exact .inl (by omega)
      have HZW : Hid ((((w7.alloc (.cells #[.int .i64 at1, .int .i64 im, .int .i64 le, .int .i64 0, .int .i64 0, .int .i64 0, .int .i64 0] 49)).alloc (.cells #[.int .i64 1, .int .i64 look, .int .i64 x, .int .i64 x, .int .i64 k, .int .i64 im, .int .i64 le, .int .i64 0, .slice none 0 0] 102))).ownsRow w2.heap.size 102 9 (.slice am' ms.length cm') ms.length zs) := by
        rcases Joins.ownsRow_forms HZS8.out with ⟨h1, h2⟩ | ⟨g, cap, h1⟩
        · have h3 := HZS8.out
          rw [h1] at h3 ⊢
          obtain ⟨h4, _⟩ := h3
          exact ⟨h4, .inl ⟨rfl, h2⟩⟩
        · exact Joins.ownsRow_le HZS8.out (by have := (hzlt g (by rw [h1]; rfl)).1; omega)
      have HZL : Hid (∀ z, (Value.slice am' ms.length cm').ownBlock = some z → m0 ≤ z ∧ z < m1 ∧ z < w3.heap.size) := hzlt
      have HNUM : Hid (w2.heap.size ≤ (((w7.alloc (.cells #[.int .i64 at1, .int .i64 im, .int .i64 le, .int .i64 0, .int .i64 0, .int .i64 0, .int .i64 0] 49)).alloc (.cells #[.int .i64 1, .int .i64 look, .int .i64 x, .int .i64 x, .int .i64 k, .int .i64 im, .int .i64 le, .int .i64 0, .slice none 0 0] 102))).heap.size ∧ w3.heap.size < (((w7.alloc (.cells #[.int .i64 at1, .int .i64 im, .int .i64 le, .int .i64 0, .int .i64 0, .int .i64 0, .int .i64 0] 49)).alloc (.cells #[.int .i64 1, .int .i64 look, .int .i64 x, .int .i64 x, .int .i64 k, .int .i64 im, .int .i64 le, .int .i64 0, .slice none 0 0] 102))).heap.size ∧ w4.heap.size ≤ gB ∧ gB < (((w7.alloc (.cells #[.int .i64 at1, .int .i64 im, .int .i64 le, .int .i64 0, .int .i64 0, .int .i64 0, .int .i64 0] 49)).alloc (.cells #[.int .i64 1, .int .i64 look, .int .i64 x, .int .i64 x, .int .i64 k, .int .i64 im, .int .i64 le, .int .i64 0, .slice none 0 0] 102))).heap.size ∧ ms.length ≤ 12 ∧ gs.length ≤ 12 ∧ rs.length ≤ 12 ∧ w4.heap.size = w3.heap.size + 1) := ⟨by omega, by omega, hgB.1, by omega, by omega, by omega, by omega, hs4⟩
      obtain ⟨i0, hi, hz0, hz1, hz2⟩ := info_msgE
      have hml : ms.length ≤ 12 := by omega
      clear hb8 hw7 N6 HX6 HZS8 hgB hzlt hzn hzs hzl HOB5 HBL5 HBL8 hO6 OP OR OG HNM
      obtain ⟨q0, q1, q2, q3, q4, q5, q6⟩ := Wire.Bk.m7 HX7a.out
      obtain ⟨y0, y1, y2, y3, y4, y5, y6⟩ := Wire.Bk.m7 HY7a.out
      go_wp2_with (at_builtin; refine wpList_append_gw _ rfl _ _ 33 rfl w2.heap.size 102 i0 _ 9 88 Tryz.underlying33 hi hz0 hz1 hz2 rfl (by decide) _ _ _ rfl HZW.out ⟨w7.heap.size + 1, 0, none⟩ 1 1 [.int .i64 1, .int .i64 look, .int .i64 x, .int .i64 x, .int .i64 k, .int .i64 im, .int .i64 le, .int .i64 0, .slice none 0 0] rfl rfl HNC8.out (by simp [Value.oneCell']) (by unfold maxLen; omega) (by omega) HNUM.out.1 ?_; intro v9 w9 hown hgrow; have hgr : Gw ((w7.alloc (.cells #[.int .i64 at1, .int .i64 im, .int .i64 le, .int .i64 0, .int .i64 0, .int .i64 0, .int .i64 0] 49)).alloc (.cells #[.int .i64 1, .int .i64 look, .int .i64 x, .int .i64 x, .int .i64 k, .int .i64 im, .int .i64 le, .int .i64 0, .slice none 0 0] 102)) w9 (.slice am' ms.length cm') v9 := hgrow; clear hgrow; obtain ⟨gA, cA, rfl⟩ := Joins.ownsRow_form hown (by omega); clear q0 q1 q2 q3 q4 q5 q6 y0 y1 y2 y3 y4 y5 y6; have hG := bg_gather HNUM.out.2.1 HZL.out hw2 hw23 hr.2.2.2.1 N8.out HX8.out HOB8.out HNUM.out.2.2.1 HP8.out HR8.out hgr hown HNUM.out.2.2.2.2.2.2.2 hd hr; clear hgr hown; have HG9 : Hid (BG9 w w9 w2.heap.size w3.heap.size #[.int .i64 b, .int .i64 d, .slice ap ps.length cp, .int .i64 ttl, .slice am ms.length cm, .slice ag gs.length cg, .slice ar rs.length cr] #[.int .i64 0, .int .i64 0, .slice none 0 0, .int .i64 0, .slice none 0 0, .slice none 0 0, .slice none 0 0] #[.int .i64 b, .int .i64 d, .slice ap' ps.length cp', .int .i64 ttl, .slice am' ms.length cm', .slice (some ⟨gB, 0, none⟩) (gs.length + 1) cB, .slice ar' rs.length cr'] 36 45 3 p0 p1 r0 r1 m0 m1 w4.heap.size ap' ar' ps gs rs look gA cA gB cB zs ms.length [.int .i64 1, .int .i64 look, .int .i64 x, .int .i64 x, .int .i64 k, .int .i64 im, .int .i64 le, .int .i64 0, .slice none 0 0]) := hG; clear hG; obtain ⟨q0, q1, q2, q3, q4, q5, q6⟩ := Wire.Bk.m7 HG9.out.bx; have f4 := HG9.out.bx.fr 4; obtain ⟨t0, t1, t2, t3, t4, t5, t6⟩ := Wire.Bk.m7 HG9.out.t2.kr; obtain ⟨s0, s1, s2, s3, s4, s5, s6⟩ := Wire.Bk.g7 HG9.out.t2.kr)
      clear q0 q1 q2 q3 q4 q5 q6 f4 t0 t1 t2 t3 t4 t5 t6 s0 s1 s2 s3 s4 s5 s6
      have hw := HG9.out.where_
      have hnn := HNUM.out
      have hnX : ¬ w.heap.size + 1 = w3.heap.size := hn1
      obtain ⟨w10, hw10⟩ : ∃ w10, w10 = w9.setCell ⟨w3.heap.size, 4, none⟩ (.slice (some ⟨gA, 0, none⟩) (ms.length + 1) cA) := ⟨_, rfl⟩
      rw [← hw10]
      have hO10 : ∀ z, ¬ z = w3.heap.size → w10.heap[z]? = w9.heap[z]? := fun z hz => by rw [hw10]; exact heap_setCell_other _ _ _ _ (by simpa using hz)
      have N10 : T2 w w10 #[.int .i64 b, .int .i64 d, .slice ap ps.length cp, .int .i64 ttl, .slice am ms.length cm, .slice ag gs.length cg, .slice ar rs.length cr] 36 #[.int .i64 0, .int .i64 0, .slice none 0 0, .int .i64 0, .slice none 0 0, .slice none 0 0, .slice none 0 0] 36 := ⟨by rw [hw10]; exact HG9.out.t2.bel.setCell (p := ⟨w3.heap.size, 4, none⟩) (by show w.heap.size ≤ w3.heap.size; omega) _, (hO10 _ hn0).trans HG9.out.t2.ka, (hO10 _ hn1).trans HG9.out.t2.kr⟩
      have N11 := N10.res 0 [.int .i64 b, .int .i64 d, .slice ap' ps.length cp', .int .i64 ttl, .slice (some ⟨gA, 0, none⟩) (ms.length + 1) cA, .slice (some ⟨gB, 0, none⟩) (gs.length + 1) cB, .slice ar' rs.length cr']
      rw [ovrE] at N11
      have hO11 : ∀ z, ¬ z = w3.heap.size → ¬ z = w.heap.size + 1 → (Wire.setL w10 (w.heap.size + 1) 0 [.int .i64 b, .int .i64 d, .slice ap' ps.length cp', .int .i64 ttl, .slice (some ⟨gA, 0, none⟩) (ms.length + 1) cA, .slice (some ⟨gB, 0, none⟩) (gs.length + 1) cB, .slice ar' rs.length cr']).heap[z]? = w9.heap[z]? := fun z h1 h2 => (Wire.setL_oth h2 _ _ _).trans (hO10 z h1)
      have hl1 : (ms ++ [bgM b d ps look x k]).length = ms.length + 1 := by simp
      have hl2 : (joinL gs look).length = gs.length + 1 := joinL_len gs look
      have hnil : ∀ i, i < (ms ++ [bgM b d ps look x k]).length → ((ms ++ [bgM b d ps look x k]).getD i mg0).l = [] := fun i hi => by
        rw [hl1] at hi
        rw [getD_app _ _ _ _ (by omega)]
        split
        · rename_i h; have hg := HG.out; unfold goodN at hg; simp only [Bool.and_eq_true, decide_eq_true_eq] at hg; exact okMg_l (hg.1.2 i h)
        · rfl
      have hbag : BagS gA (gA + 1) (Wire.setL w10 (w.heap.size + 1) 0 [.int .i64 b, .int .i64 d, .slice ap' ps.length cp', .int .i64 ttl, .slice (some ⟨gA, 0, none⟩) (ms.length + 1) cA, .slice (some ⟨gB, 0, none⟩) (gs.length + 1) cB, .slice ar' rs.length cr']) (some ⟨gA, 0, none⟩) cA (ms ++ [bgM b d ps look x k]) := by
        refine BagS.blocks (w := w9) (BagS.snoc (N := w2.heap.size) HZN.out ?_) (fun z a1 a2 _ => hO11 z (by omega) (by have := (HG9.out.ga.lt gA rfl).1; omega))
        rw [HM1.out]; exact HG9.out.ga
      have hok : NetAt (Wire.setL w10 (w.heap.size + 1) 0 [.int .i64 b, .int .i64 d, .slice ap' ps.length cp', .int .i64 ttl, .slice (some ⟨gA, 0, none⟩) (ms.length + 1) cA, .slice (some ⟨gB, 0, none⟩) (gs.length + 1) cB, .slice ar' rs.length cr']) ap' (some ⟨gA, 0, none⟩) (some ⟨gB, 0, none⟩) ar' ps (ms ++ [bgM b d ps look x k]) (joinL gs look) rs := by
        refine ⟨(HG9.out.pp.blocks (fun z a1 a2 _ => hO11 z (by omega) (by omega))).peersAt, (hbag.own (by omega) hnil).at, ?_, (HG9.out.rr.blocks (fun z a1 a2 _ => hO11 z (by omega) (by omega))).at⟩
        exact (OwnS.of_owns (own_blocks HG9.out.gb (fun z hz => hO11 z (by have := (HG9.out.gb.lt z hz).1; omega) (by have := (HG9.out.gb.lt z hz).1; omega)))).1.rowAt
      refine bodyPost_ret (w := Wire.setL w10 (w.heap.size + 1) 0 [.int .i64 b, .int .i64 d, .slice ap' ps.length cp', .int .i64 ttl, .slice (some ⟨gA, 0, none⟩) (ms.length + 1) cA, .slice (some ⟨gB, 0, none⟩) (gs.length + 1) cB, .slice ar' rs.length cr']) (results_cell_tmp Tryz.results33 _ _ (w.heap.size + 1) _ _ _ _ _ rfl rfl N11.kr Tryz.underlying36 rfl (by kernel_rfl)) rfl ?_
      exact ⟨ap', some ⟨gA, 0, none⟩, some ⟨gB, 0, none⟩, ar', cp', cA, cB, cr', by simp only [hl1, hl2]; rfl, hok, N11.bel⟩
  · have HV : Hid (bgnB b d ttl ps ms gs rs look x k = false) := by unfold Hid bgnB cbB; rw [hg, hA, hM]; rfl
    rw [bgnA, if_neg (by rw [HV.out]; simp), HV.out]
    have HM : Hid (hasB gs look = true) := hM
    clear hg hA hM
    go_enter Tryz.func33, Tryz.ntmps33
    go_wp2_with fail
    refine CG.mono ?_
    rintro e w1 ⟨rfl, HW⟩
    have N1 : Hid (T2 w w1 #[.int .i64 b, .int .i64 d, .slice ap ps.length cp, .int .i64 ttl, .slice am ms.length cm, .slice ag gs.length cg, .slice ar rs.length cr] 36 #[.int .i64 0, .int .i64 0, .slice none 0 0, .int .i64 0, .slice none 0 0, .slice none 0 0, .slice none 0 0] 36) := N0.out.keep HW
    clear CG N0 HW
    go_wp2_with fail
    refine (lin_any look 0 255 w1).mono ?_
    rintro e w9 ⟨rfl, he⟩
    have he' := he.symm
    subst he'
    clear he
    rw [HA.out]
    obtain ⟨q0, q1, q2, q3, q4, q5, q6⟩ := Wire.Bk.m7 N1.out.ka
    go_wp2_with fail
    refine (lhas_any ag cg gs look w1 (by unfold maxLen; omega) (HR.out.g.keep N1.out.bel)).mono ?_
    rintro e w9 ⟨rfl, he⟩
    have he' := he.symm
    subst he'
    clear he
    rw [HM.out]
    obtain ⟨r0, r1, r2, r3, r4, r5, r6⟩ := Wire.Bk.m7 N1.out.kr
    obtain ⟨s0, s1, s2, s3, s4, s5, s6⟩ := Wire.Bk.g7 N1.out.kr
    go_wp2
    obtain ⟨E1, E2⟩ := netOut_no N1.out
    exact bodyPost_ret (results_cell_tmp Tryz.results33 _ _ (w.heap.size + 1) _ _ _ _ _ rfl rfl E1 Tryz.underlying36 rfl (by kernel_rfl)) rfl E2.say
end Go.Proofs.YtdceimnapbblnaaGreat
namespace Go.Proofs.YtdceimnapbblnaaGreat
open Go.RowKit Go.Deep
set_option linter.unusedVariables false
set_option linter.unusedSimpArgs false
theorem nilM {w : World} {ap am ag ar : Option Addr} {ps : List Pr} {ms : List Mg} {gs : List Int} {rs : List Rp} (hr : NetAt w ap am ag ar ps ms gs rs) : am = none → ms.length = 0 := fun h => by
  have h1 := hr.m
  rw [h] at h1
  have h2 : ms = [] := lsAt_none h1
  rw [h2]; rfl
theorem nilR {w : World} {ap am ag ar : Option Addr} {ps : List Pr} {ms : List Mg} {gs : List Int} {rs : List Rp} (hr : NetAt w ap am ag ar ps ms gs rs) : ar = none → rs.length = 0 := fun h => by
  have h1 := hr.r
  rw [h] at h1
  have h2 : rs = [] := lsAt_none h1
  rw [h2]; rfl
theorem nilG {w : World} {ap am ag ar : Option Addr} {ps : List Pr} {ms : List Mg} {gs : List Int} {rs : List Rp} (hr : NetAt w ap am ag ar ps ms gs rs) : ag = none → gs.length = 0 := fun h => by
  have h1 := hr.g
  rw [h] at h1
  rcases h1 with h1 | ⟨bk, off, h1, _⟩
  · rw [h1]; rfl
  · cases h1
theorem lBeginLook_own (b d ttl : Int) (ap am ag ar : Option Addr) (cp cm cg cr : Nat) (ps : List Pr) (ms : List Mg) (gs : List Int) (rs : List Rp) (x0 x1 x2 : Int) (w : World) (hb : BigN ps ms gs rs) (hr : NetAt w ap am ag ar ps ms gs rs) :
    Calls Tryz.prog 33 #[.agg #[.int .i64 b, .int .i64 d, .slice ap ps.length ps.length, .int .i64 ttl, .slice am ms.length ms.length, .slice ag gs.length gs.length, .slice ar rs.length rs.length], .int .i64 x0, .int .i64 x1, .int .i64 x2] w (NetSay w (bgnA b d ttl ps ms gs rs x0 x1 x2) (bgnB b d ttl ps ms gs rs x0 x1 x2)) :=
  lBeginLook_any b d ttl ap am ag ar _ _ _ _ ps ms gs rs x0 x1 x2 w hb hr (nilM hr) (nilG hr) (nilR hr)
theorem BeginLook_own (b d ttl : Int) (ap am ag ar : Option Addr) (cp cm cg cr : Nat) (ps : List Pr) (ms : List Mg) (gs : List Int) (rs : List Rp) (x0 x1 x2 : Int) (w : World) (hb : BigN ps ms gs rs) (hr : NetAt w ap am ag ar ps ms gs rs) :
    Calls Tryz.prog 32 #[.agg #[.int .i64 b, .int .i64 d, .slice ap ps.length ps.length, .int .i64 ttl, .slice am ms.length ms.length, .slice ag gs.length gs.length, .slice ar rs.length rs.length], .int .i64 x0, .int .i64 x1, .int .i64 x2] w (NetOut w (bgnA b d ttl ps ms gs rs x0 x1 x2) (bgnB b d ttl ps ms gs rs x0 x1 x2)) :=
  BeginLook_any b d ttl ap am ag ar _ _ _ _ ps ms gs rs x0 x1 x2 w hb hr (nilM hr) (nilG hr) (nilR hr)
end Go.Proofs.YtdceimnapbblnaaGreat
namespace Go.Proofs.YtdceimnapbblnaaGreat
open Go.RowKit Go.ChangeShapes Go.WideShapes Go.Deep
set_option linter.unusedVariables false
set_option linter.unusedSimpArgs false
section
variable {H : Type} {enc : TypeId × Value → H} {W : World} {base : Nat} {held : Bool}
theorem ls_of_trod (e : TyI) {ts te : TypeId} (hts : Tryz.prog.underlying ts = some (.slice te)) (hw : Tryz.prog.cellsOf te = e.wide) (hpos : 0 < e.wide)
    (hel : ∀ (fuel : Nat) (cs : List Value) (x : DataW H × List MemPlace), DataW.trod enc Tryz.prog W base (fun _ => true) held fuel te cs = some x → ∃ m, e.rep W cs m)
    {fuel : Nat} {a : Option Addr} {n cap : Nat} {x : DataW H × List MemPlace} (h : DataW.trod enc Tryz.prog W base (fun _ => true) held fuel ts [.slice a n cap] = some x) :
    ∃ ms : List e.den, ms.length = n ∧ n ≤ maxLen ∧ n ≤ cap ∧ LsAt e W a ms := by
  rcases open_slice hts h with ⟨hcs, _⟩ | ⟨⟨b, off, spot⟩, l, c, m, k, D, Pl, hcs, _, hl, hm, hmm, _, hx⟩
  · simp at hcs
    obtain ⟨rfl, rfl, rfl⟩ := hcs
    exact ⟨[], rfl, Nat.zero_le _, Nat.zero_le _, .inl rfl⟩
  · simp at hcs
    obtain ⟨rfl, rfl, rfl⟩ := hcs
    simp at hmm
    subst hmm
    by_cases h0 : n = 0
    · subst h0; exact ⟨[], rfl, Nat.zero_le _, Nat.zero_le _, .inl rfl⟩
    rw [hw] at hx
    have hs : spot = none := by
      obtain ⟨cs, h1, h2⟩ := hx 0 (by omega)
      obtain ⟨p, hp⟩ := hel _ _ _ h2
      have hlen := e.rep_len hp
      obtain ⟨_, _, hce⟩ := World.cells?_some h1
      have g0 := hce 0 hpos
      rw [List.getElem?_eq_getElem (by omega)] at g0
      simpa [Addr.add] using World.cell?_spot g0
    subst hs
    have key : ∀ i, i < n → ∃ p : e.den, b < W.heap.size ∧ ∃ ci, CellsAt W b (off + i * e.wide) ci ∧ e.rep W ci p := by
      intro i hi
      obtain ⟨cs, h1, h2⟩ := hx i (by omega)
      obtain ⟨p, hp⟩ := hel _ _ _ h2
      have hlen := e.rep_len hp
      obtain ⟨_, _, hce⟩ := World.cells?_some h1
      have at_ : ∀ j, j < e.wide → W.cell? ⟨b, off + i * e.wide + j, none⟩ = cs[j]? := fun j hj => by
        have g := hce j hj
        rw [add_add] at g
        rw [add_none'] at g
        rw [Nat.add_assoc]
        exact g
      have g0 := at_ 0 hpos
      rw [List.getElem?_eq_getElem (by omega)] at g0
      refine ⟨p, by simpa using block_lt_of_cell g0, cs, fun j v hj => ?_, hp⟩
      have hjl := (List.getElem?_eq_some_iff.1 hj).1
      exact (at_ j (by omega)).trans hj
    obtain ⟨f, hf⟩ := @choose_lt e.den ⟨e.dflt⟩ _ _ key
    obtain ⟨hb, _⟩ := hf 0 (by omega)
    refine ⟨(List.range n).map f, by simp, by omega, hl, .inr ⟨b, off, rfl, hb, fun i hi => ?_⟩⟩
    have hi' : i < n := by simpa using hi
    have := (hf i hi').2
    simpa [List.getD_eq_getElem?_getD, hi'] using this
theorem msg_of_trod {fuel : Nat} {cs : List Value} {x : DataW H × List MemPlace} (h : DataW.trod enc Tryz.prog W base (fun _ => true) held fuel 200 cs = some x) : ∃ m, tyMg.rep W cs m := by
  obtain ⟨xs, n, _, _, hl, hlen, hf⟩ := DataW.trod_struct Tryz.underlying200 h
  obtain ⟨c0, c1, c2, c3, c4, c5, c6, c7, c8, rfl⟩ := Wire.list9 (hl.trans Wire.cellsM)
  obtain ⟨x0, x1, x2, x3, x4, x5, x6, x7, x8, rfl⟩ := Wire.list9 (l := xs) hlen
  have g0 := hf 0 _ rfl
  have g1 := hf 1 _ rfl
  have g2 := hf 2 _ rfl
  have g3 := hf 3 _ rfl
  have g4 := hf 4 _ rfl
  have g5 := hf 5 _ rfl
  have g6 := hf 6 _ rfl
  have g7 := hf 7 _ rfl
  have g8 := hf 8 _ rfl
  simp [Value.cells, cellsI, cellsIs] at g0 g1 g2 g3 g4 g5 g6 g7 g8
  obtain ⟨a0, e0, _, _⟩ := DataW.trod_int Tryz.underlying3 g0
  obtain ⟨a1, e1, _, _⟩ := DataW.trod_int Tryz.underlying3 g1
  obtain ⟨a2, e2, _, _⟩ := DataW.trod_int Tryz.underlying3 g2
  obtain ⟨a3, e3, _, _⟩ := DataW.trod_int Tryz.underlying3 g3
  obtain ⟨a4, e4, _, _⟩ := DataW.trod_int Tryz.underlying3 g4
  obtain ⟨a5, e5, _, _⟩ := DataW.trod_int Tryz.underlying3 g5
  obtain ⟨a6, e6, _, _⟩ := DataW.trod_int Tryz.underlying3 g6
  obtain ⟨a7, e7, _, _⟩ := DataW.trod_int Tryz.underlying3 g7
  simp at e0 e1 e2 e3 e4 e5 e6 e7
  subst e0 e1 e2 e3 e4 e5 e6 e7
  obtain ⟨ab, nb, cb, rfl⟩ := slice_of_trod Tryz.underlying30 g8
  obtain ⟨ys, rfl, hm, hc, hr⟩ := ints_row g8
  exact ⟨⟨a0, a1, a2, a3, a4, a5, a6, a7, ys⟩, ab, cb, rfl, hr, hm, hc⟩
theorem list5 {α : Type} {l : List α} (h : l.length = 5) : ∃ c0 c1 c2 c3 c4, l = [c0, c1, c2, c3, c4] := by
  match l, h with
  | [c0, c1, c2, c3, c4], _ => exact ⟨c0, c1, c2, c3, c4, rfl⟩
theorem list7 {α : Type} {l : List α} (h : l.length = 7) : ∃ c0 c1 c2 c3 c4 c5 c6, l = [c0, c1, c2, c3, c4, c5, c6] := by
  match l, h with
  | [c0, c1, c2, c3, c4, c5, c6], _ => exact ⟨c0, c1, c2, c3, c4, c5, c6, rfl⟩
theorem array7 {α : Type} {cs : Array α} (h : cs.size = 7) : ∃ c0 c1 c2 c3 c4 c5 c6, cs = #[c0, c1, c2, c3, c4, c5, c6] := by
  obtain ⟨l⟩ := cs
  obtain ⟨c0, c1, c2, c3, c4, c5, c6, rfl⟩ := list7 (l := l) (by simpa using h)
  exact ⟨c0, c1, c2, c3, c4, c5, c6, rfl⟩
theorem cellsMs : Tryz.prog.cellsOf 68 = 1 := by kernel_rfl
theorem cellsRs : Tryz.prog.cellsOf 69 = 1 := by kernel_rfl
theorem cellsR : Tryz.prog.cellsOf 203 = 5 := by kernel_rfl
theorem cellsB : Tryz.prog.cellsOf 4 = 1 := by kernel_rfl
theorem cellsNt : Tryz.prog.cellsOf 71 = 7 := by kernel_rfl
theorem reply_of_trod {fuel : Nat} {cs : List Value} {x : DataW H × List MemPlace} (h : DataW.trod enc Tryz.prog W base (fun _ => true) held fuel 203 cs = some x) : ∃ m, tyRp.rep W cs m := by
  obtain ⟨xs, n, _, _, hl, hlen, hf⟩ := DataW.trod_struct Tryz.underlying203 h
  obtain ⟨c0, c1, c2, c3, c4, rfl⟩ := list5 (hl.trans cellsR)
  obtain ⟨x0, x1, x2, x3, x4, rfl⟩ := list5 (l := xs) hlen
  have g0 := hf 0 _ rfl
  have g1 := hf 1 _ rfl
  have g2 := hf 2 _ rfl
  have g3 := hf 3 _ rfl
  have g4 := hf 4 _ rfl
  simp [Value.cells, cellsI, cellsB] at g0 g1 g2 g3 g4
  obtain ⟨a0, e0, _, _⟩ := DataW.trod_int Tryz.underlying3 g0
  obtain ⟨a1, e1, _, _⟩ := DataW.trod_int Tryz.underlying3 g1
  obtain ⟨a2, e2, _, _⟩ := DataW.trod_int Tryz.underlying3 g2
  obtain ⟨a3, e3, _, _⟩ := DataW.trod_int Tryz.underlying3 g3
  obtain ⟨a4, e4, _⟩ := DataW.trod_bool Tryz.underlying4 g4
  simp at e0 e1 e2 e3 e4
  subst e0 e1 e2 e3 e4
  exact ⟨⟨a0, a1, a2, a3, a4⟩, rfl⟩
set_option maxRecDepth 100000 in
theorem open_net {v : Value} {r : Reach} {b0 : Nat} {d : DataW H} {p : List MemPlace} (hv : Value.okWide Tryz.prog W r b0 71 v) (h : DataW.Trod enc Tryz.prog W base (fun _ => true) held 71 v d p) :
    ∃ (b g t : Int) (ap am ag ar : Option Addr) (cp cm cg cr : Nat) (ps : List Pr) (ms : List Mg) (gs : List Int) (rs : List Rp), v = .agg #[.int .i64 b, .int .i64 g, .slice ap ps.length cp, .int .i64 t, .slice am ms.length cm, .slice ag gs.length cg, .slice ar rs.length cr] ∧
      ps.length ≤ maxLen ∧ ms.length ≤ maxLen ∧ gs.length ≤ maxLen ∧ rs.length ≤ maxLen ∧ NetAt W ap am ag ar ps ms gs rs := by
  obtain ⟨cs, rfl, hsz⟩ := okWide_struct Tryz.underlying71 hv
  obtain ⟨c0, c1, c2, c3, c4, c5, c6, rfl⟩ := array7 (hsz.trans cellsNt)
  obtain ⟨fuel, hf⟩ := h
  obtain ⟨xs, n, _, _, hl, hlen, hf⟩ := DataW.trod_struct Tryz.underlying71 hf
  obtain ⟨x0, x1, x2, x3, x4, rfl⟩ := list5 (l := xs) hlen
  have g0 := hf 0 _ rfl
  have g1 := hf 1 _ rfl
  have g2 := hf 2 _ rfl
  have g3 := hf 3 _ rfl
  have g4 := hf 4 _ rfl
  simp [Value.cells, cellsI, cellsIs, cellsPs, cellsMs, cellsRs] at g0 g1 g2 g3 g4
  obtain ⟨y0, y1, m, _, _, h0, h1⟩ := trod_struct2 Tryz.underlying67 g0
  simp [cellsS] at h0
  simp [cellsS, cellsPl] at h1
  obtain ⟨z0, z1, m, _, _, i0, i1⟩ := trod_struct2 Tryz.underlying64 h0
  simp [cellsI] at i0 i1
  obtain ⟨b, e0, _, _⟩ := DataW.trod_int Tryz.underlying3 i0
  obtain ⟨g, e1, _, _⟩ := DataW.trod_int Tryz.underlying3 i1
  obtain ⟨t, e2, _, _⟩ := DataW.trod_int Tryz.underlying3 g1
  simp at e0 e1 e2
  subst e0 e1 e2
  obtain ⟨ap, np, cp, rfl⟩ := slice_of_trod Tryz.underlying65 h1
  obtain ⟨ps, rfl, hm, hc, hr⟩ := peersl_of_trod h1
  obtain ⟨am, nm, cm, rfl⟩ := slice_of_trod Tryz.underlying68 g2
  obtain ⟨ms, rfl, hm2, _, hr2⟩ := ls_of_trod tyMg Tryz.underlying68 Wire.cellsM (by show 0 < 9; omega) (fun _ _ _ h => msg_of_trod h) g2
  obtain ⟨ag, ng, cg, rfl⟩ := slice_of_trod Tryz.underlying30 g3
  obtain ⟨gs, rfl, hm3, _, hr3⟩ := ints_row g3
  obtain ⟨ar, nr, cr, rfl⟩ := slice_of_trod Tryz.underlying69 g4
  obtain ⟨rs, rfl, hm4, _, hr4⟩ := ls_of_trod tyRp Tryz.underlying69 cellsR (by show 0 < 5; omega) (fun _ _ _ h => reply_of_trod h) g4
  exact ⟨b, g, t, ap, am, ag, ar, cp, cm, cg, cr, ps, ms, gs, rs, rfl, hm, hm2, hm3, hm4, ⟨hr, hr2, hr3, hr4⟩⟩
end
end Go.Proofs.YtdceimnapbblnaaGreat
