/- BeginLook by the program. The specification puts a number into an empty list that is not nil. What an append of replies to an empty slice owns; a copy of a net by the specification: its first statement. -/
import Derived.Test.YtdceimnapbblnaaGreatZ0
import Derived.Test.YtdceimnapbblnaaGreatZ1
import Derived.Test.YtdceimnapbblnaaGreatZ2
import Derived.Test.YtdceimnapbblnaaGreatZ3
import Derived.Test.YtdceimnapbblnaaGreatZ4
import Derived.Test.YtdceimnapbblnaaGreatZ5
import Derived.Test.YtdceimnapbblnaaGreatZ6
import Derived.Test.YtdceimnapbblnaaGreatZ7
namespace Go.Proofs.YtdceimnapbblnaaGreat
open Go.RowKit Go.Deep
set_option linter.unusedVariables false
set_option linter.unusedSimpArgs false
def bgnB (b d ttl : Int) (ps : List Pr) (ms : List Mg) (gs : List Int) (rs : List Rp) (look x k : Int) : Bool := goodN b d ttl ps ms gs rs && cbB b d ps gs look x k
def bgnA (b d ttl : Int) (ps : List Pr) (ms : List Mg) (gs : List Int) (rs : List Rp) (look x k : Int) : Nt := if bgnB b d ttl ps ms gs rs look x k = true then ⟨b, d, ttl, ps, ms ++ [bgM b d ps look x k], joinL gs look, rs⟩ else nt0
theorem bgnA_big {b d ttl : Int} {ps : List Pr} {ms : List Mg} {gs : List Int} {rs : List Rp} (h : BigN ps ms gs rs) (look x k : Int) : BigN (bgnA b d ttl ps ms gs rs look x k).ps (bgnA b d ttl ps ms gs rs look x k).ms (bgnA b d ttl ps ms gs rs look x k).gs (bgnA b d ttl ps ms gs rs look x k).rs := by
  unfold bgnA
  split
  · rename_i hb
    unfold bgnB at hb
    rw [Bool.and_eq_true] at hb
    have hl := goodN_len hb.1
    have hz : lsum (ms ++ [bgM b d ps look x k]) = 0 := by
      have h0 : ∀ l : List Mg, (∀ i, i < l.length → (l.getD i mg0).l = []) → lsum l = 0 := fun l => by
        induction l with
        | nil => intro _; rfl
        | cons m l ih =>
          intro hm
          have h1 := hm 0 (by simp)
          have h2 := ih (fun i hi => by have := hm (i + 1) (by simp; omega); simpa using this)
          simp at h1
          show m.l.length + lsum l = 0
          rw [h1, h2]; rfl
      refine h0 _ (fun i hi => ?_)
      rw [List.length_append] at hi
      simp at hi
      rw [getD_app _ _ _ _ (by omega)]
      split
      · rename_i h; have hg := hb.1; unfold goodN at hg; simp only [Bool.and_eq_true, decide_eq_true_eq] at hg; exact okMg_l (hg.1.2 i h)
      · rfl
    refine ⟨h.p, ?_, ?_, h.r⟩
    · show (ms ++ [bgM b d ps look x k]).length + lsum (ms ++ [bgM b d ps look x k]) ≤ _
      rw [hz]; simp; omega
    · show (joinL gs look).length ≤ _
      rw [joinL_len]; omega
  · exact nt0_big
theorem BagW.down {B B' T : Nat} {w : World} {a : Option Addr} {c : Nat} {ms : List Mg} (h : BagW B T w a c ms) (hb : B' ≤ B) : BagW B' T w a c ms := by
  obtain ⟨zs, h1, h2, h3⟩ := h
  exact ⟨zs, Joins.ownsRow_le h1 hb, h2, h3⟩
theorem cbB_parts {b d : Int} {ps : List Pr} {gs : List Int} {look x k : Int} (h : cbB b d ps gs look x k = true) : inB look 0 255 = true ∧ hasB gs look = false ∧ ¬ gs.length = 12 ∧ hasB (idsP ps) x = true ∧ numB b d k = true := by
  unfold cbB at h
  simp only [Bool.and_eq_true, Bool.not_eq_true', decide_eq_false_iff_not] at h
  exact ⟨h.1.1.1.1, h.1.1.1.2, h.1.1.2, h.1.2, h.2⟩
set_option maxRecDepth 100000 in
set_option maxHeartbeats 6400000 in
theorem BeginLook_any (b d ttl : Int) (ap am ag ar : Option Addr) (cp cm cg cr : Nat) (ps : List Pr) (ms : List Mg) (gs : List Int) (rs : List Rp) (look x k : Int) (w : World) (hb : BigN ps ms gs rs) (hr : NetAt w ap am ag ar ps ms gs rs) (hcm : am = none → cm = 0) (hcg : ag = none → cg = 0) (hcr : ar = none → cr = 0) :
    Calls Tryz.prog 32 #[.agg #[.int .i64 b, .int .i64 d, .slice ap ps.length cp, .int .i64 ttl, .slice am ms.length cm, .slice ag gs.length cg, .slice ar rs.length cr], .int .i64 look, .int .i64 x, .int .i64 k] w (NetOut w (bgnA b d ttl ps ms gs rs look x k) (bgnB b d ttl ps ms gs rs look x k)) := by
  have N0 : Hid (T2 w ((w.alloc (.cells #[.int .i64 b, .int .i64 d, .slice ap ps.length cp, .int .i64 ttl, .slice am ms.length cm, .slice ag gs.length cg, .slice ar rs.length cr] 36)).alloc (.cells #[.int .i64 0, .int .i64 0, .slice none 0 0, .int .i64 0, .slice none 0 0, .slice none 0 0, .slice none 0 0] 36)) #[.int .i64 b, .int .i64 d, .slice ap ps.length cp, .int .i64 ttl, .slice am ms.length cm, .slice ag gs.length cg, .slice ar rs.length cr] 36 #[.int .i64 0, .int .i64 0, .slice none 0 0, .int .i64 0, .slice none 0 0, .slice none 0 0, .slice none 0 0] 36) := t20 w _ _ _ _
  have HR : Hid (NetAt w ap am ag ar ps ms gs rs) := hr
  have HBG : Hid (BigN ps ms gs rs) := hb
  have CG := GoodNet_any b d ttl ap am ag ar cp cm cg cr ps ms gs rs _ hb (hr.keep N0.out.bel)
  have hm : ms.length ≤ 1048576 := by have := hb.m; omega
  clear hr hb
  cases hg : goodN b d ttl ps ms gs rs
  · have HV : Hid (bgnB b d ttl ps ms gs rs look x k = false) := by unfold Hid bgnB; rw [hg]; rfl
    rw [bgnA, if_neg (by rw [HV.out]; simp), HV.out]
    rw [hg] at CG
    clear hg
    go_enter Tryz.func32, Tryz.ntmps32
    go_wp2_with fail
    refine CG.mono ?_
    rintro e w1 ⟨rfl, HW⟩
    have N1 : Hid (T2 w w1 #[.int .i64 b, .int .i64 d, .slice ap ps.length cp, .int .i64 ttl, .slice am ms.length cm, .slice ag gs.length cg, .slice ar rs.length cr] 36 #[.int .i64 0, .int .i64 0, .slice none 0 0, .int .i64 0, .slice none 0 0, .slice none 0 0, .slice none 0 0] 36) := N0.out.keep HW
    clear CG N0 HW
    obtain ⟨r0, r1, r2, r3, r4, r5, r6⟩ := Wire.Bk.m7 N1.out.kr
    obtain ⟨s0, s1, s2, s3, s4, s5, s6⟩ := Wire.Bk.g7 N1.out.kr
    go_wp2
    obtain ⟨E1, E2⟩ := netOut_no N1.out
    exact bodyPost_ret (results_cell_tmp Tryz.results32 _ _ (w.heap.size + 1) _ _ _ _ _ rfl rfl E1 Tryz.underlying36 rfl (by kernel_rfl)) rfl E2
  have HG : Hid (goodN b d ttl ps ms gs rs = true) := hg
  have hlen := goodN_len hg
  rw [hg] at CG
  cases hk : cbB b d ps gs look x k
  · have HV : Hid (bgnB b d ttl ps ms gs rs look x k = false) := by unfold Hid bgnB; rw [hk, Bool.and_false]
    rw [bgnA, if_neg (by rw [HV.out]; simp), HV.out]
    have HK : Hid (cbB b d ps gs look x k = false) := hk
    clear hg hk
    go_enter Tryz.func32, Tryz.ntmps32
    go_wp2_with fail
    refine CG.mono ?_
    rintro e w1 ⟨rfl, HW⟩
    have N1 : Hid (T2 w w1 #[.int .i64 b, .int .i64 d, .slice ap ps.length cp, .int .i64 ttl, .slice am ms.length cm, .slice ag gs.length cg, .slice ar rs.length cr] 36 #[.int .i64 0, .int .i64 0, .slice none 0 0, .int .i64 0, .slice none 0 0, .slice none 0 0, .slice none 0 0] 36) := N0.out.keep HW
    clear CG N0 HW
    go_wp2_with fail
    refine (canBegin_any w.heap.size b d ttl ap am ag ar cp cm cg cr ps ms gs rs look x k w1 N1.out.ka HG.out (HR.out.keep N1.out.bel)).mono ?_
    rintro e w2 ⟨rfl, HW⟩
    have N2 : Hid (T2 w w2 #[.int .i64 b, .int .i64 d, .slice ap ps.length cp, .int .i64 ttl, .slice am ms.length cm, .slice ag gs.length cg, .slice ar rs.length cr] 36 #[.int .i64 0, .int .i64 0, .slice none 0 0, .int .i64 0, .slice none 0 0, .slice none 0 0, .slice none 0 0] 36) := N1.out.keep HW
    clear HW N1
    rw [HK.out]
    obtain ⟨r0, r1, r2, r3, r4, r5, r6⟩ := Wire.Bk.m7 N2.out.kr
    obtain ⟨s0, s1, s2, s3, s4, s5, s6⟩ := Wire.Bk.g7 N2.out.kr
    go_wp2
    obtain ⟨E1, E2⟩ := netOut_no N2.out
    exact bodyPost_ret (results_cell_tmp Tryz.results32 _ _ (w.heap.size + 1) _ _ _ _ _ rfl rfl E1 Tryz.underlying36 rfl (by kernel_rfl)) rfl E2
  have HV : Hid (bgnB b d ttl ps ms gs rs look x k = true) := by unfold Hid bgnB; rw [hk, hg]; rfl
  rw [bgnA, if_pos HV.out, HV.out]
  have HK : Hid (cbB b d ps gs look x k = true) := hk
  clear hg hk
  go_enter Tryz.func32, Tryz.ntmps32
  go_wp2_with fail
  refine CG.mono ?_
  rintro e w1 ⟨rfl, HW⟩
  have N1 : Hid (T2 w w1 #[.int .i64 b, .int .i64 d, .slice ap ps.length cp, .int .i64 ttl, .slice am ms.length cm, .slice ag gs.length cg, .slice ar rs.length cr] 36 #[.int .i64 0, .int .i64 0, .slice none 0 0, .int .i64 0, .slice none 0 0, .slice none 0 0, .slice none 0 0] 36) := N0.out.keep HW
  clear CG N0 HW
  go_wp2_with fail
  refine (canBegin_any w.heap.size b d ttl ap am ag ar cp cm cg cr ps ms gs rs look x k w1 N1.out.ka HG.out (HR.out.keep N1.out.bel)).mono ?_
  rintro e w2 ⟨rfl, HW⟩
  have N2 : Hid (T2 w w2 #[.int .i64 b, .int .i64 d, .slice ap ps.length cp, .int .i64 ttl, .slice am ms.length cm, .slice ag gs.length cg, .slice ar rs.length cr] 36 #[.int .i64 0, .int .i64 0, .slice none 0 0, .int .i64 0, .slice none 0 0, .slice none 0 0, .slice none 0 0] 36) := N1.out.keep HW
  clear HW N1
  rw [HK.out]
  go_wp2_with fail
  refine (copyNet_any w.heap.size b d ttl ap am ag ar cp cm cg cr ps ms gs rs w2 HG.out HBG.out N2.out.ka.lt N2.out.ka (HR.out.keep N2.out.bel) hcm hcr).mono ?_
  rintro e w3 ⟨ap', am', ag', ar', cm', cr', rfl, hN, HW⟩
  have N3 : Hid (T2 w w3 #[.int .i64 b, .int .i64 d, .slice ap ps.length cp, .int .i64 ttl, .slice am ms.length cm, .slice ag gs.length cg, .slice ar rs.length cr] 36 #[.int .i64 0, .int .i64 0, .slice none 0 0, .int .i64 0, .slice none 0 0, .slice none 0 0, .slice none 0 0] 36) := N2.out.keep HW
  have HW23 : w2.heap.size ≤ w3.heap.size := HW.size
  have hw2 : w.heap.size + 1 < w2.heap.size := N2.out.kr.lt
  clear HW N2
  obtain ⟨p0, p1, m0, m1, g0, g1, r0, r1, hr, hd, OP, OB, OG, OR⟩ := hN.ex
  clear hN
  obtain ⟨cb1, cb2, cb3, cb4, cb5⟩ := cbB_parts HK.out
  obtain ⟨k0, k1, k2⟩ := numB_true cb5
  have hagn : ag' = none → gs = [] := fun h => by
    rcases OG.2 with h1 | ⟨g, h1, _⟩
    · exact h1
    · rw [h] at h1; cases h1
  have OB2 : BagW (min m0 w3.heap.size) m1 w3 am' cm' ms := OB.down (Nat.min_le_left _ _)
  have hmn : min m0 w3.heap.size ≤ w3.heap.size ∧ w2.heap.size ≤ min m0 w3.heap.size := ⟨Nat.min_le_right _ _, by omega⟩
  obtain ⟨zs, hzs, _, hzl⟩ := OB
  clear cb1 cb2 cb3 cb5 k0
  go_wp2_with fail
  have HX4 : Wire.Bk (w3.alloc (.cells #[.int .i64 b, .int .i64 d, .slice ap' ps.length ps.length, .int .i64 ttl, .slice am' ms.length cm', .slice ag' gs.length gs.length, .slice ar' rs.length cr'] 36)) w3.heap.size #[.int .i64 b, .int .i64 d, .slice ap' ps.length ps.length, .int .i64 ttl, .slice am' ms.length cm', .slice ag' gs.length gs.length, .slice ar' rs.length cr'] 36 := Wire.Bk.new _ _ _
  have hs4 : (w3.alloc (.cells #[.int .i64 b, .int .i64 d, .slice ap' ps.length ps.length, .int .i64 ttl, .slice am' ms.length cm', .slice ag' gs.length gs.length, .slice ar' rs.length cr'] 36)).heap.size = w3.heap.size + 1 := by simp
  have hb4 : Below w3.heap.size w3 (w3.alloc (.cells #[.int .i64 b, .int .i64 d, .slice ap' ps.length ps.length, .int .i64 ttl, .slice am' ms.length cm', .slice ag' gs.length gs.length, .slice ar' rs.length cr'] 36)) := belA _ _
  refine (begin_any w3.heap.size b d ap' am' ag' ps.length cm' _ _ (min m0 w3.heap.size) m1 p0 p1 ps ms gs look x k _ HX4 (OB2.keep hb4) ((OG.rowAt).keep hb4) hagn (by omega) (by omega) (OP.keep hb4) (by omega) (goodN_parts HG.out).1 cb4 k1 k2 (by omega) (fun z hz => by have := hzl z hz; omega)).mono ?_
  rintro e w5 ⟨gA, cA, gB, cB, rfl, h5⟩
  have HGL : Hid (ms.length ≤ 12 ∧ gs.length ≤ 12 ∧ rs.length ≤ 12) := ⟨by omega, by omega, by omega⟩
  generalize hW4 : w3.alloc (.cells #[.int .i64 b, .int .i64 d, .slice ap' ps.length ps.length, .int .i64 ttl, .slice am' ms.length cm', .slice ag' gs.length gs.length, .slice ar' rs.length cr'] 36) = w4 at *
  have hin : (m0 ≤ gA ∧ gA < m1) ∨ w4.heap.size ≤ gA := by
    rcases h5.old with h | h
    · exact .inl ⟨(hzs.lt gA h).1, hzl gA h⟩
    · exact .inr h
  have hnb : ∀ z, (Value.slice am' ms.length cm').ownBlock = some z → m0 ≤ z ∧ z < m1 := fun z h => ⟨(hzs.lt z h).1, hzl z h⟩
  have hO5 : ∀ z, z < w3.heap.size → ¬ (m0 ≤ z ∧ z < m1) → w5.heap[z]? = w3.heap[z]? := fun z h1 h2 => (h5.oth z (by omega) (by omega) (fun h => h2 (hnb z h))).trans (hb4.block z h1)
  have hgB := h5.own.lt gB rfl
  have hne := h5.ne
  have hs5 := h5.size
  have N5 : Hid (T2 w w5 #[.int .i64 b, .int .i64 d, .slice ap ps.length cp, .int .i64 ttl, .slice am ms.length cm, .slice ag gs.length cg, .slice ar rs.length cr] 36 #[.int .i64 0, .int .i64 0, .slice none 0 0, .int .i64 0, .slice none 0 0, .slice none 0 0, .slice none 0 0] 36) := ⟨h5.bel w.heap.size w (by omega) (by omega) (by omega) (belt N3.out.bel hb4), (hO5 _ (by omega) (by omega)).trans N3.out.ka, (hO5 _ (by omega) (by omega)).trans N3.out.kr⟩
  have HB5 : Hid (Wire.Bk w5 w3.heap.size #[.int .i64 b, .int .i64 d, .slice ap' ps.length ps.length, .int .i64 ttl, .slice (some ⟨gA, 0, none⟩) (ms.length + 1) cA, .slice (some ⟨gB, 0, none⟩) (gs.length + 1) cB, .slice ar' rs.length cr'] 36) := h5.bk
  have HA5 : Hid (BagW gA (gA + 1) w5 (some ⟨gA, 0, none⟩) cA (ms ++ [bgM b d ps look x k])) := h5.bag
  have HG5 : Hid (OwnLs gB (gB + 1) w5 (some ⟨gB, 0, none⟩) (gs.length + 1) (joinL gs look)) := by
    obtain ⟨os, h1, h2⟩ := OwnS.of_owns h5.own
    exact ⟨h1, .inr ⟨gB, rfl, by omega, ⟨Nat.le_refl _, os.row⟩⟩⟩
  have HP5 : Hid (OwnPs p0 p1 w5 ap' ps.length ps) := OP.blocks (fun z a1 a2 a3 => hO5 z a3 (by omega))
  have HR5 : Hid (OwnEs tyRp 45 r0 r1 w5 ar' rs.length rs) := (OR.own (by have := HGL.out; omega)).blocks (fun z a1 a2 a3 => hO5 z a3 (by omega))
  have HIN : Hid (((m0 ≤ gA ∧ gA < m1) ∨ w4.heap.size ≤ gA) ∧ w4.heap.size ≤ gB ∧ gB < w5.heap.size ∧ ¬ gA = gB ∧ gA < w5.heap.size ∧ w4.heap.size = w3.heap.size + 1) := ⟨hin, hgB.1, hgB.2, hne.1, hne.2, hs4⟩
  clear h5 hin hnb hO5 hgB hne N3 OP OR hzs hzl OB2 hmn hb4 HX4 hagn OG cb4 k1 k2
  obtain ⟨q0, q1, q2, q3, q4, q5, q6⟩ := Wire.Bk.m7 HB5.out
  obtain ⟨r0', r1', r2', r3', r4', r5', r6'⟩ := Wire.Bk.m7 N5.out.kr
  obtain ⟨s0, s1, s2, s3, s4, s5, s6⟩ := Wire.Bk.g7 N5.out.kr
  go_wp2
  have N6 := N5.out.res 0 [.int .i64 b, .int .i64 d, .slice ap' ps.length ps.length, .int .i64 ttl, .slice (some ⟨gA, 0, none⟩) (ms.length + 1) cA, .slice (some ⟨gB, 0, none⟩) (gs.length + 1) cB, .slice ar' rs.length cr']
  rw [ovrE] at N6
  have hsz := Wire.setL_size (g := w.heap.size + 1) [.int .i64 b, .int .i64 d, .slice ap' ps.length ps.length, .int .i64 ttl, .slice (some ⟨gA, 0, none⟩) (ms.length + 1) cA, .slice (some ⟨gB, 0, none⟩) (gs.length + 1) cB, .slice ar' rs.length cr'] w5 0
  have hoth : ∀ z, ¬ z = w.heap.size + 1 → (Wire.setL w5 (w.heap.size + 1) 0 [.int .i64 b, .int .i64 d, .slice ap' ps.length ps.length, .int .i64 ttl, .slice (some ⟨gA, 0, none⟩) (ms.length + 1) cA, .slice (some ⟨gB, 0, none⟩) (gs.length + 1) cB, .slice ar' rs.length cr']).heap[z]? = w5.heap[z]? := fun z hz => Wire.setL_oth hz _ _ _
  have hl1 : (ms ++ [bgM b d ps look x k]).length = ms.length + 1 := by simp
  have hl2 : (joinL gs look).length = gs.length + 1 := joinL_len gs look
  have hnil : ∀ i, i < (ms ++ [bgM b d ps look x k]).length → ((ms ++ [bgM b d ps look x k]).getD i mg0).l = [] := fun i hi => by
    rw [hl1] at hi
    rw [getD_app _ _ _ _ (by omega)]
    split
    · rename_i h; have hg := HG.out; unfold goodN at hg; simp only [Bool.and_eq_true, decide_eq_true_eq] at hg; exact okMg_l (hg.1.2 i h)
    · rfl
  have hz := HIN.out
  have hgl := HGL.out
  have OE : OwnN w.heap.size (Wire.setL w5 (w.heap.size + 1) 0 [.int .i64 b, .int .i64 d, .slice ap' ps.length ps.length, .int .i64 ttl, .slice (some ⟨gA, 0, none⟩) (ms.length + 1) cA, .slice (some ⟨gB, 0, none⟩) (gs.length + 1) cB, .slice ar' rs.length cr']).heap.size (Wire.setL w5 (w.heap.size + 1) 0 [.int .i64 b, .int .i64 d, .slice ap' ps.length ps.length, .int .i64 ttl, .slice (some ⟨gA, 0, none⟩) (ms.length + 1) cA, .slice (some ⟨gB, 0, none⟩) (gs.length + 1) cB, .slice ar' rs.length cr']) ap' (some ⟨gA, 0, none⟩) (some ⟨gB, 0, none⟩) ar' ps.length (ms ++ [bgM b d ps look x k]).length (joinL gs look).length rs.length ps (ms ++ [bgM b d ps look x k]) (joinL gs look) rs := by
    rw [hsz]
    refine ⟨⟨p0, p1, gA, gA + 1, gB, gB + 1, r0, r1, by omega, by omega, HP5.out.blocks (fun z a1 a2 _ => hoth z (by omega)), (HA5.out.own (by omega) hnil).blocks (fun z a1 a2 _ => hoth z (by omega)), ?_, HR5.out.blocks (fun z a1 a2 _ => hoth z (by omega))⟩⟩
    rw [hl2]
    exact HG5.out.blocks (fun z a1 a2 _ => hoth z (by omega))
  refine bodyPost_ret (results_cell_tmp Tryz.results32 _ _ (w.heap.size + 1) _ _ _ _ _ rfl rfl N6.kr Tryz.underlying36 rfl (by kernel_rfl)) rfl ?_
  exact ⟨ap', some ⟨gA, 0, none⟩, some ⟨gB, 0, none⟩, ar', ps.length, cA, cB, cr', by simp only [hl1, hl2]; rfl, OE, N6.bel⟩
end Go.Proofs.YtdceimnapbblnaaGreat
namespace Go.Proofs.YtdceimnapbblnaaGreat
open Go.RowKit Go.Deep
set_option linter.unusedVariables false
set_option linter.unusedSimpArgs false
set_option maxRecDepth 100000 in
set_option maxHeartbeats 1600000 in
theorem lput_e (bk off cap : Nat) (x : Int) (w : World) :
    Calls Tryz.prog 86 #[.slice (some ⟨bk, off, none⟩) 0 cap, .int .i64 x] w fun e w' => ∃ v, e = .returned v ∧ OwnM w.heap.size w' v [x] ∧ Below w.heap.size w w' := by
  obtain ⟨i0, hi, hz0, hz1, hz2⟩ := info_parts'
  have own0 : Hid ((w.alloc (.cells #[] 3)).ownsRow w.heap.size 3 1 (.slice (some ⟨w.heap.size, 0, none⟩) 0 0) 0 []) := own_lit0 w
  have HB0 : Hid (Below w.heap.size w (w.alloc (.cells #[] 3))) := (Below.refl _ _).alloc (Nat.le_refl _) _
  obtain ⟨A, hA⟩ : ∃ A : Addr, (if cap = 0 then some (⟨bk, off, none⟩ : Addr) else some ⟨bk, off + 0, none⟩) = some A := by split <;> exact ⟨_, rfl⟩
  have hn : ∀ (w1 : World) (a : Addr), Hid (∀ j u, ([] : List Value)[j]? = some u → w1.cell? (a.add j) = some u) := fun w1 a j u h => by simp at h
  go_enter Tryz.func86, Tryz.ntmps86
  go_wp2_with fail
  go_loop [5] (fun v => v = .int .i64 0) (fun v => 0)
  case atStart => rfl
  case round =>
    subst hrel
    go_wp2_with (first
      | (at_builtin; refine wpList_append_own _ rfl (.tmp 39) (.tmp 41) 30 rfl w.heap.size 3 i0 (.int .i64 0) 1 8 Tryz.underlying30 hi hz0 hz1 hz2 rfl (by decide) _ _ _ rfl (own0.out.alloc _) ⟨w.heap.size + 1, 0, none⟩ 1 1 [.int .i64 x] rfl rfl (by have := cell_one_new (w.alloc (.cells #[] 3)) (.int .i64 x) 3; simpa using this) (by simp [Value.oneCell']) (by unfold maxLen; omega) (by omega) (alloc_size HB0.out) ?_; intro v5 w5 hown5 hgrow5 _; rw [Nat.zero_add, List.nil_append] at hown5; obtain ⟨g5, cp5, rfl⟩ := Joins.ownsRow_form hown5 (Nat.succ_pos _); have HB5 : Hid (Below w.heap.size w w5) := grown_bel (HB0.out.alloc HB0.out.size _) hgrow5 (alloc_size HB0.out) (fun k hk => (own0.out.lt k hk).1); have own5 : Hid (w5.ownsRow w.heap.size 3 1 (.slice (some ⟨g5, 0, none⟩) 1 cp5) 1 [.int .i64 x]) := hown5; clear hown5 hgrow5)
      | (at_builtin; refine wpList_append_own _ rfl (.tmp 43) (.tmp 46) 30 rfl w.heap.size 3 i0 (.int .i64 0) 1 8 Tryz.underlying30 hi hz0 hz1 hz2 rfl (by decide) _ _ _ rfl own5.out ⟨bk, off, none⟩ 0 cap [] rfl rfl (hn _ _).out (by simp) (by unfold maxLen; omega) (by omega) HB5.out.size ?_; intro v6 w6 hown6 hgrow6 _; rw [Nat.add_zero, List.append_nil] at hown6; have HB6 : Hid (Below w.heap.size w w6) := grown_bel HB5.out hgrow6 HB5.out.size (fun k hk => (own5.out.lt k hk).1); have own6 : Hid (w6.ownsRow w.heap.size 3 1 v6 1 [.int .i64 x]) := hown6; clear hown6 hgrow6))
    go_ret
    exact ⟨_, rfl, own6.out, HB6.out⟩
end Go.Proofs.YtdceimnapbblnaaGreat
namespace Go.Proofs.YtdceimnapbblnaaGreat
open Go.RowKit Go.Deep
set_option linter.unusedVariables false
set_option linter.unusedSimpArgs false
theorem own_lit5 (w : World) (t : TypeId) : (w.alloc (.cells #[] t)).ownsRow w.heap.size t 5 (.slice (some ⟨w.heap.size, 0, none⟩) 0 0) 0 [] :=
  World.ownsRow_lit w #[] 0 (Nat.le_refl _) (Nat.zero_le _) rfl
/-- a row of replies owns one block -/
theorem rowR_own1 {w : World} {B n z0 : Nat} {v : Value} {xs : List Value} {rs : List Rp} (h : w.ownsRow B 45 5 v n xs) (hn : rs.length = n) (hm : n ≤ 1048576) (hx : RowR xs rs) (hz : z0 < w.heap.size) :
    ∃ a c z, v = .slice a n c ∧ OwnEs tyRp 45 z (z + 1) w a n rs ∧ (z = z0 ∨ v.ownBlock = some z) ∧ z < w.heap.size := by
  subst hn
  rcases Joins.ownsRow_forms h with ⟨h1, h2⟩ | ⟨g, cap, rfl⟩
  · exact ⟨none, 0, z0, by rw [h1, h2], ⟨rfl, hm, .inl (List.length_eq_zero_iff.1 h2)⟩, .inl rfl, hz⟩
  · obtain ⟨⟨cur, hcur⟩, hc, hb⟩ := owns_cells h
    have hgl : g < w.heap.size := (Array.getElem?_eq_some_iff.1 hcur).1
    by_cases h0 : rs.length = 0
    · exact ⟨_, cap, z0, rfl, ⟨rfl, hm, .inl (List.length_eq_zero_iff.1 h0)⟩, .inl rfl, hz⟩
    refine ⟨_, cap, g, rfl, ⟨rfl, hm, .inr ⟨g, g :: (List.replicate rs.length ([] : List Nat)).flatten, cap, rfl, by simp, ?_⟩⟩, .inr rfl, hgl⟩
    refine ⟨_, cap, rfl, hm, hc, fun hh => (by cases hh), .inr ⟨g, cur, List.replicate rs.length [], rfl, Nat.le_refl _, Nat.lt_succ_self _, hcur, List.length_replicate, rfl, fun i hi => ?_⟩⟩
    have hF : (List.replicate rs.length ([] : List Nat)).getD i [] = [] := rep_get _ _
    rw [hF]
    refine ⟨rpV (rs.getD i rp0), fun j u hj => ?_, rfl, rfl⟩
    have hjl : j < 5 := by have := (List.getElem?_eq_some_iff.1 hj).1; simpa [rpV] using this
    have hlt : i * 5 + j < rs.length * 5 := by
      have : (i + 1) * 5 ≤ rs.length * 5 := Nat.mul_le_mul_right _ hi
      omega
    exact (h.cellAt (i * 5 + j) hlt).trans (hx.el i hi j u hj)
/-- 'append([]Reply{}, rs...)' -/
theorem wp_append_rep {w : World} {o : Oper} {a : Act} {K : Act → World → Prop} {Q : Exit → Act → World → Prop} (s x : Operand)
    (ho : o.op = .call { callee := .builtin .append, args := #[s, x], argTypes := #[34, 34] })
    (Z : Nat) (hs : a.eval s = .slice (some ⟨Z, 0, none⟩) 0 0) (hown : w.ownsRow Z 45 5 (.slice (some ⟨Z, 0, none⟩) 0 0) 0 []) (hzl : Z < w.heap.size)
    (ar : Option Addr) (cr : Nat) (rs : List Rp) (hx : a.eval x = .slice ar rs.length cr) (hr : LsAt tyRp w ar rs) (hcr : ar = none → cr = 0) (hrl : rs.length ≤ 1048576)
    (h : ∀ aA cA w' z, OwnEs tyRp 45 z (z + 1) w' aA rs.length rs → (z = Z ∨ w.heap.size ≤ z) → z < w'.heap.size → (∀ k, k < w.heap.size → ¬ k = Z → w'.heap[k]? = w.heap[k]?) → Gw w w' (.slice (some ⟨Z, 0, none⟩) 0 0) (.slice aA rs.length cA) → K (a.put o.dst (.slice aA rs.length cA)) w') : o.wp Tryz.prog a w K Q := by
  obtain ⟨i0, hi, hz0, hz1, hz2⟩ := info_replyE
  cases ar with
  | none =>
    have he : rs = [] := lsAt_none hr
    have hc := hcr rfl
    subst he hc
    exact wp_append_none _ _ 34 ho Z 45 i0 5 Tryz.underlying34 hi _ 0 [] hs hown hx (h _ _ w Z (ownEs_nil _ _ _ _ _ _) (.inl rfl) hzl (fun _ _ _ => rfl) (Gw.refl _ _))
  | some ad =>
    obtain ⟨xs, hrow, hcell, hone⟩ := reps_src hr
    refine wp_append_gw _ _ _ 34 ho Z 45 i0 _ 5 40 Tryz.underlying34 hi hz0 hz1 hz2 rfl (by decide) _ 0 [] hs hown ad rs.length cr xs hx hrow.len hcell hone (by unfold maxLen; omega) (by omega) (by omega) ?_
    intro v5 w5 hw hg
    rw [Nat.zero_add, List.nil_append] at hw
    have hsz := hg.size
    obtain ⟨aA, cA, z, rfl, ho1, ho2, ho3⟩ := rowR_own1 (z0 := Z) hw rfl (by omega) hrow (by omega)
    refine h aA cA w5 z ho1 ?_ ho3 (fun k h1 h2 => hg.block k h1 (by simp [Value.ownBlock]; omega)) hg
    rcases ho2 with h2 | h2
    · exact .inl h2
    · rcases hg.own with h3 | h3
      · rw [h3] at h2; simp [Value.ownBlock] at h2; exact .inl h2.symm
      · exact .inr (h3 z h2)
/-- the copy: peers, looks and replies in memory of their own -/
structure CS (w0 wc : World) (X p0 p1 g0 g1 z : Nat) (av gv rv : Option Addr) (b d ttl : Int) (ps : List Pr) (gs : List Int) (rs : List Rp) (cp cg cr : Nat) (vb : Value) : Prop where
  bel : Below w0.heap.size w0 wc
  bx : Wire.Bk wc X #[.int .i64 b, .int .i64 d, .slice av ps.length cp, .int .i64 ttl, vb, .slice gv gs.length cg, .slice rv rs.length cr] 36
  num : w0.heap.size ≤ X ∧ w0.heap.size ≤ p0 ∧ p0 ≤ p1 ∧ p1 ≤ wc.heap.size ∧ w0.heap.size ≤ g0 ∧ g0 ≤ g1 ∧ g1 ≤ wc.heap.size ∧ w0.heap.size ≤ z ∧ z < wc.heap.size ∧ (X < p0 ∨ p1 ≤ X) ∧ (X < g0 ∨ g1 ≤ X) ∧ (p1 ≤ g0 ∨ g1 ≤ p0) ∧ (z < p0 ∨ p1 ≤ z) ∧ (z < g0 ∨ g1 ≤ z) ∧ ¬ z = X
  op : OwnPs p0 p1 wc av ps.length ps
  og : OwnLs g0 g1 wc gv gs.length gs
  orr : OwnEs tyRp 45 z (z + 1) wc rv rs.length rs
  cgl : gs.length ≤ cg
  gss : ∃ g, gv = some ⟨g, 0, none⟩
theorem CS.keep {w0 wc w1 : World} {X p0 p1 g0 g1 z : Nat} {av gv rv : Option Addr} {b d ttl : Int} {ps : List Pr} {gs : List Int} {rs : List Rp} {cp cg cr : Nat} {vb : Value} (h : CS w0 wc X p0 p1 g0 g1 z av gv rv b d ttl ps gs rs cp cg cr vb) (hb : Below wc.heap.size wc w1) : CS w0 w1 X p0 p1 g0 g1 z av gv rv b d ttl ps gs rs cp cg cr vb :=
  ⟨belt h.bel hb, h.bx.keep hb, by have := h.num; have := hb.size; omega, h.op.keep hb, h.og.keep hb, h.orr.keep hb, h.cgl, h.gss⟩
theorem CS.setb {w0 wc : World} {X p0 p1 g0 g1 z : Nat} {av gv rv : Option Addr} {b d ttl : Int} {ps : List Pr} {gs : List Int} {rs : List Rp} {cp cg cr : Nat} {vb : Value} (h : CS w0 wc X p0 p1 g0 g1 z av gv rv b d ttl ps gs rs cp cg cr vb) (v : Value) : CS w0 (wc.setCell ⟨X, 4, none⟩ v) X p0 p1 g0 g1 z av gv rv b d ttl ps gs rs cp cg cr v := by
  have hn := h.num
  exact ⟨h.bel.setCell (p := ⟨X, 4, none⟩) hn.1 v, h.bx.set 4 v, by simpa [World.setCell] using hn, h.op.blocks (fun k h1 h2 _ => heap_setCell_other _ _ _ _ (by simp; omega)), h.og.blocks (fun k h1 h2 _ => heap_setCell_other _ _ _ _ (by simp; omega)), h.orr.blocks (fun k h1 h2 _ => heap_setCell_other _ _ _ _ (by simp; omega)), h.cgl, h.gss⟩
theorem CS.blk {w0 wc w1 : World} {X p0 p1 g0 g1 z : Nat} {av gv rv : Option Addr} {b d ttl : Int} {ps : List Pr} {gs : List Int} {rs : List Rp} {cp cg cr : Nat} {vb : Value} (h : CS w0 wc X p0 p1 g0 g1 z av gv rv b d ttl ps gs rs cp cg cr vb) (T : Nat) (hT : X < T ∧ p1 ≤ T ∧ g1 ≤ T ∧ z < T ∧ w0.heap.size ≤ T ∧ T ≤ wc.heap.size) (hb : Below w0.heap.size w0 w1) (hs : wc.heap.size ≤ w1.heap.size) (ho : ∀ k, k < T → w1.heap[k]? = wc.heap[k]?) : CS w0 w1 X p0 p1 g0 g1 z av gv rv b d ttl ps gs rs cp cg cr vb :=
  ⟨hb, (ho X (by omega)).trans h.bx, by have := h.num; omega, h.op.blocks (fun k h1 h2 _ => ho k (by omega)), h.og.blocks (fun k h1 h2 _ => ho k (by omega)), h.orr.blocks (fun k h1 h2 _ => ho k (by omega)), h.cgl, h.gss⟩
end Go.Proofs.YtdceimnapbblnaaGreat
