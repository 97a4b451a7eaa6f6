/- FnRoutes: for all bytes that are drawn from, RouteOf, BoundOf and HopsIn answer as the specification; a way that is well asked ends at the owner, or spent with fewer forwards than the bound, its forwards are at most the bound and those that were given, and HopsIn tells them: no condition. -/
import Derived.Test.YtejajlloipkkhaaH3Z
import Derived.Test.YtejajlloipkkhaaH5
import Derived.Test.YtejajlloipkkhaaI0
import Derived.Test.YtejajlloipkkhaaI1
import Derived.Test.YtejajlloipkkhaaI3
import Derived.Test.YtejajlloipkkhaaI4
namespace Go.Proofs.Ytejajlloipkkhaa
open Go.ChangeShapes Go.WideShapes Go.ChangeAt Go.RowKit Go.Deep
set_option linter.unusedVariables false
/-- what the law asks of a way that was well asked -/
structure RtF (b d : Int) (ps : List Pr) (x k t : Int) (V : Wk) (L : List Int) : Prop where
  good : goodP b d ps = true
  hk : numB b d k = true
  fin : V.state = 1 ∧ V.owner = ownI (idsP ps) k ∨ V.state = 2 ∧ t < bndI b d ps.length
  bnd : V.points + V.succs ≤ bndI b d ps.length
  ttl : V.points + V.succs ≤ t
  len : (L.length : Int) = V.points + V.succs + 1
  p0 : 0 ≤ V.points
  s0 : 0 ≤ V.succs
  fst : L.getD 0 0 = x
  t2 : t ≤ 1000
  hop : bndI b d ps.length ≤ t → hopI b d ps k x = V.points + V.succs
  all : ∀ y, hasB (idsP ps) y = true → hopI b d ps k y ≤ bndI b d ps.length
theorem goodP_ring {b d : Int} {ps : List Pr} (h : goodP b d ps = true) : ringB b d (idsP ps) = true := by
  unfold goodP at h
  rw [Bool.and_eq_true] at h
  exact h.1
theorem rtF {b d : Int} {ps : List Pr} {x k t : Int} (h : rtOk b d ps x k t = true) : RtF b d ps x k t (rtV b d ps x k t) (rtP b d ps x k t) := by
  obtain ⟨h1, h2, h3, h4, h5, h6, h7, h8⟩ := way_end h
  have h0 := h
  unfold rtOk at h0
  rw [Bool.and_eq_true] at h0
  have ha := h0.1
  unfold askP at ha
  simp only [Bool.and_eq_true] at ha
  refine ⟨ha.1.1, ha.2, h1, h2, h3, h4, h5, h6, h7, h8, ?_, ?_⟩
  · intro hb
    unfold hopI
    rw [way_more h hb]
  · intro y hy
    have hq : rtOk b d ps y k 1000 = true := by
      unfold rtOk askP
      rw [ha.1.1, hy, ha.2]
      rfl
    obtain ⟨_, g2, _⟩ := way_end hq
    unfold hopI
    rw [show rtW b d ps k 1000 300 (stt b d ps y k) = rtV b d ps y k 1000 by unfold rtV; rw [if_pos hq]]
    exact g2
set_option maxRecDepth 100000 in
set_option maxHeartbeats 12800000 in
/-- what follows behind the first half: BoundOf and HopsIn told alike -/
theorem routes_tail (a a' : Option Addr) (cap cap' nx : Nat) (ys : List Int) (w wc : World) (hm2 : ys.length ≤ 1048576) (hr2 : RowB w a' ys) (bec : Below w.heap.size w wc) (c2 c3 c4 c5 c6 c7 c8 c9 c10 c11 c12 c13 c14 c15 c16 c17 c18 c19 c20 c21 c22 c23 c24 c25 c26 c27 c28 c29 c30 c31 c32 c33 c34 c35 c36 c37 c38 c39 c40 c41 c42 c43 c44 c45 c46 c47 c48 c49 c50 c51 c52 c53 c54 c55 c56 c57 c58 c59 c60 c61 c62 c63 c64 c65 c66 c67 c68 c69 c70 c71 c72 c73 c74 c75 c76 c77 c78 c79 c80 c81 c82 c83 c84 c85 c86 c87 c88 c89 c90 c91 c92 c93 c94 c95 c96 c97 c98 c99 c100 c101 c102 c103 c104 c105 c106 c107 c108 c109 c110 c111 c112 c113 c114 c115 c116 c117 c118 c119 c120 c121 c122 c123 c124 c125 c126 c127 c128 c129 c130 c131 c132 c133 c134 c135 c136 c137 c138 c139 c140 c141 c142 c143 c144 c145 c146 c147 c148 c149 c150 c151 c152 c153 c154 c155 c156 c157 c158 c159 c160 c161 c162 c163 c164 c165 c166 c167 c168 c169 c170 c171 c172 c173 c174 c175 c176 c177 c178 c179 c180 c181 c182 c183 c184 c185 c186 c187 c188 c189 c190 c191 c192 c193 c194 c195 c196 c197 c198 c199 c200 c201 c202 c203 c204 c205 c206 c207 c208 c209 c210 c211 c212 c213 c214 c215 c216 c217 c218 c219 c220 c221 c222 c223 c224 c225 c226 c227 c228 c229 c230 c231 c232 c233 c234 c235 c236 c237 c238 c239 c240 c241 c242 c243 c244 c245 c246 c247 c248 c249 c250 c251 c252 c253 c254 c255 c256 c257 c258 c259 c260 c261 c262 c263 c264 c265 c266 : Value) :
    Code.wp Try.prog ((Try.f3.body.bind (codeFrom 23)).getD .skip) (bodyPost Try.prog Try.f3 fun e w' => e = .returned (.bool true) ∧ Below w.heap.size w w') ⟨#[.slice a nx cap, .slice a' ys.length cap', c2, c3, c4, c5, c6, c7, c8, c9, c10, c11, c12, c13, c14, c15, c16, c17, c18, c19, c20, c21, c22, c23, c24, c25, c26, c27, c28, c29, c30, c31, c32, c33, c34, c35, c36, c37, c38, c39, c40, c41, c42, c43, c44, c45, c46, c47, c48, c49, c50, c51, c52, c53, c54, c55, c56, c57, c58, c59, c60, c61, c62, c63, c64, c65, c66, c67, c68, c69, c70, c71, c72, c73, c74, c75, c76, c77, c78, c79, c80, c81, c82, c83, c84, c85, c86, c87, c88, c89, c90, c91, c92, c93, c94, c95, c96, c97, c98, c99, c100, c101, c102, c103, c104, c105, c106, c107, c108, c109, c110, c111, c112, c113, c114, c115, c116, c117, c118, c119, c120, c121, c122, c123, c124, c125, c126, c127, c128, c129, c130, c131, c132, c133, c134, c135, c136, c137, c138, c139, c140, c141, c142, c143, c144, c145, c146, c147, c148, c149, c150, c151, c152, c153, c154, c155, c156, c157, c158, c159, c160, c161, c162, c163, c164, c165, c166, c167, c168, c169, c170, c171, c172, c173, c174, c175, c176, c177, c178, c179, c180, c181, c182, c183, c184, c185, c186, c187, c188, c189, c190, c191, c192, c193, c194, c195, c196, c197, c198, c199, c200, c201, c202, c203, c204, c205, c206, c207, c208, c209, c210, c211, c212, c213, c214, c215, c216, c217, c218, c219, c220, c221, c222, c223, c224, c225, c226, c227, c228, c229, c230, c231, c232, c233, c234, c235, c236, c237, c238, c239, c240, c241, c242, c243, c244, c245, c246, c247, c248, c249, c250, c251, c252, c253, c254, c255, c256, c257, c258, c259, c260, c261, c262, c263, c264, c265, c266], []⟩ wc := by
  conv => arg 2; whnf
  have HR2 : Hid (RowB w a' ys) := hr2
  have BEC : Hid (Below w.heap.size w wc) := bec
  clear hr2 bec
  go_wp2_with fail
  refine (drawBoundOf_any _ _ ys _ hm2 (HR2.out.keep BEC.out)).mono ?_
  rintro e w11 ⟨b2, d2, ap2, cp2, ps2, rfl, ow2, l162, hb2⟩
  have HQ1 : Hid (PeersAt w11 ap2 ps2) := ow2.peersAt
  have BF1 : Hid (Below w.heap.size w w11) := belt BEC.out hb2
  clear ow2 hb2 BEC
  have CB1 := BoundOf_any b2 d2 ap2 cp2 ps2 (w11.alloc (.cells #[.int .i64 b2, .int .i64 d2, .slice ap2 ps2.length cp2] 28)) (by omega) (HQ1.out.keep (belA _ _))
  go_wp2_with fail
  refine CB1.mono ?_
  rintro e w12 ⟨rfl, HW⟩
  have BQ2 : Hid (BxV w11 w12 #[.int .i64 b2, .int .i64 d2, .slice ap2 ps2.length cp2] 28) := bxV1 HW
  have B2 : Hid (Below w11.heap.size w11 w12) := belt (belA _ _) HW
  obtain ⟨p0, p1, p2⟩ := BQ2.out.c3
  have CB2 := lBoundOf_any b2 d2 ap2 cp2 ps2 w12 (by omega) (HQ1.out.keep B2.out)
  clear HW CB1
  go_wp2_with fail
  refine CB2.mono ?_
  rintro e w13 ⟨rfl, HW⟩
  have BF3 : Hid (Below w.heap.size w w13) := belt BF1.out (belt B2.out HW)
  clear HW CB2 BQ2 B2 BF1 HQ1 p0 p1 p2
  generalize bndV b2 d2 ps2 = nb
  generalize goodP b2 d2 ps2 = gb
  go_wp2_with fail
  refine (drawHopsIn_any _ _ ys _ hm2 (HR2.out.keep BF3.out)).mono ?_
  clear l162
  rintro e w14 ⟨b3, d3, ap3, cp3, ps3, k3, rfl, ow3, l163, hb3⟩
  have HQ4 : Hid (PeersAt w14 ap3 ps3) := ow3.peersAt
  have BF4 : Hid (Below w.heap.size w w14) := belt BF3.out hb3
  clear ow3 hb3 BF3
  have CH1 := HopsIn_own b3 d3 ap3 cp3 ps3 k3 (w14.alloc (.cells #[.int .i64 b3, .int .i64 d3, .slice ap3 ps3.length cp3] 28)) (by omega) (HQ4.out.keep (belA _ _))
  go_wp2_with fail
  refine CH1.mono ?_
  rintro e w15 ⟨a5, n5, c5, rfl, hn5, o5, HW⟩
  have BQ5 : Hid (BxV w14 w15 #[.int .i64 b3, .int .i64 d3, .slice ap3 ps3.length cp3] 28) := bxV1 HW
  have B5 : Hid (Below w14.heap.size w14 w15) := belt (belA _ _) HW
  have HR5 : Hid (RowAt w15 a5 (hopL b3 d3 ps3 k3)) := o5.rowAt
  subst hn5
  obtain ⟨p0, p1, p2⟩ := BQ5.out.c3
  have CH2 := lHopsIn_own b3 d3 ap3 cp3 ps3 k3 w15 (by omega) (HQ4.out.keep B5.out)
  clear HW CH1 o5
  go_wp2_with fail
  refine CH2.mono ?_
  rintro e w16 ⟨a6, n6, c6, rfl, hn6, r6, HW⟩
  subst hn6
  have BF6 : Hid (Below w.heap.size w w16) := belt BF4.out (belt B5.out HW)
  have CI2 := sameInts_any a5 a6 c5 c6 (hopL b3 d3 ps3 k3) (hopL b3 d3 ps3 k3) w16 (by unfold maxLen; have := hopL_big b3 d3 ps3 k3; omega) (HR5.out.keep HW) r6
  rw [show sameB (hopL b3 d3 ps3 k3) (hopL b3 d3 ps3 k3) = true from decide_eq_true rfl] at CI2
  have e1 : (gb == gb) = true := by simp
  have e2 : (nb == nb) = true := by simp
  have e3 : (hopOk b3 d3 ps3 k3 == hopOk b3 d3 ps3 k3) = true := by simp
  clear HW r6 HR5 BQ5 B5 HQ4 BF4 CH2 p0 p1 p2
  go_wp2_with fail
  refine CI2.mono ?_
  rintro e w17 ⟨rfl, HW⟩
  have BF7 : Hid (Below w.heap.size w w17) := belt BF6.out HW
  go_wp2
  go_ret
  exact ⟨rfl, BF7.out⟩
set_option maxRecDepth 100000 in
set_option maxHeartbeats 12800000 in
/-- how far it is from each member, held against the way that was gone -/
theorem routes_loop (b d : Int) (ap : Option Addr) (cp : Nat) (ps : List Pr) (x k t O B : Int) (am : Option Addr) (cm : Nat) (X1 X2 : Nat) (va vi vl vp vs vt vo : Int) (wc : World) (Q0 : Exit → Act → World → Prop)
    (kp : Bk wc X1 #[.int .i64 b, .int .i64 d, .slice ap ps.length cp] 28) (kv : Bk wc X2 #[.int .i64 va, .int .i64 vi, .int .i64 vl, .int .i64 vp, .int .i64 vs, .int .i64 vt, .int .i64 vo] 32) (hp : PeersAt wc ap ps) (hm : RowAt wc am (idsP ps))
    (CHP : ∀ wq, PeersAt wq ap ps → Calls Try.prog 20 #[.agg #[.int .i64 b, .int .i64 d, .slice ap ps.length cp], .int .i64 k] wq fun e w' => ∃ a' n c, e = .returned (.tuple #[.slice a' n c, .bool true]) ∧ ps.length = n ∧ RowAt w' a' ((idsP ps).map (hopI b d ps k)) ∧ Below wq.heap.size wq w')
    (l16 : ps.length ≤ 16) (ttl : vp + vs ≤ t) (vp0 : 0 ≤ vp) (vs0 : 0 ≤ vs) (t2 : t ≤ 1000) (hall : ∀ j, j < ps.length → hopI b d ps k ((idsP ps).getD j 0) ≤ B) (hop : B ≤ t → hopI b d ps k x = vp + vs) (c0 c1 c2 c3 c4 c10 c11 c12 c13 c14 c16 c17 c18 c20 c21 c22 c23 c24 c25 c26 c27 c28 c29 c30 c31 c32 c33 c34 c35 c36 c37 c38 c39 c40 c41 c42 c43 c44 c45 c46 c47 c48 c49 c50 c51 c52 c53 c54 c55 c56 c57 c58 c59 c60 c61 c62 c63 c64 c65 c66 c67 c68 c69 c70 c71 c72 c73 c74 c75 c76 c77 c78 c79 c80 c81 c82 c83 c84 c85 c86 c87 c88 c89 c90 c91 c92 c93 c94 c95 c96 c97 c98 c99 c100 c101 c102 c103 c104 c105 c106 c107 c108 c109 c110 c111 c112 c113 c114 c115 c116 c117 c118 c119 c120 c121 c122 c123 c124 c125 c126 c127 c128 c129 c130 c131 c132 c133 c134 c135 c136 c137 c138 c139 c140 c141 c142 c143 c144 c145 c146 c147 c148 c149 c150 c151 c152 c153 c154 c155 c156 c157 c158 c159 c160 c161 c162 c163 c164 c165 c166 c167 c168 c169 c170 c171 c172 c173 c174 c175 c176 c177 c178 c179 c180 c181 c182 c183 c184 c185 c186 c187 c188 c189 c190 c191 c192 c193 c194 c195 c196 c197 c198 c199 c200 c201 c202 c203 c204 c205 c206 c207 c208 c209 c210 c211 c212 c213 c214 c215 c216 c217 c218 c219 c220 c221 c222 c223 c224 c225 c226 c227 c228 c229 c230 c231 c232 c233 c234 c235 c236 c237 c238 c239 c240 c241 c242 c243 c244 c245 c246 c247 c248 c249 c250 c251 c252 c253 c254 c255 c256 c257 c258 c259 c260 c261 c262 c263 c264 c265 c266 : Value)
    (hexit : ∀ (e4 e21 e22 e23 e24 e169 e170 e171 e172 e173 e174 e175 e176 e177 e178 e179 e180 e181 e182 e183 e184 e185 e186 e187 e188 e189 e190 e191 e192 e193 e194 e195 e196 e197 e198 e199 e200 e201 e202 e203 e204 e205 e206 e207 e208 e209 e210 e211 e212 e213 e214 e215 e216 e217 e218 e219 : Value) (w' : World), Below wc.heap.size wc w' → Q0 .normal ⟨#[c0, c1, c2, c3, e4, .pointer (some ⟨X1, 0, none⟩), .int .i64 x, .int .i64 k, .int .i64 t, .pointer (some ⟨X2, 0, none⟩), c10, c11, c12, c13, c14, .slice am ps.length cm, c16, c17, c18, .int .i64 B, c20, e21, e22, e23, e24, c25, c26, c27, c28, c29, c30, c31, c32, c33, c34, c35, c36, c37, c38, c39, c40, c41, c42, c43, c44, c45, c46, c47, c48, c49, c50, c51, c52, c53, c54, c55, c56, c57, c58, c59, c60, c61, c62, c63, c64, c65, c66, c67, c68, c69, c70, c71, c72, c73, c74, c75, c76, c77, c78, c79, c80, c81, c82, c83, c84, c85, c86, c87, c88, c89, c90, c91, c92, c93, c94, c95, c96, c97, c98, c99, c100, c101, c102, c103, c104, c105, c106, c107, c108, c109, c110, c111, c112, c113, c114, c115, c116, c117, c118, c119, c120, c121, c122, c123, c124, c125, c126, c127, c128, c129, c130, c131, c132, c133, c134, c135, c136, c137, c138, c139, c140, c141, c142, c143, c144, c145, c146, c147, c148, c149, c150, c151, c152, c153, c154, c155, c156, c157, c158, c159, c160, c161, c162, c163, c164, c165, c166, c167, c168, e169, e170, e171, e172, e173, e174, e175, e176, e177, e178, e179, e180, e181, e182, e183, e184, e185, e186, e187, e188, e189, e190, e191, e192, e193, e194, e195, e196, e197, e198, e199, e200, e201, e202, e203, e204, e205, e206, e207, e208, e209, e210, e211, e212, e213, e214, e215, e216, e217, e218, e219, c220, c221, c222, c223, c224, c225, c226, c227, c228, c229, c230, c231, c232, c233, c234, c235, c236, c237, c238, c239, c240, c241, c242, c243, c244, c245, c246, c247, c248, c249, c250, c251, c252, c253, c254, c255, c256, c257, c258, c259, c260, c261, c262, c263, c264, c265, c266], []⟩ w') :
    Code.wp Try.prog ((Try.f3.body.bind (codeFrom 14)).getD .skip) Q0 ⟨#[c0, c1, c2, c3, c4, .pointer (some ⟨X1, 0, none⟩), .int .i64 x, .int .i64 k, .int .i64 t, .pointer (some ⟨X2, 0, none⟩), c10, c11, c12, c13, c14, .slice am ps.length cm, c16, c17, c18, .int .i64 B, c20, c21, c22, c23, c24, c25, c26, c27, c28, c29, c30, c31, c32, c33, c34, c35, c36, c37, c38, c39, c40, c41, c42, c43, c44, c45, c46, c47, c48, c49, c50, c51, c52, c53, c54, c55, c56, c57, c58, c59, c60, c61, c62, c63, c64, c65, c66, c67, c68, c69, c70, c71, c72, c73, c74, c75, c76, c77, c78, c79, c80, c81, c82, c83, c84, c85, c86, c87, c88, c89, c90, c91, c92, c93, c94, c95, c96, c97, c98, c99, c100, c101, c102, c103, c104, c105, c106, c107, c108, c109, c110, c111, c112, c113, c114, c115, c116, c117, c118, c119, c120, c121, c122, c123, c124, c125, c126, c127, c128, c129, c130, c131, c132, c133, c134, c135, c136, c137, c138, c139, c140, c141, c142, c143, c144, c145, c146, c147, c148, c149, c150, c151, c152, c153, c154, c155, c156, c157, c158, c159, c160, c161, c162, c163, c164, c165, c166, c167, c168, c169, c170, c171, c172, c173, c174, c175, c176, c177, c178, c179, c180, c181, c182, c183, c184, c185, c186, c187, c188, c189, c190, c191, c192, c193, c194, c195, c196, c197, c198, c199, c200, c201, c202, c203, c204, c205, c206, c207, c208, c209, c210, c211, c212, c213, c214, c215, c216, c217, c218, c219, c220, c221, c222, c223, c224, c225, c226, c227, c228, c229, c230, c231, c232, c233, c234, c235, c236, c237, c238, c239, c240, c241, c242, c243, c244, c245, c246, c247, c248, c249, c250, c251, c252, c253, c254, c255, c256, c257, c258, c259, c260, c261, c262, c263, c264, c265, c266], []⟩ wc := by
  conv => arg 2; whnf
  have hil : (idsP ps).length = ps.length := idsP_len ps
  have BP8 : Hid (Bk wc X1 #[.int .i64 b, .int .i64 d, .slice ap ps.length cp] 28) := kp
  have BV8 : Hid (Bk wc X2 #[.int .i64 va, .int .i64 vi, .int .i64 vl, .int .i64 vp, .int .i64 vs, .int .i64 vt, .int .i64 vo] 32) := kv
  have HP8 : Hid (PeersAt wc ap ps) := hp
  have HM8 : Hid (RowAt wc am (idsP ps)) := hm
  have HALL : Hid (∀ j, j < ps.length → hopI b d ps k ((idsP ps).getD j 0) ≤ B) := hall
  have HOP : Hid (B ≤ t → hopI b d ps k x = vp + vs) := hop
  have HEX : Hid _ := hexit
  clear kp kv hp hm hall hop hexit
  obtain ⟨p0, p1, p2⟩ := Bk.c3 BP8.out
  go_wp2_with fail
  refine (CHP _ HP8.out).mono ?_
  rintro e w9 ⟨ah, nh, ch, rfl, hnh, rh, HW⟩
  have hnh := hnh.symm
  subst hnh
  have BV9 : Hid (Bk w9 X2 #[.int .i64 va, .int .i64 vi, .int .i64 vl, .int .i64 vp, .int .i64 vs, .int .i64 vt, .int .i64 vo] 32) := BV8.out.keep HW
  have B89 : Hid (Below wc.heap.size wc w9) := HW
  have HM9 : Hid (RowAt w9 am (idsP ps)) := HM8.out.keep HW
  have HH9 : Hid (RowAt w9 ah ((idsP ps).map (hopI b d ps k))) := rh
  clear HW rh CHP p0 p1 p2 BP8 BV8 HP8 HM8 hnh
  have dl : ((ps.length : Int) != (ps.length : Int)) = false := by simp
  go_wp2_with fail
  go_loopw [186] (fun vi wr => ∃ j : Nat, j ≤ ps.length ∧ vi = .int .i64 j ∧ Hid (Below w9.heap.size w9 wr)) (fun vi _ => ps.length - (intOf vi).toNat)
  case atStart => exact ⟨0, Nat.zero_le _, rfl, Below.refl _ _⟩
  case round =>
    obtain ⟨j, hj, rfl, BL⟩ := hrel
    by_cases hlt : j < ps.length
    · obtain ⟨bm, om, rfl⟩ := rowAt_form HM9.out (by omega)
      obtain ⟨bh, oh, rfl⟩ := rowAt_form HH9.out (by rw [List.length_map]; omega)
      have cm0 := (rowAt_cell (HM9.out.keep BL.out) (by omega)).2 j (by omega)
      have ch0 := (rowAt_cell (HH9.out.keep BL.out) (by rw [List.length_map]; omega)).2 j (by rw [List.length_map]; omega)
      have hgm : ((idsP ps).map (hopI b d ps k)).getD j 0 = hopI b d ps k ((idsP ps).getD j 0) := by
        have h1 : j < (idsP ps).length := by omega
        simp [List.getD_eq_getElem?_getD, List.getElem?_map, List.getElem?_eq_getElem h1]
      rw [hgm] at ch0
      have hal := HALL.out j hlt
      obtain ⟨v0, v1, v2, v3, v4, v5, v6⟩ := Bk.c7 (BV9.out.keep BL.out)
      have hd1 : decide (B < hopI b d ps k ((idsP ps).getD j 0)) = false := decide_eq_false (by omega)
      have k3 : ∀ q : Kin wr.heap.size wr, q.v.cell? ⟨X2, 3, none⟩ = some (.int .i64 vp) := kin_cell (BV9.out.keep BL.out).lt v3
      have k4 : ∀ q : Kin wr.heap.size wr, q.v.cell? ⟨X2, 4, none⟩ = some (.int .i64 vs) := kin_cell (BV9.out.keep BL.out).lt v4
      have kh : ∀ q : Kin wr.heap.size wr, q.v.cell? ⟨bh, oh + j, none⟩ = some (.int .i64 (hopI b d ps k ((idsP ps).getD j 0))) := kin_cell (rowAt_cell (HH9.out.keep BL.out) (by rw [List.length_map]; omega)).1 ch0
      by_cases hyx : (idsP ps).getD j 0 = x
      · have hh : B ≤ t → (hopI b d ps k ((idsP ps).getD j 0) != vp + vs) = false := fun h => by rw [hyx, HOP.out h]; simp
        have hyx' : ((idsP ps).getD j 0 == x) = true := by simpa using hyx
        clear hyx hgm hal
        generalize hopI b d ps k ((idsP ps).getD j 0) = z at *
        generalize (idsP ps).getD j 0 = y at *
        by_cases hB : B ≤ t
        · have hB' : decide (B ≤ t) = true := decide_eq_true hB
          have hz := hh hB
          clear hh
          go_upto_region 20 with (fail)
          clear cm0 v0 v1 v2 v3 v4 v5 v6 ch0
          refine region_kin wr.heap.size (by kernel_rfl) (by kernel_rfl) (fun hne => ?_)
          repeat (go_big_quiet_step (fail))
          refine wpQuiet_nil ?_
          intro wv hw'
          obtain ⟨⟨wu, hwv⟩, hw''⟩ := hw'
          obtain rfl : wv = wu := hw''
          have BL2 : Hid (Below w9.heap.size w9 wv) := belt BL.out hwv
          clear k3 k4 kh hne hwv BL
          go_wp2_with fail
          go_roundw
          case rel => exact ⟨j + 1, by omega, by go_num, BL2⟩
          case measure => simp [intOf]; omega
        · have hB' : decide (B ≤ t) = false := decide_eq_false hB
          clear hh
          go_upto_region 20 with (fail)
          clear cm0 v0 v1 v2 v3 v4 v5 v6 ch0
          refine region_kin wr.heap.size (by kernel_rfl) (by kernel_rfl) (fun hne => ?_)
          repeat (go_big_quiet_step (fail))
          refine wpQuiet_nil ?_
          intro wv hw'
          obtain ⟨⟨wu, hwv⟩, hw''⟩ := hw'
          obtain rfl : wv = wu := hw''
          have BL2 : Hid (Below w9.heap.size w9 wv) := belt BL.out hwv
          clear k3 k4 kh hne hwv BL
          go_wp2_with fail
          go_roundw
          case rel => exact ⟨j + 1, by omega, by go_num, BL2⟩
          case measure => simp [intOf]; omega
      · have hyx' : ((idsP ps).getD j 0 == x) = false := by simpa using hyx
        clear hyx hgm hal
        generalize hopI b d ps k ((idsP ps).getD j 0) = z at *
        generalize (idsP ps).getD j 0 = y at *
        go_upto_region 20 with (fail)
        clear cm0 v0 v1 v2 v3 v4 v5 v6 ch0
        refine region_kin wr.heap.size (by kernel_rfl) (by kernel_rfl) (fun hne => ?_)
        repeat (go_big_quiet_step (fail))
        refine wpQuiet_nil ?_
        intro wv hw'
        obtain ⟨⟨wu, hwv⟩, hw''⟩ := hw'
        obtain rfl : wv = wu := hw''
        have BL2 : Hid (Below w9.heap.size w9 wv) := belt BL.out hwv
        clear k3 k4 kh hne hwv BL
        go_wp2_with fail
        go_roundw
        case rel => exact ⟨j + 1, by omega, by go_num, BL2⟩
        case measure => simp [intOf]; omega
    · go_wp2_with fail
      exact HEX.out _ _ _ _ _ _ _ _ _ _ _ _ _ _ _ _ _ _ _ _ _ _ _ _ _ _ _ _ _ _ _ _ _ _ _ _ _ _ _ _ _ _ _ _ _ _ _ _ _ _ _ _ _ _ _ _ wr (belt B89.out BL.out)
set_option maxRecDepth 100000 in
set_option maxHeartbeats 12800000 in
/-- what is asked of a way holds -/
theorem routes_test (x t O B : Int) (L : List Int) (c2' X2 bk2 off2 : Nat) (va vi vl vp vs vt vo : Int) (w8 : World) (Q0 : Exit → Act → World → Prop)
    (kv : Bk w8 X2 #[.int .i64 va, .int .i64 vi, .int .i64 vl, .int .i64 vp, .int .i64 vs, .int .i64 vt, .int .i64 vo] 32) (hg : RowAt w8 (some ⟨bk2, off2, none⟩) L) (fin : vt = 1 ∧ vo = O ∨ vt = 2 ∧ t < B) (bnd : vp + vs ≤ B) (ttl : vp + vs ≤ t) (len : (L.length : Int) = vp + vs + 1) (vp0 : 0 ≤ vp) (vs0 : 0 ≤ vs) (fst : L.getD 0 0 = x) (t2 : t ≤ 1000) (c0 c1 c2 c3 c4 c5 c7 c11 c12 c13 c14 c15 c21 c22 c23 c24 c25 c26 c27 c28 c29 c30 c31 c32 c33 c34 c35 c36 c37 c38 c39 c40 c41 c42 c43 c44 c45 c46 c47 c48 c49 c50 c51 c52 c53 c54 c55 c56 c57 c58 c59 c60 c61 c62 c63 c64 c65 c66 c67 c68 c69 c70 c71 c72 c73 c74 c75 c76 c77 c78 c79 c80 c81 c82 c83 c84 c85 c86 c87 c88 c89 c90 c91 c92 c93 c94 c95 c96 c97 c98 c99 c100 c101 c102 c103 c104 c105 c106 c107 c108 c109 c110 c111 c112 c113 c114 c115 c116 c117 c118 c119 c120 c121 c122 c123 c124 c125 c126 c127 c128 c129 c130 c131 c132 c133 c134 c135 c136 c137 c138 c139 c140 c141 c142 c143 c144 c145 c146 c147 c148 c149 c150 c151 c152 c153 c154 c155 c156 c157 c158 c159 c160 c161 c162 c163 c164 c165 c166 c167 c168 c169 c170 c171 c172 c173 c174 c175 c176 c177 c178 c179 c180 c181 c182 c183 c184 c185 c186 c187 c188 c189 c190 c191 c192 c193 c194 c195 c196 c197 c198 c199 c200 c201 c202 c203 c204 c205 c206 c207 c208 c209 c210 c211 c212 c213 c214 c215 c216 c217 c218 c219 c220 c221 c222 c223 c224 c225 c226 c227 c228 c229 c230 c231 c232 c233 c234 c235 c236 c237 c238 c239 c240 c241 c242 c243 c244 c245 c246 c247 c248 c249 c250 c251 c252 c253 c254 c255 c256 c257 c258 c259 c260 c261 c262 c263 c264 c265 c266 : Value)
    (hexit : ∀ (e97 e98 e99 e100 e101 e102 e103 e104 e105 e106 e107 e108 e109 e110 e111 e112 e113 e114 e115 e116 e117 e118 e119 e120 e121 e122 e123 e124 e125 e126 e127 e128 e129 e130 e131 e132 e133 e134 e135 e136 e137 e138 e139 e140 e141 e142 e143 e144 e145 e146 e147 e148 e149 e150 e151 e152 e153 e154 e155 e156 e157 e158 e159 e160 e161 e162 e163 e164 e165 e166 e167 : Value) (w' : World), Hid (Below w8.heap.size w8 w') → Q0 .normal ⟨#[c0, c1, c2, c3, c4, c5, .int .i64 x, c7, .int .i64 t, .pointer (some ⟨X2, 0, none⟩), .slice (some ⟨bk2, off2, none⟩) L.length c2', c11, c12, c13, c14, c15, .bool true, .int .i64 O, .bool true, .int .i64 B, .bool true, c21, c22, c23, c24, c25, c26, c27, c28, c29, c30, c31, c32, c33, c34, c35, c36, c37, c38, c39, c40, c41, c42, c43, c44, c45, c46, c47, c48, c49, c50, c51, c52, c53, c54, c55, c56, c57, c58, c59, c60, c61, c62, c63, c64, c65, c66, c67, c68, c69, c70, c71, c72, c73, c74, c75, c76, c77, c78, c79, c80, c81, c82, c83, c84, c85, c86, c87, c88, c89, c90, c91, c92, c93, c94, c95, c96, e97, e98, e99, e100, e101, e102, e103, e104, e105, e106, e107, e108, e109, e110, e111, e112, e113, e114, e115, e116, e117, e118, e119, e120, e121, e122, e123, e124, e125, e126, e127, e128, e129, e130, e131, e132, e133, e134, e135, e136, e137, e138, e139, e140, e141, e142, e143, e144, e145, e146, e147, e148, e149, e150, e151, e152, e153, e154, e155, e156, e157, e158, e159, e160, e161, e162, e163, e164, e165, e166, e167, .bool false, c169, c170, c171, c172, c173, c174, c175, c176, c177, c178, c179, c180, c181, c182, c183, c184, c185, c186, c187, c188, c189, c190, c191, c192, c193, c194, c195, c196, c197, c198, c199, c200, c201, c202, c203, c204, c205, c206, c207, c208, c209, c210, c211, c212, c213, c214, c215, c216, c217, c218, c219, c220, c221, c222, c223, c224, c225, c226, c227, c228, c229, c230, c231, c232, c233, c234, c235, c236, c237, c238, c239, c240, c241, c242, c243, c244, c245, c246, c247, c248, c249, c250, c251, c252, c253, c254, c255, c256, c257, c258, c259, c260, c261, c262, c263, c264, c265, c266], []⟩ w') :
    Code.wp Try.prog ((Try.f3.body.bind (codeReg 12)).getD .skip) Q0 ⟨#[c0, c1, c2, c3, c4, c5, .int .i64 x, c7, .int .i64 t, .pointer (some ⟨X2, 0, none⟩), .slice (some ⟨bk2, off2, none⟩) L.length c2', c11, c12, c13, c14, c15, .bool true, .int .i64 O, .bool true, .int .i64 B, .bool true, c21, c22, c23, c24, c25, c26, c27, c28, c29, c30, c31, c32, c33, c34, c35, c36, c37, c38, c39, c40, c41, c42, c43, c44, c45, c46, c47, c48, c49, c50, c51, c52, c53, c54, c55, c56, c57, c58, c59, c60, c61, c62, c63, c64, c65, c66, c67, c68, c69, c70, c71, c72, c73, c74, c75, c76, c77, c78, c79, c80, c81, c82, c83, c84, c85, c86, c87, c88, c89, c90, c91, c92, c93, c94, c95, c96, c97, c98, c99, c100, c101, c102, c103, c104, c105, c106, c107, c108, c109, c110, c111, c112, c113, c114, c115, c116, c117, c118, c119, c120, c121, c122, c123, c124, c125, c126, c127, c128, c129, c130, c131, c132, c133, c134, c135, c136, c137, c138, c139, c140, c141, c142, c143, c144, c145, c146, c147, c148, c149, c150, c151, c152, c153, c154, c155, c156, c157, c158, c159, c160, c161, c162, c163, c164, c165, c166, c167, c168, c169, c170, c171, c172, c173, c174, c175, c176, c177, c178, c179, c180, c181, c182, c183, c184, c185, c186, c187, c188, c189, c190, c191, c192, c193, c194, c195, c196, c197, c198, c199, c200, c201, c202, c203, c204, c205, c206, c207, c208, c209, c210, c211, c212, c213, c214, c215, c216, c217, c218, c219, c220, c221, c222, c223, c224, c225, c226, c227, c228, c229, c230, c231, c232, c233, c234, c235, c236, c237, c238, c239, c240, c241, c242, c243, c244, c245, c246, c247, c248, c249, c250, c251, c252, c253, c254, c255, c256, c257, c258, c259, c260, c261, c262, c263, c264, c265, c266], []⟩ w8 := by
  conv => arg 2; whnf
  have c20 := (rowAt_cell hg (by omega)).2 0 (by omega)
  rw [fst, Nat.add_zero] at c20
  obtain ⟨v0, v1, v2, v3, v4, v5, v6⟩ := Bk.c7 kv
  have BV8 : Hid (Bk w8 X2 #[.int .i64 va, .int .i64 vi, .int .i64 vl, .int .i64 vp, .int .i64 vs, .int .i64 vt, .int .i64 vo] 32) := kv
  have HG8 : Hid (RowAt w8 (some ⟨bk2, off2, none⟩) L) := hg
  have HEX : Hid _ := hexit
  clear kv hg hexit
  have d1 : decide (B < vp + vs) = false := decide_eq_false (by omega)
  have d2 : decide (t < vp + vs) = false := decide_eq_false (by omega)
  have d3 : ((L.length : Int) != vp + vs + 1) = false := by rw [len]; simp
  have d4 : (x != x) = false := by simp
  have lv := BV8.out.lt
  have lg := (rowAt_cell HG8.out (by omega)).1
  have e3 : ∀ q : Kin w8.heap.size w8, q.v.cell? ⟨X2, 3, none⟩ = some (.int .i64 vp) := kin_cell lv v3
  have e4 : ∀ q : Kin w8.heap.size w8, q.v.cell? ⟨X2, 4, none⟩ = some (.int .i64 vs) := kin_cell lv v4
  have e5 : ∀ q : Kin w8.heap.size w8, q.v.cell? ⟨X2, 5, none⟩ = some (.int .i64 vt) := kin_cell lv v5
  have e6 : ∀ q : Kin w8.heap.size w8, q.v.cell? ⟨X2, 6, none⟩ = some (.int .i64 vo) := kin_cell lv v6
  have e7 : ∀ q : Kin w8.heap.size w8, q.v.cell? ⟨bk2, off2, none⟩ = some (.int .i64 x) := kin_cell lg c20
  clear v0 v1 v2 v3 v4 v5 v6 c20
  rcases fin with ⟨rfl, rfl⟩ | ⟨rfl, hlt⟩
  · have d5 : (vo != vo) = false := by simp
    by_cases hB : B ≤ t
    · have d6 : decide (B ≤ t) = true := decide_eq_true hB
      refine region_kin_seq w8.heap.size (fun hne => ?_)
      dsimp only [List.append]
      repeat (go_big_quiet_step (fail))
      refine wpQuiet_nil ?_
      intro wv hw'
      obtain ⟨⟨wu, hwv⟩, hw''⟩ := hw'
      obtain rfl : wv = wu := hw''
      exact HEX.out _ _ _ _ _ _ _ _ _ _ _ _ _ _ _ _ _ _ _ _ _ _ _ _ _ _ _ _ _ _ _ _ _ _ _ _ _ _ _ _ _ _ _ _ _ _ _ _ _ _ _ _ _ _ _ _ _ _ _ _ _ _ _ _ _ _ _ _ _ _ _ wv hwv
    · have d6 : decide (B ≤ t) = false := decide_eq_false hB
      refine region_kin_seq w8.heap.size (fun hne => ?_)
      dsimp only [List.append]
      repeat (go_big_quiet_step (fail))
      refine wpQuiet_nil ?_
      intro wv hw'
      obtain ⟨⟨wu, hwv⟩, hw''⟩ := hw'
      obtain rfl : wv = wu := hw''
      exact HEX.out _ _ _ _ _ _ _ _ _ _ _ _ _ _ _ _ _ _ _ _ _ _ _ _ _ _ _ _ _ _ _ _ _ _ _ _ _ _ _ _ _ _ _ _ _ _ _ _ _ _ _ _ _ _ _ _ _ _ _ _ _ _ _ _ _ _ _ _ _ _ _ wv hwv
  · have d6 : decide (B ≤ t) = false := decide_eq_false (by omega)
    refine region_kin_seq w8.heap.size (fun hne => ?_)
    dsimp only [List.append]
    repeat (go_big_quiet_step (fail))
    refine wpQuiet_nil ?_
    intro wv hw'
    obtain ⟨⟨wu, hwv⟩, hw''⟩ := hw'
    obtain rfl : wv = wu := hw''
    exact HEX.out _ _ _ _ _ _ _ _ _ _ _ _ _ _ _ _ _ _ _ _ _ _ _ _ _ _ _ _ _ _ _ _ _ _ _ _ _ _ _ _ _ _ _ _ _ _ _ _ _ _ _ _ _ _ _ _ _ _ _ _ _ _ _ _ _ _ _ _ _ _ _ wv hwv
set_option maxRecDepth 100000 in
set_option maxHeartbeats 12800000 in
theorem wFnRoutes (a a' : Option Addr) (cap cap' : Nat) (xs ys : List Int) (w : World) (hx : xs.length ≤ maxLen) (hy : ys.length ≤ maxLen) (hr1 : RowB w a xs) (hr2 : RowB w a' ys) :
    Calls Try.prog 3 #[.slice a xs.length cap, .slice a' ys.length cap'] w fun e w' => e = .returned (.bool true) ∧ Below w.heap.size w w' := by
  have HX : Hid (xs.length ≤ maxLen) := hx
  have HY : Hid (ys.length ≤ maxLen) := hy
  have HR1 : Hid (RowB w a xs) := hr1
  have HR2 : Hid (RowB w a' ys) := hr2
  clear hx hy hr1 hr2
  cases hbig : bigB xs.length ys.length
  · have hnb := of_decide_eq_false hbig
    have hm1 : xs.length ≤ 1048576 := by omega
    have hm2 : ys.length ≤ 1048576 := by omega
    clear hnb
    have CB := big_any a a' xs.length ys.length cap cap' w HX.out HY.out
    rw [hbig] at CB
    go_enter Try.func3, Try.ntmps3
    go_wp2_with fail
    refine CB.mono ?_
    rintro e w0 ⟨rfl, hw0⟩
    replace hw0 := hw0.symm
    subst hw0
    clear CB hbig
    go_wp2_with fail
    refine (drawRouteOf_any _ _ xs _ hm1 HR1.out).mono ?_
    rintro e w1 ⟨b, d, ap, cp, ps, x, k, t, rfl, ow1, l16, hw1⟩
    have HP1 : Hid (PeersAt w1 ap ps) := ow1.peersAt
    have BE1 : Hid (Below w.heap.size w w1) := hw1
    have HL : Hid (ps.length ≤ 16) := l16
    have CR := RouteOf_own b d ap cp ps x k t (w1.alloc (.cells #[.int .i64 b, .int .i64 d, .slice ap ps.length cp] 28)) (by omega) (HP1.out.keep (belA _ _))
    have CS : ∀ w2, Below w1.heap.size w1 w2 → _ := fun w2 h => lRouteOf_own b d ap cp ps x k t w2 (by omega) (HP1.out.keep h)
    have HF : Hid (rtOk b d ps x k t = true → RtF b d ps x k t (rtV b d ps x k t) (rtP b d ps x k t)) := rtF
    have HLn : Hid ((rtP b d ps x k t).length ≤ 1048576) := rtP_big b d ps x k t
    clear ow1 hw1 l16
    generalize rtV b d ps x k t = V at *
    generalize rtP b d ps x k t = L at *
    generalize rtOk b d ps x k t = ok at *
    obtain ⟨va, vi, vl, vp, vs, vt, vo⟩ := V
    dsimp only at CR CS
    go_wp2_with fail
    refine CR.mono ?_
    rintro e w2 ⟨a2, n2, c2, rfl, hn2, og, HW⟩
    have BP2 : Hid (BxV w1 w2 #[.int .i64 b, .int .i64 d, .slice ap ps.length cp] 28) := bxV1 HW
    have B12 : Hid (Below w1.heap.size w1 w2) := belt (belA _ _) HW
    have HG2 : Hid (RowAt w2 a2 L) := og.rowAt
    subst hn2
    clear HW og CR
    obtain ⟨p0, p1, p2⟩ := BP2.out.c3
    have lp := BP2.out.lt
    go_wp2_with fail
    refine (CS _ (belt B12.out (belA _ _))).mono ?_
    rintro e w3 ⟨a3, n3, c3, rfl, hn3, rw3, HW⟩
    have BV3 : Hid (BxV w2 w3 #[.int .i64 va, .int .i64 vi, .int .i64 vl, .int .i64 vp, .int .i64 vs, .int .i64 vt, .int .i64 vo] 32) := bxV1 HW
    have B23 : Hid (Below w2.heap.size w2 w3) := belt (belA _ _) HW
    have HW3 : Hid (RowAt w3 a3 L) := rw3
    subst hn3
    clear HW rw3 CS p0 p1 p2 lp
    have BA3 := belA w3 (.cells #[.int .i64 va, .int .i64 vi, .int .i64 vl, .int .i64 vp, .int .i64 vs, .int .i64 vt, .int .i64 vo] 32)
    have BP4 : Hid (BxV w1 (w3.alloc (.cells #[.int .i64 va, .int .i64 vi, .int .i64 vl, .int .i64 vp, .int .i64 vs, .int .i64 vt, .int .i64 vo] 32)) #[.int .i64 b, .int .i64 d, .slice ap ps.length cp] 28) := BP2.out.keep (belt B23.out BA3)
    have BV4 : Hid (BxV w2 (w3.alloc (.cells #[.int .i64 va, .int .i64 vi, .int .i64 vl, .int .i64 vp, .int .i64 vs, .int .i64 vt, .int .i64 vo] 32)) #[.int .i64 va, .int .i64 vi, .int .i64 vl, .int .i64 vp, .int .i64 vs, .int .i64 vt, .int .i64 vo] 32) := BV3.out.keep BA3
    have BX4 : Hid (BxV w3 (w3.alloc (.cells #[.int .i64 va, .int .i64 vi, .int .i64 vl, .int .i64 vp, .int .i64 vs, .int .i64 vt, .int .i64 vo] 32)) #[.int .i64 va, .int .i64 vi, .int .i64 vl, .int .i64 vp, .int .i64 vs, .int .i64 vt, .int .i64 vo] 32) := bxV1 (Below.refl _ _)
    have B14 : Hid (Below w1.heap.size w1 (w3.alloc (.cells #[.int .i64 va, .int .i64 vi, .int .i64 vl, .int .i64 vp, .int .i64 vs, .int .i64 vt, .int .i64 vo] 32))) := belt B12.out (belt B23.out BA3)
    have CI : Hid (Calls Try.prog 16 #[.slice a2 L.length c2, .slice a3 L.length c3] (w3.alloc (.cells #[.int .i64 va, .int .i64 vi, .int .i64 vl, .int .i64 vp, .int .i64 vs, .int .i64 vt, .int .i64 vo] 32)) fun e w' => e = .returned (.bool true) ∧ Below (w3.alloc (.cells #[.int .i64 va, .int .i64 vi, .int .i64 vl, .int .i64 vp, .int .i64 vs, .int .i64 vt, .int .i64 vo] 32)).heap.size (w3.alloc (.cells #[.int .i64 va, .int .i64 vi, .int .i64 vl, .int .i64 vp, .int .i64 vs, .int .i64 vt, .int .i64 vo] 32)) w') := by
      have := sameInts_any a2 a3 c2 c3 L L (w3.alloc (.cells #[.int .i64 va, .int .i64 vi, .int .i64 vl, .int .i64 vp, .int .i64 vs, .int .i64 vt, .int .i64 vo] 32)) (by unfold maxLen; have := HLn.out; omega) (HG2.out.keep (belt B23.out BA3)) (HW3.out.keep BA3)
      rwa [show sameB L L = true from decide_eq_true rfl] at this
    have HG4 : Hid (RowAt (w3.alloc (.cells #[.int .i64 va, .int .i64 vi, .int .i64 vl, .int .i64 vp, .int .i64 vs, .int .i64 vt, .int .i64 vo] 32)) a2 L) := HG2.out.keep (belt B23.out BA3)
    clear BA3 BV3 BP2 HG2 HW3 B12 B23
    go_upto_region 6 with (fail)
    have hs4 : w3.heap.size < (w3.alloc (.cells #[.int .i64 va, .int .i64 vi, .int .i64 vl, .int .i64 vp, .int .i64 vs, .int .i64 vt, .int .i64 vo] 32)).heap.size := by simp
    generalize w3.alloc (.cells #[.int .i64 va, .int .i64 vi, .int .i64 vl, .int .i64 vp, .int .i64 vs, .int .i64 vt, .int .i64 vo] 32) = w4 at *
    obtain ⟨x0, x1, x2, x3, x4, x5, x6⟩ := BX4.out.c7
    obtain ⟨v0, v1, v2, v3, v4, v5, v6⟩ := BV4.out.c7
    have hgb := bne_self_bool ok
    have hnq := neqW_run va vi vl vp vs vt vo
    go_wp2_with fail
    refine CI.out.mono ?_
    rintro e w5 ⟨rfl, HW⟩
    have BP5 : Hid (BxV w1 w5 #[.int .i64 b, .int .i64 d, .slice ap ps.length cp] 28) := BP4.out.keep HW
    have BV5 : Hid (BxV w2 w5 #[.int .i64 va, .int .i64 vi, .int .i64 vl, .int .i64 vp, .int .i64 vs, .int .i64 vt, .int .i64 vo] 32) := BV4.out.keep HW
    have HG5 : Hid (RowAt w5 a2 L) := HG4.out.keep HW
    have HP5 : Hid (PeersAt w5 ap ps) := HP1.out.keep (belt B14.out HW)
    have BE5 : Hid (Below w.heap.size w w5) := belt BE1.out (belt B14.out HW)
    clear HW x0 x1 x2 x3 x4 x5 x6 v0 v1 v2 v3 v4 v5 v6 hnq hgb BX4 BV4 BP4 HG4 CI B14 HP1 BE1 hs4
    go_upto_if 78 with (fail)
    go_cut [15] (fun v15 wc => Hid (Below w.heap.size w wc))
    case first =>
      cases ok
      · go_wp2_with fail
        go_meet
        exact BE5
      · have F := HF.out rfl
        have l16 := HL.out
        have gd := F.good
        have R := (goodP_true gd).1
        have hil : (idsP ps).length = ps.length := idsP_len ps
        have hml : memL b d ps = idsP ps := by unfold memL; rw [if_pos gd]
        have hak : askB b d (idsP ps) k = true := by unfold askB; rw [goodP_ring gd, F.hk]; rfl
        have hov : oVal b d (idsP ps) k (ownI (idsP ps) k) = ownI (idsP ps) k := by unfold oVal; rw [if_pos hak]
        have hbv : bndV b d ps = bndI b d ps.length := by unfold bndV; rw [if_pos gd]
        have hho : hopOk b d ps k = true := by unfold hopOk; rw [gd, F.hk]; rfl
        have hhl : hopL b d ps k = (idsP ps).map (hopI b d ps k) := by unfold hopL; rw [if_pos hho]
        have CM := MembersOf_own b d ap cp ps w5 (by omega) HP5.out
        rw [gd, hml] at CM
        have CO : ∀ wq am cm, RowAt wq am (idsP ps) → Calls Try.prog 18 #[.agg #[.int .i64 b, .int .i64 d], .slice am ps.length cm, .int .i64 k] wq fun e w' => e = .returned (.tuple #[.int .i64 (ownI (idsP ps) k), .bool true]) ∧ Below wq.heap.size wq w' := fun wq am cm h => by
          have := OwnerOf_any b d am cm (idsP ps) k wq (by unfold maxLen; omega) h
          rwa [hov, hak, hil] at this
        have CBD : ∀ wq, PeersAt wq ap ps → Calls Try.prog 19 #[.agg #[.int .i64 b, .int .i64 d, .slice ap ps.length cp]] wq fun e w' => e = .returned (.tuple #[.int .i64 (bndI b d ps.length), .bool true]) ∧ Below wq.heap.size wq w' := fun wq h => by
          have := BoundOf_any b d ap cp ps wq (by omega) h
          rwa [hbv, gd] at this
        have CHP : ∀ wq, PeersAt wq ap ps → Calls Try.prog 20 #[.agg #[.int .i64 b, .int .i64 d, .slice ap ps.length cp], .int .i64 k] wq fun e w' => ∃ a' n c, e = .returned (.tuple #[.slice a' n c, .bool true]) ∧ ps.length = n ∧ RowAt w' a' ((idsP ps).map (hopI b d ps k)) ∧ Below wq.heap.size wq w' := fun wq h => by
          refine (HopsIn_own b d ap cp ps k wq (by omega) h).mono ?_
          rintro e w' ⟨a', n, c, rfl, h1, h2, h3⟩
          rw [hhl] at h1 h2
          rw [List.length_map, hil] at h1
          rw [hho]
          exact ⟨a', n, c, rfl, h1, h2.rowAt, h3⟩
        have fin := F.fin
        have bnd := F.bnd
        have ttl := F.ttl
        have len := F.len
        have vp0 := F.p0
        have vs0 := F.s0
        have fst := F.fst
        have t2 := F.t2
        have hop := F.hop
        have all := F.all
        clear F
        dsimp only at fin bnd ttl len vp0 vs0 hop
        have HALL : Hid (∀ j, j < ps.length → hopI b d ps k ((idsP ps).getD j 0) ≤ bndI b d ps.length) := fun j hj => all _ (decide_eq_true ⟨j, by omega, rfl⟩)
        have HOP : Hid (bndI b d ps.length ≤ t → hopI b d ps k x = vp + vs) := hop
        clear gd R hml hak hov hbv hho hhl HF all hop
        generalize ownI (idsP ps) k = O at *
        generalize bndI b d ps.length = B at *
        obtain ⟨p0, p1, p2⟩ := BP5.out.c3
        go_wp2_with fail
        refine CM.mono ?_
        rintro e w6 ⟨am, nm, cm, rfl, hnm, om, HW⟩
        rw [hil] at hnm
        have hnm := hnm.symm
        subst hnm
        have BP6 : Hid (BxV w1 w6 #[.int .i64 b, .int .i64 d, .slice ap ps.length cp] 28) := BP5.out.keep HW
        have BV6 : Hid (BxV w2 w6 #[.int .i64 va, .int .i64 vi, .int .i64 vl, .int .i64 vp, .int .i64 vs, .int .i64 vt, .int .i64 vo] 32) := BV5.out.keep HW
        have HG6 : Hid (RowAt w6 a2 L) := HG5.out.keep HW
        have HP6 : Hid (PeersAt w6 ap ps) := HP5.out.keep HW
        have BE6 : Hid (Below w.heap.size w w6) := belt BE5.out HW
        have HM6 : Hid (RowAt w6 am (idsP ps)) := om.rowAt
        clear HW om CM p0 p1 p2 BP5 BV5 HG5 HP5 BE5
        obtain ⟨p0, p1, p2⟩ := BP6.out.c3
        go_wp2_with fail
        refine (CO _ _ _ HM6.out).mono ?_
        rintro e w7 ⟨rfl, HW⟩
        have BP7 : Hid (BxV w1 w7 #[.int .i64 b, .int .i64 d, .slice ap ps.length cp] 28) := BP6.out.keep HW
        have BV7 : Hid (BxV w2 w7 #[.int .i64 va, .int .i64 vi, .int .i64 vl, .int .i64 vp, .int .i64 vs, .int .i64 vt, .int .i64 vo] 32) := BV6.out.keep HW
        have HG7 : Hid (RowAt w7 a2 L) := HG6.out.keep HW
        have HP7 : Hid (PeersAt w7 ap ps) := HP6.out.keep HW
        have BE7 : Hid (Below w.heap.size w w7) := belt BE6.out HW
        have HM7 : Hid (RowAt w7 am (idsP ps)) := HM6.out.keep HW
        clear HW CO p0 p1 p2 BP6 BV6 HG6 HP6 BE6 HM6
        obtain ⟨p0, p1, p2⟩ := BP7.out.c3
        go_wp2_with fail
        refine (CBD _ HP7.out).mono ?_
        rintro e w8 ⟨rfl, HW⟩
        have BP8 : Hid (BxV w1 w8 #[.int .i64 b, .int .i64 d, .slice ap ps.length cp] 28) := BP7.out.keep HW
        have BV8 : Hid (BxV w2 w8 #[.int .i64 va, .int .i64 vi, .int .i64 vl, .int .i64 vp, .int .i64 vs, .int .i64 vt, .int .i64 vo] 32) := BV7.out.keep HW
        have HG8 : Hid (RowAt w8 a2 L) := HG7.out.keep HW
        have HP8 : Hid (PeersAt w8 ap ps) := HP7.out.keep HW
        have BE8 : Hid (Below w.heap.size w w8) := belt BE7.out HW
        have HM8 : Hid (RowAt w8 am (idsP ps)) := HM7.out.keep HW
        clear HW CBD p0 p1 p2 BP7 BV7 HG7 HP7 BE7 HM7
        obtain ⟨bk2, off2, rfl⟩ := rowAt_form HG8.out (by omega)
        have c20 := (rowAt_cell HG8.out (by omega)).2 0 (by omega)
        rw [fst, Nat.add_zero] at c20
        obtain ⟨v0, v1, v2, v3, v4, v5, v6⟩ := BV8.out.c7
        clear hnm
        go_upto_region 12 with (fail)
        rename_i K1 hK1 K0 hK0
        refine routes_test x t O B L c2 w2.heap.size bk2 off2 va vi vl vp vs vt vo w8 _ BV8.out.row HG8.out fin bnd ttl len vp0 vs0 fst t2 _ _ _ _ _ _ _ _ _ _ _ _ _ _ _ _ _ _ _ _ _ _ _ _ _ _ _ _ _ _ _ _ _ _ _ _ _ _ _ _ _ _ _ _ _ _ _ _ _ _ _ _ _ _ _ _ _ _ _ _ _ _ _ _ _ _ _ _ _ _ _ _ _ _ _ _ _ _ _ _ _ _ _ _ _ _ _ _ _ _ _ _ _ _ _ _ _ _ _ _ _ _ _ _ _ _ _ _ _ _ _ _ _ _ _ _ _ _ _ _ _ _ _ _ _ _ _ _ _ _ _ _ _ _ _ _ _ _ _ _ _ _ _ _ _ _ _ _ _ _ _ _ _ _ _ _ _ _ _ _ _ _ _ _ _ _ _ _ _ _ _ _ _ _ _ _ _ _ _ _ _ _ _ _ _ _ _ _ _ _ _ _ _ _ _ _ _ _ _ _ _ _ _ _ _ _ _ _ _ _ _ _ _ _ _ _ _ _ _ _ _ _ _ _ _ _ _ _ _ _ _ _ _ _ _ _ _ _ _ _ _ _ _ _ _ _ _ _ _ _ _ _ _ _ _ _ _ _ (fun e97 e98 e99 e100 e101 e102 e103 e104 e105 e106 e107 e108 e109 e110 e111 e112 e113 e114 e115 e116 e117 e118 e119 e120 e121 e122 e123 e124 e125 e126 e127 e128 e129 e130 e131 e132 e133 e134 e135 e136 e137 e138 e139 e140 e141 e142 e143 e144 e145 e146 e147 e148 e149 e150 e151 e152 e153 e154 e155 e156 e157 e158 e159 e160 e161 e162 e163 e164 e165 e166 e167 wc BLC0 => ?_)
        clear v0 v1 v2 v3 v4 v5 v6 c20
        dsimp only
        go_upto_if 168 with (fail)
        go_cut [168] (fun v168 we => Hid (Below w8.heap.size w8 we))
        case first =>
          go_wp2_with fail
          go_meet
          exact BLC0
        case rest =>
        have BLC : Hid (Below w8.heap.size w8 wc) := hcut
        clear hcut BLC0
        have BP9 : Hid (BxV w1 wc #[.int .i64 b, .int .i64 d, .slice ap ps.length cp] 28) := BP8.out.keep BLC.out
        have BV9 : Hid (BxV w2 wc #[.int .i64 va, .int .i64 vi, .int .i64 vl, .int .i64 vp, .int .i64 vs, .int .i64 vt, .int .i64 vo] 32) := BV8.out.keep BLC.out
        have HP9 : Hid (PeersAt wc ap ps) := HP8.out.keep BLC.out
        have BE9 : Hid (Below w.heap.size w wc) := belt BE8.out BLC.out
        have HM9 : Hid (RowAt wc am (idsP ps)) := HM8.out.keep BLC.out
        clear BP8 BV8 HP8 BE8 HM8 HG8
        have BP8 := BP9
        have BV8 := BV9
        have HP8 := HP9
        have BE8 := BE9
        have HM8 := HM9
        clear BP9 BV9 HP9 BE9 HM9 BLC
        refine hK1 _ _ (routes_loop b d ap cp ps x k t O B am cm w1.heap.size w2.heap.size va vi vl vp vs vt vo wc _ BP8.out.row BV8.out.row HP8.out HM8.out CHP HL.out ttl vp0 vs0 t2 HALL.out HOP.out _ _ _ _ _ _ _ _ _ _ _ _ _ _ _ _ _ _ _ _ _ _ _ _ _ _ _ _ _ _ _ _ _ _ _ _ _ _ _ _ _ _ _ _ _ _ _ _ _ _ _ _ _ _ _ _ _ _ _ _ _ _ _ _ _ _ _ _ _ _ _ _ _ _ _ _ _ _ _ _ _ _ _ _ _ _ _ _ _ _ _ _ _ _ _ _ _ _ _ _ _ _ _ _ _ _ _ _ _ _ _ _ _ _ _ _ _ _ _ _ _ _ _ _ _ _ _ _ _ _ _ _ _ _ _ _ _ _ _ _ _ _ _ _ _ _ _ _ _ _ _ _ _ _ _ _ _ _ _ _ _ _ _ _ _ _ _ _ _ _ _ _ _ _ _ _ _ _ _ _ _ _ _ _ _ _ _ _ _ _ _ _ _ _ _ _ _ _ _ _ _ _ _ _ _ _ _ _ _ _ _ _ _ _ _ _ _ _ _ _ _ _ _ _ _ _ _ _ _ _ _ _ _ _ _ _ _ _ _ _ _ _ _ _ _ _ _ _ _ _ _ _ _ _ _ _ _ _ _ _ (fun e4 e21 e22 e23 e24 e169 e170 e171 e172 e173 e174 e175 e176 e177 e178 e179 e180 e181 e182 e183 e184 e185 e186 e187 e188 e189 e190 e191 e192 e193 e194 e195 e196 e197 e198 e199 e200 e201 e202 e203 e204 e205 e206 e207 e208 e209 e210 e211 e212 e213 e214 e215 e216 e217 e218 e219 w9 h => ?_))
        dsimp only
        go_wp2_with fail
        go_meet
        exact belt BE8.out h
    case rest =>
    rename_i hKK
    have BEC : Hid (Below w.heap.size w wc) := hcut
    clear hcut BE5 BP5 BV5 HG5 HP5 HF HLn HL
    exact hKK _ _ (routes_tail a a' cap cap' xs.length ys w wc hm2 HR2.out BEC.out _ _ _ _ _ _ _ _ _ _ _ _ _ _ _ _ _ _ _ _ _ _ _ _ _ _ _ _ _ _ _ _ _ _ _ _ _ _ _ _ _ _ _ _ _ _ _ _ _ _ _ _ _ _ _ _ _ _ _ _ _ _ _ _ _ _ _ _ _ _ _ _ _ _ _ _ _ _ _ _ _ _ _ _ _ _ _ _ _ _ _ _ _ _ _ _ _ _ _ _ _ _ _ _ _ _ _ _ _ _ _ _ _ _ _ _ _ _ _ _ _ _ _ _ _ _ _ _ _ _ _ _ _ _ _ _ _ _ _ _ _ _ _ _ _ _ _ _ _ _ _ _ _ _ _ _ _ _ _ _ _ _ _ _ _ _ _ _ _ _ _ _ _ _ _ _ _ _ _ _ _ _ _ _ _ _ _ _ _ _ _ _ _ _ _ _ _ _ _ _ _ _ _ _ _ _ _ _ _ _ _ _ _ _ _ _ _ _ _ _ _ _ _ _ _ _ _ _ _ _ _ _ _ _ _ _ _ _ _ _ _ _ _ _ _ _ _ _ _ _ _ _ _ _ _ _ _ _ _ _ _ _ _ _ _)
  · have CB := big_any a a' xs.length ys.length cap cap' w HX.out HY.out
    rw [hbig] at CB
    go_enter Try.func3, Try.ntmps3
    go_wp2_with fail
    refine CB.mono ?_
    rintro e w0 ⟨rfl, hw0⟩
    replace hw0 := hw0.symm
    subst hw0
    go_wp2
    go_ret
    exact ⟨rfl, Below.refl _ _⟩

set_option maxRecDepth 100000 in
theorem fnRoutes_lifted (os : Os) (started : os.Started) (H : Type) (enc : TypeId × Value → H) :
    ReturnsInHanded {} Try.checked os 3 .any (Rows.fnRoutesSpec.pre6 enc Try.prog Try.f3 Rows.fnRoutesRow.domain false) (Rows.fnRoutesSpec.post enc Try.prog Try.f3 false true false false) := by
  refine returnsInHanded_of_change (C := Try.checked) own started (by kernel_rfl) Try.func3
    (ChangeSpec.witness6 (enc := enc) (C := Try.checked) false ⟨#[], #[.slice none 0 0, .slice none 0 0], []⟩ 8 (by kernel_rfl) (by kernel_rfl) (by kernel_rfl) (by kernel_rfl)) ?_
  intro W base args ds gs before hval0 hW hcnd _
  have hval : ∀ (j : Nat) t v, Try.f3.params[j]? = some t → args[j]? = some v → Value.okWide Try.prog W .any base t v := hval0
  have hW' := hW
  obtain ⟨p, q, hA0, hV, rfl, hfz, hnd⟩ := hW
  have hA : DataW.TrodAll enc Try.prog W 0 (fun _ => true) true Try.f3.params.toList args.toList ds p := hA0
  rw [Try.params3] at hA hval
  obtain ⟨v0, vs0, d0, ds0, p0, q0, hargs, rfl, rfl, h0, r0⟩ := trodAll_cons hA
  obtain ⟨v1, vs1, d1, ds1, p1, q1, rfl, rfl, rfl, h1, r1⟩ := trodAll_cons r0
  obtain ⟨rfl, rfl, rfl⟩ := trodAll_nil r1
  obtain rfl : args = #[v0, v1] := by cases args; simp_all
  obtain ⟨rfl, rfl⟩ := trodVars_none hV
  obtain ⟨a0, len0, cap0, rfl⟩ := okWide_slice Try.underlying22 (hval 0 22 v0 rfl rfl)
  have k0 := h0
  have lt0 : ∀ x ∈ p0, x.block < W.heap.size := by obtain ⟨m, hm⟩ := k0; exact DataW.trod_lt m _ _ _ hm
  obtain ⟨z0, w0⟩ : ∃ zs, IsRowU W a0 len0 cap0 zs := by
    obtain ⟨fuel, hf⟩ := h0
    rcases open_ints Try.underlying22 Try.underlying5 (by kernel_rfl) hf with ⟨hcs, _⟩ | ⟨x, l, c, zs, hcs, _, hl, hm, hz, _, hcell, hwz⟩
    · simp [Value.cells] at hcs
      obtain ⟨rfl, rfl, rfl⟩ := hcs
      exact ⟨[], .inl ⟨rfl, rfl, rfl, rfl⟩⟩
    · simp [Value.cells] at hcs
      obtain ⟨rfl, rfl, rfl⟩ := hcs
      exact ⟨zs, .inr ⟨_, rfl, hl, hm, by simpa using hz, hcell, hwz⟩⟩
  obtain ⟨a1, len1, cap1, rfl⟩ := okWide_slice Try.underlying22 (hval 1 22 v1 rfl rfl)
  have k1 := h1
  have lt1 : ∀ x ∈ p1, x.block < W.heap.size := by obtain ⟨m, hm⟩ := k1; exact DataW.trod_lt m _ _ _ hm
  obtain ⟨z1, w1⟩ : ∃ zs, IsRowU W a1 len1 cap1 zs := by
    obtain ⟨fuel, hf⟩ := h1
    rcases open_ints Try.underlying22 Try.underlying5 (by kernel_rfl) hf with ⟨hcs, _⟩ | ⟨x, l, c, zs, hcs, _, hl, hm, hz, _, hcell, hwz⟩
    · simp [Value.cells] at hcs
      obtain ⟨rfl, rfl, rfl⟩ := hcs
      exact ⟨[], .inl ⟨rfl, rfl, rfl, rfl⟩⟩
    · simp [Value.cells] at hcs
      obtain ⟨rfl, rfl, rfl⟩ := hcs
      exact ⟨zs, .inr ⟨_, rfl, hl, hm, by simpa using hz, hcell, hwz⟩⟩
  clear hA0 hval0
  obtain ⟨y0, e0, m0, q0⟩ := isRowU_rowB w0
  obtain ⟨y1, e1, m1, q1⟩ := isRowU_rowB w1
  subst e0 e1
  refine (wFnRoutes a0 a1 cap0 cap1 y0 y1 W m0 m1 q0 q1).mono fun e W' ⟨he, bel⟩ => ?_
  subst he
  exact ⟨_, rfl, _, _, _, [], _, [], hW', trodAll_mk1 (shut_bool Try.underlying4 _), (trodAll_cons_mk (Below.trod laidOut (by kernel_rfl) (of_decide_eq_true (by kernel_rfl)) k0 bel lt0) (trodAll_cons_mk (Below.trod laidOut (by kernel_rfl) (of_decide_eq_true (by kernel_rfl)) k1 bel lt1) trodAll_mk0)), rfl, bel.frame _, fun h => by cases h⟩

theorem fnRoutes_holds : Rows.FnRoutesSaid :=
  OpenClaim.holds_of_wide 3 Try.f3 rfl rfl rfl rfl rfl rfl rfl ⟨rfl, rfl, rfl, rfl, rfl⟩ rfl rfl rfl rfl rfl (by kernel_rfl) Try.func3 (by kernel_rfl)
    (of_decide_eq_true (by kernel_rfl)) (by unfold Func.isWrapper; first | (rw [if_pos (by decide +kernel)]; kernel_rfl) | (rw [if_neg (by decide +kernel)]; exact ⟨rfl, rfl⟩))
    (fun os started H enc _ => fnRoutes_lifted os started H enc)
#print axioms fnRoutes_holds
end Go.Proofs.Ytejajlloipkkhaa
