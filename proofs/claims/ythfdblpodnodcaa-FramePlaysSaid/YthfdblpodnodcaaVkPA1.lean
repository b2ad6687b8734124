/-
  FramePlays: a frame that may not be is pushed.
-/
import Derived.Test.YthfdblpodnodcaaVc
import Derived.BigQuiet
import Derived.BigGuard
import Derived.Deep.RegionHeld3
import Derived.IntWalk
import Derived.Deep.DeepCutAuto
namespace Go.Proofs.Ythfdblpodnodcaa
open Go.RowKit
set_option linter.unusedVariables false
set_option linter.unusedSimpArgs false
set_option maxHeartbeats 4000000 in
set_option maxRecDepth 1000000 in
theorem fp_PA1 {w0 wr : World} {a bb rm gm s most : Nat} {D : Ad} {n : Nat} {F : Nat → Nat × Nat × Nat} {Am : Option Addr} {cm b off len1 cap1 j kd : Nat} {x y z : Int}
    (h : FPI w0 wr a bb rm gm s most D n F (.slice Am n cm)) (hX : FactAt w0 b (off + j * 4) ⟨kd, x, y, z⟩) (hbl : b < w0.heap.size) (hlt : j < len1) (hl1 : len1 ≤ 80) (hlc : len1 ≤ cap1) (hcap : cap1 ≤ 9223372036854775807) (hnj : n ≤ j) (hm1 : 1 ≤ most) (hm2 : most ≤ 10000) (hk : (kd : Int) % 6 = 0) (hs : ¬ (0 ≤ x ∧ x < 4294967296))
    (s0 s3 s4 s5 s6 s7 s8 s10 s13 s14 s15 s16 s17 s18 s19 s20 s21 s22 s23 s24 s25 s26 s27 s28 s29 s30 s31 s32 s33 s34 s35 s36 s37 s38 s39 s40 s41 s42 s43 s44 s45 s46 s47 s48 s49 s50 s51 s52 s53 s54 s55 s56 s57 s58 s59 s60 s61 s62 s63 s64 s65 s66 s67 s68 s69 s70 s71 s72 s73 s74 s75 s76 s77 s78 s79 s80 s81 s82 s83 s84 s85 s86 s87 s88 s89 s90 s91 s92 s93 s94 s95 s96 s97 s98 s99 s100 s101 s102 s103 s104 s105 s106 s107 s108 s109 s110 s111 s112 s113 s114 s115 s116 s117 s118 s119 s120 s121 s122 s123 s124 s125 s126 s127 s128 s129 s130 s131 s132 s133 s134 s135 s136 s137 s138 s139 s140 s141 s142 s143 s144 s145 s146 s147 s148 s149 s150 s151 s152 s153 s154 s155 s156 s157 s158 s159 s160 s161 s162 s163 s164 s165 s166 s167 s168 s169 s170 s171 s172 s173 s174 s175 s176 s177 s178 s179 s180 s181 s182 s183 s184 s185 s186 s187 s188 s189 s190 s191 s192 s193 s194 s195 s196 s197 s198 s199 s200 s201 s202 s203 s204 s205 s206 s207 s208 s209 s210 s211 s212 s213 s214 s215 s216 s217 s218 s219 s220 s221 s222 s223 s224 s225 s226 s227 s228 s229 s230 s231 s232 s233 s234 s235 s236 s237 s238 s239 s240 s241 s242 s243 s244 s245 s246 s247 s248 s249 s250 s251 s252 s253 s254 s255 s256 s257 s258 s259 s260 s261 s262 s263 s264 s265 s266 s267 s268 s269 s270 s271 s272 s273 : Value) (Q : Exit → Act → World → Prop)
    (hN : ∀ (F' : Nat → Nat × Nat × Nat) (Am' : Option Addr) (n' cm' : Nat) (u13 u14 u15 u16 u17 u18 u19 u20 u21 u22 u83 u84 u85 u86 u87 u88 u89 u90 u91 u92 u93 u94 u95 u96 u97 u98 u99 u100 u101 u102 u103 u104 u105 u106 u107 u108 u109 u110 u111 u112 u113 u114 u115 u116 u117 u118 u119 u120 u121 u122 u123 u124 u125 u126 u127 u128 u129 u130 u131 u132 u133 u134 u135 u136 u137 u138 u139 u140 u141 u142 u143 u144 u145 u146 u147 u148 u149 u150 u151 u152 u153 u154 u155 u156 u157 u158 u159 u160 u161 u162 u163 u164 u165 u166 u167 u168 u169 u170 u171 u172 u173 u174 u175 u176 u177 u178 u179 u180 u181 u182 u183 u184 u185 u186 u187 u188 u189 u190 u191 u192 u193 u194 u195 u196 u197 u198 u199 u200 u201 u202 u203 u204 u205 u206 u207 u208 u209 u210 u211 u212 u213 u214 u215 u216 u217 u218 u219 u220 u221 u222 u223 u224 u225 u226 u227 u228 u229 u230 u231 u232 u233 u234 u235 u236 u237 u238 u239 u240 u241 u242 u243 u244 u245 u246 u247 u248 u249 u250 u251 : Value) (wr' : World), n' ≤ j + 1 → FPI w0 wr' a bb rm gm s most D n' F' (.slice Am' n' cm') → Q .normal ⟨#[s0, .int .i64 (most : Int), .slice (some ⟨b, off, none⟩) len1 cap1, s3, s4, s5, s6, s7, s8, .pointer (some ⟨s, 0, none⟩), s10, .slice Am' n' cm', .int .i64 (j : Int), u13, u14, u15, u16, u17, u18, u19, u20, u21, u22, s23, s24, s25, s26, s27, s28, s29, s30, s31, s32, s33, s34, s35, s36, s37, s38, s39, s40, s41, s42, s43, s44, s45, s46, s47, s48, s49, s50, s51, s52, s53, s54, s55, s56, s57, s58, s59, s60, s61, s62, s63, s64, s65, s66, s67, s68, s69, s70, s71, s72, s73, s74, s75, s76, s77, s78, s79, s80, s81, s82, u83, u84, u85, u86, u87, u88, u89, u90, u91, u92, u93, u94, u95, u96, u97, u98, u99, u100, u101, u102, u103, u104, u105, u106, u107, u108, u109, u110, u111, u112, u113, u114, u115, u116, u117, u118, u119, u120, u121, u122, u123, u124, u125, u126, u127, u128, u129, u130, u131, u132, u133, u134, u135, u136, u137, u138, u139, u140, u141, u142, u143, u144, u145, u146, u147, u148, u149, u150, u151, u152, u153, u154, u155, u156, u157, u158, u159, u160, u161, u162, u163, u164, u165, u166, u167, u168, u169, u170, u171, u172, u173, u174, u175, u176, u177, u178, u179, u180, u181, u182, u183, u184, u185, u186, u187, u188, u189, u190, u191, u192, u193, u194, u195, u196, u197, u198, u199, u200, u201, u202, u203, u204, u205, u206, u207, u208, u209, u210, u211, u212, u213, u214, u215, u216, u217, u218, u219, u220, u221, u222, u223, u224, u225, u226, u227, u228, u229, u230, u231, u232, u233, u234, u235, u236, u237, u238, u239, u240, u241, u242, u243, u244, u245, u246, u247, u248, u249, u250, u251, s252, s253, s254, s255, s256, s257, s258, s259, s260, s261, s262, s263, s264, s265, s266, s267, s268, s269, s270, s271, s272, s273], []⟩ wr') :
    Code.wp Try.prog (fpBlk 1) Q ⟨#[s0, .int .i64 (most : Int), .slice (some ⟨b, off, none⟩) len1 cap1, s3, s4, s5, s6, s7, s8, .pointer (some ⟨s, 0, none⟩), s10, .slice Am n cm, .int .i64 (j : Int), s13, s14, s15, s16, s17, s18, s19, s20, s21, s22, s23, s24, s25, s26, s27, s28, s29, s30, s31, s32, s33, s34, s35, s36, s37, s38, s39, s40, s41, s42, s43, s44, s45, s46, s47, s48, s49, s50, s51, s52, s53, s54, s55, s56, s57, s58, s59, s60, s61, s62, s63, s64, s65, s66, s67, s68, s69, s70, s71, s72, s73, s74, s75, s76, s77, s78, s79, s80, s81, s82, s83, s84, s85, s86, s87, s88, s89, s90, s91, s92, s93, s94, s95, s96, s97, s98, s99, s100, s101, s102, s103, s104, s105, s106, s107, s108, s109, s110, s111, s112, s113, s114, s115, s116, s117, s118, s119, s120, s121, s122, s123, s124, s125, s126, s127, s128, s129, s130, s131, s132, s133, s134, s135, s136, s137, s138, s139, s140, s141, s142, s143, s144, s145, s146, s147, s148, s149, s150, s151, s152, s153, s154, s155, s156, s157, s158, s159, s160, s161, s162, s163, s164, s165, s166, s167, s168, s169, s170, s171, s172, s173, s174, s175, s176, s177, s178, s179, s180, s181, s182, s183, s184, s185, s186, s187, s188, s189, s190, s191, s192, s193, s194, s195, s196, s197, s198, s199, s200, s201, s202, s203, s204, s205, s206, s207, s208, s209, s210, s211, s212, s213, s214, s215, s216, s217, s218, s219, s220, s221, s222, s223, s224, s225, s226, s227, s228, s229, s230, s231, s232, s233, s234, s235, s236, s237, s238, s239, s240, s241, s242, s243, s244, s245, s246, s247, s248, s249, s250, s251, s252, s253, s254, s255, s256, s257, s258, s259, s260, s261, s262, s263, s264, s265, s266, s267, s268, s269, s270, s271, s272, s273], []⟩ wr := by
  have HN := Lib.hid hN
  have hbel := h.lo.bel
  have h1 := h.mv (below_alloc wr (.cells #[.int .i64 x, .int .i64 y, .int .i64 z] 58))
  have c0 : wr.cell? ⟨b, off + j * 4, none⟩ = some (.int .u8 (kd : Int)) := (hbel.cell (p := ⟨b, off + j * 4, none⟩) hbl).trans hX.c0
  have c1 : wr.cell? ⟨b, off + j * 4 + 1, none⟩ = some (.int .i64 x) := (hbel.cell (p := ⟨b, off + j * 4 + 1, none⟩) hbl).trans hX.c1
  have c2 : wr.cell? ⟨b, off + j * 4 + 2, none⟩ = some (.int .i64 y) := (hbel.cell (p := ⟨b, off + j * 4 + 2, none⟩) hbl).trans hX.c2
  have c3 : wr.cell? ⟨b, off + j * 4 + 3, none⟩ = some (.int .i64 z) := (hbel.cell (p := ⟨b, off + j * 4 + 3, none⟩) hbl).trans hX.c3
  have d0 : (wr.alloc (.cells #[.int .i64 x, .int .i64 y, .int .i64 z] 58)).cell? ⟨b, off + j * 4, none⟩ = some (.int .u8 (kd : Int)) := (h1.lo.bel.cell (p := ⟨b, off + j * 4, none⟩) hbl).trans hX.c0
  have hkd : kd < 256 := hX.kd
  have hx : -9223372036854775808 ≤ x ∧ x ≤ 9223372036854775807 := hX.x
  have hy : -9223372036854775808 ≤ y ∧ y ≤ 9223372036854775807 := hX.y
  have hz : -9223372036854775808 ≤ z ∧ z ≤ 9223372036854775807 := hX.z
  have hcm : n ≤ cm ∧ cm ≤ 9223372036854775807 := by
    obtain ⟨A', c', e, q1, q2⟩ := ownG_slice h.own
    injection e with e1 e2 e3
    subst e3
    exact ⟨q1, q2⟩
  have HX := Lib.hid hX
  have H1 := Lib.hid h1
  obtain ⟨M, hfk, hcon⟩ := h1.fk
  have HFK := Lib.hid hfk
  have HCON := Lib.hid hcon
  have HSx := Lib.hid (fun w => small_no x w hs)
  have HP := FPush_arg hfk x y z (.inl hs)
  unfold EnPost at HP
  have HP := Lib.hid HP
  clear h hX hbel h1 hfk hcon hN
  conv => arg 2; whnf
  go_wp2_with (first
    | (go_at_call 28
       refine HP.out.mono ?_
       rintro e w2 ⟨rfl, hb⟩
       have hx2 : Blk w2 wr.heap.size 58 #[.int .i64 x, .int .i64 y, .int .i64 z] := (Blk.new wr 58 _).below hb (Blk.new wr 58 #[.int .i64 x, .int .i64 y, .int .i64 z]).lt
       have u0 : w2.cell? ⟨wr.heap.size, 0, none⟩ = some (.int .i64 x) := hx2.cell 0
       have u1 : w2.cell? ⟨wr.heap.size, 1, none⟩ = some (.int .i64 y) := hx2.cell 1
       have u2 : w2.cell? ⟨wr.heap.size, 2, none⟩ = some (.int .i64 z) := hx2.cell 2
       have H2 := Lib.hid (H1.out.mv hb)
       have HD := Lib.hid (Depth_ok (HFK.out.below hb).blk)
       clear hb hx2)
    | (go_at_call 29; with_reducible refine (HSx.out _).mono ?_; rintro e w' ⟨rfl, rfl⟩)
    | (go_at_call 35; refine HD.out.mono ?_; rintro e w' ⟨rfl, rfl⟩))
  apply HN.out F Am n cm
  · omega
  · exact H2.out
end Go.Proofs.Ythfdblpodnodcaa
