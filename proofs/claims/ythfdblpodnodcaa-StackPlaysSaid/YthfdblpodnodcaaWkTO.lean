/-
  StackPlays: words are taken.
-/
import Derived.Test.YthfdblpodnodcaaWd
import Derived.BigQuiet
import Derived.BigGuard
import Derived.Deep.RegionHeld3
import Derived.IntWalk
import Derived.Deep.DeepCutAuto
import Derived.Deep.CutBlock
namespace Go.Proofs.Ythfdblpodnodcaa
open Go.RowKit
set_option linter.unusedVariables false
set_option linter.unusedSimpArgs false
set_option maxHeartbeats 4000000 in
set_option maxRecDepth 1000000 in
theorem sp_TO {w0 wr : World} {a bb rm gm s cells : Nat} {D : Ad} {n : Nat} {F : Nat → Nat} {Am : Option Addr} {cm b off len1 cap1 j kd ln lc : Nat} {x y : Int} {LB : Option Addr} {f : Nat → Nat}
    (h : SPI w0 wr a bb rm gm s cells D n F (.slice Am n cm)) (hX : DeedAt w0 b (off + j * 4) ⟨kd, x, y, LB, ln, lc, f⟩) (hbl : b < w0.heap.size) (hlt : j < len1) (hl1 : len1 ≤ 60) (hlc : len1 ≤ cap1) (hcap : cap1 ≤ 9223372036854775807) (hnj : n ≤ 50 * j) (hm1 : 1 ≤ cells) (hm2 : cells ≤ 65536) (hln : ln ≤ 50) (hk : (kd : Int) % 6 = 2) (hx0 : 0 ≤ x) (hxn : x ≤ (n : Int))
    (s0 s3 s4 s5 s6 s7 s8 s10 s13 s14 s15 s16 s17 s18 s19 s20 s21 s22 s23 s24 s25 s26 s27 s28 s29 s30 s31 s32 s33 s34 s35 s36 s37 s38 s39 s40 s41 s42 s43 s44 s45 s46 s47 s48 s49 s50 s51 s52 s53 s54 s55 s56 s57 s58 s59 s60 s61 s62 s63 s64 s65 s66 s67 s68 s69 s70 s71 s72 s73 s74 s75 s76 s77 s78 s79 s80 s81 s82 s83 s84 s85 s86 s87 s88 s89 s90 s91 s92 s93 s94 s95 s96 s97 s98 s99 s100 s101 s102 s103 s104 s105 s106 s107 s108 s109 s110 s111 s112 s113 s114 s115 s116 s117 s118 s119 s120 s121 s122 s123 s124 s125 s126 s127 s128 s129 s130 s131 s132 s133 s134 s135 s136 s137 s138 s139 s140 s141 s142 s143 s144 s145 s146 s147 s148 s149 s150 s151 s152 s153 s154 s155 s156 s157 s158 s159 s160 s161 s162 s163 s164 s165 s166 s167 s168 s169 s170 s171 s172 s173 s174 s175 s176 s177 s178 s179 s180 s181 s182 s183 s184 s185 s186 s187 s188 s189 s190 s191 s192 s193 s194 s195 s196 s197 s198 s199 s200 s201 s202 s203 s204 s205 s206 s207 s208 s209 s210 s211 s212 s213 s214 s215 s216 s217 s218 s219 s220 s221 s222 s223 s224 s225 s226 s227 s228 s229 s230 s231 s232 s233 s234 s235 s236 s237 s238 s239 s240 s241 s242 s243 s244 s245 s246 s247 s248 s249 s250 s251 s252 s253 s254 s255 s256 s257 s258 s259 s260 s261 s262 s263 s264 s265 s266 s267 s268 s269 s270 s271 s272 s273 s274 s275 s276 s277 s278 s279 s280 s281 s282 s283 s284 s285 s286 s287 s288 s289 s290 s291 s292 s293 s294 s295 s296 s297 s298 s299 s300 s301 s302 s303 s304 s305 s306 s307 s308 s309 s310 s311 s312 s313 s314 s315 s316 s317 s318 s319 s320 s321 s322 s323 s324 s325 s326 s327 s328 s329 s330 s331 s332 s333 s334 s335 s336 s337 s338 s339 s340 s341 s342 s343 s344 s345 s346 s347 s348 s349 s350 s351 s352 s353 s354 s355 s356 s357 s358 s359 s360 s361 s362 s363 s364 s365 s366 s367 s368 s369 s370 s371 s372 s373 s374 s375 s376 s377 s378 s379 s380 s381 s382 s383 s384 s385 s386 s387 s388 s389 s390 s391 : Value) (Q : Exit → Act → World → Prop)
    (hN : ∀ (F' : Nat → Nat) (Am' : Option Addr) (n' cm' : Nat) (u13 u14 u15 u16 u17 u18 u19 u20 u21 u22 u23 u24 u25 u26 u27 u91 u92 u93 u94 u95 u96 u97 u98 u99 u100 u101 u102 u103 u104 u105 u106 u107 u108 u109 u110 u111 u112 u113 u114 u115 u116 u117 u118 u119 u120 u121 u122 u123 u124 u125 u126 u127 u128 u129 u130 u131 u132 u133 u134 u135 u136 u137 u138 u139 u140 u141 u142 u143 u144 u145 u146 u147 u148 u149 u150 u151 u152 u153 u154 u155 u156 u157 u158 u159 u160 u161 u162 u163 u164 u165 u166 u167 u168 u169 u170 u171 u172 u173 u174 u175 u176 u177 u178 u179 u180 u181 u182 u183 u184 u185 u186 u187 u188 u189 u190 u191 u192 u193 u194 u195 u196 u197 u198 u199 u200 u201 u202 u203 u204 u205 u206 u207 u208 u209 u210 u211 u212 u213 u214 u215 u216 u217 u218 u219 u220 u221 u222 u223 u224 u225 u226 u227 u228 u229 u230 u231 u232 u233 u234 u235 u236 u237 u238 u239 u240 u241 u242 u243 u244 u245 u246 u247 u248 u249 u250 u251 u252 u253 u254 u255 u256 u257 u258 u259 u260 u261 u262 u263 u264 u265 u266 u267 u268 u269 u270 u271 u272 u273 u274 u275 u276 u277 u278 u279 u280 u281 u282 u283 u284 u285 u286 u287 u288 u289 u290 u291 u292 u293 u294 u295 u296 u297 u298 u299 u300 u301 u302 u303 u304 u305 u306 u307 u308 u309 u310 u311 u312 u313 u314 u315 u316 u317 u318 u319 u320 u321 u322 u323 u324 u325 u326 u327 u328 u329 u330 u331 u332 u333 u334 u335 u336 u337 u338 u339 u340 u341 : Value) (wr' : World), n' ≤ 50 * (j + 1) → SPI w0 wr' a bb rm gm s cells D n' F' (.slice Am' n' cm') → Q .normal ⟨#[s0, .int .i64 (cells : Int), .slice (some ⟨b, off, none⟩) len1 cap1, s3, s4, s5, s6, s7, s8, .pointer (some ⟨s, 0, none⟩), s10, .slice Am' n' cm', .int .i64 (j : Int), u13, u14, u15, u16, u17, u18, u19, u20, u21, u22, u23, u24, u25, u26, u27, s28, s29, s30, s31, s32, s33, s34, s35, s36, s37, s38, s39, s40, s41, s42, s43, s44, s45, s46, s47, s48, s49, s50, s51, s52, s53, s54, s55, s56, s57, s58, s59, s60, s61, s62, s63, s64, s65, s66, s67, s68, s69, s70, s71, s72, s73, s74, s75, s76, s77, s78, s79, s80, s81, s82, s83, s84, s85, s86, s87, s88, s89, s90, u91, u92, u93, u94, u95, u96, u97, u98, u99, u100, u101, u102, u103, u104, u105, u106, u107, u108, u109, u110, u111, u112, u113, u114, u115, u116, u117, u118, u119, u120, u121, u122, u123, u124, u125, u126, u127, u128, u129, u130, u131, u132, u133, u134, u135, u136, u137, u138, u139, u140, u141, u142, u143, u144, u145, u146, u147, u148, u149, u150, u151, u152, u153, u154, u155, u156, u157, u158, u159, u160, u161, u162, u163, u164, u165, u166, u167, u168, u169, u170, u171, u172, u173, u174, u175, u176, u177, u178, u179, u180, u181, u182, u183, u184, u185, u186, u187, u188, u189, u190, u191, u192, u193, u194, u195, u196, u197, u198, u199, u200, u201, u202, u203, u204, u205, u206, u207, u208, u209, u210, u211, u212, u213, u214, u215, u216, u217, u218, u219, u220, u221, u222, u223, u224, u225, u226, u227, u228, u229, u230, u231, u232, u233, u234, u235, u236, u237, u238, u239, u240, u241, u242, u243, u244, u245, u246, u247, u248, u249, u250, u251, u252, u253, u254, u255, u256, u257, u258, u259, u260, u261, u262, u263, u264, u265, u266, u267, u268, u269, u270, u271, u272, u273, u274, u275, u276, u277, u278, u279, u280, u281, u282, u283, u284, u285, u286, u287, u288, u289, u290, u291, u292, u293, u294, u295, u296, u297, u298, u299, u300, u301, u302, u303, u304, u305, u306, u307, u308, u309, u310, u311, u312, u313, u314, u315, u316, u317, u318, u319, u320, u321, u322, u323, u324, u325, u326, u327, u328, u329, u330, u331, u332, u333, u334, u335, u336, u337, u338, u339, u340, u341, s342, s343, s344, s345, s346, s347, s348, s349, s350, s351, s352, s353, s354, s355, s356, s357, s358, s359, s360, s361, s362, s363, s364, s365, s366, s367, s368, s369, s370, s371, s372, s373, s374, s375, s376, s377, s378, s379, s380, s381, s382, s383, s384, s385, s386, s387, s388, s389, s390, s391], []⟩ wr')
    (hR : ∀ (u13 u91 u92 u93 u94 u95 u96 u97 u98 : Value) (wr' : World), Below w0.heap.size w0 wr' → Q .ret ⟨#[s0, .int .i64 (cells : Int), .slice (some ⟨b, off, none⟩) len1 cap1, s3, s4, s5, .bool true, s7, s8, .pointer (some ⟨s, 0, none⟩), s10, .slice Am n cm, .int .i64 (j : Int), u13, s14, s15, s16, s17, s18, s19, s20, s21, s22, s23, s24, s25, s26, s27, s28, s29, s30, s31, s32, s33, s34, s35, s36, s37, s38, s39, s40, s41, s42, s43, s44, s45, s46, s47, s48, s49, s50, s51, s52, s53, s54, s55, s56, s57, s58, s59, s60, s61, s62, s63, s64, s65, s66, s67, s68, s69, s70, s71, s72, s73, s74, s75, s76, s77, s78, s79, s80, s81, s82, s83, s84, s85, s86, s87, s88, s89, s90, u91, u92, u93, u94, u95, u96, u97, u98, s99, s100, s101, s102, s103, s104, s105, s106, s107, s108, s109, s110, s111, s112, s113, s114, s115, s116, s117, s118, s119, s120, s121, s122, s123, s124, s125, s126, s127, s128, s129, s130, s131, s132, s133, s134, s135, s136, s137, s138, s139, s140, s141, s142, s143, s144, s145, s146, s147, s148, s149, s150, s151, s152, s153, s154, s155, s156, s157, s158, s159, s160, s161, s162, s163, s164, s165, s166, s167, s168, s169, s170, s171, s172, s173, s174, s175, s176, s177, s178, s179, s180, s181, s182, s183, s184, s185, s186, s187, s188, s189, s190, s191, s192, s193, s194, s195, s196, s197, s198, s199, s200, s201, s202, s203, s204, s205, s206, s207, s208, s209, s210, s211, s212, s213, s214, s215, s216, s217, s218, s219, s220, s221, s222, s223, s224, s225, s226, s227, s228, s229, s230, s231, s232, s233, s234, s235, s236, s237, s238, s239, s240, s241, s242, s243, s244, s245, s246, s247, s248, s249, s250, s251, s252, s253, s254, s255, s256, s257, s258, s259, s260, s261, s262, s263, s264, s265, s266, s267, s268, s269, s270, s271, s272, s273, s274, s275, s276, s277, s278, s279, s280, s281, s282, s283, s284, s285, s286, s287, s288, s289, s290, s291, s292, s293, s294, s295, s296, s297, s298, s299, s300, s301, s302, s303, s304, s305, s306, s307, s308, s309, s310, s311, s312, s313, s314, s315, s316, s317, s318, s319, s320, s321, s322, s323, s324, s325, s326, s327, s328, s329, s330, s331, s332, s333, s334, s335, s336, s337, s338, s339, s340, s341, s342, s343, s344, s345, s346, s347, s348, s349, s350, s351, s352, s353, s354, s355, s356, s357, s358, s359, s360, s361, s362, s363, s364, s365, s366, s367, s368, s369, s370, s371, s372, s373, s374, s375, s376, s377, s378, s379, s380, s381, s382, s383, s384, s385, s386, s387, s388, s389, s390, s391], []⟩ wr') :
    Code.wp Try.prog (spBlk 1) Q ⟨#[s0, .int .i64 (cells : Int), .slice (some ⟨b, off, none⟩) len1 cap1, s3, s4, s5, s6, s7, s8, .pointer (some ⟨s, 0, none⟩), s10, .slice Am n cm, .int .i64 (j : Int), s13, s14, s15, s16, s17, s18, s19, s20, s21, s22, s23, s24, s25, s26, s27, s28, s29, s30, s31, s32, s33, s34, s35, s36, s37, s38, s39, s40, s41, s42, s43, s44, s45, s46, s47, s48, s49, s50, s51, s52, s53, s54, s55, s56, s57, s58, s59, s60, s61, s62, s63, s64, s65, s66, s67, s68, s69, s70, s71, s72, s73, s74, s75, s76, s77, s78, s79, s80, s81, s82, s83, s84, s85, s86, s87, s88, s89, s90, s91, s92, s93, s94, s95, s96, s97, s98, s99, s100, s101, s102, s103, s104, s105, s106, s107, s108, s109, s110, s111, s112, s113, s114, s115, s116, s117, s118, s119, s120, s121, s122, s123, s124, s125, s126, s127, s128, s129, s130, s131, s132, s133, s134, s135, s136, s137, s138, s139, s140, s141, s142, s143, s144, s145, s146, s147, s148, s149, s150, s151, s152, s153, s154, s155, s156, s157, s158, s159, s160, s161, s162, s163, s164, s165, s166, s167, s168, s169, s170, s171, s172, s173, s174, s175, s176, s177, s178, s179, s180, s181, s182, s183, s184, s185, s186, s187, s188, s189, s190, s191, s192, s193, s194, s195, s196, s197, s198, s199, s200, s201, s202, s203, s204, s205, s206, s207, s208, s209, s210, s211, s212, s213, s214, s215, s216, s217, s218, s219, s220, s221, s222, s223, s224, s225, s226, s227, s228, s229, s230, s231, s232, s233, s234, s235, s236, s237, s238, s239, s240, s241, s242, s243, s244, s245, s246, s247, s248, s249, s250, s251, s252, s253, s254, s255, s256, s257, s258, s259, s260, s261, s262, s263, s264, s265, s266, s267, s268, s269, s270, s271, s272, s273, s274, s275, s276, s277, s278, s279, s280, s281, s282, s283, s284, s285, s286, s287, s288, s289, s290, s291, s292, s293, s294, s295, s296, s297, s298, s299, s300, s301, s302, s303, s304, s305, s306, s307, s308, s309, s310, s311, s312, s313, s314, s315, s316, s317, s318, s319, s320, s321, s322, s323, s324, s325, s326, s327, s328, s329, s330, s331, s332, s333, s334, s335, s336, s337, s338, s339, s340, s341, s342, s343, s344, s345, s346, s347, s348, s349, s350, s351, s352, s353, s354, s355, s356, s357, s358, s359, s360, s361, s362, s363, s364, s365, s366, s367, s368, s369, s370, s371, s372, s373, s374, s375, s376, s377, s378, s379, s380, s381, s382, s383, s384, s385, s386, s387, s388, s389, s390, s391], []⟩ wr := by
  have HN := Lib.hid hN
  have HR := Lib.hid hR
  have hbel := h.lo.bel
  have h1 := h.mv (below_alloc wr (.cells #[.int .u8 (kd : Int), .int .i64 x, .int .i64 y, .slice LB ln lc] 36))
  have c0 : wr.cell? ⟨b, off + j * 4, none⟩ = some (.int .u8 (kd : Int)) := (hbel.cell (p := ⟨b, off + j * 4, none⟩) hbl).trans hX.c0
  have c1 : wr.cell? ⟨b, off + j * 4 + 1, none⟩ = some (.int .i64 x) := (hbel.cell (p := ⟨b, off + j * 4 + 1, none⟩) hbl).trans hX.c1
  have c2 : wr.cell? ⟨b, off + j * 4 + 2, none⟩ = some (.int .i64 y) := (hbel.cell (p := ⟨b, off + j * 4 + 2, none⟩) hbl).trans hX.c2
  have c3 : wr.cell? ⟨b, off + j * 4 + 3, none⟩ = some (.slice LB ln lc) := (hbel.cell (p := ⟨b, off + j * 4 + 3, none⟩) hbl).trans hX.c3
  have hkd : kd < 256 := hX.kd
  have hx : -9223372036854775808 ≤ x ∧ x ≤ 9223372036854775807 := hX.x
  have hy : -9223372036854775808 ≤ y ∧ y ≤ 9223372036854775807 := hX.y
  have hll : ln ≤ lc := hX.L.1
  have hll2 : lc ≤ 9223372036854775807 := hX.L.2.1
  have hcm : n ≤ cm ∧ cm ≤ 9223372036854775807 := by
    obtain ⟨A', c', e, q1, q2⟩ := ownG_slice h.own
    injection e with e1 e2 e3
    subst e3
    exact ⟨q1, q2⟩
  have HX := Lib.hid hX
  have HWL := Lib.hid (hX.L.mv h1.lo.bel)
  have H1 := Lib.hid h1
  obtain ⟨M, hsk, hcon⟩ := h1.sk
  have hnc : n ≤ cells := hsk.hh
  have HSK := Lib.hid hsk
  have HCON := Lib.hid hcon
  obtain ⟨X1, hX1⟩ : ∃ X1 : Nat, x = X1 := ⟨x.toNat, by omega⟩
  subst hX1
  have hXn : X1 ≤ n := by omega
  obtain ⟨p, hp⟩ : ∃ p, n = p + X1 := ⟨n - X1, by omega⟩
  have hpn : p ≤ n := by omega
  have hpx : p + X1 ≤ n := by omega
  have e1 : IntKind.i64.wrap ((n : Int) - (X1 : Int)) = (p : Int) := by rw [IntWalk.i64_in _ (by omega)]; omega
  have e1' : (n : Int) - (X1 : Int) = (p : Int) := by omega
  have ep : IntKind.i64.wrap (p : Int) = (p : Int) := IntWalk.i64_in _ (by omega)
  have hc1 := slice_low (n := n) (k := p) (c := cm) (by omega) (own_addr h.own)
  have HP := Take_ok X1 (hsk.cong rfl hp)
  unfold TkPost at HP
  have HP := Lib.hid HP
  have hp2 : 50 * j + 0 ≥ p := by omega
  clear hp
  clear h hX hbel h1 hsk hcon hN hR
  conv => arg 2; whnf
  go_wp2_with (first
    | (go_at_call 19
       with_reducible refine HP.out.mono ?_
       rintro e w2 ⟨g, rfl, hg, hB, hS, hF⟩
       dsimp only
       have hxn : Blk (wr.alloc (.cells #[.int .u8 (kd : Int), .int .i64 (X1 : Int), .int .i64 y, .slice LB ln lc] 36)) wr.heap.size 36 #[.int .u8 (kd : Int), .int .i64 (X1 : Int), .int .i64 y, .slice LB ln lc] := Blk.new wr 36 _
       have hx2 : Blk w2 wr.heap.size 36 #[.int .u8 (kd : Int), .int .i64 (X1 : Int), .int .i64 y, .slice LB ln lc] := hxn.fr hF (hxn.ne_ HSK.out.blk (by decide))
       have HX2 := Lib.hid hx2
       have HS2 := Lib.hid hS
       have u0 : w2.cell? ⟨wr.heap.size, 0, none⟩ = some (.int .u8 (kd : Int)) := hx2.cell 0
       have u1 : w2.cell? ⟨wr.heap.size, 1, none⟩ = some (.int .i64 (X1 : Int)) := hx2.cell 1
       have u2 : w2.cell? ⟨wr.heap.size, 2, none⟩ = some (.int .i64 y) := hx2.cell 2
       have u3 : w2.cell? ⟨wr.heap.size, 3, none⟩ = some (.slice LB ln lc) := hx2.cell 3
       have HO2 := Lib.hid (own38_step HSK.out H1.out.own (hF.more fun k q => .inr q))
       have HL2 := Lib.hid (H1.out.lo.stepS hF)
       have hrow := con_row' HCON.out hpx hB
       have HG := Lib.hid (fun (k : Nat) (hk : k < X1) => (show w2.cell? ⟨g, k, none⟩ = some (.int .u64 ((F (p + k) : Nat) : Int)) from by
         have := (wrd_of_row hrow (fun i hi => H1.out.rt (p + i) (by omega)) (by unfold maxLen; omega)).at_ (B := 0) (Below.refl _ _) hk
         rw [Nat.zero_add] at this
         exact this))
       have HO3 := HO2
       have HS3 := HS2
       have HL3 := HL2
       clear hrow hB hg
       clear hS hF hx2 hxn))
  go_loopw [6, 20] (fun v6 v20 wk => ∃ k q : Nat, k ≤ X1 ∧ v6 = s6 ∧ v20 = .int .i64 k ∧ wk = w2.drewN q) (fun _ v20 _ => X1 - (intOf v20).toNat)
  case atStart => exact ⟨0, 0, Nat.zero_le _, rfl, rfl, rfl⟩
  case round =>
    obtain ⟨k, q, hk1, rfl, rfl, rfl⟩ := hrel
    by_cases hlt2 : k < X1
    · obtain ⟨i2, hi2⟩ : ∃ i2, i2 = p + k := ⟨_, rfl⟩
      have hi2n : i2 < n := by omega
      obtain ⟨g0, cp, eg, _, _⟩ := ownG_some HO3.out (by omega)
      injection eg with eg1 eg2 eg3
      subst eg1 eg3
      have e2 : IntKind.i64.wrap ((p : Int) + (k : Int)) = (i2 : Int) := by rw [IntWalk.i64_in _ (by omega)]; omega
      have ei : IntKind.i64.wrap (i2 : Int) = (i2 : Int) := IntWalk.i64_in _ (by omega)
      have e2' : (p : Int) + (k : Int) = (i2 : Int) := by omega
      have t1 : w2.cell? ⟨g, k, none⟩ = some (.int .u64 ((F i2 : Nat) : Int)) := by rw [hi2]; exact HG.out k hlt2
      have t2 : w2.cell? ⟨g0, i2, none⟩ = some (.int .u64 ((F i2 : Nat) : Int)) := own_cellW HO3.out i2 (by omega)
      have HI2 := Lib.hid hi2
      clear hi2
      go_wp2
      go_quiet (fail)
      go_wp2
      go_roundw
      case rel => exact ⟨k + 1, _, by omega, rfl, by go_num, rfl⟩
      case measure => simp [intOf]; omega
    · obtain rfl : k = X1 := by omega
      have hem : ((w2.drewN q).alloc (.cells #[] 38)).ownsRow w0.heap.size 38 1 (.slice (some ⟨(w2.drewN q).heap.size, 0, none⟩) 0 0) 0 [] := ownG_empty (Blk.new (w2.drewN q) 38 #[]) HL3.out.bel.size
      have hm3 : Below w2.heap.size w2 ((w2.drewN q).alloc (.cells #[] 38)) := below_drewN (Below.refl _ _) q |>.trans (below_alloc (w2.drewN q) (.cells #[] 38))
      have hWm : Wrd ((w2.drewN q).alloc (.cells #[] 38)) Am n cm F := (wrd_slice HO3.out H1.out.rt).mv hm3
      obtain ⟨v5, w5, hr5, ho5, hg5⟩ := app_run38 (X := Am) (m := p) (c := cm) (ys := rowsW F p) hem (rowsW_len _ _) (hWm.low (by omega)).src (hWm.low (by omega)).nil (rowsW_one _ _) (by omega) (Nat.le_trans HL3.out.bel.size (below_alloc (w2.drewN q) (.cells #[] 38)).size)
      rw [Nat.zero_add, List.nil_append] at ho5
      have hS5 := (HS3.out.below hm3).grown hem hg5
      have hL5 := (HL3.out.mv hm3).grown38 hem hg5
      obtain ⟨A5, c5, e5, q5, q6⟩ := ownG_slice ho5
      subst e5
      have q7 : c5 ≤ 9223372036854775807 := q6
      have HHt := Lib.hid (SkHeight_ok hS5.blk)
      have HRm := Lib.hid (SkRoom_i hS5)
      have HS5 := Lib.hid hS5
      have HO5 := Lib.hid ho5
      have HL5 := Lib.hid hL5
      clear hem hm3 hWm ho5 hg5 hS5 hL5
      go_wp2_with (first
        | (at_builtin; refine wpList_append_run rfl (.tmp 235) (.tmp 241) 34 rfl _ _ _ w5 rfl rfl hr5 ?_)
        | (go_at_call 23; with_reducible refine (HHt.out).mono ?_; rintro e w' ⟨rfl, rfl⟩; dsimp only)
        | (go_at_call 24; with_reducible refine (HRm.out).mono ?_; rintro e w' ⟨rfl, kr, rfl⟩; dsimp only))
      apply HN.out F A5 p c5
      · omega
      · exact SPI.dr (D := D) ⟨⟨_, HS5.out, HCON.out.low (by omega)⟩, fun i hi => H1.out.rt i (by omega), HO5.out, HL5.out⟩ _
end Go.Proofs.Ythfdblpodnodcaa
