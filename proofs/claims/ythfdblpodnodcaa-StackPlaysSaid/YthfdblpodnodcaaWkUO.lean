/-
  StackPlays: words are let go.
-/
import Derived.Test.YthfdblpodnodcaaWd
import Derived.BigQuiet
import Derived.BigGuard
import Derived.Deep.RegionHeld3
import Derived.IntWalk
import Derived.Deep.DeepCutAuto
import Derived.Deep.CutBlock
namespace Go.Proofs.Ythfdblpodnodcaa
open Go.RowKit
set_option linter.unusedVariables false
set_option linter.unusedSimpArgs false
set_option maxHeartbeats 4000000 in
set_option maxRecDepth 1000000 in
theorem sp_UO {w0 wr : World} {a bb rm gm s cells : Nat} {D : Ad} {n : Nat} {F : Nat → Nat} {Am : Option Addr} {cm b off len1 cap1 j kd ln lc : Nat} {x y : Int} {LB : Option Addr} {f : Nat → Nat}
    (h : SPI w0 wr a bb rm gm s cells D n F (.slice Am n cm)) (hX : DeedAt w0 b (off + j * 4) ⟨kd, x, y, LB, ln, lc, f⟩) (hbl : b < w0.heap.size) (hlt : j < len1) (hl1 : len1 ≤ 60) (hlc : len1 ≤ cap1) (hcap : cap1 ≤ 9223372036854775807) (hnj : n ≤ 50 * j) (hm1 : 1 ≤ cells) (hm2 : cells ≤ 65536) (hln : ln ≤ 50) (hk : (kd : Int) % 6 = 5) (hx0 : 0 ≤ x) (hy0 : 0 ≤ y) (hyn : y ≤ (n : Int)) (hxn : x ≤ (n : Int) - y)
    (s0 s3 s4 s5 s6 s7 s8 s10 s13 s14 s15 s16 s17 s18 s19 s20 s21 s22 s23 s24 s25 s26 s27 s28 s29 s30 s31 s32 s33 s34 s35 s36 s37 s38 s39 s40 s41 s42 s43 s44 s45 s46 s47 s48 s49 s50 s51 s52 s53 s54 s55 s56 s57 s58 s59 s60 s61 s62 s63 s64 s65 s66 s67 s68 s69 s70 s71 s72 s73 s74 s75 s76 s77 s78 s79 s80 s81 s82 s83 s84 s85 s86 s87 s88 s89 s90 s91 s92 s93 s94 s95 s96 s97 s98 s99 s100 s101 s102 s103 s104 s105 s106 s107 s108 s109 s110 s111 s112 s113 s114 s115 s116 s117 s118 s119 s120 s121 s122 s123 s124 s125 s126 s127 s128 s129 s130 s131 s132 s133 s134 s135 s136 s137 s138 s139 s140 s141 s142 s143 s144 s145 s146 s147 s148 s149 s150 s151 s152 s153 s154 s155 s156 s157 s158 s159 s160 s161 s162 s163 s164 s165 s166 s167 s168 s169 s170 s171 s172 s173 s174 s175 s176 s177 s178 s179 s180 s181 s182 s183 s184 s185 s186 s187 s188 s189 s190 s191 s192 s193 s194 s195 s196 s197 s198 s199 s200 s201 s202 s203 s204 s205 s206 s207 s208 s209 s210 s211 s212 s213 s214 s215 s216 s217 s218 s219 s220 s221 s222 s223 s224 s225 s226 s227 s228 s229 s230 s231 s232 s233 s234 s235 s236 s237 s238 s239 s240 s241 s242 s243 s244 s245 s246 s247 s248 s249 s250 s251 s252 s253 s254 s255 s256 s257 s258 s259 s260 s261 s262 s263 s264 s265 s266 s267 s268 s269 s270 s271 s272 s273 s274 s275 s276 s277 s278 s279 s280 s281 s282 s283 s284 s285 s286 s287 s288 s289 s290 s291 s292 s293 s294 s295 s296 s297 s298 s299 s300 s301 s302 s303 s304 s305 s306 s307 s308 s309 s310 s311 s312 s313 s314 s315 s316 s317 s318 s319 s320 s321 s322 s323 s324 s325 s326 s327 s328 s329 s330 s331 s332 s333 s334 s335 s336 s337 s338 s339 s340 s341 s342 s343 s344 s345 s346 s347 s348 s349 s350 s351 s352 s353 s354 s355 s356 s357 s358 s359 s360 s361 s362 s363 s364 s365 s366 s367 s368 s369 s370 s371 s372 s373 s374 s375 s376 s377 s378 s379 s380 s381 s382 s383 s384 s385 s386 s387 s388 s389 s390 s391 : Value) (Q : Exit → Act → World → Prop)
    (hN : ∀ (F' : Nat → Nat) (Am' : Option Addr) (n' cm' : Nat) (u13 u14 u15 u16 u17 u18 u19 u20 u21 u22 u23 u24 u25 u26 u27 u91 u92 u93 u94 u95 u96 u97 u98 u99 u100 u101 u102 u103 u104 u105 u106 u107 u108 u109 u110 u111 u112 u113 u114 u115 u116 u117 u118 u119 u120 u121 u122 u123 u124 u125 u126 u127 u128 u129 u130 u131 u132 u133 u134 u135 u136 u137 u138 u139 u140 u141 u142 u143 u144 u145 u146 u147 u148 u149 u150 u151 u152 u153 u154 u155 u156 u157 u158 u159 u160 u161 u162 u163 u164 u165 u166 u167 u168 u169 u170 u171 u172 u173 u174 u175 u176 u177 u178 u179 u180 u181 u182 u183 u184 u185 u186 u187 u188 u189 u190 u191 u192 u193 u194 u195 u196 u197 u198 u199 u200 u201 u202 u203 u204 u205 u206 u207 u208 u209 u210 u211 u212 u213 u214 u215 u216 u217 u218 u219 u220 u221 u222 u223 u224 u225 u226 u227 u228 u229 u230 u231 u232 u233 u234 u235 u236 u237 u238 u239 u240 u241 u242 u243 u244 u245 u246 u247 u248 u249 u250 u251 u252 u253 u254 u255 u256 u257 u258 u259 u260 u261 u262 u263 u264 u265 u266 u267 u268 u269 u270 u271 u272 u273 u274 u275 u276 u277 u278 u279 u280 u281 u282 u283 u284 u285 u286 u287 u288 u289 u290 u291 u292 u293 u294 u295 u296 u297 u298 u299 u300 u301 u302 u303 u304 u305 u306 u307 u308 u309 u310 u311 u312 u313 u314 u315 u316 u317 u318 u319 u320 u321 u322 u323 u324 u325 u326 u327 u328 u329 u330 u331 u332 u333 u334 u335 u336 u337 u338 u339 u340 u341 : Value) (wr' : World), n' ≤ 50 * (j + 1) → SPI w0 wr' a bb rm gm s cells D n' F' (.slice Am' n' cm') → Q .normal ⟨#[s0, .int .i64 (cells : Int), .slice (some ⟨b, off, none⟩) len1 cap1, s3, s4, s5, s6, s7, s8, .pointer (some ⟨s, 0, none⟩), s10, .slice Am' n' cm', .int .i64 (j : Int), u13, u14, u15, u16, u17, u18, u19, u20, u21, u22, u23, u24, u25, u26, u27, s28, s29, s30, s31, s32, s33, s34, s35, s36, s37, s38, s39, s40, s41, s42, s43, s44, s45, s46, s47, s48, s49, s50, s51, s52, s53, s54, s55, s56, s57, s58, s59, s60, s61, s62, s63, s64, s65, s66, s67, s68, s69, s70, s71, s72, s73, s74, s75, s76, s77, s78, s79, s80, s81, s82, s83, s84, s85, s86, s87, s88, s89, s90, u91, u92, u93, u94, u95, u96, u97, u98, u99, u100, u101, u102, u103, u104, u105, u106, u107, u108, u109, u110, u111, u112, u113, u114, u115, u116, u117, u118, u119, u120, u121, u122, u123, u124, u125, u126, u127, u128, u129, u130, u131, u132, u133, u134, u135, u136, u137, u138, u139, u140, u141, u142, u143, u144, u145, u146, u147, u148, u149, u150, u151, u152, u153, u154, u155, u156, u157, u158, u159, u160, u161, u162, u163, u164, u165, u166, u167, u168, u169, u170, u171, u172, u173, u174, u175, u176, u177, u178, u179, u180, u181, u182, u183, u184, u185, u186, u187, u188, u189, u190, u191, u192, u193, u194, u195, u196, u197, u198, u199, u200, u201, u202, u203, u204, u205, u206, u207, u208, u209, u210, u211, u212, u213, u214, u215, u216, u217, u218, u219, u220, u221, u222, u223, u224, u225, u226, u227, u228, u229, u230, u231, u232, u233, u234, u235, u236, u237, u238, u239, u240, u241, u242, u243, u244, u245, u246, u247, u248, u249, u250, u251, u252, u253, u254, u255, u256, u257, u258, u259, u260, u261, u262, u263, u264, u265, u266, u267, u268, u269, u270, u271, u272, u273, u274, u275, u276, u277, u278, u279, u280, u281, u282, u283, u284, u285, u286, u287, u288, u289, u290, u291, u292, u293, u294, u295, u296, u297, u298, u299, u300, u301, u302, u303, u304, u305, u306, u307, u308, u309, u310, u311, u312, u313, u314, u315, u316, u317, u318, u319, u320, u321, u322, u323, u324, u325, u326, u327, u328, u329, u330, u331, u332, u333, u334, u335, u336, u337, u338, u339, u340, u341, s342, s343, s344, s345, s346, s347, s348, s349, s350, s351, s352, s353, s354, s355, s356, s357, s358, s359, s360, s361, s362, s363, s364, s365, s366, s367, s368, s369, s370, s371, s372, s373, s374, s375, s376, s377, s378, s379, s380, s381, s382, s383, s384, s385, s386, s387, s388, s389, s390, s391], []⟩ wr')
    (hR : ∀ (u13 u91 u92 u93 u94 u95 u96 u97 u98 : Value) (wr' : World), Below w0.heap.size w0 wr' → Q .ret ⟨#[s0, .int .i64 (cells : Int), .slice (some ⟨b, off, none⟩) len1 cap1, s3, s4, s5, .bool true, s7, s8, .pointer (some ⟨s, 0, none⟩), s10, .slice Am n cm, .int .i64 (j : Int), u13, s14, s15, s16, s17, s18, s19, s20, s21, s22, s23, s24, s25, s26, s27, s28, s29, s30, s31, s32, s33, s34, s35, s36, s37, s38, s39, s40, s41, s42, s43, s44, s45, s46, s47, s48, s49, s50, s51, s52, s53, s54, s55, s56, s57, s58, s59, s60, s61, s62, s63, s64, s65, s66, s67, s68, s69, s70, s71, s72, s73, s74, s75, s76, s77, s78, s79, s80, s81, s82, s83, s84, s85, s86, s87, s88, s89, s90, u91, u92, u93, u94, u95, u96, u97, u98, s99, s100, s101, s102, s103, s104, s105, s106, s107, s108, s109, s110, s111, s112, s113, s114, s115, s116, s117, s118, s119, s120, s121, s122, s123, s124, s125, s126, s127, s128, s129, s130, s131, s132, s133, s134, s135, s136, s137, s138, s139, s140, s141, s142, s143, s144, s145, s146, s147, s148, s149, s150, s151, s152, s153, s154, s155, s156, s157, s158, s159, s160, s161, s162, s163, s164, s165, s166, s167, s168, s169, s170, s171, s172, s173, s174, s175, s176, s177, s178, s179, s180, s181, s182, s183, s184, s185, s186, s187, s188, s189, s190, s191, s192, s193, s194, s195, s196, s197, s198, s199, s200, s201, s202, s203, s204, s205, s206, s207, s208, s209, s210, s211, s212, s213, s214, s215, s216, s217, s218, s219, s220, s221, s222, s223, s224, s225, s226, s227, s228, s229, s230, s231, s232, s233, s234, s235, s236, s237, s238, s239, s240, s241, s242, s243, s244, s245, s246, s247, s248, s249, s250, s251, s252, s253, s254, s255, s256, s257, s258, s259, s260, s261, s262, s263, s264, s265, s266, s267, s268, s269, s270, s271, s272, s273, s274, s275, s276, s277, s278, s279, s280, s281, s282, s283, s284, s285, s286, s287, s288, s289, s290, s291, s292, s293, s294, s295, s296, s297, s298, s299, s300, s301, s302, s303, s304, s305, s306, s307, s308, s309, s310, s311, s312, s313, s314, s315, s316, s317, s318, s319, s320, s321, s322, s323, s324, s325, s326, s327, s328, s329, s330, s331, s332, s333, s334, s335, s336, s337, s338, s339, s340, s341, s342, s343, s344, s345, s346, s347, s348, s349, s350, s351, s352, s353, s354, s355, s356, s357, s358, s359, s360, s361, s362, s363, s364, s365, s366, s367, s368, s369, s370, s371, s372, s373, s374, s375, s376, s377, s378, s379, s380, s381, s382, s383, s384, s385, s386, s387, s388, s389, s390, s391], []⟩ wr') :
    Code.wp Try.prog (spBlk 1) Q ⟨#[s0, .int .i64 (cells : Int), .slice (some ⟨b, off, none⟩) len1 cap1, s3, s4, s5, s6, s7, s8, .pointer (some ⟨s, 0, none⟩), s10, .slice Am n cm, .int .i64 (j : Int), s13, s14, s15, s16, s17, s18, s19, s20, s21, s22, s23, s24, s25, s26, s27, s28, s29, s30, s31, s32, s33, s34, s35, s36, s37, s38, s39, s40, s41, s42, s43, s44, s45, s46, s47, s48, s49, s50, s51, s52, s53, s54, s55, s56, s57, s58, s59, s60, s61, s62, s63, s64, s65, s66, s67, s68, s69, s70, s71, s72, s73, s74, s75, s76, s77, s78, s79, s80, s81, s82, s83, s84, s85, s86, s87, s88, s89, s90, s91, s92, s93, s94, s95, s96, s97, s98, s99, s100, s101, s102, s103, s104, s105, s106, s107, s108, s109, s110, s111, s112, s113, s114, s115, s116, s117, s118, s119, s120, s121, s122, s123, s124, s125, s126, s127, s128, s129, s130, s131, s132, s133, s134, s135, s136, s137, s138, s139, s140, s141, s142, s143, s144, s145, s146, s147, s148, s149, s150, s151, s152, s153, s154, s155, s156, s157, s158, s159, s160, s161, s162, s163, s164, s165, s166, s167, s168, s169, s170, s171, s172, s173, s174, s175, s176, s177, s178, s179, s180, s181, s182, s183, s184, s185, s186, s187, s188, s189, s190, s191, s192, s193, s194, s195, s196, s197, s198, s199, s200, s201, s202, s203, s204, s205, s206, s207, s208, s209, s210, s211, s212, s213, s214, s215, s216, s217, s218, s219, s220, s221, s222, s223, s224, s225, s226, s227, s228, s229, s230, s231, s232, s233, s234, s235, s236, s237, s238, s239, s240, s241, s242, s243, s244, s245, s246, s247, s248, s249, s250, s251, s252, s253, s254, s255, s256, s257, s258, s259, s260, s261, s262, s263, s264, s265, s266, s267, s268, s269, s270, s271, s272, s273, s274, s275, s276, s277, s278, s279, s280, s281, s282, s283, s284, s285, s286, s287, s288, s289, s290, s291, s292, s293, s294, s295, s296, s297, s298, s299, s300, s301, s302, s303, s304, s305, s306, s307, s308, s309, s310, s311, s312, s313, s314, s315, s316, s317, s318, s319, s320, s321, s322, s323, s324, s325, s326, s327, s328, s329, s330, s331, s332, s333, s334, s335, s336, s337, s338, s339, s340, s341, s342, s343, s344, s345, s346, s347, s348, s349, s350, s351, s352, s353, s354, s355, s356, s357, s358, s359, s360, s361, s362, s363, s364, s365, s366, s367, s368, s369, s370, s371, s372, s373, s374, s375, s376, s377, s378, s379, s380, s381, s382, s383, s384, s385, s386, s387, s388, s389, s390, s391], []⟩ wr := by
  have HN := Lib.hid hN
  have HR := Lib.hid hR
  have hbel := h.lo.bel
  have h1 := h.mv (below_alloc wr (.cells #[.int .u8 (kd : Int), .int .i64 x, .int .i64 y, .slice LB ln lc] 36))
  have c0 : wr.cell? ⟨b, off + j * 4, none⟩ = some (.int .u8 (kd : Int)) := (hbel.cell (p := ⟨b, off + j * 4, none⟩) hbl).trans hX.c0
  have c1 : wr.cell? ⟨b, off + j * 4 + 1, none⟩ = some (.int .i64 x) := (hbel.cell (p := ⟨b, off + j * 4 + 1, none⟩) hbl).trans hX.c1
  have c2 : wr.cell? ⟨b, off + j * 4 + 2, none⟩ = some (.int .i64 y) := (hbel.cell (p := ⟨b, off + j * 4 + 2, none⟩) hbl).trans hX.c2
  have c3 : wr.cell? ⟨b, off + j * 4 + 3, none⟩ = some (.slice LB ln lc) := (hbel.cell (p := ⟨b, off + j * 4 + 3, none⟩) hbl).trans hX.c3
  have hkd : kd < 256 := hX.kd
  have hx : -9223372036854775808 ≤ x ∧ x ≤ 9223372036854775807 := hX.x
  have hy : -9223372036854775808 ≤ y ∧ y ≤ 9223372036854775807 := hX.y
  have hll : ln ≤ lc := hX.L.1
  have hll2 : lc ≤ 9223372036854775807 := hX.L.2.1
  have hcm : n ≤ cm ∧ cm ≤ 9223372036854775807 := by
    obtain ⟨A', c', e, q1, q2⟩ := ownG_slice h.own
    injection e with e1 e2 e3
    subst e3
    exact ⟨q1, q2⟩
  have HX := Lib.hid hX
  have HWL := Lib.hid (hX.L.mv h1.lo.bel)
  have H1 := Lib.hid h1
  obtain ⟨M, hsk, hcon⟩ := h1.sk
  have hnc : n ≤ cells := hsk.hh
  have HSK := Lib.hid hsk
  have HCON := Lib.hid hcon
  obtain ⟨X1, hX1⟩ : ∃ X1 : Nat, x = X1 := ⟨x.toNat, by omega⟩
  obtain ⟨Y1, hY1⟩ : ∃ Y1 : Nat, y = Y1 := ⟨y.toNat, by omega⟩
  subst hX1 hY1
  have hXn : X1 ≤ n := by omega
  have hYn : Y1 + X1 ≤ n := by omega
  obtain ⟨r, hr⟩ : ∃ r, r = n - X1 := ⟨_, rfl⟩
  have hrn : r ≤ n := by omega
  have e1 : IntKind.i64.wrap ((n : Int) - (X1 : Int)) = (r : Int) := by rw [IntWalk.i64_in _ (by omega)]; omega
  have e1' : (n : Int) - (X1 : Int) = (r : Int) := by omega
  have er : IntKind.i64.wrap (r : Int) = (r : Int) := IntWalk.i64_in _ (by omega)
  have hdr : n - r = X1 := by omega
  have HP := Unwind_ok hsk X1 Y1 hYn
  unfold UnPost at HP
  have HP := Lib.hid HP
  have hco := hcon.unwind (c := Y1) (n := X1) hYn (by have := hsk.len; omega)
  have hc1 := slice_low (n := n) (k := Y1) (c := cm) (by omega) (own_addr h.own)
  obtain ⟨A2, hc2, hc2w⟩ := slice_high (A := Am) hrn hcm.1
  rw [hdr] at hc2 hc2w
  obtain ⟨C2, hC2⟩ : ∃ C2, C2 = cm - r := ⟨_, rfl⟩
  rw [← hC2] at hc2 hc2w
  have HC2w := Lib.hid hc2w
  have HR' := Lib.hid hr
  rw [← hr] at hco
  have HCO := Lib.hid hco
  clear hco hdr hC2 hr hc2w
  clear h hX hbel h1 hsk hcon hN hR
  conv => arg 2; whnf
  go_upto_region 21 with (first
    | (go_at_call 22
       with_reducible refine HP.out.mono ?_
       rintro e w2 ⟨rfl, hS, hF⟩
       dsimp only
       have hxn : Blk (wr.alloc (.cells #[.int .u8 (kd : Int), .int .i64 (X1 : Int), .int .i64 (Y1 : Int), .slice LB ln lc] 36)) wr.heap.size 36 #[.int .u8 (kd : Int), .int .i64 (X1 : Int), .int .i64 (Y1 : Int), .slice LB ln lc] := Blk.new wr 36 _
       have hx2 : Blk w2 wr.heap.size 36 #[.int .u8 (kd : Int), .int .i64 (X1 : Int), .int .i64 (Y1 : Int), .slice LB ln lc] := hxn.fr hF (by
         rintro (q | q)
         · exact hxn.ne_ HSK.out.are.byt (by decide) q
         · exact hxn.ne_ HSK.out.blk (by decide) q)
       have HX2 := Lib.hid hx2
       have HS2 := Lib.hid hS
       have u0 : w2.cell? ⟨wr.heap.size, 0, none⟩ = some (.int .u8 (kd : Int)) := hx2.cell 0
       have u1 : w2.cell? ⟨wr.heap.size, 1, none⟩ = some (.int .i64 (X1 : Int)) := hx2.cell 1
       have u2 : w2.cell? ⟨wr.heap.size, 2, none⟩ = some (.int .i64 (Y1 : Int)) := hx2.cell 2
       have u3 : w2.cell? ⟨wr.heap.size, 3, none⟩ = some (.slice LB ln lc) := hx2.cell 3
       have HO2 := Lib.hid (own38_step HSK.out H1.out.own hF)
       have HL2 := Lib.hid (H1.out.lo.step hF)
       clear hS hF hx2 hxn))
  have hWm : Wrd w2 Am n cm F := wrd_slice HO2.out H1.out.rt
  have hB0 := HL2.out.bel.size
  have hB3 := Nat.le_trans hB0 (below_alloc w2.drew (.cells #[] 38)).size
  have hxd : Blk w2.drew wr.heap.size 36 _ := HX2.out
  have hx3 : Blk (w2.drew.alloc (.cells #[] 38)) wr.heap.size 36 _ := hxd.alloc (.cells #[] 38)
  have hem : (w2.drew.alloc (.cells #[] 38)).ownsRow w0.heap.size 38 1 (.slice (some ⟨w2.drew.heap.size, 0, none⟩) 0 0) 0 [] := ownG_empty (Blk.new w2.drew 38 #[]) hB0
  have hm3 : Below w2.heap.size w2 (w2.drew.alloc (.cells #[] 38)) := below_drewN (Below.refl _ _) 1 |>.trans (below_alloc w2.drew (.cells #[] 38))
  have hem_ne : Value.ownBlock (.slice (some ⟨w2.drew.heap.size, 0, none⟩) 0 0) ≠ Value.ownBlock (.slice Am n cm) := fun e => ownG_new (y := w2.drew.heap.size) HO2.out (Nat.le_refl _) e.symm
  obtain ⟨v4, w4, hr4, ho4, hg4⟩ := app_run38 (X := Am) (m := Y1) (c := cm) (ys := rowsW F Y1) hem (rowsW_len _ _) (((hWm.low (by omega)).mv hm3)).src (((hWm.low (by omega)).mv hm3)).nil (rowsW_one _ _) (by omega) hB3
  rw [Nat.zero_add, List.nil_append] at ho4
  have hx4 : Blk w4 wr.heap.size 36 _ := hx3.fr (FrGrown hg4) (fun q => by
    obtain ⟨cs, hcs⟩ := ownG_ty hem q
    exact hcs.ne_ hx3 (by decide) rfl)
  have hS4 := (HS2.out.below hm3).grown hem hg4
  have hL4 := (HL2.out.mv hm3).grown38 hem hg4
  have hW4 : Wrd w4 Am n cm F := wrd_slice (ownG_fr (ownG_mv HO2.out hm3) (FrGrown hg4) (fun k hk q => hem_ne (by rw [q, hk]))) H1.out.rt
  obtain ⟨A4, c4, e4, _, _⟩ := ownG_slice ho4
  subst e4
  obtain ⟨v5, w5, hr5, ho5, hg5⟩ := app_run38 (X := A2) (m := X1) (c := C2) (ys := rowsW (fun i => F (r + i)) X1) ho4 (rowsW_len _ _) ((HC2w.out _ _ hW4)).src ((HC2w.out _ _ hW4)).nil (rowsW_one _ _) (by omega) hL4.bel.size
  have hx5 : Blk w5 wr.heap.size 36 _ := hx4.fr (FrGrown hg5) (fun q => by
    obtain ⟨cs, hcs⟩ := ownG_ty ho4 q
    exact hcs.ne_ hx4 (by decide) rfl)
  have hS5 := hS4.grown ho4 hg5
  have hL5 := hL4.grown38 ho4 hg5
  obtain ⟨A5, c5, e5, q5, q6⟩ := ownG_slice ho5
  subst e5
  rw [rowsW_app] at ho5
  obtain ⟨n2, hn2⟩ : ∃ n2, n2 = Y1 + X1 := ⟨_, rfl⟩
  rw [← hn2] at hS5 ho5 hr5 q5
  have q7 : c5 ≤ 9223372036854775807 := q6
  have HHt := Lib.hid (SkHeight_ok hS5.blk)
  have HRm := Lib.hid (SkRoom_i hS5)
  have HS5 := Lib.hid hS5
  have HO5 := Lib.hid ho5
  have HL5 := Lib.hid hL5
  have hn2c : n2 ≤ cells := hS5.hh
  have hn2j : n2 ≤ 50 * (j + 1) := by omega
  have HN2 := Lib.hid hn2
  clear hn2
  have d1 : w2.drew.cell? ⟨wr.heap.size, 1, none⟩ = some (.int .i64 (X1 : Int)) := hxd.cell 1
  have d2 : w2.drew.cell? ⟨wr.heap.size, 2, none⟩ = some (.int .i64 (Y1 : Int)) := hxd.cell 2
  have k31 : (w2.drew.alloc (.cells #[] 38)).cell? ⟨wr.heap.size, 1, none⟩ = some (.int .i64 (X1 : Int)) := hx3.cell 1
  have k32 : (w2.drew.alloc (.cells #[] 38)).cell? ⟨wr.heap.size, 2, none⟩ = some (.int .i64 (Y1 : Int)) := hx3.cell 2
  have k41 : w4.cell? ⟨wr.heap.size, 1, none⟩ = some (.int .i64 (X1 : Int)) := hx4.cell 1
  have k42 : w4.cell? ⟨wr.heap.size, 2, none⟩ = some (.int .i64 (Y1 : Int)) := hx4.cell 2
  have k51 : w5.cell? ⟨wr.heap.size, 1, none⟩ = some (.int .i64 (X1 : Int)) := hx5.cell 1
  have k52 : w5.cell? ⟨wr.heap.size, 2, none⟩ = some (.int .i64 (Y1 : Int)) := hx5.cell 2
  have HD3 := Lib.hid (And.intro k31 k32)
  have HD4 := Lib.hid (And.intro k41 k42)
  have HD5 := Lib.hid (And.intro k51 k52)
  clear hB3 hxd hx3 hem hm3 ho4 hx4 hS4 hL4 ho5 hg4 hg5 hx5 hS5 hL5 hWm hW4 hem_ne k31 k32 k41 k42 k51 k52 u0 u1 u2 u3 c0 c1 c2 c3
  refine wp_region_noPanic ?_
  refine wp_region_held_drew (S := (fun W => W.cell? ⟨wr.heap.size, 1, none⟩ = some (.int .i64 (X1 : Int)) ∧ W.cell? ⟨wr.heap.size, 2, none⟩ = some (.int .i64 (Y1 : Int)))) (by kernel_rfl) ⟨d1, d2⟩ (fun hHeld => ?_)
  refine wpAnyH_take (i := 1) (oi := ?oi_8) (v := ?_) ?hi_8 (by kernel_rfl) ?hf_8 (by kernel_rfl) ?hQ_8 ?hy_8 (by assumption) ?_
  case hi_8 => simp only [List.getElem?_toArray, List.getElem?_cons_zero, List.getElem?_cons_succ]; rfl
  case hf_8 => kernel_rfl
  case hQ_8 => exact fun _ _ _ h => h
  case hy_8 =>
    refine Or.inl ⟨by rfl, ?_⟩
    intro W hSw
    obtain ⟨q3, q4⟩ := hSw
    go_simp
    try with_reducible rfl
  try simp only [Act.put, List.setIfInBounds_toArray, List.set_cons_zero, List.set_cons_succ]
  refine wpAnyH_take (i := 2) (oi := ?oi_9) (v := ?_) ?hi_9 (by kernel_rfl) ?hf_9 (by kernel_rfl) ?hQ_9 ?hy_9 (by assumption) ?_
  case hi_9 => simp only [List.getElem?_toArray, List.getElem?_cons_zero, List.getElem?_cons_succ]; rfl
  case hf_9 => kernel_rfl
  case hQ_9 => exact fun _ _ _ h => h
  case hy_9 =>
    refine Or.inl ⟨by rfl, ?_⟩
    intro W hSw
    obtain ⟨q3, q4⟩ := hSw
    go_simp
    try with_reducible rfl
  try simp only [Act.put, List.setIfInBounds_toArray, List.set_cons_zero, List.set_cons_succ]
  refine wpAnyH_take (i := 3) (oi := ?oi_10) (v := ?_) ?hi_10 (by kernel_rfl) ?hf_10 (by kernel_rfl) ?hQ_10 ?hy_10 (by assumption) ?_
  case hi_10 => simp only [List.getElem?_toArray, List.getElem?_cons_zero, List.getElem?_cons_succ]; rfl
  case hf_10 => kernel_rfl
  case hQ_10 => exact fun _ _ _ h => h
  case hy_10 =>
    refine Or.inl ⟨by rfl, ?_⟩
    intro W hSw
    obtain ⟨q3, q4⟩ := hSw
    go_simp
    try with_reducible rfl
  try simp only [Act.put, List.setIfInBounds_toArray, List.set_cons_zero, List.set_cons_succ]
  refine wpAnyH_take (i := 4) (oi := ?oi_11) (v := ?_) ?hi_11 (by kernel_rfl) ?hf_11 (by kernel_rfl) ?hQ_11 ?hy_11 (by assumption) ?_
  case hi_11 => simp only [List.getElem?_toArray, List.getElem?_cons_zero, List.getElem?_cons_succ]; rfl
  case hf_11 => kernel_rfl
  case hQ_11 => exact fun _ _ _ h => h
  case hy_11 =>
    refine Or.inl ⟨by rfl, ?_⟩
    intro W hSw
    obtain ⟨q3, q4⟩ := hSw
    go_simp
    try with_reducible rfl
  try simp only [Act.put, List.setIfInBounds_toArray, List.set_cons_zero, List.set_cons_succ]
  refine wpAnyH_take (i := 6) (oi := ?oi_12) (v := ?_) ?hi_12 (by kernel_rfl) ?hf_12 (by kernel_rfl) ?hQ_12 ?hy_12 (by assumption) ?_
  case hi_12 => simp only [List.getElem?_toArray, List.getElem?_cons_zero, List.getElem?_cons_succ]; rfl
  case hf_12 => kernel_rfl
  case hQ_12 => exact fun _ _ _ h => h
  case hy_12 =>
    refine Or.inl ⟨by rfl, ?_⟩
    intro W hSw
    obtain ⟨q3, q4⟩ := hSw
    go_simp
    try with_reducible rfl
  try simp only [Act.put, List.setIfInBounds_toArray, List.set_cons_zero, List.set_cons_succ]
  refine wpAnyH_take (i := 7) (oi := ?oi_13) (v := ?_) ?hi_13 (by kernel_rfl) ?hf_13 (by kernel_rfl) ?hQ_13 ?hy_13 (by assumption) ?_
  case hi_13 => simp only [List.getElem?_toArray, List.getElem?_cons_zero, List.getElem?_cons_succ]; rfl
  case hf_13 => kernel_rfl
  case hQ_13 => exact fun _ _ _ h => h
  case hy_13 =>
    refine Or.inl ⟨by rfl, ?_⟩
    intro W hSw
    obtain ⟨q3, q4⟩ := hSw
    go_simp
    try with_reducible rfl
  try simp only [Act.put, List.setIfInBounds_toArray, List.set_cons_zero, List.set_cons_succ]
  refine wpAnyH_take (i := 8) (oi := ?oi_14) (v := ?_) ?hi_14 (by kernel_rfl) ?hf_14 (by kernel_rfl) ?hQ_14 ?hy_14 (by assumption) ?_
  case hi_14 => simp only [List.getElem?_toArray, List.getElem?_cons_zero, List.getElem?_cons_succ]; rfl
  case hf_14 => kernel_rfl
  case hQ_14 => exact fun _ _ _ h => h
  case hy_14 =>
    refine Or.inl ⟨by rfl, ?_⟩
    intro W hSw
    obtain ⟨q3, q4⟩ := hSw
    go_simp
    try with_reducible rfl
  try simp only [Act.put, List.setIfInBounds_toArray, List.set_cons_zero, List.set_cons_succ]
  refine wpAnyH_take (i := 9) (oi := ?oi_15) (v := ?_) ?hi_15 (by kernel_rfl) ?hf_15 (by kernel_rfl) ?hQ_15 ?hy_15 (by assumption) ?_
  case hi_15 => simp only [List.getElem?_toArray, List.getElem?_cons_zero, List.getElem?_cons_succ]; rfl
  case hf_15 => kernel_rfl
  case hQ_15 => exact fun _ _ _ h => h
  case hy_15 =>
    refine Or.inl ⟨by rfl, ?_⟩
    intro W hSw
    obtain ⟨q3, q4⟩ := hSw
    go_simp
    try with_reducible rfl
  try simp only [Act.put, List.setIfInBounds_toArray, List.set_cons_zero, List.set_cons_succ]
  refine wpAnyH_take (i := 10) (oi := ?oi_16) (v := ?_) ?hi_16 (by kernel_rfl) ?hf_16 (by kernel_rfl) ?hQ_16 ?hy_16 (by assumption) ?_
  case hi_16 => simp only [List.getElem?_toArray, List.getElem?_cons_zero, List.getElem?_cons_succ]; rfl
  case hf_16 => kernel_rfl
  case hQ_16 => exact fun _ _ _ h => h
  case hy_16 =>
    refine Or.inl ⟨by rfl, ?_⟩
    intro W hSw
    obtain ⟨q3, q4⟩ := hSw
    go_simp
    try with_reducible rfl
  try simp only [Act.put, List.setIfInBounds_toArray, List.set_cons_zero, List.set_cons_succ]
  refine wpAnyH_take (i := 11) (oi := ?oi_17) (v := ?_) ?hi_17 (by kernel_rfl) ?hf_17 (by kernel_rfl) ?hQ_17 ?hy_17 (by assumption) ?_
  case hi_17 => simp only [List.getElem?_toArray, List.getElem?_cons_zero, List.getElem?_cons_succ]; rfl
  case hf_17 => kernel_rfl
  case hQ_17 => exact fun _ _ _ h => h
  case hy_17 =>
    refine Or.inl ⟨by rfl, ?_⟩
    intro W hSw
    obtain ⟨q3, q4⟩ := hSw
    go_simp
    try with_reducible rfl
  try simp only [Act.put, List.setIfInBounds_toArray, List.set_cons_zero, List.set_cons_succ]
  refine wpAnyH_take (i := 12) (oi := ?oi_18) (v := ?_) ?hi_18 (by kernel_rfl) ?hf_18 (by kernel_rfl) ?hQ_18 ?hy_18 (by assumption) ?_
  case hi_18 => simp only [List.getElem?_toArray, List.getElem?_cons_zero, List.getElem?_cons_succ]; rfl
  case hf_18 => kernel_rfl
  case hQ_18 => exact fun _ _ _ h => h
  case hy_18 =>
    refine Or.inl ⟨by rfl, ?_⟩
    intro W hSw
    obtain ⟨q3, q4⟩ := hSw
    go_simp
    try with_reducible rfl
  try simp only [Act.put, List.setIfInBounds_toArray, List.set_cons_zero, List.set_cons_succ]
  refine wpAnyH_ready (rs := [0]) (by kernel_rfl) (by simp) ?_
  refine AllReadyH.cons (o := ?oi_19) ?hi_19 (fun K hK => ?_) AllReadyH.nil
  case hi_19 => first | (simp only [List.getElem?_toArray, List.getElem?_cons_zero, List.getElem?_cons_succ]; done) | (simp only [List.getElem?_toArray, List.getElem?_cons_zero, List.getElem?_cons_succ]; rfl)
  go_simp
  refine hK.out _ _ HD3.out (fun hHeld => ?_)
  clear hK K
  try simp only [Act.put, List.setIfInBounds_toArray, List.set_cons_zero, List.set_cons_succ]
  refine wpAnyH_ready (rs := [5]) (by kernel_rfl) (by simp) ?_
  refine AllReadyH.cons (o := ?oi_20) ?hi_20 (fun K hK => ?_) AllReadyH.nil
  case hi_20 => first | (simp only [List.getElem?_toArray, List.getElem?_cons_zero, List.getElem?_cons_succ]; done) | (simp only [List.getElem?_toArray, List.getElem?_cons_zero, List.getElem?_cons_succ]; rfl)
  refine step_append_run rfl (.tmp 135) (.tmp 139) 34 rfl _ _ _ w4 rfl rfl hr4 ?_
  refine hK.out _ _ HD4.out (fun hHeld => ?_)
  clear hK K
  try simp only [Act.put, List.setIfInBounds_toArray, List.set_cons_zero, List.set_cons_succ]
  refine wpAnyH_ready (rs := [13]) (by kernel_rfl) (by simp) ?_
  refine AllReadyH.cons (o := ?oi_21) ?hi_21 (fun K hK => ?_) AllReadyH.nil
  case hi_21 => first | (simp only [List.getElem?_toArray, List.getElem?_cons_zero, List.getElem?_cons_succ]; done) | (simp only [List.getElem?_toArray, List.getElem?_cons_zero, List.getElem?_cons_succ]; rfl)
  refine step_append_run rfl (.tmp 140) (.tmp 147) 34 rfl _ _ _ w5 rfl rfl hr5 ?_
  refine hK.out _ _ HD5.out (fun hHeld => ?_)
  clear hK K
  try simp only [Act.put, List.setIfInBounds_toArray, List.set_cons_zero, List.set_cons_succ]
  refine wpAnyH_take (i := 14) (oi := ?oi_22) (v := ?_) ?hi_22 (by kernel_rfl) ?hf_22 (by kernel_rfl) ?hQ_22 ?hy_22 (by assumption) ?_
  case hi_22 => simp only [List.getElem?_toArray, List.getElem?_cons_zero, List.getElem?_cons_succ]; rfl
  case hf_22 => kernel_rfl
  case hQ_22 => exact fun _ _ _ h => h
  case hy_22 =>
    refine Or.inl ⟨by rfl, ?_⟩
    intro W hSw
    obtain ⟨q3, q4⟩ := hSw
    go_simp
    try with_reducible rfl
  try simp only [Act.put, List.setIfInBounds_toArray, List.set_cons_zero, List.set_cons_succ]
  refine wpAnyH_done (by kernel_rfl) ?_ _
  clear hHeld
  refine NoPanic.normal ?_
  simp only [Exit.inBlock, Exit.then]
  go_wp2_with (first
    | (go_at_call 23; with_reducible refine (HHt.out).mono ?_; rintro e w' ⟨rfl, rfl⟩; dsimp only)
    | (go_at_call 24; with_reducible refine (HRm.out).mono ?_; rintro e w' ⟨rfl, kr, rfl⟩; dsimp only))
  apply HN.out (fun i => if i < Y1 then F i else F (r + (i - Y1))) A5 n2 c5
  · omega
  · refine SPI.dr (D := D) ⟨⟨_, HS5.out, by
      have := HCO.out
      rw [HR'.out] at this ⊢
      rw [HN2.out]
      exact this⟩, fun i hi => ?_, HO5.out, HL5.out⟩ _
    show (if i < Y1 then F i else F (r + (i - Y1))) < _
    by_cases q : i < Y1
    · rw [if_pos q]; exact H1.out.rt i (by omega)
    · rw [if_neg q]; exact H1.out.rt _ (by have := HN2.out; have := HR'.out; omega)
end Go.Proofs.Ythfdblpodnodcaa
