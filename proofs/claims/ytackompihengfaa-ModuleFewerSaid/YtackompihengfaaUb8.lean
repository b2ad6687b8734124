/-
  Unfit: a loop.
-/
import Derived.Test.YtackompihengfaaUa
import Derived.BigQuiet
import Derived.Deep.RegionHeld3
import Derived.Deep.DeepCutAuto
import Derived.Deep.CutBlock
namespace Go.Proofs.Ytackompihengfaa
open Go.RowKit Go.PlainAid
set_option linter.unusedVariables false
set_option linter.unusedSimpArgs false
set_option maxHeartbeats 8000000 in
set_option maxRecDepth 1000000 in
theorem un8 {W0 wr : World} {bx na : Nat} {A8 : Option Addr} {n8 c8 : Nat} {X8 : Nat → ElT} {tab : Int}
    (hbel : Below W0.heap.size W0 wr) (hbx : bx < W0.heap.size) (hc8 : W0.cell? ⟨bx, 8, none⟩ = some (.slice A8 n8 c8)) (hc3 : W0.cell? ⟨bx, 3, none⟩ = some (.int .i64 tab)) (hr : Row 2 ElAt W0 A8 n8 c8 X8)  (hn8 : n8 ≤ 200) (hna : na ≤ 300) (hl : ∀ i, i < n8 → (X8 i).fs.length ≤ 30)
    (s0 s2 s3 s5 s6 s7 s8 s9 s10 s11 s12 s13 s14 s15 s16 s18 s19 s20 s21 s22 s23 s24 s25 s26 s27 s28 s29 s30 s31 s32 s33 s34 s35 s36 s37 s38 s39 s40 s41 s42 s43 s44 s45 s46 s47 s48 s49 s50 s51 s52 s53 s54 s55 s56 s57 s58 s59 s60 s61 s62 s63 s64 s65 s66 s67 s68 s69 s70 s71 s72 s73 s74 s75 s76 s77 s78 s79 s80 s81 s82 s83 s84 s85 s86 s87 s88 s89 s90 s91 s92 s93 s94 s95 s96 s97 s98 s99 s100 s101 s102 s103 s104 s105 s106 s107 s108 s109 s110 s111 s112 s113 s114 s115 s116 s117 s118 s119 s120 s121 s122 s123 s124 s125 s126 s127 s128 s129 s130 s131 s132 s133 s134 s135 s136 s137 s138 s139 s140 s141 s142 s143 s144 s145 s146 s147 s148 s149 s150 s151 s152 s153 s154 s155 s156 s157 s158 s159 s160 s161 s162 s163 s164 s165 s166 s167 s168 s169 s170 s171 s172 s173 s174 s175 s176 s177 s178 s179 s180 s181 s182 s183 s184 s185 s186 s187 s188 s189 s190 s191 s192 s193 s194 s195 s196 s197 s198 s199 s200 s201 s202 s203 s204 s205 s206 s207 s208 s209 s210 s211 s212 s213 s214 s215 s216 s217 s218 s219 s220 s221 s222 s223 s224 s225 s226 s227 s228 s229 s230 s231 s232 s233 s234 s235 s236 s237 s238 s239 s240 s241 s242 s243 s244 s245 s246 s247 s248 s249 s250 s251 s252 s253 s254 s255 s256 s257 s258 s259 s260 s261 s262 s263 s264 s265 s266 s267 s268 s269 s270 s271 s272 s273 s274 s275 s276 s277 s278 s279 s280 s281 s282 s283 s284 s285 s286 s287 s288 s289 s290 s291 s292 s293 s294 s295 s296 s297 s298 s299 s300 s301 s302 s303 s304 s305 s306 s307 s308 s309 s310 s311 s312 s313 s314 s315 s316 s317 s318 s319 s320 s321 s322 s323 s324 s325 s326 s327 s328 s329 s330 s331 s332 s333 s334 s335 s336 s337 s338 s339 s340 s341 s342 s343 s344 s345 s346 s347 s348 s349 s350 s351 s352 s353 s354 s355 s356 s357 s358 s359 s360 s361 s362 s363 s364 s365 s366 s367 s368 s369 s370 s371 s372 s373 s374 s375 s376 s377 s378 s379 s380 s381 s382 s383 s384 s385 s386 s387 s388 s389 s390 s391 s392 : Value) (Q : Exit → Act → World → Prop)
    (hN : ∀ (u2 u3 u17 u18 u303 u304 u305 u306 u307 u308 u309 u310 u311 u312 u313 u314 u315 u316 u317 u318 u319 u320 u321 u322 u323 u324 u325 u326 u327 u328 u329 u330 u331 u332 u333 u334 u335 u336 u337 u338 u339 u340 u341 u342 u343 u344 u345 u346 u347 u348 u349 u350 u351 u352 : Value) (w' : World), UnN W0 w' (∀ i, i < n8 → (X8 i).fs.length ≤ 20 ∧ 0 ≤ tab ∧ (X8 i).at_ ≤ 4294967295 ∧ ∀ j, j < (X8 i).fs.length → 0 ≤ (X8 i).fs.getD j 0 ∧ (X8 i).fs.getD j 0 < na) → Q .normal ⟨#[s0, .pointer (some ⟨bx, 0, none⟩), u2, u3, .int .i64 (na : Int), s5, s6, s7, s8, s9, s10, s11, s12, s13, s14, s15, s16, u17, u18, s19, s20, s21, s22, s23, s24, s25, s26, s27, s28, s29, s30, s31, s32, s33, s34, s35, s36, s37, s38, s39, s40, s41, s42, s43, s44, s45, s46, s47, s48, s49, s50, s51, s52, s53, s54, s55, s56, s57, s58, s59, s60, s61, s62, s63, s64, s65, s66, s67, s68, s69, s70, s71, s72, s73, s74, s75, s76, s77, s78, s79, s80, s81, s82, s83, s84, s85, s86, s87, s88, s89, s90, s91, s92, s93, s94, s95, s96, s97, s98, s99, s100, s101, s102, s103, s104, s105, s106, s107, s108, s109, s110, s111, s112, s113, s114, s115, s116, s117, s118, s119, s120, s121, s122, s123, s124, s125, s126, s127, s128, s129, s130, s131, s132, s133, s134, s135, s136, s137, s138, s139, s140, s141, s142, s143, s144, s145, s146, s147, s148, s149, s150, s151, s152, s153, s154, s155, s156, s157, s158, s159, s160, s161, s162, s163, s164, s165, s166, s167, s168, s169, s170, s171, s172, s173, s174, s175, s176, s177, s178, s179, s180, s181, s182, s183, s184, s185, s186, s187, s188, s189, s190, s191, s192, s193, s194, s195, s196, s197, s198, s199, s200, s201, s202, s203, s204, s205, s206, s207, s208, s209, s210, s211, s212, s213, s214, s215, s216, s217, s218, s219, s220, s221, s222, s223, s224, s225, s226, s227, s228, s229, s230, s231, s232, s233, s234, s235, s236, s237, s238, s239, s240, s241, s242, s243, s244, s245, s246, s247, s248, s249, s250, s251, s252, s253, s254, s255, s256, s257, s258, s259, s260, s261, s262, s263, s264, s265, s266, s267, s268, s269, s270, s271, s272, s273, s274, s275, s276, s277, s278, s279, s280, s281, s282, s283, s284, s285, s286, s287, s288, s289, s290, s291, s292, s293, s294, s295, s296, s297, s298, s299, s300, s301, s302, u303, u304, u305, u306, u307, u308, u309, u310, u311, u312, u313, u314, u315, u316, u317, u318, u319, u320, u321, u322, u323, u324, u325, u326, u327, u328, u329, u330, u331, u332, u333, u334, u335, u336, u337, u338, u339, u340, u341, u342, u343, u344, u345, u346, u347, u348, u349, u350, u351, u352, s353, s354, s355, s356, s357, s358, s359, s360, s361, s362, s363, s364, s365, s366, s367, s368, s369, s370, s371, s372, s373, s374, s375, s376, s377, s378, s379, s380, s381, s382, s383, s384, s385, s386, s387, s388, s389, s390, s391, s392], []⟩ w')
    (hR : ∀ (t : Array Value) (w' : World), UnR W0 t w' → Q .ret ⟨t, []⟩ w') :
    Code.wp Try.prog (unBlk 14) Q ⟨#[s0, .pointer (some ⟨bx, 0, none⟩), s2, s3, .int .i64 (na : Int), s5, s6, s7, s8, s9, s10, s11, s12, s13, s14, s15, s16, .int .i64 0, s18, s19, s20, s21, s22, s23, s24, s25, s26, s27, s28, s29, s30, s31, s32, s33, s34, s35, s36, s37, s38, s39, s40, s41, s42, s43, s44, s45, s46, s47, s48, s49, s50, s51, s52, s53, s54, s55, s56, s57, s58, s59, s60, s61, s62, s63, s64, s65, s66, s67, s68, s69, s70, s71, s72, s73, s74, s75, s76, s77, s78, s79, s80, s81, s82, s83, s84, s85, s86, s87, s88, s89, s90, s91, s92, s93, s94, s95, s96, s97, s98, s99, s100, s101, s102, s103, s104, s105, s106, s107, s108, s109, s110, s111, s112, s113, s114, s115, s116, s117, s118, s119, s120, s121, s122, s123, s124, s125, s126, s127, s128, s129, s130, s131, s132, s133, s134, s135, s136, s137, s138, s139, s140, s141, s142, s143, s144, s145, s146, s147, s148, s149, s150, s151, s152, s153, s154, s155, s156, s157, s158, s159, s160, s161, s162, s163, s164, s165, s166, s167, s168, s169, s170, s171, s172, s173, s174, s175, s176, s177, s178, s179, s180, s181, s182, s183, s184, s185, s186, s187, s188, s189, s190, s191, s192, s193, s194, s195, s196, s197, s198, s199, s200, s201, s202, s203, s204, s205, s206, s207, s208, s209, s210, s211, s212, s213, s214, s215, s216, s217, s218, s219, s220, s221, s222, s223, s224, s225, s226, s227, s228, s229, s230, s231, s232, s233, s234, s235, s236, s237, s238, s239, s240, s241, s242, s243, s244, s245, s246, s247, s248, s249, s250, s251, s252, s253, s254, s255, s256, s257, s258, s259, s260, s261, s262, s263, s264, s265, s266, s267, s268, s269, s270, s271, s272, s273, s274, s275, s276, s277, s278, s279, s280, s281, s282, s283, s284, s285, s286, s287, s288, s289, s290, s291, s292, s293, s294, s295, s296, s297, s298, s299, s300, s301, s302, s303, s304, s305, s306, s307, s308, s309, s310, s311, s312, s313, s314, s315, s316, s317, s318, s319, s320, s321, s322, s323, s324, s325, s326, s327, s328, s329, s330, s331, s332, s333, s334, s335, s336, s337, s338, s339, s340, s341, s342, s343, s344, s345, s346, s347, s348, s349, s350, s351, s352, s353, s354, s355, s356, s357, s358, s359, s360, s361, s362, s363, s364, s365, s366, s367, s368, s369, s370, s371, s372, s373, s374, s375, s376, s377, s378, s379, s380, s381, s382, s383, s384, s385, s386, s387, s388, s389, s390, s391, s392], []⟩ wr := by
  have HNR := Lib.hid (And.intro hN hR)
  have HB0 := Lib.hid hbel
  have HRW := Lib.hid hr
  have HDD := Lib.hid hl
  have HC8 := Lib.hid hc8
  have HC3 := Lib.hid hc3
  clear hN hR hbel hr hc8 hc3 hl
  conv => arg 2; whnf
  go_wp2_with fail
  go_loopw [17] (fun v17 wr => ∃ k : Nat, k ≤ n8 ∧ v17 = .int .i64 k ∧ Hid (∀ i, i < k → (X8 i).fs.length ≤ 20 ∧ 0 ≤ tab ∧ (X8 i).at_ ≤ 4294967295 ∧ ∀ j, j < (X8 i).fs.length → 0 ≤ (X8 i).fs.getD j 0 ∧ (X8 i).fs.getD j 0 < na) ∧ Hid (Below W0.heap.size W0 wr)) (fun v17 _ => n8 - (intOf v17).toNat)
  case atStart => exact ⟨0, Nat.zero_le _, rfl, Lib.hid (fun i hi => absurd hi (by omega)), HB0⟩
  case round =>
    clear HB0
    obtain ⟨k, hk, rfl, HQ, HB⟩ := hrel
    have x8 : wr.cell? ⟨bx, 8, none⟩ = some (.slice A8 n8 c8) := (HB.out.cell (p := ⟨bx, 8, none⟩) hbx).trans HC8.out
    have x3 : wr.cell? ⟨bx, 3, none⟩ = some (.int .i64 tab) := (HB.out.cell (p := ⟨bx, 3, none⟩) hbx).trans HC3.out
    by_cases hlt : k < n8
    · have hrw := HRW.out.below el_stay HB.out
      obtain ⟨b, off, rfl, hbl, hat⟩ := hrw.2.2 (by omega)
      have ha := hat k hlt
      have hcn : n8 ≤ c8 := hrw.1
      have hcm : c8 ≤ 9223372036854775807 := hrw.2.1
      have hdd := HDD.out k hlt
      clear hrw
      clear hat
      obtain ⟨A, c, y0, y1, ys⟩ := ha
      have HKM : Hid (∀ g fs fn, g = (X8 k).at_ → fs = (X8 k).fs → fn = (X8 k).fs.length → fn ≤ 20 → 0 ≤ tab → g ≤ 4294967295 → (∀ j, j < fn → 0 ≤ fs.getD j 0 ∧ fs.getD j 0 < na) → (X8 k).fs.length ≤ 20 ∧ 0 ≤ tab ∧ (X8 k).at_ ≤ 4294967295 ∧ ∀ j, j < (X8 k).fs.length → 0 ≤ (X8 k).fs.getD j 0 ∧ (X8 k).fs.getD j 0 < na) := Lib.hid (fun g fs fn e1 e2 e3 h1 h2 h3 h4 => by subst e1 e2 e3; exact ⟨h1, h2, h3, h4⟩)
      obtain ⟨g, hg⟩ : ∃ g, g = (X8 k).at_ := ⟨_, rfl⟩
      obtain ⟨fs, hfs⟩ : ∃ fs, fs = (X8 k).fs := ⟨_, rfl⟩
      obtain ⟨fn, hfn⟩ : ∃ fn, fn = (X8 k).fs.length := ⟨_, rfl⟩
      rw [← hg] at y0
      rw [← hfn] at ys y1 hdd
      rw [← hfs] at ys
      have HKK := Lib.hid (HKM.out g fs fn hg hfs hfn)
      clear hg hfs hfn HKM
      have HYS := Lib.hid ys
      have hfl : fn ≤ c := ys.2.1
      have hfc : c ≤ 9223372036854775807 := ys.2.2.1
      clear ys
      by_cases h20 : fn ≤ 20
      case neg =>
        go_wp2
        refine HNR.out.2 _ _ ⟨HB.out, _, _, rfl, rfl, by decide⟩
      by_cases ht0 : 0 ≤ tab
      case neg =>
        have ht1 : tab < 0 := by omega
        go_wp2
        refine HNR.out.2 _ _ ⟨HB.out, _, _, rfl, rfl, by decide⟩
      by_cases hgm : g ≤ 4294967295
      case neg =>
        have hg1 : 4294967295 < g := by omega
        go_wp2
        refine HNR.out.2 _ _ ⟨HB.out, _, _, rfl, rfl, by decide⟩
      have hg1 : ¬ 4294967295 < g := by omega
      have HKL := Lib.hid (HKK.out h20 ht0 hgm)
      clear HKK hgm
      go_wp2_with fail
      go_loopw [18] (fun v18 wy => ∃ m : Nat, m ≤ fn ∧ v18 = .int .i64 m ∧ Hid (∀ j, j < m → 0 ≤ fs.getD j 0 ∧ fs.getD j 0 < na) ∧ Hid (Below wr.heap.size wr wy)) (fun v18 _ => fn - (intOf v18).toNat)
      case atStart => exact ⟨0, Nat.zero_le _, rfl, Lib.hid (fun i hi => absurd hi (by omega)), Lib.hid (Below.refl _ _)⟩
      case round =>
        clear x8 x3
        obtain ⟨m, hm, rfl, HM, HBM⟩ := hrel
        have HBE := Lib.hid (HB.out.trans (HBM.out.mono HB.out.size))
        have xx8 : wr.cell? ⟨bx, 8, none⟩ = some (.slice (some ⟨b, off, none⟩) n8 c8) := (HBE.out.cell (p := ⟨bx, 8, none⟩) hbx).trans HC8.out
        have yy1 : wr.cell? ⟨b, off + k * 2 + 1, none⟩ = some (.slice A fn c) := (HBM.out.cell (p := ⟨b, off + k * 2 + 1, none⟩) hbl).trans y1
        by_cases hlm : m < fn
        · obtain ⟨bf, of_, rfl, hbf, hcf⟩ := HYS.out.2.2.2 (by omega)
          have yf : wr.cell? ⟨bf, of_ + m, none⟩ = some (.int .i64 (fs.getD m 0)) := (HBM.out.cell (p := ⟨bf, of_ + m, none⟩) hbf).trans (hcf m (by omega))
          have HNE : Hid (∀ t, t = fs.getD m 0 → 0 ≤ t → t < na → ∀ j, j < m + 1 → 0 ≤ fs.getD j 0 ∧ fs.getD j 0 < na) := Lib.hid (fun t e h1 h2 => all_more' HM.out (e ▸ ⟨h1, h2⟩))
          obtain ⟨t, ht⟩ : ∃ t, t = fs.getD m 0 := ⟨_, rfl⟩
          rw [← ht] at yf
          have HNF := Lib.hid (HNE.out t ht)
          clear ht HNE hcf y1
          have HTa := Lib.hid (fun W => in_any t na W)
          cases hI : (decide (0 ≤ t) && decide (t < (na : Int))) with
          | false =>
            rw [hI] at HTa
            clear hI HNF
            go_wp2_with (go_at_call 15; (with_reducible refine (HTa.out _).mono ?_); rintro e w2 ⟨rfl, rfl⟩)
            refine HNR.out.2 _ _ ⟨HBE.out, _, _, rfl, rfl, by decide⟩
          | true =>
            rw [hI] at HTa
            rw [Bool.and_eq_true, decide_eq_true_eq, decide_eq_true_eq] at hI
            have HNG := Lib.hid (HNF.out hI.1 hI.2)
            clear hI HNF
            go_wp2_with (go_at_call 15; (with_reducible refine (HTa.out _).mono ?_); rintro e w2 ⟨rfl, rfl⟩)
            go_roundw
            case rel => exact ⟨m + 1, by omega, by go_num, HNG, HBM⟩
            case measure => simp [intOf]; omega
        · obtain rfl : m = fn := by omega
          have HK := Lib.hid (HKL.out HM.out)
          clear HKL y1
          go_wp2
          go_roundw
          case rel => exact ⟨k + 1, by omega, by go_num, Lib.hid (fun i hi => all_more' HQ.out HK.out i hi), HBE⟩
          case measure => simp [intOf]; omega
    · have e0 : n8 = k := by omega
      subst e0
      go_wp2
      apply HNR.out.1
      exact ⟨HB.out, HQ.out⟩
end Go.Proofs.Ytackompihengfaa
