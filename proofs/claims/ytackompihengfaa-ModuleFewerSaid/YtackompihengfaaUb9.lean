/-
  Unfit: a loop.
-/
import Derived.Test.YtackompihengfaaUa
import Derived.BigQuiet
import Derived.Deep.RegionHeld3
import Derived.Deep.DeepCutAuto
import Derived.Deep.CutBlock
namespace Go.Proofs.Ytackompihengfaa
open Go.RowKit Go.PlainAid
set_option linter.unusedVariables false
set_option linter.unusedSimpArgs false
set_option maxHeartbeats 8000000 in
set_option maxRecDepth 1000000 in
theorem un9 {W0 wr : World} {bx na : Nat} {A9 : Option Addr} {n9 c9 : Nat} {A4 : Option Addr} {n4 c4 : Nat} {X9 : Nat → DaT} {X4 : Nat → LimT}
    (hbel : Below W0.heap.size W0 wr) (hbx : bx < W0.heap.size) (hc9 : W0.cell? ⟨bx, 9, none⟩ = some (.slice A9 n9 c9)) (hc4 : W0.cell? ⟨bx, 4, none⟩ = some (.slice A4 n4 c4)) (hr : Row 3 DaAt W0 A9 n9 c9 X9) (hr4 : Row 3 LimAt W0 A4 n4 c4 X4)  (hn9 : n9 ≤ 200) (hn4 : n4 ≤ 200) (hna : na ≤ 300) (hl : ∀ i, i < n9 → (X9 i).bs.length ≤ 4100)
    (s0 s2 s3 s5 s6 s7 s8 s9 s10 s11 s12 s13 s14 s15 s16 s17 s18 s20 s21 s22 s23 s24 s25 s26 s27 s28 s29 s30 s31 s32 s33 s34 s35 s36 s37 s38 s39 s40 s41 s42 s43 s44 s45 s46 s47 s48 s49 s50 s51 s52 s53 s54 s55 s56 s57 s58 s59 s60 s61 s62 s63 s64 s65 s66 s67 s68 s69 s70 s71 s72 s73 s74 s75 s76 s77 s78 s79 s80 s81 s82 s83 s84 s85 s86 s87 s88 s89 s90 s91 s92 s93 s94 s95 s96 s97 s98 s99 s100 s101 s102 s103 s104 s105 s106 s107 s108 s109 s110 s111 s112 s113 s114 s115 s116 s117 s118 s119 s120 s121 s122 s123 s124 s125 s126 s127 s128 s129 s130 s131 s132 s133 s134 s135 s136 s137 s138 s139 s140 s141 s142 s143 s144 s145 s146 s147 s148 s149 s150 s151 s152 s153 s154 s155 s156 s157 s158 s159 s160 s161 s162 s163 s164 s165 s166 s167 s168 s169 s170 s171 s172 s173 s174 s175 s176 s177 s178 s179 s180 s181 s182 s183 s184 s185 s186 s187 s188 s189 s190 s191 s192 s193 s194 s195 s196 s197 s198 s199 s200 s201 s202 s203 s204 s205 s206 s207 s208 s209 s210 s211 s212 s213 s214 s215 s216 s217 s218 s219 s220 s221 s222 s223 s224 s225 s226 s227 s228 s229 s230 s231 s232 s233 s234 s235 s236 s237 s238 s239 s240 s241 s242 s243 s244 s245 s246 s247 s248 s249 s250 s251 s252 s253 s254 s255 s256 s257 s258 s259 s260 s261 s262 s263 s264 s265 s266 s267 s268 s269 s270 s271 s272 s273 s274 s275 s276 s277 s278 s279 s280 s281 s282 s283 s284 s285 s286 s287 s288 s289 s290 s291 s292 s293 s294 s295 s296 s297 s298 s299 s300 s301 s302 s303 s304 s305 s306 s307 s308 s309 s310 s311 s312 s313 s314 s315 s316 s317 s318 s319 s320 s321 s322 s323 s324 s325 s326 s327 s328 s329 s330 s331 s332 s333 s334 s335 s336 s337 s338 s339 s340 s341 s342 s343 s344 s345 s346 s347 s348 s349 s350 s351 s352 s353 s354 s355 s356 s357 s358 s359 s360 s361 s362 s363 s364 s365 s366 s367 s368 s369 s370 s371 s372 s373 s374 s375 s376 s377 s378 s379 s380 s381 s382 s383 s384 s385 s386 s387 s388 s389 s390 s391 s392 : Value) (Q : Exit → Act → World → Prop)
    (hN : ∀ (u2 u3 u19 u20 u357 u358 u359 u360 u361 u362 u363 u364 u365 u366 u367 u368 u369 u370 u371 u372 u373 u374 u375 u376 u377 u378 u379 u380 u381 u382 u383 u384 u385 u386 u387 u388 u389 u390 u391 u392 : Value) (w' : World), UnN W0 w' (∀ i, i < n9 → (X9 i).bs.length ≤ 4096 ∧ 0 ≤ (X9 i).me ∧ (X9 i).me < n4 ∧ ((X4 (X9 i).me.toNat).wd = true ∨ (X9 i).at_ ≤ 4294967295)) → Q .normal ⟨#[s0, .pointer (some ⟨bx, 0, none⟩), u2, u3, .int .i64 (na : Int), s5, s6, s7, s8, s9, s10, s11, s12, s13, s14, s15, s16, s17, s18, u19, u20, s21, s22, s23, s24, s25, s26, s27, s28, s29, s30, s31, s32, s33, s34, s35, s36, s37, s38, s39, s40, s41, s42, s43, s44, s45, s46, s47, s48, s49, s50, s51, s52, s53, s54, s55, s56, s57, s58, s59, s60, s61, s62, s63, s64, s65, s66, s67, s68, s69, s70, s71, s72, s73, s74, s75, s76, s77, s78, s79, s80, s81, s82, s83, s84, s85, s86, s87, s88, s89, s90, s91, s92, s93, s94, s95, s96, s97, s98, s99, s100, s101, s102, s103, s104, s105, s106, s107, s108, s109, s110, s111, s112, s113, s114, s115, s116, s117, s118, s119, s120, s121, s122, s123, s124, s125, s126, s127, s128, s129, s130, s131, s132, s133, s134, s135, s136, s137, s138, s139, s140, s141, s142, s143, s144, s145, s146, s147, s148, s149, s150, s151, s152, s153, s154, s155, s156, s157, s158, s159, s160, s161, s162, s163, s164, s165, s166, s167, s168, s169, s170, s171, s172, s173, s174, s175, s176, s177, s178, s179, s180, s181, s182, s183, s184, s185, s186, s187, s188, s189, s190, s191, s192, s193, s194, s195, s196, s197, s198, s199, s200, s201, s202, s203, s204, s205, s206, s207, s208, s209, s210, s211, s212, s213, s214, s215, s216, s217, s218, s219, s220, s221, s222, s223, s224, s225, s226, s227, s228, s229, s230, s231, s232, s233, s234, s235, s236, s237, s238, s239, s240, s241, s242, s243, s244, s245, s246, s247, s248, s249, s250, s251, s252, s253, s254, s255, s256, s257, s258, s259, s260, s261, s262, s263, s264, s265, s266, s267, s268, s269, s270, s271, s272, s273, s274, s275, s276, s277, s278, s279, s280, s281, s282, s283, s284, s285, s286, s287, s288, s289, s290, s291, s292, s293, s294, s295, s296, s297, s298, s299, s300, s301, s302, s303, s304, s305, s306, s307, s308, s309, s310, s311, s312, s313, s314, s315, s316, s317, s318, s319, s320, s321, s322, s323, s324, s325, s326, s327, s328, s329, s330, s331, s332, s333, s334, s335, s336, s337, s338, s339, s340, s341, s342, s343, s344, s345, s346, s347, s348, s349, s350, s351, s352, s353, s354, s355, s356, u357, u358, u359, u360, u361, u362, u363, u364, u365, u366, u367, u368, u369, u370, u371, u372, u373, u374, u375, u376, u377, u378, u379, u380, u381, u382, u383, u384, u385, u386, u387, u388, u389, u390, u391, u392], []⟩ w')
    (hR : ∀ (t : Array Value) (w' : World), UnR W0 t w' → Q .ret ⟨t, []⟩ w') :
    Code.wp Try.prog (unBlk 18) Q ⟨#[s0, .pointer (some ⟨bx, 0, none⟩), s2, s3, .int .i64 (na : Int), s5, s6, s7, s8, s9, s10, s11, s12, s13, s14, s15, s16, s17, s18, .int .i64 0, s20, s21, s22, s23, s24, s25, s26, s27, s28, s29, s30, s31, s32, s33, s34, s35, s36, s37, s38, s39, s40, s41, s42, s43, s44, s45, s46, s47, s48, s49, s50, s51, s52, s53, s54, s55, s56, s57, s58, s59, s60, s61, s62, s63, s64, s65, s66, s67, s68, s69, s70, s71, s72, s73, s74, s75, s76, s77, s78, s79, s80, s81, s82, s83, s84, s85, s86, s87, s88, s89, s90, s91, s92, s93, s94, s95, s96, s97, s98, s99, s100, s101, s102, s103, s104, s105, s106, s107, s108, s109, s110, s111, s112, s113, s114, s115, s116, s117, s118, s119, s120, s121, s122, s123, s124, s125, s126, s127, s128, s129, s130, s131, s132, s133, s134, s135, s136, s137, s138, s139, s140, s141, s142, s143, s144, s145, s146, s147, s148, s149, s150, s151, s152, s153, s154, s155, s156, s157, s158, s159, s160, s161, s162, s163, s164, s165, s166, s167, s168, s169, s170, s171, s172, s173, s174, s175, s176, s177, s178, s179, s180, s181, s182, s183, s184, s185, s186, s187, s188, s189, s190, s191, s192, s193, s194, s195, s196, s197, s198, s199, s200, s201, s202, s203, s204, s205, s206, s207, s208, s209, s210, s211, s212, s213, s214, s215, s216, s217, s218, s219, s220, s221, s222, s223, s224, s225, s226, s227, s228, s229, s230, s231, s232, s233, s234, s235, s236, s237, s238, s239, s240, s241, s242, s243, s244, s245, s246, s247, s248, s249, s250, s251, s252, s253, s254, s255, s256, s257, s258, s259, s260, s261, s262, s263, s264, s265, s266, s267, s268, s269, s270, s271, s272, s273, s274, s275, s276, s277, s278, s279, s280, s281, s282, s283, s284, s285, s286, s287, s288, s289, s290, s291, s292, s293, s294, s295, s296, s297, s298, s299, s300, s301, s302, s303, s304, s305, s306, s307, s308, s309, s310, s311, s312, s313, s314, s315, s316, s317, s318, s319, s320, s321, s322, s323, s324, s325, s326, s327, s328, s329, s330, s331, s332, s333, s334, s335, s336, s337, s338, s339, s340, s341, s342, s343, s344, s345, s346, s347, s348, s349, s350, s351, s352, s353, s354, s355, s356, s357, s358, s359, s360, s361, s362, s363, s364, s365, s366, s367, s368, s369, s370, s371, s372, s373, s374, s375, s376, s377, s378, s379, s380, s381, s382, s383, s384, s385, s386, s387, s388, s389, s390, s391, s392], []⟩ wr := by
  have HNR := Lib.hid (And.intro hN hR)
  have HB0 := Lib.hid hbel
  have HRW := Lib.hid hr
  have HRW4 := Lib.hid hr4
  have HDD := Lib.hid hl
  have HC9 := Lib.hid hc9
  have HC4 := Lib.hid hc4
  clear hN hR hbel hr hc9 hc4 hr4 hl
  conv => arg 2; whnf
  go_wp2_with fail
  go_loopw [19] (fun v19 wr => ∃ k : Nat, k ≤ n9 ∧ v19 = .int .i64 k ∧ Hid (∀ i, i < k → (X9 i).bs.length ≤ 4096 ∧ 0 ≤ (X9 i).me ∧ (X9 i).me < n4 ∧ ((X4 (X9 i).me.toNat).wd = true ∨ (X9 i).at_ ≤ 4294967295)) ∧ Hid (Below W0.heap.size W0 wr)) (fun v19 _ => n9 - (intOf v19).toNat)
  case atStart => exact ⟨0, Nat.zero_le _, rfl, Lib.hid (fun i hi => absurd hi (by omega)), HB0⟩
  case round =>
    clear HB0
    obtain ⟨k, hk, rfl, HQ, HB⟩ := hrel
    have x9 : wr.cell? ⟨bx, 9, none⟩ = some (.slice A9 n9 c9) := (HB.out.cell (p := ⟨bx, 9, none⟩) hbx).trans HC9.out
    have x4 : wr.cell? ⟨bx, 4, none⟩ = some (.slice A4 n4 c4) := (HB.out.cell (p := ⟨bx, 4, none⟩) hbx).trans HC4.out
    by_cases hlt : k < n9
    · have hrw := HRW.out.below da_stay HB.out
      obtain ⟨b, off, rfl, hbl, hat⟩ := hrw.2.2 (by omega)
      have ha := hat k hlt
      have hcn : n9 ≤ c9 := hrw.1
      have hcm : c9 ≤ 9223372036854775807 := hrw.2.1
      have hdd := HDD.out k hlt
      clear hrw
      obtain ⟨A, c, y0, y1, y2, yb⟩ := ha
      have HKM : Hid (∀ g u fn, g = (X9 k).me → u = (X9 k).at_ → fn = (X9 k).bs.length → fn ≤ 4096 → 0 ≤ g → g < n4 → ((X4 g.toNat).wd = true ∨ u ≤ 4294967295) → (X9 k).bs.length ≤ 4096 ∧ 0 ≤ (X9 k).me ∧ (X9 k).me < n4 ∧ ((X4 (X9 k).me.toNat).wd = true ∨ (X9 k).at_ ≤ 4294967295)) := Lib.hid (fun g u fn e1 e2 e3 h1 h2 h3 h4 => by subst e1 e2 e3; exact ⟨h1, h2, h3, h4⟩)
      obtain ⟨fn, hfn⟩ : ∃ fn, fn = (X9 k).bs.length := ⟨_, rfl⟩
      rw [← hfn] at yb y2 hdd
      obtain ⟨g, hg⟩ : ∃ g, g = (X9 k).me := ⟨_, rfl⟩
      obtain ⟨u, hu⟩ : ∃ g, g = (X9 k).at_ := ⟨_, rfl⟩
      rw [← hg] at y0
      rw [← hu] at y1
      have HKK := Lib.hid (HKM.out g u fn hg hu hfn)
      clear hg hu hfn HKM
      have hfl : fn ≤ c := yb.2.2.1
      have hfc : c ≤ 9223372036854775807 := by have := yb.2.2.2.1; unfold maxLen at this; omega
      clear yb
      have HBA := Lib.hid (fun cs : Array Value => HB.out.alloc HB.out.size (.cells cs 84))
      have hbr : bx < wr.heap.size := Nat.lt_of_lt_of_le hbx HB.out.size
      have x4' := ((((Below.refl wr.heap.size wr).alloc (Nat.le_refl _) (.cells #[.int .i64 g, .int .u64 u, .slice A fn c] 84)).cell (p := ⟨bx, 4, none⟩) hbr).trans x4)
      by_cases h20 : fn ≤ 4096
      case neg =>
        go_wp2
        refine HNR.out.2 _ _ ⟨(HBA.out _), _, _, rfl, rfl, by decide⟩
      have HTa := Lib.hid (fun W => in_any g n4 W)
      cases hI : (decide (0 ≤ g) && decide (g < (n4 : Int))) with
      | false =>
        rw [hI] at HTa
        clear hI HKK
        go_wp2_with (go_at_call 15; (with_reducible refine (HTa.out _).mono ?_); rintro e w2 ⟨rfl, rfl⟩)
        refine HNR.out.2 _ _ ⟨(HBA.out _), _, _, rfl, rfl, by decide⟩
      | true =>
        rw [hI] at HTa
        rw [Bool.and_eq_true, decide_eq_true_eq, decide_eq_true_eq] at hI
        have HKL := Lib.hid (HKK.out h20 hI.1 hI.2)
        obtain ⟨mn, rfl⟩ := Int.eq_ofNat_of_zero_le hI.1
        have hmn : mn < n4 := by omega
        clear hI HKK
        have hrw4 := HRW4.out.below lim_stay HB.out
        obtain ⟨b4, off4, rfl, hbl4, hat4⟩ := hrw4.2.2 (by omega)
        obtain ⟨_, _, yw0⟩ := hat4 mn hmn
        have yw := ((((Below.refl wr.heap.size wr).alloc (Nat.le_refl _) (.cells #[.int .i64 (mn : Int), .int .u64 u, .slice A fn c] 84)).cell (p := ⟨b4, off4 + mn * 3 + 2, none⟩) hbl4).trans yw0)
        clear yw0
        have hn4c : n4 ≤ c4 := hrw4.1
        have hc4m : c4 ≤ 9223372036854775807 := hrw4.2.1
        clear hat4 hrw4
        have HKN : Hid ((X4 mn).wd = true ∨ u ≤ 4294967295 → (X9 k).bs.length ≤ 4096 ∧ 0 ≤ (X9 k).me ∧ (X9 k).me < n4 ∧ ((X4 (X9 k).me.toNat).wd = true ∨ (X9 k).at_ ≤ 4294967295)) := Lib.hid (fun h => HKL.out (by rw [Int.toNat_natCast]; exact h))
        cases hwd : (X4 mn).wd with
        | true =>
          rw [hwd] at yw
          have HK := Lib.hid (HKN.out (.inl hwd))
          clear hwd HKN HKL
          go_wp2_with (go_at_call 15; (with_reducible refine (HTa.out _).mono ?_); rintro e w2 ⟨rfl, rfl⟩)
          go_roundw
          case rel => exact ⟨k + 1, by omega, by go_num, Lib.hid (fun i hi => all_more' HQ.out HK.out i hi), Lib.hid (HBA.out _)⟩
          case measure => simp [intOf]; omega
        | false =>
          rw [hwd] at yw
          clear hwd HKL
          by_cases hu : u ≤ 4294967295
          · have HK := Lib.hid (HKN.out (.inr hu))
            have hu1 : ¬ 4294967295 < u := by omega
            clear HKN hu
            go_wp2_with (go_at_call 15; (with_reducible refine (HTa.out _).mono ?_); rintro e w2 ⟨rfl, rfl⟩)
            go_roundw
            case rel => exact ⟨k + 1, by omega, by go_num, Lib.hid (fun i hi => all_more' HQ.out HK.out i hi), Lib.hid (HBA.out _)⟩
            case measure => simp [intOf]; omega
          · have hu1 : 4294967295 < u := by omega
            clear HKN hu
            go_wp2_with (go_at_call 15; (with_reducible refine (HTa.out _).mono ?_); rintro e w2 ⟨rfl, rfl⟩)
            refine HNR.out.2 _ _ ⟨(HBA.out _), _, _, rfl, rfl, by decide⟩
    · have e0 : n9 = k := by omega
      subst e0
      go_wp2
      apply HNR.out.1
      exact ⟨HB.out, HQ.out⟩
end Go.Proofs.Ytackompihengfaa
