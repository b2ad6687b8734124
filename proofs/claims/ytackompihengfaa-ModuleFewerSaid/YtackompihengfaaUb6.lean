/-
  Unfit: a loop.
-/
import Derived.Test.YtackompihengfaaUa
import Derived.BigQuiet
import Derived.Deep.RegionHeld3
import Derived.Deep.DeepCutAuto
import Derived.Deep.CutBlock
namespace Go.Proofs.Ytackompihengfaa
open Go.RowKit Go.PlainAid
set_option linter.unusedVariables false
set_option linter.unusedSimpArgs false
set_option maxHeartbeats 8000000 in
set_option maxRecDepth 1000000 in
theorem un6 {W0 wr : World} {bx na : Nat} {A6 : Option Addr} {n6 c6 : Nat} {A4 : Option Addr} {n4 c4 : Nat} {A5 : Option Addr} {n5 c5 : Nat} {X6 : Nat → ExT} {tab : Int}
    (hbel : Below W0.heap.size W0 wr) (hbx : bx < W0.heap.size) (hc6 : W0.cell? ⟨bx, 6, none⟩ = some (.slice A6 n6 c6)) (hc3 : W0.cell? ⟨bx, 3, none⟩ = some (.int .i64 tab)) (hc4 : W0.cell? ⟨bx, 4, none⟩ = some (.slice A4 n4 c4)) (hc5 : W0.cell? ⟨bx, 5, none⟩ = some (.slice A5 n5 c5)) (hr : Row 3 ExAt W0 A6 n6 c6 X6)  (hn6 : n6 ≤ 200) (hn4 : n4 ≤ 200) (hn5 : n5 ≤ 200) (hna : na ≤ 300) (hl : ∀ i, i < n6 → (X6 i).nm.size ≤ 60)
    (s0 s2 s3 s5 s6 s7 s8 s9 s10 s11 s13 s14 s15 s16 s17 s18 s19 s20 s21 s22 s23 s24 s25 s26 s27 s28 s29 s30 s31 s32 s33 s34 s35 s36 s37 s38 s39 s40 s41 s42 s43 s44 s45 s46 s47 s48 s49 s50 s51 s52 s53 s54 s55 s56 s57 s58 s59 s60 s61 s62 s63 s64 s65 s66 s67 s68 s69 s70 s71 s72 s73 s74 s75 s76 s77 s78 s79 s80 s81 s82 s83 s84 s85 s86 s87 s88 s89 s90 s91 s92 s93 s94 s95 s96 s97 s98 s99 s100 s101 s102 s103 s104 s105 s106 s107 s108 s109 s110 s111 s112 s113 s114 s115 s116 s117 s118 s119 s120 s121 s122 s123 s124 s125 s126 s127 s128 s129 s130 s131 s132 s133 s134 s135 s136 s137 s138 s139 s140 s141 s142 s143 s144 s145 s146 s147 s148 s149 s150 s151 s152 s153 s154 s155 s156 s157 s158 s159 s160 s161 s162 s163 s164 s165 s166 s167 s168 s169 s170 s171 s172 s173 s174 s175 s176 s177 s178 s179 s180 s181 s182 s183 s184 s185 s186 s187 s188 s189 s190 s191 s192 s193 s194 s195 s196 s197 s198 s199 s200 s201 s202 s203 s204 s205 s206 s207 s208 s209 s210 s211 s212 s213 s214 s215 s216 s217 s218 s219 s220 s221 s222 s223 s224 s225 s226 s227 s228 s229 s230 s231 s232 s233 s234 s235 s236 s237 s238 s239 s240 s241 s242 s243 s244 s245 s246 s247 s248 s249 s250 s251 s252 s253 s254 s255 s256 s257 s258 s259 s260 s261 s262 s263 s264 s265 s266 s267 s268 s269 s270 s271 s272 s273 s274 s275 s276 s277 s278 s279 s280 s281 s282 s283 s284 s285 s286 s287 s288 s289 s290 s291 s292 s293 s294 s295 s296 s297 s298 s299 s300 s301 s302 s303 s304 s305 s306 s307 s308 s309 s310 s311 s312 s313 s314 s315 s316 s317 s318 s319 s320 s321 s322 s323 s324 s325 s326 s327 s328 s329 s330 s331 s332 s333 s334 s335 s336 s337 s338 s339 s340 s341 s342 s343 s344 s345 s346 s347 s348 s349 s350 s351 s352 s353 s354 s355 s356 s357 s358 s359 s360 s361 s362 s363 s364 s365 s366 s367 s368 s369 s370 s371 s372 s373 s374 s375 s376 s377 s378 s379 s380 s381 s382 s383 s384 s385 s386 s387 s388 s389 s390 s391 s392 : Value) (Q : Exit → Act → World → Prop)
    (hN : ∀ (u2 u3 u12 u13 u14 u15 u197 u198 u199 u200 u201 u202 u203 u204 u205 u206 u207 u208 u209 u210 u211 u212 u213 u214 u215 u216 u217 u218 u219 u220 u221 u222 u223 u224 u225 u226 u227 u228 u229 u230 u231 u232 u233 u234 u235 u236 u237 u238 u239 u240 u241 u242 u243 u244 u245 u246 u247 u248 u249 u250 u251 u252 u253 u254 u255 u256 u257 u258 u259 u260 u261 u262 u263 u264 u265 u266 u267 u268 u269 u270 u271 u272 u273 u274 u275 u276 u277 u278 : Value) (w' : World), UnN W0 w' (∀ i, i < n6 → nmB (X6 i).nm = true ∧ (∀ k, k < i → (X6 k).nm ≠ (X6 i).nm) ∧ (((X6 i).kd = 0 ∧ 0 ≤ (X6 i).ix ∧ (X6 i).ix < na) ∨ ((X6 i).kd = 1 ∧ 0 ≤ tab ∧ (X6 i).ix = 0) ∨ ((X6 i).kd = 2 ∧ 0 ≤ (X6 i).ix ∧ (X6 i).ix < n4) ∨ ((X6 i).kd = 3 ∧ 0 ≤ (X6 i).ix ∧ (X6 i).ix < n5))) → Q .normal ⟨#[s0, .pointer (some ⟨bx, 0, none⟩), u2, u3, .int .i64 (na : Int), s5, s6, s7, s8, s9, s10, s11, u12, u13, u14, u15, s16, s17, s18, s19, s20, s21, s22, s23, s24, s25, s26, s27, s28, s29, s30, s31, s32, s33, s34, s35, s36, s37, s38, s39, s40, s41, s42, s43, s44, s45, s46, s47, s48, s49, s50, s51, s52, s53, s54, s55, s56, s57, s58, s59, s60, s61, s62, s63, s64, s65, s66, s67, s68, s69, s70, s71, s72, s73, s74, s75, s76, s77, s78, s79, s80, s81, s82, s83, s84, s85, s86, s87, s88, s89, s90, s91, s92, s93, s94, s95, s96, s97, s98, s99, s100, s101, s102, s103, s104, s105, s106, s107, s108, s109, s110, s111, s112, s113, s114, s115, s116, s117, s118, s119, s120, s121, s122, s123, s124, s125, s126, s127, s128, s129, s130, s131, s132, s133, s134, s135, s136, s137, s138, s139, s140, s141, s142, s143, s144, s145, s146, s147, s148, s149, s150, s151, s152, s153, s154, s155, s156, s157, s158, s159, s160, s161, s162, s163, s164, s165, s166, s167, s168, s169, s170, s171, s172, s173, s174, s175, s176, s177, s178, s179, s180, s181, s182, s183, s184, s185, s186, s187, s188, s189, s190, s191, s192, s193, s194, s195, s196, u197, u198, u199, u200, u201, u202, u203, u204, u205, u206, u207, u208, u209, u210, u211, u212, u213, u214, u215, u216, u217, u218, u219, u220, u221, u222, u223, u224, u225, u226, u227, u228, u229, u230, u231, u232, u233, u234, u235, u236, u237, u238, u239, u240, u241, u242, u243, u244, u245, u246, u247, u248, u249, u250, u251, u252, u253, u254, u255, u256, u257, u258, u259, u260, u261, u262, u263, u264, u265, u266, u267, u268, u269, u270, u271, u272, u273, u274, u275, u276, u277, u278, s279, s280, s281, s282, s283, s284, s285, s286, s287, s288, s289, s290, s291, s292, s293, s294, s295, s296, s297, s298, s299, s300, s301, s302, s303, s304, s305, s306, s307, s308, s309, s310, s311, s312, s313, s314, s315, s316, s317, s318, s319, s320, s321, s322, s323, s324, s325, s326, s327, s328, s329, s330, s331, s332, s333, s334, s335, s336, s337, s338, s339, s340, s341, s342, s343, s344, s345, s346, s347, s348, s349, s350, s351, s352, s353, s354, s355, s356, s357, s358, s359, s360, s361, s362, s363, s364, s365, s366, s367, s368, s369, s370, s371, s372, s373, s374, s375, s376, s377, s378, s379, s380, s381, s382, s383, s384, s385, s386, s387, s388, s389, s390, s391, s392], []⟩ w')
    (hR : ∀ (t : Array Value) (w' : World), UnR W0 t w' → Q .ret ⟨t, []⟩ w') :
    Code.wp Try.prog (unBlk 10) Q ⟨#[s0, .pointer (some ⟨bx, 0, none⟩), s2, s3, .int .i64 (na : Int), s5, s6, s7, s8, s9, s10, s11, .int .i64 0, s13, s14, s15, s16, s17, s18, s19, s20, s21, s22, s23, s24, s25, s26, s27, s28, s29, s30, s31, s32, s33, s34, s35, s36, s37, s38, s39, s40, s41, s42, s43, s44, s45, s46, s47, s48, s49, s50, s51, s52, s53, s54, s55, s56, s57, s58, s59, s60, s61, s62, s63, s64, s65, s66, s67, s68, s69, s70, s71, s72, s73, s74, s75, s76, s77, s78, s79, s80, s81, s82, s83, s84, s85, s86, s87, s88, s89, s90, s91, s92, s93, s94, s95, s96, s97, s98, s99, s100, s101, s102, s103, s104, s105, s106, s107, s108, s109, s110, s111, s112, s113, s114, s115, s116, s117, s118, s119, s120, s121, s122, s123, s124, s125, s126, s127, s128, s129, s130, s131, s132, s133, s134, s135, s136, s137, s138, s139, s140, s141, s142, s143, s144, s145, s146, s147, s148, s149, s150, s151, s152, s153, s154, s155, s156, s157, s158, s159, s160, s161, s162, s163, s164, s165, s166, s167, s168, s169, s170, s171, s172, s173, s174, s175, s176, s177, s178, s179, s180, s181, s182, s183, s184, s185, s186, s187, s188, s189, s190, s191, s192, s193, s194, s195, s196, s197, s198, s199, s200, s201, s202, s203, s204, s205, s206, s207, s208, s209, s210, s211, s212, s213, s214, s215, s216, s217, s218, s219, s220, s221, s222, s223, s224, s225, s226, s227, s228, s229, s230, s231, s232, s233, s234, s235, s236, s237, s238, s239, s240, s241, s242, s243, s244, s245, s246, s247, s248, s249, s250, s251, s252, s253, s254, s255, s256, s257, s258, s259, s260, s261, s262, s263, s264, s265, s266, s267, s268, s269, s270, s271, s272, s273, s274, s275, s276, s277, s278, s279, s280, s281, s282, s283, s284, s285, s286, s287, s288, s289, s290, s291, s292, s293, s294, s295, s296, s297, s298, s299, s300, s301, s302, s303, s304, s305, s306, s307, s308, s309, s310, s311, s312, s313, s314, s315, s316, s317, s318, s319, s320, s321, s322, s323, s324, s325, s326, s327, s328, s329, s330, s331, s332, s333, s334, s335, s336, s337, s338, s339, s340, s341, s342, s343, s344, s345, s346, s347, s348, s349, s350, s351, s352, s353, s354, s355, s356, s357, s358, s359, s360, s361, s362, s363, s364, s365, s366, s367, s368, s369, s370, s371, s372, s373, s374, s375, s376, s377, s378, s379, s380, s381, s382, s383, s384, s385, s386, s387, s388, s389, s390, s391, s392], []⟩ wr := by
  have HNR := Lib.hid (And.intro hN hR)
  have HB0 := Lib.hid hbel
  have HRW := Lib.hid hr
  have HDD := Lib.hid hl
  have HC6 := Lib.hid hc6
  have HC3 := Lib.hid hc3
  have HC4 := Lib.hid hc4
  have HC5 := Lib.hid hc5
  clear hN hR hbel hr hc6 hc3 hc4 hc5 hl
  conv => arg 2; whnf
  go_wp2_with fail
  go_loopw [12] (fun v12 wr => ∃ k : Nat, k ≤ n6 ∧ v12 = .int .i64 k ∧ Hid (∀ i, i < k → nmB (X6 i).nm = true ∧ (∀ k, k < i → (X6 k).nm ≠ (X6 i).nm) ∧ (((X6 i).kd = 0 ∧ 0 ≤ (X6 i).ix ∧ (X6 i).ix < na) ∨ ((X6 i).kd = 1 ∧ 0 ≤ tab ∧ (X6 i).ix = 0) ∨ ((X6 i).kd = 2 ∧ 0 ≤ (X6 i).ix ∧ (X6 i).ix < n4) ∨ ((X6 i).kd = 3 ∧ 0 ≤ (X6 i).ix ∧ (X6 i).ix < n5))) ∧ Hid (Below W0.heap.size W0 wr)) (fun v12 _ => n6 - (intOf v12).toNat)
  case atStart => exact ⟨0, Nat.zero_le _, rfl, Lib.hid (fun i hi => absurd hi (by omega)), HB0⟩
  case round =>
    clear HB0
    obtain ⟨k, hk, rfl, HQ, HB⟩ := hrel
    have x6 : wr.cell? ⟨bx, 6, none⟩ = some (.slice A6 n6 c6) := (HB.out.cell (p := ⟨bx, 6, none⟩) hbx).trans HC6.out
    have x3 : wr.cell? ⟨bx, 3, none⟩ = some (.int .i64 tab) := (HB.out.cell (p := ⟨bx, 3, none⟩) hbx).trans HC3.out
    have x4 : wr.cell? ⟨bx, 4, none⟩ = some (.slice A4 n4 c4) := (HB.out.cell (p := ⟨bx, 4, none⟩) hbx).trans HC4.out
    have x5 : wr.cell? ⟨bx, 5, none⟩ = some (.slice A5 n5 c5) := (HB.out.cell (p := ⟨bx, 5, none⟩) hbx).trans HC5.out
    by_cases hlt : k < n6
    · have hrw := HRW.out.below ex_stay HB.out
      obtain ⟨b, off, rfl, hbl, hat⟩ := hrw.2.2 (by omega)
      have ha := hat k hlt
      have hcn : n6 ≤ c6 := hrw.1
      have hcm : c6 ≤ 9223372036854775807 := hrw.2.1
      have hdd := HDD.out k hlt
      clear hrw
      obtain ⟨y0, y1, y2⟩ := ha
      have HKM : Hid (∀ s kd g, s = (X6 k).nm → kd = (X6 k).kd → g = (X6 k).ix → nmB s = true → (∀ i, i < k → (X6 i).nm ≠ s) → ((kd = 0 ∧ 0 ≤ g ∧ g < na) ∨ (kd = 1 ∧ 0 ≤ tab ∧ g = 0) ∨ (kd = 2 ∧ 0 ≤ g ∧ g < n4) ∨ (kd = 3 ∧ 0 ≤ g ∧ g < n5)) → nmB (X6 k).nm = true ∧ (∀ k0, k0 < k → (X6 k0).nm ≠ (X6 k).nm) ∧ (((X6 k).kd = 0 ∧ 0 ≤ (X6 k).ix ∧ (X6 k).ix < na) ∨ ((X6 k).kd = 1 ∧ 0 ≤ tab ∧ (X6 k).ix = 0) ∨ ((X6 k).kd = 2 ∧ 0 ≤ (X6 k).ix ∧ (X6 k).ix < n4) ∨ ((X6 k).kd = 3 ∧ 0 ≤ (X6 k).ix ∧ (X6 k).ix < n5))) := Lib.hid (fun s kd g e1 e2 e3 h1 h2 h3 => by subst e1 e2 e3; exact ⟨h1, h2, h3⟩)
      have HT1 := Lib.hid (fun W => named_any (X6 k).nm (show (X6 k).nm.size ≤ 1000 by omega) W)
      clear hdd
      obtain ⟨s, hs⟩ : ∃ s, s = (X6 k).nm := ⟨_, rfl⟩
      obtain ⟨kd, hkd⟩ : ∃ s, s = (X6 k).kd := ⟨_, rfl⟩
      obtain ⟨g, hg⟩ : ∃ g, g = (X6 k).ix := ⟨_, rfl⟩
      rw [← hs] at y0 HT1
      rw [← hkd] at y1
      rw [← hg] at y2
      have HKK := Lib.hid (HKM.out s kd g hs hkd hg)
      clear hs hkd hg HKM
      obtain ⟨w1, hw1⟩ : ∃ w1, w1 = wr.alloc (.cells #[.string s, .int .i64 kd, .int .i64 g] 53) := ⟨_, rfl⟩
      have HBA : Hid (Below W0.heap.size W0 w1) := Lib.hid (by rw [hw1]; exact HB.out.alloc HB.out.size _)
      have HBW : Hid (Below wr.heap.size wr w1) := Lib.hid (by rw [hw1]; exact (Below.refl _ _).alloc (Nat.le_refl _) _)
      have HBY : Hid (Blk w1 wr.heap.size 53 #[.string s, .int .i64 kd, .int .i64 g]) := Lib.hid (by rw [hw1]; exact Blk.new wr 53 _)
      have HW1 := Lib.hid hw1
      have HAT := Lib.hid hat
      clear hw1 hat
      cases hP : nmB s with
      | false =>
        rw [hP] at HT1
        clear hP HKK
        go_wp2_with (go_at_call 12; (with_reducible refine (HT1.out _).mono ?_); rintro e w2 ⟨rfl, rfl⟩)
        rw [← HW1.out]
        refine HNR.out.2 _ _ ⟨HBA.out, _, _, rfl, rfl, by decide⟩
      | true =>
        rw [hP] at HT1
        have HKL := Lib.hid (HKK.out hP)
        clear hP HKK
        go_upto_region 53 with (go_at_call 12; (with_reducible refine (HT1.out _).mono ?_); rintro e w2 ⟨rfl, rfl⟩)
        rw [← HW1.out]
        obtain ⟨yb, hyb⟩ : ∃ yb, yb = wr.heap.size := ⟨_, rfl⟩
        rw [← hyb] at HBY ⊢
        have HYB := Lib.hid hyb
        clear hyb x6 x3 x4 x5 y0 y1 y2
        go_wp2_with fail
        go_loopw [14] (fun v14 wy => ∃ m : Nat, m ≤ k ∧ v14 = .int .i64 m ∧ Hid (∀ i, i < m → (X6 i).nm ≠ s) ∧ Hid (Below w1.heap.size w1 wy)) (fun v14 _ => k - (intOf v14).toNat)
        case atStart => exact ⟨0, Nat.zero_le _, rfl, Lib.hid (fun i hi => absurd hi (by omega)), Lib.hid (Below.refl _ _)⟩
        case round =>
          obtain ⟨m, hm, rfl, HM, HBM⟩ := hrel
          have HBE := Lib.hid (HBA.out.trans (HBM.out.mono HBA.out.size))
          have xx6 : wr.cell? ⟨bx, 6, none⟩ = some (.slice (some ⟨b, off, none⟩) n6 c6) := (HBE.out.cell (p := ⟨bx, 6, none⟩) hbx).trans HC6.out
          have hby : Blk wr yb 53 #[.string s, .int .i64 kd, .int .i64 g] := HBY.out.below HBM.out HBY.out.lt
          have z0 := hby.cell 0
          have z1 := hby.cell 1
          have z2 := hby.cell 2
          clear hby
          by_cases hlm : m < k
          · have yt : wr.cell? ⟨b, off + m * 3, none⟩ = some (.string (X6 m).nm) := ((HBM.out.cell (p := ⟨b, off + m * 3, none⟩) (Nat.lt_of_lt_of_le hbl HBW.out.size)).trans (HBW.out.cell (p := ⟨b, off + m * 3, none⟩) hbl)).trans (HAT.out m (by omega)).1
            have hlm6 : m < n6 := by omega
            have HNE : Hid (∀ t, t = (X6 m).nm → t ≠ s → ∀ i, i < m + 1 → (X6 i).nm ≠ s) := Lib.hid (fun t e h => all_more' HM.out (e ▸ h))
            obtain ⟨t, ht⟩ : ∃ t, t = (X6 m).nm := ⟨_, rfl⟩
            rw [← ht] at yt
            have HNF := Lib.hid (HNE.out t ht)
            clear ht HNE
            go_upto_region 56 with fail
            by_cases hts : t = s
            · have hc1 : (t.toList == s.toList) = true := by rw [str_eq]; simp [hts]
              clear hts HNF
              refine wp_region_noPanic ?_
              refine wp_region_held_drew (S := (fun W => W.cell? ⟨bx, 6, none⟩ = some (.slice (some ⟨b, off, none⟩) n6 c6) ∧ W.cell? ⟨b, off + m * 3, none⟩ = some (.string t) ∧ W.cell? ⟨yb, 0, none⟩ = some (.string s))) (by kernel_rfl) ⟨xx6, yt, z0⟩ (fun hHeld => ?_)
              refine wpAnyH_take (i := 0) (oi := ?oi_1) (v := ?_) ?hi_1 (by kernel_rfl) ?hf_1 (by kernel_rfl) ?hQ_1 ?hy_1 (by assumption) ?_
              case hi_1 => simp only [List.getElem?_toArray, List.getElem?_cons_zero, List.getElem?_cons_succ]; try rfl
              case hf_1 => kernel_rfl
              case hQ_1 => exact fun _ _ _ h => h
              case hy_1 =>
                refine Or.inl ⟨by rfl, ?_⟩
                intro W hSw
                obtain ⟨q0, q1, q2⟩ := hSw
                go_simp
                try with_reducible rfl
              try simp only [Act.put, List.setIfInBounds_toArray, List.set_cons_zero, List.set_cons_succ]
              refine wpAnyH_take (i := 1) (oi := ?oi_2) (v := ?_) ?hi_2 (by kernel_rfl) ?hf_2 (by kernel_rfl) ?hQ_2 ?hy_2 (by assumption) ?_
              case hi_2 => simp only [List.getElem?_toArray, List.getElem?_cons_zero, List.getElem?_cons_succ]; try rfl
              case hf_2 => kernel_rfl
              case hQ_2 => exact fun _ _ _ h => h
              case hy_2 =>
                refine Or.inl ⟨by rfl, ?_⟩
                intro W hSw
                obtain ⟨q0, q1, q2⟩ := hSw
                go_simp
                try with_reducible rfl
              try simp only [Act.put, List.setIfInBounds_toArray, List.set_cons_zero, List.set_cons_succ]
              refine wpAnyH_take (i := 2) (oi := ?oi_3) (v := ?_) ?hi_3 (by kernel_rfl) ?hf_3 (by kernel_rfl) ?hQ_3 ?hy_3 (by assumption) ?_
              case hi_3 => simp only [List.getElem?_toArray, List.getElem?_cons_zero, List.getElem?_cons_succ]; try rfl
              case hf_3 => kernel_rfl
              case hQ_3 => exact fun _ _ _ h => h
              case hy_3 =>
                refine Or.inl ⟨by rfl, ?_⟩
                intro W hSw
                obtain ⟨q0, q1, q2⟩ := hSw
                go_simp
                try with_reducible rfl
              try simp only [Act.put, List.setIfInBounds_toArray, List.set_cons_zero, List.set_cons_succ]
              refine wpAnyH_take (i := 3) (oi := ?oi_4) (v := ?_) ?hi_4 (by kernel_rfl) ?hf_4 (by kernel_rfl) ?hQ_4 ?hy_4 (by assumption) ?_
              case hi_4 => simp only [List.getElem?_toArray, List.getElem?_cons_zero, List.getElem?_cons_succ]; try rfl
              case hf_4 => kernel_rfl
              case hQ_4 => exact fun _ _ _ h => h
              case hy_4 =>
                refine Or.inl ⟨by rfl, ?_⟩
                intro W hSw
                obtain ⟨q0, q1, q2⟩ := hSw
                go_simp
                try with_reducible rfl
              try simp only [Act.put, List.setIfInBounds_toArray, List.set_cons_zero, List.set_cons_succ]
              refine wpAnyH_take (i := 4) (oi := ?oi_5) (v := ?_) ?hi_5 (by kernel_rfl) ?hf_5 (by kernel_rfl) ?hQ_5 ?hy_5 (by assumption) ?_
              case hi_5 => simp only [List.getElem?_toArray, List.getElem?_cons_zero, List.getElem?_cons_succ]; try rfl
              case hf_5 => kernel_rfl
              case hQ_5 => exact fun _ _ _ h => h
              case hy_5 =>
                refine Or.inl ⟨by rfl, ?_⟩
                intro W hSw
                obtain ⟨q0, q1, q2⟩ := hSw
                go_simp
                try with_reducible rfl
              try simp only [Act.put, List.setIfInBounds_toArray, List.set_cons_zero, List.set_cons_succ]
              refine wpAnyH_take (i := 5) (oi := ?oi_6) (v := ?_) ?hi_6 (by kernel_rfl) ?hf_6 (by kernel_rfl) ?hQ_6 ?hy_6 (by assumption) ?_
              case hi_6 => simp only [List.getElem?_toArray, List.getElem?_cons_zero, List.getElem?_cons_succ]; try rfl
              case hf_6 => kernel_rfl
              case hQ_6 => exact fun _ _ _ h => h
              case hy_6 =>
                refine Or.inl ⟨by rfl, ?_⟩
                intro W hSw
                obtain ⟨q0, q1, q2⟩ := hSw
                go_simp
                try with_reducible rfl
              try simp only [Act.put, List.setIfInBounds_toArray, List.set_cons_zero, List.set_cons_succ]
              refine wpAnyH_take (i := 6) (oi := ?oi_7) (v := ?_) ?hi_7 (by kernel_rfl) ?hf_7 (by kernel_rfl) ?hQ_7 ?hy_7 (by assumption) ?_
              case hi_7 => simp only [List.getElem?_toArray, List.getElem?_cons_zero, List.getElem?_cons_succ]; try rfl
              case hf_7 => kernel_rfl
              case hQ_7 => exact fun _ _ _ h => h
              case hy_7 =>
                refine Or.inl ⟨by rfl, ?_⟩
                intro W hSw
                obtain ⟨q0, q1, q2⟩ := hSw
                go_simp
                try with_reducible rfl
              try simp only [Act.put, List.setIfInBounds_toArray, List.set_cons_zero, List.set_cons_succ]
              refine wpAnyH_take (i := 7) (oi := ?oi_8) (v := ?_) ?hi_8 (by kernel_rfl) ?hf_8 (by kernel_rfl) ?hQ_8 ?hy_8 (by assumption) ?_
              case hi_8 => simp only [List.getElem?_toArray, List.getElem?_cons_zero, List.getElem?_cons_succ]; try rfl
              case hf_8 => kernel_rfl
              case hQ_8 => exact fun _ _ _ h => h
              case hy_8 =>
                refine Or.inl ⟨by rfl, ?_⟩
                intro W hSw
                obtain ⟨q0, q1, q2⟩ := hSw
                go_simp
                try with_reducible rfl
              try simp only [Act.put, List.setIfInBounds_toArray, List.set_cons_zero, List.set_cons_succ]
              refine wpAnyH_take (i := 8) (oi := ?oi_9) (v := ?_) ?hi_9 (by kernel_rfl) ?hf_9 (by kernel_rfl) ?hQ_9 ?hy_9 (by assumption) ?_
              case hi_9 => simp only [List.getElem?_toArray, List.getElem?_cons_zero, List.getElem?_cons_succ]; try rfl
              case hf_9 => kernel_rfl
              case hQ_9 => exact fun _ _ _ h => h
              case hy_9 =>
                refine Or.inl ⟨by rfl, ?_⟩
                intro W hSw
                obtain ⟨q0, q1, q2⟩ := hSw
                go_simp
                try with_reducible rfl
              try simp only [Act.put, List.setIfInBounds_toArray, List.set_cons_zero, List.set_cons_succ]
              refine wpAnyH_done (by kernel_rfl) ?_ _
              refine NoPanic.normal ?_
              clear hHeld
              go_wp2
              refine HNR.out.2 _ _ ⟨(below_drew HBE.out), _, _, rfl, rfl, by decide⟩
            · have hc1 : (t.toList == s.toList) = false := by rw [str_eq]; simp [hts]
              have HNG := Lib.hid (HNF.out hts)
              clear hts HNF
              refine wp_region_noPanic ?_
              refine wp_region_held_drew (S := (fun W => W.cell? ⟨bx, 6, none⟩ = some (.slice (some ⟨b, off, none⟩) n6 c6) ∧ W.cell? ⟨b, off + m * 3, none⟩ = some (.string t) ∧ W.cell? ⟨yb, 0, none⟩ = some (.string s))) (by kernel_rfl) ⟨xx6, yt, z0⟩ (fun hHeld => ?_)
              refine wpAnyH_take (i := 0) (oi := ?oi_1) (v := ?_) ?hi_1 (by kernel_rfl) ?hf_1 (by kernel_rfl) ?hQ_1 ?hy_1 (by assumption) ?_
              case hi_1 => simp only [List.getElem?_toArray, List.getElem?_cons_zero, List.getElem?_cons_succ]; try rfl
              case hf_1 => kernel_rfl
              case hQ_1 => exact fun _ _ _ h => h
              case hy_1 =>
                refine Or.inl ⟨by rfl, ?_⟩
                intro W hSw
                obtain ⟨q0, q1, q2⟩ := hSw
                go_simp
                try with_reducible rfl
              try simp only [Act.put, List.setIfInBounds_toArray, List.set_cons_zero, List.set_cons_succ]
              refine wpAnyH_take (i := 1) (oi := ?oi_2) (v := ?_) ?hi_2 (by kernel_rfl) ?hf_2 (by kernel_rfl) ?hQ_2 ?hy_2 (by assumption) ?_
              case hi_2 => simp only [List.getElem?_toArray, List.getElem?_cons_zero, List.getElem?_cons_succ]; try rfl
              case hf_2 => kernel_rfl
              case hQ_2 => exact fun _ _ _ h => h
              case hy_2 =>
                refine Or.inl ⟨by rfl, ?_⟩
                intro W hSw
                obtain ⟨q0, q1, q2⟩ := hSw
                go_simp
                try with_reducible rfl
              try simp only [Act.put, List.setIfInBounds_toArray, List.set_cons_zero, List.set_cons_succ]
              refine wpAnyH_take (i := 2) (oi := ?oi_3) (v := ?_) ?hi_3 (by kernel_rfl) ?hf_3 (by kernel_rfl) ?hQ_3 ?hy_3 (by assumption) ?_
              case hi_3 => simp only [List.getElem?_toArray, List.getElem?_cons_zero, List.getElem?_cons_succ]; try rfl
              case hf_3 => kernel_rfl
              case hQ_3 => exact fun _ _ _ h => h
              case hy_3 =>
                refine Or.inl ⟨by rfl, ?_⟩
                intro W hSw
                obtain ⟨q0, q1, q2⟩ := hSw
                go_simp
                try with_reducible rfl
              try simp only [Act.put, List.setIfInBounds_toArray, List.set_cons_zero, List.set_cons_succ]
              refine wpAnyH_take (i := 3) (oi := ?oi_4) (v := ?_) ?hi_4 (by kernel_rfl) ?hf_4 (by kernel_rfl) ?hQ_4 ?hy_4 (by assumption) ?_
              case hi_4 => simp only [List.getElem?_toArray, List.getElem?_cons_zero, List.getElem?_cons_succ]; try rfl
              case hf_4 => kernel_rfl
              case hQ_4 => exact fun _ _ _ h => h
              case hy_4 =>
                refine Or.inl ⟨by rfl, ?_⟩
                intro W hSw
                obtain ⟨q0, q1, q2⟩ := hSw
                go_simp
                try with_reducible rfl
              try simp only [Act.put, List.setIfInBounds_toArray, List.set_cons_zero, List.set_cons_succ]
              refine wpAnyH_take (i := 4) (oi := ?oi_5) (v := ?_) ?hi_5 (by kernel_rfl) ?hf_5 (by kernel_rfl) ?hQ_5 ?hy_5 (by assumption) ?_
              case hi_5 => simp only [List.getElem?_toArray, List.getElem?_cons_zero, List.getElem?_cons_succ]; try rfl
              case hf_5 => kernel_rfl
              case hQ_5 => exact fun _ _ _ h => h
              case hy_5 =>
                refine Or.inl ⟨by rfl, ?_⟩
                intro W hSw
                obtain ⟨q0, q1, q2⟩ := hSw
                go_simp
                try with_reducible rfl
              try simp only [Act.put, List.setIfInBounds_toArray, List.set_cons_zero, List.set_cons_succ]
              refine wpAnyH_take (i := 5) (oi := ?oi_6) (v := ?_) ?hi_6 (by kernel_rfl) ?hf_6 (by kernel_rfl) ?hQ_6 ?hy_6 (by assumption) ?_
              case hi_6 => simp only [List.getElem?_toArray, List.getElem?_cons_zero, List.getElem?_cons_succ]; try rfl
              case hf_6 => kernel_rfl
              case hQ_6 => exact fun _ _ _ h => h
              case hy_6 =>
                refine Or.inl ⟨by rfl, ?_⟩
                intro W hSw
                obtain ⟨q0, q1, q2⟩ := hSw
                go_simp
                try with_reducible rfl
              try simp only [Act.put, List.setIfInBounds_toArray, List.set_cons_zero, List.set_cons_succ]
              refine wpAnyH_take (i := 6) (oi := ?oi_7) (v := ?_) ?hi_7 (by kernel_rfl) ?hf_7 (by kernel_rfl) ?hQ_7 ?hy_7 (by assumption) ?_
              case hi_7 => simp only [List.getElem?_toArray, List.getElem?_cons_zero, List.getElem?_cons_succ]; try rfl
              case hf_7 => kernel_rfl
              case hQ_7 => exact fun _ _ _ h => h
              case hy_7 =>
                refine Or.inl ⟨by rfl, ?_⟩
                intro W hSw
                obtain ⟨q0, q1, q2⟩ := hSw
                go_simp
                try with_reducible rfl
              try simp only [Act.put, List.setIfInBounds_toArray, List.set_cons_zero, List.set_cons_succ]
              refine wpAnyH_take (i := 7) (oi := ?oi_8) (v := ?_) ?hi_8 (by kernel_rfl) ?hf_8 (by kernel_rfl) ?hQ_8 ?hy_8 (by assumption) ?_
              case hi_8 => simp only [List.getElem?_toArray, List.getElem?_cons_zero, List.getElem?_cons_succ]; try rfl
              case hf_8 => kernel_rfl
              case hQ_8 => exact fun _ _ _ h => h
              case hy_8 =>
                refine Or.inl ⟨by rfl, ?_⟩
                intro W hSw
                obtain ⟨q0, q1, q2⟩ := hSw
                go_simp
                try with_reducible rfl
              try simp only [Act.put, List.setIfInBounds_toArray, List.set_cons_zero, List.set_cons_succ]
              refine wpAnyH_take (i := 8) (oi := ?oi_9) (v := ?_) ?hi_9 (by kernel_rfl) ?hf_9 (by kernel_rfl) ?hQ_9 ?hy_9 (by assumption) ?_
              case hi_9 => simp only [List.getElem?_toArray, List.getElem?_cons_zero, List.getElem?_cons_succ]; try rfl
              case hf_9 => kernel_rfl
              case hQ_9 => exact fun _ _ _ h => h
              case hy_9 =>
                refine Or.inl ⟨by rfl, ?_⟩
                intro W hSw
                obtain ⟨q0, q1, q2⟩ := hSw
                go_simp
                try with_reducible rfl
              try simp only [Act.put, List.setIfInBounds_toArray, List.set_cons_zero, List.set_cons_succ]
              refine wpAnyH_done (by kernel_rfl) ?_ _
              refine NoPanic.normal ?_
              clear hHeld
              go_wp2
              go_roundw
              case rel => exact ⟨m + 1, by omega, by go_num, HNG, Lib.hid (below_drew HBM.out)⟩
              case measure => simp [intOf]; omega
          · obtain rfl : m = k := by omega
            have HKN := Lib.hid (HKL.out HM.out)
            have xx3 : wr.cell? ⟨bx, 3, none⟩ = some (.int .i64 tab) := (HBE.out.cell (p := ⟨bx, 3, none⟩) hbx).trans HC3.out
            have xx4 : wr.cell? ⟨bx, 4, none⟩ = some (.slice A4 n4 c4) := (HBE.out.cell (p := ⟨bx, 4, none⟩) hbx).trans HC4.out
            have xx5 : wr.cell? ⟨bx, 5, none⟩ = some (.slice A5 n5 c5) := (HBE.out.cell (p := ⟨bx, 5, none⟩) hbx).trans HC5.out
            clear HKL hlm
            by_cases hk0 : kd = 0
            · subst hk0
              have HTa := Lib.hid (fun W => in_any g na W)
              cases hI : (decide (0 ≤ g) && decide (g < (na : Int))) with
              | false =>
                rw [hI] at HTa
                clear hI HKN
                go_wp2_with (go_at_call 15; (with_reducible refine (HTa.out _).mono ?_); rintro e w2 ⟨rfl, rfl⟩)
                refine HNR.out.2 _ _ ⟨HBE.out, _, _, rfl, rfl, by decide⟩
              | true =>
                rw [hI] at HTa
                rw [Bool.and_eq_true, decide_eq_true_eq, decide_eq_true_eq] at hI
                have HK := Lib.hid (HKN.out (.inl ⟨rfl, hI.1, hI.2⟩))
                clear hI HKN
                go_wp2_with (go_at_call 15; (with_reducible refine (HTa.out _).mono ?_); rintro e w2 ⟨rfl, rfl⟩)
                go_roundw
                case rel => exact ⟨m + 1, by omega, by go_num, Lib.hid (fun i hi => all_more' HQ.out HK.out i hi), HBE⟩
                case measure => simp [intOf]; omega
            · by_cases hk1 : kd = 1
              · subst hk1
                by_cases ht0 : 0 ≤ tab
                · by_cases hg0 : g = 0
                  · subst hg0
                    have HK := Lib.hid (HKN.out (.inr (.inl ⟨rfl, ht0, rfl⟩)))
                    clear HKN
                    go_wp2
                    go_roundw
                    case rel => exact ⟨m + 1, by omega, by go_num, Lib.hid (fun i hi => all_more' HQ.out HK.out i hi), HBE⟩
                    case measure => simp [intOf]; omega
                  · have eg : (g == 0) = false := by simp [hg0]
                    clear HKN
                    go_wp2
                    refine HNR.out.2 _ _ ⟨HBE.out, _, _, rfl, rfl, by decide⟩
                · have ht1 : tab < 0 := by omega
                  clear HKN
                  go_wp2
                  refine HNR.out.2 _ _ ⟨HBE.out, _, _, rfl, rfl, by decide⟩
              · by_cases hk2 : kd = 2
                · subst hk2
                  have HTa := Lib.hid (fun W => in_any g n4 W)
                  cases hI : (decide (0 ≤ g) && decide (g < (n4 : Int))) with
                  | false =>
                    rw [hI] at HTa
                    clear hI HKN
                    go_wp2_with (go_at_call 15; (with_reducible refine (HTa.out _).mono ?_); rintro e w2 ⟨rfl, rfl⟩)
                    refine HNR.out.2 _ _ ⟨HBE.out, _, _, rfl, rfl, by decide⟩
                  | true =>
                    rw [hI] at HTa
                    rw [Bool.and_eq_true, decide_eq_true_eq, decide_eq_true_eq] at hI
                    have HK := Lib.hid (HKN.out (.inr (.inr (.inl ⟨rfl, hI.1, hI.2⟩))))
                    clear hI HKN
                    go_wp2_with (go_at_call 15; (with_reducible refine (HTa.out _).mono ?_); rintro e w2 ⟨rfl, rfl⟩)
                    go_roundw
                    case rel => exact ⟨m + 1, by omega, by go_num, Lib.hid (fun i hi => all_more' HQ.out HK.out i hi), HBE⟩
                    case measure => simp [intOf]; omega
                · by_cases hk3 : kd = 3
                  · subst hk3
                    have HTa := Lib.hid (fun W => in_any g n5 W)
                    cases hI : (decide (0 ≤ g) && decide (g < (n5 : Int))) with
                    | false =>
                      rw [hI] at HTa
                      clear hI HKN
                      go_wp2_with (go_at_call 15; (with_reducible refine (HTa.out _).mono ?_); rintro e w2 ⟨rfl, rfl⟩)
                      refine HNR.out.2 _ _ ⟨HBE.out, _, _, rfl, rfl, by decide⟩
                    | true =>
                      rw [hI] at HTa
                      rw [Bool.and_eq_true, decide_eq_true_eq, decide_eq_true_eq] at hI
                      have HK := Lib.hid (HKN.out (.inr (.inr (.inr ⟨rfl, hI.1, hI.2⟩))))
                      clear hI HKN
                      go_wp2_with (go_at_call 15; (with_reducible refine (HTa.out _).mono ?_); rintro e w2 ⟨rfl, rfl⟩)
                      go_roundw
                      case rel => exact ⟨m + 1, by omega, by go_num, Lib.hid (fun i hi => all_more' HQ.out HK.out i hi), HBE⟩
                      case measure => simp [intOf]; omega
                  · have e0 : (kd == 0) = false := by simp; omega
                    have e1 : (kd == 1) = false := by simp; omega
                    have e2 : (kd == 2) = false := by simp; omega
                    have e3 : (kd == 3) = false := by simp; omega
                    clear hk0 hk1 hk2 hk3 HKN
                    go_wp2
                    refine HNR.out.2 _ _ ⟨HBE.out, _, _, rfl, rfl, by decide⟩
    · have e0 : n6 = k := by omega
      subst e0
      go_wp2
      apply HNR.out.1
      exact ⟨HB.out, HQ.out⟩
end Go.Proofs.Ytackompihengfaa
