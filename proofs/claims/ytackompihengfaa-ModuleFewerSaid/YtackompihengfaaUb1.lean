/-
  Unfit: a loop.
-/
import Derived.Test.YtackompihengfaaUa
import Derived.BigQuiet
import Derived.Deep.RegionHeld3
import Derived.Deep.DeepCutAuto
import Derived.Deep.CutBlock
namespace Go.Proofs.Ytackompihengfaa
open Go.RowKit Go.PlainAid
set_option linter.unusedVariables false
set_option linter.unusedSimpArgs false
set_option maxHeartbeats 8000000 in
set_option maxRecDepth 1000000 in
theorem un1 {W0 wr : World} {bx na : Nat} {A1 : Option Addr} {n1 c1 : Nat} {A0 : Option Addr} {n0 c0 : Nat} {X1 : Nat → ImpT}
    (hbel : Below W0.heap.size W0 wr) (hbx : bx < W0.heap.size) (hc1 : W0.cell? ⟨bx, 1, none⟩ = some (.slice A1 n1 c1)) (hc0 : W0.cell? ⟨bx, 0, none⟩ = some (.slice A0 n0 c0)) (hr : Row 3 ImpAt W0 A1 n1 c1 X1)  (hn1 : n1 ≤ 200) (hn0 : n0 ≤ 200) (hna : na ≤ 300) (hl : ∀ i, i < n1 → (X1 i).mo.size + (X1 i).nm.size ≤ 100)
    (s0 s2 s3 s5 s7 s8 s9 s10 s11 s12 s13 s14 s15 s16 s17 s18 s19 s20 s21 s22 s23 s24 s25 s26 s27 s28 s29 s30 s31 s32 s33 s34 s35 s36 s37 s38 s39 s40 s41 s42 s43 s44 s45 s46 s47 s48 s49 s50 s51 s52 s53 s54 s55 s56 s57 s58 s59 s60 s61 s62 s63 s64 s65 s66 s67 s68 s69 s70 s71 s72 s73 s74 s75 s76 s77 s78 s79 s80 s81 s82 s83 s84 s85 s86 s87 s88 s89 s90 s91 s92 s93 s94 s95 s96 s97 s98 s99 s100 s101 s102 s103 s104 s105 s106 s107 s108 s109 s110 s111 s112 s113 s114 s115 s116 s117 s118 s119 s120 s121 s122 s123 s124 s125 s126 s127 s128 s129 s130 s131 s132 s133 s134 s135 s136 s137 s138 s139 s140 s141 s142 s143 s144 s145 s146 s147 s148 s149 s150 s151 s152 s153 s154 s155 s156 s157 s158 s159 s160 s161 s162 s163 s164 s165 s166 s167 s168 s169 s170 s171 s172 s173 s174 s175 s176 s177 s178 s179 s180 s181 s182 s183 s184 s185 s186 s187 s188 s189 s190 s191 s192 s193 s194 s195 s196 s197 s198 s199 s200 s201 s202 s203 s204 s205 s206 s207 s208 s209 s210 s211 s212 s213 s214 s215 s216 s217 s218 s219 s220 s221 s222 s223 s224 s225 s226 s227 s228 s229 s230 s231 s232 s233 s234 s235 s236 s237 s238 s239 s240 s241 s242 s243 s244 s245 s246 s247 s248 s249 s250 s251 s252 s253 s254 s255 s256 s257 s258 s259 s260 s261 s262 s263 s264 s265 s266 s267 s268 s269 s270 s271 s272 s273 s274 s275 s276 s277 s278 s279 s280 s281 s282 s283 s284 s285 s286 s287 s288 s289 s290 s291 s292 s293 s294 s295 s296 s297 s298 s299 s300 s301 s302 s303 s304 s305 s306 s307 s308 s309 s310 s311 s312 s313 s314 s315 s316 s317 s318 s319 s320 s321 s322 s323 s324 s325 s326 s327 s328 s329 s330 s331 s332 s333 s334 s335 s336 s337 s338 s339 s340 s341 s342 s343 s344 s345 s346 s347 s348 s349 s350 s351 s352 s353 s354 s355 s356 s357 s358 s359 s360 s361 s362 s363 s364 s365 s366 s367 s368 s369 s370 s371 s372 s373 s374 s375 s376 s377 s378 s379 s380 s381 s382 s383 s384 s385 s386 s387 s388 s389 s390 s391 s392 : Value) (Q : Exit → Act → World → Prop)
    (hN : ∀ (u2 u3 u6 u61 u62 u63 u64 u65 u66 u67 u68 u69 u70 u71 u72 u73 u74 u75 u76 u77 u78 u79 u80 u81 u82 u83 u84 u85 u86 u87 u88 u89 u90 u91 u92 u93 u94 u95 u96 : Value) (w' : World), UnN W0 w' (∀ i, i < n1 → nmB (X1 i).mo = true ∧ nmB (X1 i).nm = true ∧ 0 ≤ (X1 i).sg ∧ (X1 i).sg < n0) → Q .normal ⟨#[s0, .pointer (some ⟨bx, 0, none⟩), u2, u3, .int .i64 (na : Int), s5, u6, s7, s8, s9, s10, s11, s12, s13, s14, s15, s16, s17, s18, s19, s20, s21, s22, s23, s24, s25, s26, s27, s28, s29, s30, s31, s32, s33, s34, s35, s36, s37, s38, s39, s40, s41, s42, s43, s44, s45, s46, s47, s48, s49, s50, s51, s52, s53, s54, s55, s56, s57, s58, s59, s60, u61, u62, u63, u64, u65, u66, u67, u68, u69, u70, u71, u72, u73, u74, u75, u76, u77, u78, u79, u80, u81, u82, u83, u84, u85, u86, u87, u88, u89, u90, u91, u92, u93, u94, u95, u96, s97, s98, s99, s100, s101, s102, s103, s104, s105, s106, s107, s108, s109, s110, s111, s112, s113, s114, s115, s116, s117, s118, s119, s120, s121, s122, s123, s124, s125, s126, s127, s128, s129, s130, s131, s132, s133, s134, s135, s136, s137, s138, s139, s140, s141, s142, s143, s144, s145, s146, s147, s148, s149, s150, s151, s152, s153, s154, s155, s156, s157, s158, s159, s160, s161, s162, s163, s164, s165, s166, s167, s168, s169, s170, s171, s172, s173, s174, s175, s176, s177, s178, s179, s180, s181, s182, s183, s184, s185, s186, s187, s188, s189, s190, s191, s192, s193, s194, s195, s196, s197, s198, s199, s200, s201, s202, s203, s204, s205, s206, s207, s208, s209, s210, s211, s212, s213, s214, s215, s216, s217, s218, s219, s220, s221, s222, s223, s224, s225, s226, s227, s228, s229, s230, s231, s232, s233, s234, s235, s236, s237, s238, s239, s240, s241, s242, s243, s244, s245, s246, s247, s248, s249, s250, s251, s252, s253, s254, s255, s256, s257, s258, s259, s260, s261, s262, s263, s264, s265, s266, s267, s268, s269, s270, s271, s272, s273, s274, s275, s276, s277, s278, s279, s280, s281, s282, s283, s284, s285, s286, s287, s288, s289, s290, s291, s292, s293, s294, s295, s296, s297, s298, s299, s300, s301, s302, s303, s304, s305, s306, s307, s308, s309, s310, s311, s312, s313, s314, s315, s316, s317, s318, s319, s320, s321, s322, s323, s324, s325, s326, s327, s328, s329, s330, s331, s332, s333, s334, s335, s336, s337, s338, s339, s340, s341, s342, s343, s344, s345, s346, s347, s348, s349, s350, s351, s352, s353, s354, s355, s356, s357, s358, s359, s360, s361, s362, s363, s364, s365, s366, s367, s368, s369, s370, s371, s372, s373, s374, s375, s376, s377, s378, s379, s380, s381, s382, s383, s384, s385, s386, s387, s388, s389, s390, s391, s392], []⟩ w')
    (hR : ∀ (t : Array Value) (w' : World), UnR W0 t w' → Q .ret ⟨t, []⟩ w') :
    Code.wp Try.prog (unBlk 2) Q ⟨#[s0, .pointer (some ⟨bx, 0, none⟩), s2, s3, .int .i64 (na : Int), s5, .int .i64 0, s7, s8, s9, s10, s11, s12, s13, s14, s15, s16, s17, s18, s19, s20, s21, s22, s23, s24, s25, s26, s27, s28, s29, s30, s31, s32, s33, s34, s35, s36, s37, s38, s39, s40, s41, s42, s43, s44, s45, s46, s47, s48, s49, s50, s51, s52, s53, s54, s55, s56, s57, s58, s59, s60, s61, s62, s63, s64, s65, s66, s67, s68, s69, s70, s71, s72, s73, s74, s75, s76, s77, s78, s79, s80, s81, s82, s83, s84, s85, s86, s87, s88, s89, s90, s91, s92, s93, s94, s95, s96, s97, s98, s99, s100, s101, s102, s103, s104, s105, s106, s107, s108, s109, s110, s111, s112, s113, s114, s115, s116, s117, s118, s119, s120, s121, s122, s123, s124, s125, s126, s127, s128, s129, s130, s131, s132, s133, s134, s135, s136, s137, s138, s139, s140, s141, s142, s143, s144, s145, s146, s147, s148, s149, s150, s151, s152, s153, s154, s155, s156, s157, s158, s159, s160, s161, s162, s163, s164, s165, s166, s167, s168, s169, s170, s171, s172, s173, s174, s175, s176, s177, s178, s179, s180, s181, s182, s183, s184, s185, s186, s187, s188, s189, s190, s191, s192, s193, s194, s195, s196, s197, s198, s199, s200, s201, s202, s203, s204, s205, s206, s207, s208, s209, s210, s211, s212, s213, s214, s215, s216, s217, s218, s219, s220, s221, s222, s223, s224, s225, s226, s227, s228, s229, s230, s231, s232, s233, s234, s235, s236, s237, s238, s239, s240, s241, s242, s243, s244, s245, s246, s247, s248, s249, s250, s251, s252, s253, s254, s255, s256, s257, s258, s259, s260, s261, s262, s263, s264, s265, s266, s267, s268, s269, s270, s271, s272, s273, s274, s275, s276, s277, s278, s279, s280, s281, s282, s283, s284, s285, s286, s287, s288, s289, s290, s291, s292, s293, s294, s295, s296, s297, s298, s299, s300, s301, s302, s303, s304, s305, s306, s307, s308, s309, s310, s311, s312, s313, s314, s315, s316, s317, s318, s319, s320, s321, s322, s323, s324, s325, s326, s327, s328, s329, s330, s331, s332, s333, s334, s335, s336, s337, s338, s339, s340, s341, s342, s343, s344, s345, s346, s347, s348, s349, s350, s351, s352, s353, s354, s355, s356, s357, s358, s359, s360, s361, s362, s363, s364, s365, s366, s367, s368, s369, s370, s371, s372, s373, s374, s375, s376, s377, s378, s379, s380, s381, s382, s383, s384, s385, s386, s387, s388, s389, s390, s391, s392], []⟩ wr := by
  have HNR := Lib.hid (And.intro hN hR)
  have HB0 := Lib.hid hbel
  have HRW := Lib.hid hr
  have HDD := Lib.hid hl
  have HC1 := Lib.hid hc1
  have HC0 := Lib.hid hc0
  clear hN hR hbel hr hc1 hc0 hl
  conv => arg 2; whnf
  go_wp2_with fail
  go_loopw [6] (fun v6 wr => ∃ k : Nat, k ≤ n1 ∧ v6 = .int .i64 k ∧ Hid (∀ i, i < k → nmB (X1 i).mo = true ∧ nmB (X1 i).nm = true ∧ 0 ≤ (X1 i).sg ∧ (X1 i).sg < n0) ∧ Hid (Below W0.heap.size W0 wr)) (fun v6 _ => n1 - (intOf v6).toNat)
  case atStart => exact ⟨0, Nat.zero_le _, rfl, Lib.hid (fun i hi => absurd hi (by omega)), HB0⟩
  case round =>
    clear HB0
    obtain ⟨k, hk, rfl, HQ, HB⟩ := hrel
    have x1 : wr.cell? ⟨bx, 1, none⟩ = some (.slice A1 n1 c1) := (HB.out.cell (p := ⟨bx, 1, none⟩) hbx).trans HC1.out
    have x0 : wr.cell? ⟨bx, 0, none⟩ = some (.slice A0 n0 c0) := (HB.out.cell (p := ⟨bx, 0, none⟩) hbx).trans HC0.out
    by_cases hlt : k < n1
    · have hrw := HRW.out.below imp_stay HB.out
      obtain ⟨b, off, rfl, hbl, hat⟩ := hrw.2.2 (by omega)
      have ha := hat k hlt
      have hcn : n1 ≤ c1 := hrw.1
      have hcm : c1 ≤ 9223372036854775807 := hrw.2.1
      have hdd := HDD.out k hlt
      clear hrw
      clear hat
      obtain ⟨y0, y1, y2⟩ := ha
      have HT1 := Lib.hid (named_any (X1 k).mo (show (X1 k).mo.size ≤ 1000 by omega) wr)
      have HT2 := Lib.hid (named_any (X1 k).nm (show (X1 k).nm.size ≤ 1000 by omega) wr)
      have HT3 := Lib.hid (fun W => in_any (X1 k).sg n0 W)
      have HKK : Hid (∀ s1 s2 g, s1 = (X1 k).mo → s2 = (X1 k).nm → g = (X1 k).sg → nmB s1 = true → nmB s2 = true → 0 ≤ g → g < n0 → nmB (X1 k).mo = true ∧ nmB (X1 k).nm = true ∧ 0 ≤ (X1 k).sg ∧ (X1 k).sg < n0) := Lib.hid (fun s1 s2 g e1 e2 e3 h1 h2 h3 h4 => by subst e1 e2 e3; exact ⟨h1, h2, h3, h4⟩)
      clear hdd
      obtain ⟨s1, hs1⟩ : ∃ s, s = (X1 k).mo := ⟨_, rfl⟩
      obtain ⟨s2, hs2⟩ : ∃ s, s = (X1 k).nm := ⟨_, rfl⟩
      obtain ⟨g, hg⟩ : ∃ g, g = (X1 k).sg := ⟨_, rfl⟩
      rw [← hs1] at y0 HT1
      rw [← hs2] at y1 HT2
      rw [← hg] at y2 HT3
      have HKM := Lib.hid (HKK.out s1 s2 g hs1 hs2 hg)
      clear hs1 hs2 hg HKK
      cases hP : nmB s1 with
      | false =>
        rw [hP] at HT1
        clear HT2 HT3 HKM hP y1 y2
        go_wp2_with (go_at_call 12; (with_reducible refine HT1.out.mono ?_); rintro e w2 ⟨rfl, rfl⟩)
        refine HNR.out.2 _ _ ⟨HB.out, _, _, rfl, rfl, by decide⟩
      | true =>
        cases hR : nmB s2 with
        | false =>
          rw [hP] at HT1
          rw [hR] at HT2
          clear hP hR HT3 HKM y2
          go_wp2_with (first | (go_at_call 12; (with_reducible refine HT1.out.mono ?_); rintro e w2 ⟨rfl, rfl⟩) | (go_at_call 12; (with_reducible refine HT2.out.mono ?_); rintro e w2 ⟨rfl, rfl⟩))
          refine HNR.out.2 _ _ ⟨HB.out, _, _, rfl, rfl, by decide⟩
        | true =>
          rw [hP] at HT1
          rw [hR] at HT2
          have HKL := Lib.hid (HKM.out hP hR)
          clear hP hR HKM
          go_upto_region 16 with (first | (go_at_call 12; (with_reducible refine HT1.out.mono ?_); rintro e w2 ⟨rfl, rfl⟩) | (go_at_call 12; (with_reducible refine HT2.out.mono ?_); rintro e w2 ⟨rfl, rfl⟩))
          cases hI : (decide (0 ≤ g) && decide (g < (n0 : Int))) with
          | false =>
            rw [hI] at HT3
            clear hI HKL
            refine wp_region_noPanic ?_
            refine wp_region_held_drew (S := (fun W => W.cell? ⟨bx, 1, none⟩ = some (.slice (some ⟨b, off, none⟩) n1 c1) ∧ W.cell? ⟨b, off + k * 3 + 2, none⟩ = some (.int .i64 g) ∧ W.cell? ⟨bx, 0, none⟩ = some (.slice A0 n0 c0))) (by kernel_rfl) ⟨x1, y2, x0⟩ (fun hHeld => ?_)
            refine wpAnyH_take (i := 0) (oi := ?oi_1) (v := ?_) ?hi_1 (by kernel_rfl) ?hf_1 (by kernel_rfl) ?hQ_1 ?hy_1 (by assumption) ?_
            case hi_1 => simp only [List.getElem?_toArray, List.getElem?_cons_zero, List.getElem?_cons_succ]; try rfl
            case hf_1 => kernel_rfl
            case hQ_1 => exact fun _ _ _ h => h
            case hy_1 =>
              refine Or.inl ⟨by rfl, ?_⟩
              intro W hSw
              obtain ⟨q0, q1, q2⟩ := hSw
              go_simp
              try with_reducible rfl
            try simp only [Act.put, List.setIfInBounds_toArray, List.set_cons_zero, List.set_cons_succ]
            refine wpAnyH_take (i := 1) (oi := ?oi_2) (v := ?_) ?hi_2 (by kernel_rfl) ?hf_2 (by kernel_rfl) ?hQ_2 ?hy_2 (by assumption) ?_
            case hi_2 => simp only [List.getElem?_toArray, List.getElem?_cons_zero, List.getElem?_cons_succ]; try rfl
            case hf_2 => kernel_rfl
            case hQ_2 => exact fun _ _ _ h => h
            case hy_2 =>
              refine Or.inl ⟨by rfl, ?_⟩
              intro W hSw
              obtain ⟨q0, q1, q2⟩ := hSw
              go_simp
              try with_reducible rfl
            try simp only [Act.put, List.setIfInBounds_toArray, List.set_cons_zero, List.set_cons_succ]
            refine wpAnyH_take (i := 2) (oi := ?oi_3) (v := ?_) ?hi_3 (by kernel_rfl) ?hf_3 (by kernel_rfl) ?hQ_3 ?hy_3 (by assumption) ?_
            case hi_3 => simp only [List.getElem?_toArray, List.getElem?_cons_zero, List.getElem?_cons_succ]; try rfl
            case hf_3 => kernel_rfl
            case hQ_3 => exact fun _ _ _ h => h
            case hy_3 =>
              refine Or.inl ⟨by rfl, ?_⟩
              intro W hSw
              obtain ⟨q0, q1, q2⟩ := hSw
              go_simp
              try with_reducible rfl
            try simp only [Act.put, List.setIfInBounds_toArray, List.set_cons_zero, List.set_cons_succ]
            refine wpAnyH_take (i := 3) (oi := ?oi_4) (v := ?_) ?hi_4 (by kernel_rfl) ?hf_4 (by kernel_rfl) ?hQ_4 ?hy_4 (by assumption) ?_
            case hi_4 => simp only [List.getElem?_toArray, List.getElem?_cons_zero, List.getElem?_cons_succ]; try rfl
            case hf_4 => kernel_rfl
            case hQ_4 => exact fun _ _ _ h => h
            case hy_4 =>
              refine Or.inl ⟨by rfl, ?_⟩
              intro W hSw
              obtain ⟨q0, q1, q2⟩ := hSw
              go_simp
              try with_reducible rfl
            try simp only [Act.put, List.setIfInBounds_toArray, List.set_cons_zero, List.set_cons_succ]
            refine wpAnyH_take (i := 4) (oi := ?oi_5) (v := ?_) ?hi_5 (by kernel_rfl) ?hf_5 (by kernel_rfl) ?hQ_5 ?hy_5 (by assumption) ?_
            case hi_5 => simp only [List.getElem?_toArray, List.getElem?_cons_zero, List.getElem?_cons_succ]; try rfl
            case hf_5 => kernel_rfl
            case hQ_5 => exact fun _ _ _ h => h
            case hy_5 =>
              refine Or.inl ⟨by rfl, ?_⟩
              intro W hSw
              obtain ⟨q0, q1, q2⟩ := hSw
              go_simp
              try with_reducible rfl
            try simp only [Act.put, List.setIfInBounds_toArray, List.set_cons_zero, List.set_cons_succ]
            refine wpAnyH_take (i := 5) (oi := ?oi_6) (v := ?_) ?hi_6 (by kernel_rfl) ?hf_6 (by kernel_rfl) ?hQ_6 ?hy_6 (by assumption) ?_
            case hi_6 => simp only [List.getElem?_toArray, List.getElem?_cons_zero, List.getElem?_cons_succ]; try rfl
            case hf_6 => kernel_rfl
            case hQ_6 => exact fun _ _ _ h => h
            case hy_6 =>
              refine Or.inl ⟨by rfl, ?_⟩
              intro W hSw
              obtain ⟨q0, q1, q2⟩ := hSw
              go_simp
              try with_reducible rfl
            try simp only [Act.put, List.setIfInBounds_toArray, List.set_cons_zero, List.set_cons_succ]
            refine wpAnyH_take (i := 6) (oi := ?oi_7) (v := ?_) ?hi_7 (by kernel_rfl) ?hf_7 (by kernel_rfl) ?hQ_7 ?hy_7 (by assumption) ?_
            case hi_7 => simp only [List.getElem?_toArray, List.getElem?_cons_zero, List.getElem?_cons_succ]; try rfl
            case hf_7 => kernel_rfl
            case hQ_7 => exact fun _ _ _ h => h
            case hy_7 =>
              refine Or.inl ⟨by rfl, ?_⟩
              intro W hSw
              obtain ⟨q0, q1, q2⟩ := hSw
              go_simp
              try with_reducible rfl
            try simp only [Act.put, List.setIfInBounds_toArray, List.set_cons_zero, List.set_cons_succ]
            refine wpAnyH_take (i := 7) (oi := ?oi_8) (v := ?_) ?hi_8 (by kernel_rfl) ?hf_8 (by kernel_rfl) ?hQ_8 ?hy_8 (by assumption) ?_
            case hi_8 => simp only [List.getElem?_toArray, List.getElem?_cons_zero, List.getElem?_cons_succ]; try rfl
            case hf_8 => kernel_rfl
            case hQ_8 => exact fun _ _ _ h => h
            case hy_8 =>
              refine Or.inl ⟨by rfl, ?_⟩
              intro W hSw
              obtain ⟨q0, q1, q2⟩ := hSw
              go_simp
              try with_reducible rfl
            try simp only [Act.put, List.setIfInBounds_toArray, List.set_cons_zero, List.set_cons_succ]
            refine wpAnyH_take (i := 8) (oi := ?oi_9) (v := ?_) ?hi_9 (by kernel_rfl) ?hf_9 (by kernel_rfl) ?hQ_9 ?hy_9 (by assumption) ?_
            case hi_9 => simp only [List.getElem?_toArray, List.getElem?_cons_zero, List.getElem?_cons_succ]; try rfl
            case hf_9 => kernel_rfl
            case hQ_9 => exact fun _ _ _ h => h
            case hy_9 =>
              refine Or.inl ⟨by rfl, ?_⟩
              intro W hSw
              obtain ⟨q0, q1, q2⟩ := hSw
              go_simp
              try with_reducible rfl
            try simp only [Act.put, List.setIfInBounds_toArray, List.set_cons_zero, List.set_cons_succ]
            refine wpAnyH_ready (rs := [9]) (by kernel_rfl) (by simp) ?_
            refine AllReadyH.cons (o := ?oi_10) ?hi_10 (fun K hK => ?_) AllReadyH.nil
            case hi_10 => simp only [List.getElem?_toArray, List.getElem?_cons_zero, List.getElem?_cons_succ]; try rfl
            go_simp
            (go_at_call 15
             (with_reducible refine (HT3.out _).mono ?_)
             rintro e w2 ⟨rfl, rfl⟩)
            refine hK.out _ _ ⟨x1, y2, x0⟩ (fun hHeld => ?_)
            clear hK K
            try simp only [Act.put, List.setIfInBounds_toArray, List.set_cons_zero, List.set_cons_succ]
            refine wpAnyH_take (i := 10) (oi := ?oi_11) (v := ?_) ?hi_11 (by kernel_rfl) ?hf_11 (by kernel_rfl) ?hQ_11 ?hy_11 (by assumption) ?_
            case hi_11 => simp only [List.getElem?_toArray, List.getElem?_cons_zero, List.getElem?_cons_succ]; try rfl
            case hf_11 => kernel_rfl
            case hQ_11 => exact fun _ _ _ h => h
            case hy_11 =>
              refine Or.inl ⟨by rfl, ?_⟩
              intro W hSw
              obtain ⟨q0, q1, q2⟩ := hSw
              go_simp
              try with_reducible rfl
            try simp only [Act.put, List.setIfInBounds_toArray, List.set_cons_zero, List.set_cons_succ]
            refine wpAnyH_done (by kernel_rfl) ?_ _
            refine NoPanic.normal ?_
            clear hHeld
            go_wp2
            refine HNR.out.2 _ _ ⟨(below_drew HB.out), _, _, rfl, rfl, by decide⟩
          | true =>
            rw [hI] at HT3
            rw [Bool.and_eq_true, decide_eq_true_eq, decide_eq_true_eq] at hI
            have HK := Lib.hid (HKL.out hI.1 hI.2)
            clear hI HKL
            refine wp_region_noPanic ?_
            refine wp_region_held_drew (S := (fun W => W.cell? ⟨bx, 1, none⟩ = some (.slice (some ⟨b, off, none⟩) n1 c1) ∧ W.cell? ⟨b, off + k * 3 + 2, none⟩ = some (.int .i64 g) ∧ W.cell? ⟨bx, 0, none⟩ = some (.slice A0 n0 c0))) (by kernel_rfl) ⟨x1, y2, x0⟩ (fun hHeld => ?_)
            refine wpAnyH_take (i := 0) (oi := ?oi_1) (v := ?_) ?hi_1 (by kernel_rfl) ?hf_1 (by kernel_rfl) ?hQ_1 ?hy_1 (by assumption) ?_
            case hi_1 => simp only [List.getElem?_toArray, List.getElem?_cons_zero, List.getElem?_cons_succ]; try rfl
            case hf_1 => kernel_rfl
            case hQ_1 => exact fun _ _ _ h => h
            case hy_1 =>
              refine Or.inl ⟨by rfl, ?_⟩
              intro W hSw
              obtain ⟨q0, q1, q2⟩ := hSw
              go_simp
              try with_reducible rfl
            try simp only [Act.put, List.setIfInBounds_toArray, List.set_cons_zero, List.set_cons_succ]
            refine wpAnyH_take (i := 1) (oi := ?oi_2) (v := ?_) ?hi_2 (by kernel_rfl) ?hf_2 (by kernel_rfl) ?hQ_2 ?hy_2 (by assumption) ?_
            case hi_2 => simp only [List.getElem?_toArray, List.getElem?_cons_zero, List.getElem?_cons_succ]; try rfl
            case hf_2 => kernel_rfl
            case hQ_2 => exact fun _ _ _ h => h
            case hy_2 =>
              refine Or.inl ⟨by rfl, ?_⟩
              intro W hSw
              obtain ⟨q0, q1, q2⟩ := hSw
              go_simp
              try with_reducible rfl
            try simp only [Act.put, List.setIfInBounds_toArray, List.set_cons_zero, List.set_cons_succ]
            refine wpAnyH_take (i := 2) (oi := ?oi_3) (v := ?_) ?hi_3 (by kernel_rfl) ?hf_3 (by kernel_rfl) ?hQ_3 ?hy_3 (by assumption) ?_
            case hi_3 => simp only [List.getElem?_toArray, List.getElem?_cons_zero, List.getElem?_cons_succ]; try rfl
            case hf_3 => kernel_rfl
            case hQ_3 => exact fun _ _ _ h => h
            case hy_3 =>
              refine Or.inl ⟨by rfl, ?_⟩
              intro W hSw
              obtain ⟨q0, q1, q2⟩ := hSw
              go_simp
              try with_reducible rfl
            try simp only [Act.put, List.setIfInBounds_toArray, List.set_cons_zero, List.set_cons_succ]
            refine wpAnyH_take (i := 3) (oi := ?oi_4) (v := ?_) ?hi_4 (by kernel_rfl) ?hf_4 (by kernel_rfl) ?hQ_4 ?hy_4 (by assumption) ?_
            case hi_4 => simp only [List.getElem?_toArray, List.getElem?_cons_zero, List.getElem?_cons_succ]; try rfl
            case hf_4 => kernel_rfl
            case hQ_4 => exact fun _ _ _ h => h
            case hy_4 =>
              refine Or.inl ⟨by rfl, ?_⟩
              intro W hSw
              obtain ⟨q0, q1, q2⟩ := hSw
              go_simp
              try with_reducible rfl
            try simp only [Act.put, List.setIfInBounds_toArray, List.set_cons_zero, List.set_cons_succ]
            refine wpAnyH_take (i := 4) (oi := ?oi_5) (v := ?_) ?hi_5 (by kernel_rfl) ?hf_5 (by kernel_rfl) ?hQ_5 ?hy_5 (by assumption) ?_
            case hi_5 => simp only [List.getElem?_toArray, List.getElem?_cons_zero, List.getElem?_cons_succ]; try rfl
            case hf_5 => kernel_rfl
            case hQ_5 => exact fun _ _ _ h => h
            case hy_5 =>
              refine Or.inl ⟨by rfl, ?_⟩
              intro W hSw
              obtain ⟨q0, q1, q2⟩ := hSw
              go_simp
              try with_reducible rfl
            try simp only [Act.put, List.setIfInBounds_toArray, List.set_cons_zero, List.set_cons_succ]
            refine wpAnyH_take (i := 5) (oi := ?oi_6) (v := ?_) ?hi_6 (by kernel_rfl) ?hf_6 (by kernel_rfl) ?hQ_6 ?hy_6 (by assumption) ?_
            case hi_6 => simp only [List.getElem?_toArray, List.getElem?_cons_zero, List.getElem?_cons_succ]; try rfl
            case hf_6 => kernel_rfl
            case hQ_6 => exact fun _ _ _ h => h
            case hy_6 =>
              refine Or.inl ⟨by rfl, ?_⟩
              intro W hSw
              obtain ⟨q0, q1, q2⟩ := hSw
              go_simp
              try with_reducible rfl
            try simp only [Act.put, List.setIfInBounds_toArray, List.set_cons_zero, List.set_cons_succ]
            refine wpAnyH_take (i := 6) (oi := ?oi_7) (v := ?_) ?hi_7 (by kernel_rfl) ?hf_7 (by kernel_rfl) ?hQ_7 ?hy_7 (by assumption) ?_
            case hi_7 => simp only [List.getElem?_toArray, List.getElem?_cons_zero, List.getElem?_cons_succ]; try rfl
            case hf_7 => kernel_rfl
            case hQ_7 => exact fun _ _ _ h => h
            case hy_7 =>
              refine Or.inl ⟨by rfl, ?_⟩
              intro W hSw
              obtain ⟨q0, q1, q2⟩ := hSw
              go_simp
              try with_reducible rfl
            try simp only [Act.put, List.setIfInBounds_toArray, List.set_cons_zero, List.set_cons_succ]
            refine wpAnyH_take (i := 7) (oi := ?oi_8) (v := ?_) ?hi_8 (by kernel_rfl) ?hf_8 (by kernel_rfl) ?hQ_8 ?hy_8 (by assumption) ?_
            case hi_8 => simp only [List.getElem?_toArray, List.getElem?_cons_zero, List.getElem?_cons_succ]; try rfl
            case hf_8 => kernel_rfl
            case hQ_8 => exact fun _ _ _ h => h
            case hy_8 =>
              refine Or.inl ⟨by rfl, ?_⟩
              intro W hSw
              obtain ⟨q0, q1, q2⟩ := hSw
              go_simp
              try with_reducible rfl
            try simp only [Act.put, List.setIfInBounds_toArray, List.set_cons_zero, List.set_cons_succ]
            refine wpAnyH_take (i := 8) (oi := ?oi_9) (v := ?_) ?hi_9 (by kernel_rfl) ?hf_9 (by kernel_rfl) ?hQ_9 ?hy_9 (by assumption) ?_
            case hi_9 => simp only [List.getElem?_toArray, List.getElem?_cons_zero, List.getElem?_cons_succ]; try rfl
            case hf_9 => kernel_rfl
            case hQ_9 => exact fun _ _ _ h => h
            case hy_9 =>
              refine Or.inl ⟨by rfl, ?_⟩
              intro W hSw
              obtain ⟨q0, q1, q2⟩ := hSw
              go_simp
              try with_reducible rfl
            try simp only [Act.put, List.setIfInBounds_toArray, List.set_cons_zero, List.set_cons_succ]
            refine wpAnyH_ready (rs := [9]) (by kernel_rfl) (by simp) ?_
            refine AllReadyH.cons (o := ?oi_10) ?hi_10 (fun K hK => ?_) AllReadyH.nil
            case hi_10 => simp only [List.getElem?_toArray, List.getElem?_cons_zero, List.getElem?_cons_succ]; try rfl
            go_simp
            (go_at_call 15
             (with_reducible refine (HT3.out _).mono ?_)
             rintro e w2 ⟨rfl, rfl⟩)
            refine hK.out _ _ ⟨x1, y2, x0⟩ (fun hHeld => ?_)
            clear hK K
            try simp only [Act.put, List.setIfInBounds_toArray, List.set_cons_zero, List.set_cons_succ]
            refine wpAnyH_take (i := 10) (oi := ?oi_11) (v := ?_) ?hi_11 (by kernel_rfl) ?hf_11 (by kernel_rfl) ?hQ_11 ?hy_11 (by assumption) ?_
            case hi_11 => simp only [List.getElem?_toArray, List.getElem?_cons_zero, List.getElem?_cons_succ]; try rfl
            case hf_11 => kernel_rfl
            case hQ_11 => exact fun _ _ _ h => h
            case hy_11 =>
              refine Or.inl ⟨by rfl, ?_⟩
              intro W hSw
              obtain ⟨q0, q1, q2⟩ := hSw
              go_simp
              try with_reducible rfl
            try simp only [Act.put, List.setIfInBounds_toArray, List.set_cons_zero, List.set_cons_succ]
            refine wpAnyH_done (by kernel_rfl) ?_ _
            refine NoPanic.normal ?_
            clear hHeld
            go_wp2
            go_roundw
            case rel => exact ⟨k + 1, by omega, by go_num, Lib.hid (fun i hi => all_more' HQ.out HK.out i hi), Lib.hid (below_drew HB.out)⟩
            case measure => simp [intOf]; omega
    · have e0 : n1 = k := by omega
      subst e0
      go_wp2
      apply HNR.out.1
      exact ⟨HB.out, HQ.out⟩
end Go.Proofs.Ytackompihengfaa
