/-
  Unfit: a loop.
-/
import Derived.Test.YtackompihengfaaUa
import Derived.BigQuiet
import Derived.Deep.RegionHeld3
import Derived.Deep.DeepCutAuto
import Derived.Deep.CutBlock
namespace Go.Proofs.Ytackompihengfaa
open Go.RowKit Go.PlainAid
set_option linter.unusedVariables false
set_option linter.unusedSimpArgs false
set_option maxHeartbeats 8000000 in
set_option maxRecDepth 1000000 in
theorem un2 {W0 wr : World} {bx na : Nat} {A2 : Option Addr} {n2 c2 : Nat} {A0 : Option Addr} {n0 c0 : Nat} {X2 : Nat → FunT}
    (hbel : Below W0.heap.size W0 wr) (hbx : bx < W0.heap.size) (hc2 : W0.cell? ⟨bx, 2, none⟩ = some (.slice A2 n2 c2)) (hc0 : W0.cell? ⟨bx, 0, none⟩ = some (.slice A0 n0 c0)) (hr : Row 3 FunAt W0 A2 n2 c2 X2)  (hn2 : n2 ≤ 200) (hn0 : n0 ≤ 200) (hna : na ≤ 300) 
    (s0 s2 s3 s5 s6 s8 s9 s10 s11 s12 s13 s14 s15 s16 s17 s18 s19 s20 s21 s22 s23 s24 s25 s26 s27 s28 s29 s30 s31 s32 s33 s34 s35 s36 s37 s38 s39 s40 s41 s42 s43 s44 s45 s46 s47 s48 s49 s50 s51 s52 s53 s54 s55 s56 s57 s58 s59 s60 s61 s62 s63 s64 s65 s66 s67 s68 s69 s70 s71 s72 s73 s74 s75 s76 s77 s78 s79 s80 s81 s82 s83 s84 s85 s86 s87 s88 s89 s90 s91 s92 s93 s94 s95 s96 s97 s98 s99 s100 s101 s102 s103 s104 s105 s106 s107 s108 s109 s110 s111 s112 s113 s114 s115 s116 s117 s118 s119 s120 s121 s122 s123 s124 s125 s126 s127 s128 s129 s130 s131 s132 s133 s134 s135 s136 s137 s138 s139 s140 s141 s142 s143 s144 s145 s146 s147 s148 s149 s150 s151 s152 s153 s154 s155 s156 s157 s158 s159 s160 s161 s162 s163 s164 s165 s166 s167 s168 s169 s170 s171 s172 s173 s174 s175 s176 s177 s178 s179 s180 s181 s182 s183 s184 s185 s186 s187 s188 s189 s190 s191 s192 s193 s194 s195 s196 s197 s198 s199 s200 s201 s202 s203 s204 s205 s206 s207 s208 s209 s210 s211 s212 s213 s214 s215 s216 s217 s218 s219 s220 s221 s222 s223 s224 s225 s226 s227 s228 s229 s230 s231 s232 s233 s234 s235 s236 s237 s238 s239 s240 s241 s242 s243 s244 s245 s246 s247 s248 s249 s250 s251 s252 s253 s254 s255 s256 s257 s258 s259 s260 s261 s262 s263 s264 s265 s266 s267 s268 s269 s270 s271 s272 s273 s274 s275 s276 s277 s278 s279 s280 s281 s282 s283 s284 s285 s286 s287 s288 s289 s290 s291 s292 s293 s294 s295 s296 s297 s298 s299 s300 s301 s302 s303 s304 s305 s306 s307 s308 s309 s310 s311 s312 s313 s314 s315 s316 s317 s318 s319 s320 s321 s322 s323 s324 s325 s326 s327 s328 s329 s330 s331 s332 s333 s334 s335 s336 s337 s338 s339 s340 s341 s342 s343 s344 s345 s346 s347 s348 s349 s350 s351 s352 s353 s354 s355 s356 s357 s358 s359 s360 s361 s362 s363 s364 s365 s366 s367 s368 s369 s370 s371 s372 s373 s374 s375 s376 s377 s378 s379 s380 s381 s382 s383 s384 s385 s386 s387 s388 s389 s390 s391 s392 : Value) (Q : Exit → Act → World → Prop)
    (hN : ∀ (u2 u3 u7 u99 u100 u101 u102 u103 u104 u105 u106 u107 u108 u109 u110 u111 u112 u113 u114 u115 u116 : Value) (w' : World), UnN W0 w' (∀ i, i < n2 → 0 ≤ (X2 i).sg ∧ (X2 i).sg < n0) → Q .normal ⟨#[s0, .pointer (some ⟨bx, 0, none⟩), u2, u3, .int .i64 (na : Int), s5, s6, u7, s8, s9, s10, s11, s12, s13, s14, s15, s16, s17, s18, s19, s20, s21, s22, s23, s24, s25, s26, s27, s28, s29, s30, s31, s32, s33, s34, s35, s36, s37, s38, s39, s40, s41, s42, s43, s44, s45, s46, s47, s48, s49, s50, s51, s52, s53, s54, s55, s56, s57, s58, s59, s60, s61, s62, s63, s64, s65, s66, s67, s68, s69, s70, s71, s72, s73, s74, s75, s76, s77, s78, s79, s80, s81, s82, s83, s84, s85, s86, s87, s88, s89, s90, s91, s92, s93, s94, s95, s96, s97, s98, u99, u100, u101, u102, u103, u104, u105, u106, u107, u108, u109, u110, u111, u112, u113, u114, u115, u116, s117, s118, s119, s120, s121, s122, s123, s124, s125, s126, s127, s128, s129, s130, s131, s132, s133, s134, s135, s136, s137, s138, s139, s140, s141, s142, s143, s144, s145, s146, s147, s148, s149, s150, s151, s152, s153, s154, s155, s156, s157, s158, s159, s160, s161, s162, s163, s164, s165, s166, s167, s168, s169, s170, s171, s172, s173, s174, s175, s176, s177, s178, s179, s180, s181, s182, s183, s184, s185, s186, s187, s188, s189, s190, s191, s192, s193, s194, s195, s196, s197, s198, s199, s200, s201, s202, s203, s204, s205, s206, s207, s208, s209, s210, s211, s212, s213, s214, s215, s216, s217, s218, s219, s220, s221, s222, s223, s224, s225, s226, s227, s228, s229, s230, s231, s232, s233, s234, s235, s236, s237, s238, s239, s240, s241, s242, s243, s244, s245, s246, s247, s248, s249, s250, s251, s252, s253, s254, s255, s256, s257, s258, s259, s260, s261, s262, s263, s264, s265, s266, s267, s268, s269, s270, s271, s272, s273, s274, s275, s276, s277, s278, s279, s280, s281, s282, s283, s284, s285, s286, s287, s288, s289, s290, s291, s292, s293, s294, s295, s296, s297, s298, s299, s300, s301, s302, s303, s304, s305, s306, s307, s308, s309, s310, s311, s312, s313, s314, s315, s316, s317, s318, s319, s320, s321, s322, s323, s324, s325, s326, s327, s328, s329, s330, s331, s332, s333, s334, s335, s336, s337, s338, s339, s340, s341, s342, s343, s344, s345, s346, s347, s348, s349, s350, s351, s352, s353, s354, s355, s356, s357, s358, s359, s360, s361, s362, s363, s364, s365, s366, s367, s368, s369, s370, s371, s372, s373, s374, s375, s376, s377, s378, s379, s380, s381, s382, s383, s384, s385, s386, s387, s388, s389, s390, s391, s392], []⟩ w')
    (hR : ∀ (t : Array Value) (w' : World), UnR W0 t w' → Q .ret ⟨t, []⟩ w') :
    Code.wp Try.prog (unBlk 4) Q ⟨#[s0, .pointer (some ⟨bx, 0, none⟩), s2, s3, .int .i64 (na : Int), s5, s6, .int .i64 0, s8, s9, s10, s11, s12, s13, s14, s15, s16, s17, s18, s19, s20, s21, s22, s23, s24, s25, s26, s27, s28, s29, s30, s31, s32, s33, s34, s35, s36, s37, s38, s39, s40, s41, s42, s43, s44, s45, s46, s47, s48, s49, s50, s51, s52, s53, s54, s55, s56, s57, s58, s59, s60, s61, s62, s63, s64, s65, s66, s67, s68, s69, s70, s71, s72, s73, s74, s75, s76, s77, s78, s79, s80, s81, s82, s83, s84, s85, s86, s87, s88, s89, s90, s91, s92, s93, s94, s95, s96, s97, s98, s99, s100, s101, s102, s103, s104, s105, s106, s107, s108, s109, s110, s111, s112, s113, s114, s115, s116, s117, s118, s119, s120, s121, s122, s123, s124, s125, s126, s127, s128, s129, s130, s131, s132, s133, s134, s135, s136, s137, s138, s139, s140, s141, s142, s143, s144, s145, s146, s147, s148, s149, s150, s151, s152, s153, s154, s155, s156, s157, s158, s159, s160, s161, s162, s163, s164, s165, s166, s167, s168, s169, s170, s171, s172, s173, s174, s175, s176, s177, s178, s179, s180, s181, s182, s183, s184, s185, s186, s187, s188, s189, s190, s191, s192, s193, s194, s195, s196, s197, s198, s199, s200, s201, s202, s203, s204, s205, s206, s207, s208, s209, s210, s211, s212, s213, s214, s215, s216, s217, s218, s219, s220, s221, s222, s223, s224, s225, s226, s227, s228, s229, s230, s231, s232, s233, s234, s235, s236, s237, s238, s239, s240, s241, s242, s243, s244, s245, s246, s247, s248, s249, s250, s251, s252, s253, s254, s255, s256, s257, s258, s259, s260, s261, s262, s263, s264, s265, s266, s267, s268, s269, s270, s271, s272, s273, s274, s275, s276, s277, s278, s279, s280, s281, s282, s283, s284, s285, s286, s287, s288, s289, s290, s291, s292, s293, s294, s295, s296, s297, s298, s299, s300, s301, s302, s303, s304, s305, s306, s307, s308, s309, s310, s311, s312, s313, s314, s315, s316, s317, s318, s319, s320, s321, s322, s323, s324, s325, s326, s327, s328, s329, s330, s331, s332, s333, s334, s335, s336, s337, s338, s339, s340, s341, s342, s343, s344, s345, s346, s347, s348, s349, s350, s351, s352, s353, s354, s355, s356, s357, s358, s359, s360, s361, s362, s363, s364, s365, s366, s367, s368, s369, s370, s371, s372, s373, s374, s375, s376, s377, s378, s379, s380, s381, s382, s383, s384, s385, s386, s387, s388, s389, s390, s391, s392], []⟩ wr := by
  have HNR := Lib.hid (And.intro hN hR)
  have HB0 := Lib.hid hbel
  have HRW := Lib.hid hr
  have HC2 := Lib.hid hc2
  have HC0 := Lib.hid hc0
  clear hN hR hbel hr hc2 hc0
  conv => arg 2; whnf
  go_wp2_with fail
  go_loopw [7] (fun v7 wr => ∃ k : Nat, k ≤ n2 ∧ v7 = .int .i64 k ∧ Hid (∀ i, i < k → 0 ≤ (X2 i).sg ∧ (X2 i).sg < n0) ∧ Hid (Below W0.heap.size W0 wr)) (fun v7 _ => n2 - (intOf v7).toNat)
  case atStart => exact ⟨0, Nat.zero_le _, rfl, Lib.hid (fun i hi => absurd hi (by omega)), HB0⟩
  case round =>
    clear HB0
    obtain ⟨k, hk, rfl, HQ, HB⟩ := hrel
    have x2 : wr.cell? ⟨bx, 2, none⟩ = some (.slice A2 n2 c2) := (HB.out.cell (p := ⟨bx, 2, none⟩) hbx).trans HC2.out
    have x0 : wr.cell? ⟨bx, 0, none⟩ = some (.slice A0 n0 c0) := (HB.out.cell (p := ⟨bx, 0, none⟩) hbx).trans HC0.out
    by_cases hlt : k < n2
    · have hrw := HRW.out.below fun_stay HB.out
      obtain ⟨b, off, rfl, hbl, hat⟩ := hrw.2.2 (by omega)
      have ha := hat k hlt
      have hcn : n2 ≤ c2 := hrw.1
      have hcm : c2 ≤ 9223372036854775807 := hrw.2.1
      clear hrw
      clear hat
      obtain ⟨_, _, _, _, y0, _, _, _, _⟩ := ha
      have HT3 := Lib.hid (fun W => in_any (X2 k).sg n0 W)
      have HKK : Hid (∀ g, g = (X2 k).sg → 0 ≤ g → g < n0 → 0 ≤ (X2 k).sg ∧ (X2 k).sg < n0) := Lib.hid (fun g e h1 h2 => by subst e; exact ⟨h1, h2⟩)
      obtain ⟨g, hg⟩ : ∃ g, g = (X2 k).sg := ⟨_, rfl⟩
      rw [← hg] at y0 HT3
      have HKL := Lib.hid (HKK.out g hg)
      clear hg HKK
      go_upto_region 23 with fail
      cases hI : (decide (0 ≤ g) && decide (g < (n0 : Int))) with
      | false =>
        rw [hI] at HT3
        clear hI HKL
        refine wp_region_noPanic ?_
        refine wp_region_held_drew (S := (fun W => W.cell? ⟨bx, 2, none⟩ = some (.slice (some ⟨b, off, none⟩) n2 c2) ∧ W.cell? ⟨b, off + k * 3, none⟩ = some (.int .i64 g) ∧ W.cell? ⟨bx, 0, none⟩ = some (.slice A0 n0 c0))) (by kernel_rfl) ⟨x2, y0, x0⟩ (fun hHeld => ?_)
        refine wpAnyH_take (i := 0) (oi := ?oi_1) (v := ?_) ?hi_1 (by kernel_rfl) ?hf_1 (by kernel_rfl) ?hQ_1 ?hy_1 (by assumption) ?_
        case hi_1 => simp only [List.getElem?_toArray, List.getElem?_cons_zero, List.getElem?_cons_succ]; try rfl
        case hf_1 => kernel_rfl
        case hQ_1 => exact fun _ _ _ h => h
        case hy_1 =>
          refine Or.inl ⟨by rfl, ?_⟩
          intro W hSw
          obtain ⟨q0, q1, q2⟩ := hSw
          go_simp
          try with_reducible rfl
        try simp only [Act.put, List.setIfInBounds_toArray, List.set_cons_zero, List.set_cons_succ]
        refine wpAnyH_take (i := 1) (oi := ?oi_2) (v := ?_) ?hi_2 (by kernel_rfl) ?hf_2 (by kernel_rfl) ?hQ_2 ?hy_2 (by assumption) ?_
        case hi_2 => simp only [List.getElem?_toArray, List.getElem?_cons_zero, List.getElem?_cons_succ]; try rfl
        case hf_2 => kernel_rfl
        case hQ_2 => exact fun _ _ _ h => h
        case hy_2 =>
          refine Or.inl ⟨by rfl, ?_⟩
          intro W hSw
          obtain ⟨q0, q1, q2⟩ := hSw
          go_simp
          try with_reducible rfl
        try simp only [Act.put, List.setIfInBounds_toArray, List.set_cons_zero, List.set_cons_succ]
        refine wpAnyH_take (i := 2) (oi := ?oi_3) (v := ?_) ?hi_3 (by kernel_rfl) ?hf_3 (by kernel_rfl) ?hQ_3 ?hy_3 (by assumption) ?_
        case hi_3 => simp only [List.getElem?_toArray, List.getElem?_cons_zero, List.getElem?_cons_succ]; try rfl
        case hf_3 => kernel_rfl
        case hQ_3 => exact fun _ _ _ h => h
        case hy_3 =>
          refine Or.inl ⟨by rfl, ?_⟩
          intro W hSw
          obtain ⟨q0, q1, q2⟩ := hSw
          go_simp
          try with_reducible rfl
        try simp only [Act.put, List.setIfInBounds_toArray, List.set_cons_zero, List.set_cons_succ]
        refine wpAnyH_take (i := 3) (oi := ?oi_4) (v := ?_) ?hi_4 (by kernel_rfl) ?hf_4 (by kernel_rfl) ?hQ_4 ?hy_4 (by assumption) ?_
        case hi_4 => simp only [List.getElem?_toArray, List.getElem?_cons_zero, List.getElem?_cons_succ]; try rfl
        case hf_4 => kernel_rfl
        case hQ_4 => exact fun _ _ _ h => h
        case hy_4 =>
          refine Or.inl ⟨by rfl, ?_⟩
          intro W hSw
          obtain ⟨q0, q1, q2⟩ := hSw
          go_simp
          try with_reducible rfl
        try simp only [Act.put, List.setIfInBounds_toArray, List.set_cons_zero, List.set_cons_succ]
        refine wpAnyH_take (i := 4) (oi := ?oi_5) (v := ?_) ?hi_5 (by kernel_rfl) ?hf_5 (by kernel_rfl) ?hQ_5 ?hy_5 (by assumption) ?_
        case hi_5 => simp only [List.getElem?_toArray, List.getElem?_cons_zero, List.getElem?_cons_succ]; try rfl
        case hf_5 => kernel_rfl
        case hQ_5 => exact fun _ _ _ h => h
        case hy_5 =>
          refine Or.inl ⟨by rfl, ?_⟩
          intro W hSw
          obtain ⟨q0, q1, q2⟩ := hSw
          go_simp
          try with_reducible rfl
        try simp only [Act.put, List.setIfInBounds_toArray, List.set_cons_zero, List.set_cons_succ]
        refine wpAnyH_take (i := 5) (oi := ?oi_6) (v := ?_) ?hi_6 (by kernel_rfl) ?hf_6 (by kernel_rfl) ?hQ_6 ?hy_6 (by assumption) ?_
        case hi_6 => simp only [List.getElem?_toArray, List.getElem?_cons_zero, List.getElem?_cons_succ]; try rfl
        case hf_6 => kernel_rfl
        case hQ_6 => exact fun _ _ _ h => h
        case hy_6 =>
          refine Or.inl ⟨by rfl, ?_⟩
          intro W hSw
          obtain ⟨q0, q1, q2⟩ := hSw
          go_simp
          try with_reducible rfl
        try simp only [Act.put, List.setIfInBounds_toArray, List.set_cons_zero, List.set_cons_succ]
        refine wpAnyH_take (i := 6) (oi := ?oi_7) (v := ?_) ?hi_7 (by kernel_rfl) ?hf_7 (by kernel_rfl) ?hQ_7 ?hy_7 (by assumption) ?_
        case hi_7 => simp only [List.getElem?_toArray, List.getElem?_cons_zero, List.getElem?_cons_succ]; try rfl
        case hf_7 => kernel_rfl
        case hQ_7 => exact fun _ _ _ h => h
        case hy_7 =>
          refine Or.inl ⟨by rfl, ?_⟩
          intro W hSw
          obtain ⟨q0, q1, q2⟩ := hSw
          go_simp
          try with_reducible rfl
        try simp only [Act.put, List.setIfInBounds_toArray, List.set_cons_zero, List.set_cons_succ]
        refine wpAnyH_take (i := 7) (oi := ?oi_8) (v := ?_) ?hi_8 (by kernel_rfl) ?hf_8 (by kernel_rfl) ?hQ_8 ?hy_8 (by assumption) ?_
        case hi_8 => simp only [List.getElem?_toArray, List.getElem?_cons_zero, List.getElem?_cons_succ]; try rfl
        case hf_8 => kernel_rfl
        case hQ_8 => exact fun _ _ _ h => h
        case hy_8 =>
          refine Or.inl ⟨by rfl, ?_⟩
          intro W hSw
          obtain ⟨q0, q1, q2⟩ := hSw
          go_simp
          try with_reducible rfl
        try simp only [Act.put, List.setIfInBounds_toArray, List.set_cons_zero, List.set_cons_succ]
        refine wpAnyH_take (i := 8) (oi := ?oi_9) (v := ?_) ?hi_9 (by kernel_rfl) ?hf_9 (by kernel_rfl) ?hQ_9 ?hy_9 (by assumption) ?_
        case hi_9 => simp only [List.getElem?_toArray, List.getElem?_cons_zero, List.getElem?_cons_succ]; try rfl
        case hf_9 => kernel_rfl
        case hQ_9 => exact fun _ _ _ h => h
        case hy_9 =>
          refine Or.inl ⟨by rfl, ?_⟩
          intro W hSw
          obtain ⟨q0, q1, q2⟩ := hSw
          go_simp
          try with_reducible rfl
        try simp only [Act.put, List.setIfInBounds_toArray, List.set_cons_zero, List.set_cons_succ]
        refine wpAnyH_ready (rs := [9]) (by kernel_rfl) (by simp) ?_
        refine AllReadyH.cons (o := ?oi_10) ?hi_10 (fun K hK => ?_) AllReadyH.nil
        case hi_10 => simp only [List.getElem?_toArray, List.getElem?_cons_zero, List.getElem?_cons_succ]; try rfl
        go_simp
        (go_at_call 15
         (with_reducible refine (HT3.out _).mono ?_)
         rintro e w2 ⟨rfl, rfl⟩)
        refine hK.out _ _ ⟨x2, y0, x0⟩ (fun hHeld => ?_)
        clear hK K
        try simp only [Act.put, List.setIfInBounds_toArray, List.set_cons_zero, List.set_cons_succ]
        refine wpAnyH_take (i := 10) (oi := ?oi_11) (v := ?_) ?hi_11 (by kernel_rfl) ?hf_11 (by kernel_rfl) ?hQ_11 ?hy_11 (by assumption) ?_
        case hi_11 => simp only [List.getElem?_toArray, List.getElem?_cons_zero, List.getElem?_cons_succ]; try rfl
        case hf_11 => kernel_rfl
        case hQ_11 => exact fun _ _ _ h => h
        case hy_11 =>
          refine Or.inl ⟨by rfl, ?_⟩
          intro W hSw
          obtain ⟨q0, q1, q2⟩ := hSw
          go_simp
          try with_reducible rfl
        try simp only [Act.put, List.setIfInBounds_toArray, List.set_cons_zero, List.set_cons_succ]
        refine wpAnyH_done (by kernel_rfl) ?_ _
        refine NoPanic.normal ?_
        clear hHeld
        go_wp2
        refine HNR.out.2 _ _ ⟨(below_drew HB.out), _, _, rfl, rfl, by decide⟩
      | true =>
        rw [hI] at HT3
        rw [Bool.and_eq_true, decide_eq_true_eq, decide_eq_true_eq] at hI
        have HK := Lib.hid (HKL.out hI.1 hI.2)
        clear hI HKL
        refine wp_region_noPanic ?_
        refine wp_region_held_drew (S := (fun W => W.cell? ⟨bx, 2, none⟩ = some (.slice (some ⟨b, off, none⟩) n2 c2) ∧ W.cell? ⟨b, off + k * 3, none⟩ = some (.int .i64 g) ∧ W.cell? ⟨bx, 0, none⟩ = some (.slice A0 n0 c0))) (by kernel_rfl) ⟨x2, y0, x0⟩ (fun hHeld => ?_)
        refine wpAnyH_take (i := 0) (oi := ?oi_1) (v := ?_) ?hi_1 (by kernel_rfl) ?hf_1 (by kernel_rfl) ?hQ_1 ?hy_1 (by assumption) ?_
        case hi_1 => simp only [List.getElem?_toArray, List.getElem?_cons_zero, List.getElem?_cons_succ]; try rfl
        case hf_1 => kernel_rfl
        case hQ_1 => exact fun _ _ _ h => h
        case hy_1 =>
          refine Or.inl ⟨by rfl, ?_⟩
          intro W hSw
          obtain ⟨q0, q1, q2⟩ := hSw
          go_simp
          try with_reducible rfl
        try simp only [Act.put, List.setIfInBounds_toArray, List.set_cons_zero, List.set_cons_succ]
        refine wpAnyH_take (i := 1) (oi := ?oi_2) (v := ?_) ?hi_2 (by kernel_rfl) ?hf_2 (by kernel_rfl) ?hQ_2 ?hy_2 (by assumption) ?_
        case hi_2 => simp only [List.getElem?_toArray, List.getElem?_cons_zero, List.getElem?_cons_succ]; try rfl
        case hf_2 => kernel_rfl
        case hQ_2 => exact fun _ _ _ h => h
        case hy_2 =>
          refine Or.inl ⟨by rfl, ?_⟩
          intro W hSw
          obtain ⟨q0, q1, q2⟩ := hSw
          go_simp
          try with_reducible rfl
        try simp only [Act.put, List.setIfInBounds_toArray, List.set_cons_zero, List.set_cons_succ]
        refine wpAnyH_take (i := 2) (oi := ?oi_3) (v := ?_) ?hi_3 (by kernel_rfl) ?hf_3 (by kernel_rfl) ?hQ_3 ?hy_3 (by assumption) ?_
        case hi_3 => simp only [List.getElem?_toArray, List.getElem?_cons_zero, List.getElem?_cons_succ]; try rfl
        case hf_3 => kernel_rfl
        case hQ_3 => exact fun _ _ _ h => h
        case hy_3 =>
          refine Or.inl ⟨by rfl, ?_⟩
          intro W hSw
          obtain ⟨q0, q1, q2⟩ := hSw
          go_simp
          try with_reducible rfl
        try simp only [Act.put, List.setIfInBounds_toArray, List.set_cons_zero, List.set_cons_succ]
        refine wpAnyH_take (i := 3) (oi := ?oi_4) (v := ?_) ?hi_4 (by kernel_rfl) ?hf_4 (by kernel_rfl) ?hQ_4 ?hy_4 (by assumption) ?_
        case hi_4 => simp only [List.getElem?_toArray, List.getElem?_cons_zero, List.getElem?_cons_succ]; try rfl
        case hf_4 => kernel_rfl
        case hQ_4 => exact fun _ _ _ h => h
        case hy_4 =>
          refine Or.inl ⟨by rfl, ?_⟩
          intro W hSw
          obtain ⟨q0, q1, q2⟩ := hSw
          go_simp
          try with_reducible rfl
        try simp only [Act.put, List.setIfInBounds_toArray, List.set_cons_zero, List.set_cons_succ]
        refine wpAnyH_take (i := 4) (oi := ?oi_5) (v := ?_) ?hi_5 (by kernel_rfl) ?hf_5 (by kernel_rfl) ?hQ_5 ?hy_5 (by assumption) ?_
        case hi_5 => simp only [List.getElem?_toArray, List.getElem?_cons_zero, List.getElem?_cons_succ]; try rfl
        case hf_5 => kernel_rfl
        case hQ_5 => exact fun _ _ _ h => h
        case hy_5 =>
          refine Or.inl ⟨by rfl, ?_⟩
          intro W hSw
          obtain ⟨q0, q1, q2⟩ := hSw
          go_simp
          try with_reducible rfl
        try simp only [Act.put, List.setIfInBounds_toArray, List.set_cons_zero, List.set_cons_succ]
        refine wpAnyH_take (i := 5) (oi := ?oi_6) (v := ?_) ?hi_6 (by kernel_rfl) ?hf_6 (by kernel_rfl) ?hQ_6 ?hy_6 (by assumption) ?_
        case hi_6 => simp only [List.getElem?_toArray, List.getElem?_cons_zero, List.getElem?_cons_succ]; try rfl
        case hf_6 => kernel_rfl
        case hQ_6 => exact fun _ _ _ h => h
        case hy_6 =>
          refine Or.inl ⟨by rfl, ?_⟩
          intro W hSw
          obtain ⟨q0, q1, q2⟩ := hSw
          go_simp
          try with_reducible rfl
        try simp only [Act.put, List.setIfInBounds_toArray, List.set_cons_zero, List.set_cons_succ]
        refine wpAnyH_take (i := 6) (oi := ?oi_7) (v := ?_) ?hi_7 (by kernel_rfl) ?hf_7 (by kernel_rfl) ?hQ_7 ?hy_7 (by assumption) ?_
        case hi_7 => simp only [List.getElem?_toArray, List.getElem?_cons_zero, List.getElem?_cons_succ]; try rfl
        case hf_7 => kernel_rfl
        case hQ_7 => exact fun _ _ _ h => h
        case hy_7 =>
          refine Or.inl ⟨by rfl, ?_⟩
          intro W hSw
          obtain ⟨q0, q1, q2⟩ := hSw
          go_simp
          try with_reducible rfl
        try simp only [Act.put, List.setIfInBounds_toArray, List.set_cons_zero, List.set_cons_succ]
        refine wpAnyH_take (i := 7) (oi := ?oi_8) (v := ?_) ?hi_8 (by kernel_rfl) ?hf_8 (by kernel_rfl) ?hQ_8 ?hy_8 (by assumption) ?_
        case hi_8 => simp only [List.getElem?_toArray, List.getElem?_cons_zero, List.getElem?_cons_succ]; try rfl
        case hf_8 => kernel_rfl
        case hQ_8 => exact fun _ _ _ h => h
        case hy_8 =>
          refine Or.inl ⟨by rfl, ?_⟩
          intro W hSw
          obtain ⟨q0, q1, q2⟩ := hSw
          go_simp
          try with_reducible rfl
        try simp only [Act.put, List.setIfInBounds_toArray, List.set_cons_zero, List.set_cons_succ]
        refine wpAnyH_take (i := 8) (oi := ?oi_9) (v := ?_) ?hi_9 (by kernel_rfl) ?hf_9 (by kernel_rfl) ?hQ_9 ?hy_9 (by assumption) ?_
        case hi_9 => simp only [List.getElem?_toArray, List.getElem?_cons_zero, List.getElem?_cons_succ]; try rfl
        case hf_9 => kernel_rfl
        case hQ_9 => exact fun _ _ _ h => h
        case hy_9 =>
          refine Or.inl ⟨by rfl, ?_⟩
          intro W hSw
          obtain ⟨q0, q1, q2⟩ := hSw
          go_simp
          try with_reducible rfl
        try simp only [Act.put, List.setIfInBounds_toArray, List.set_cons_zero, List.set_cons_succ]
        refine wpAnyH_ready (rs := [9]) (by kernel_rfl) (by simp) ?_
        refine AllReadyH.cons (o := ?oi_10) ?hi_10 (fun K hK => ?_) AllReadyH.nil
        case hi_10 => simp only [List.getElem?_toArray, List.getElem?_cons_zero, List.getElem?_cons_succ]; try rfl
        go_simp
        (go_at_call 15
         (with_reducible refine (HT3.out _).mono ?_)
         rintro e w2 ⟨rfl, rfl⟩)
        refine hK.out _ _ ⟨x2, y0, x0⟩ (fun hHeld => ?_)
        clear hK K
        try simp only [Act.put, List.setIfInBounds_toArray, List.set_cons_zero, List.set_cons_succ]
        refine wpAnyH_take (i := 10) (oi := ?oi_11) (v := ?_) ?hi_11 (by kernel_rfl) ?hf_11 (by kernel_rfl) ?hQ_11 ?hy_11 (by assumption) ?_
        case hi_11 => simp only [List.getElem?_toArray, List.getElem?_cons_zero, List.getElem?_cons_succ]; try rfl
        case hf_11 => kernel_rfl
        case hQ_11 => exact fun _ _ _ h => h
        case hy_11 =>
          refine Or.inl ⟨by rfl, ?_⟩
          intro W hSw
          obtain ⟨q0, q1, q2⟩ := hSw
          go_simp
          try with_reducible rfl
        try simp only [Act.put, List.setIfInBounds_toArray, List.set_cons_zero, List.set_cons_succ]
        refine wpAnyH_done (by kernel_rfl) ?_ _
        refine NoPanic.normal ?_
        clear hHeld
        go_wp2
        go_roundw
        case rel => exact ⟨k + 1, by omega, by go_num, Lib.hid (fun i hi => all_more' HQ.out HK.out i hi), Lib.hid (below_drew HB.out)⟩
        case measure => simp [intOf]; omega
    · have e0 : n2 = k := by omega
      subst e0
      go_wp2
      apply HNR.out.1
      exact ⟨HB.out, HQ.out⟩
end Go.Proofs.Ytackompihengfaa
