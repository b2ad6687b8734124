/-
  ModuleSame: the loop over the functions.
-/
import Derived.Test.YtackompihengfaaWKa1
import Derived.Deep.RegionHeld3
namespace Go.Proofs.Ytackompihengfaa
open Go.RowKit Go.PlainAid
set_option linter.unusedVariables false
set_option linter.unusedSimpArgs false
noncomputable def smBlk2 : Code := ((Try.f4.body.bind (fromBlk 4)).getD .skip)
set_option maxHeartbeats 8000000 in
set_option maxRecDepth 1000000 in
theorem smLoop2 {W : World} {bx bz ga gb : Nat} {A B A2 B2 : Option Addr} {n m c c' c2 d2 : Nat} {X Y : Nat → FunT} {s : Bool}
    (hbx : bx < W.heap.size) (hbz : bz < W.heap.size) (hga : ga < W.heap.size) (hgb : gb < W.heap.size)
    (hcx : W.cell? ⟨bx, 2, none⟩ = some (.slice A n c)) (hcy : W.cell? ⟨bz, 2, none⟩ = some (.slice B m c')) (hca2 : W.cell? ⟨ga, 2, none⟩ = some (.slice A2 n c2)) (hcb2 : W.cell? ⟨gb, 2, none⟩ = some (.slice B2 m d2))
    (hr : Row 3 FunAt W A n c X) (hr2 : Row 3 FunAt W B m c' Y) (hra : Row 3 FunAt W A2 n c2 X) (hrb : Row 3 FunAt W B2 m d2 Y) (hn : n ≤ 1000) (hm : m ≤ 1000) (hs : s = true → n ≤ m)
    (hlx : ∀ i, i < n → (X i).lc.length ≤ 1000 ∧ (X i).m ≤ 1000 ∧ ∀ j, j < (X i).m → ((X i).X j).l.length ≤ 1000) (hly : ∀ i, i < m → (Y i).lc.length ≤ 1000 ∧ (Y i).m ≤ 1000 ∧ ∀ j, j < (Y i).m → ((Y i).X j).l.length ≤ 1000)
    (s0 s1 s4 s8 s9 s11 s12 s13 s14 s15 s16 s17 s18 s19 s20 s21 s22 s23 s24 s25 s26 s27 s28 s29 s30 s31 s32 s33 s34 s35 s36 s37 s38 s39 s40 s41 s42 s43 s44 s45 s46 s47 s48 s49 s50 s51 s52 s53 s54 s55 s56 s57 s58 s59 s60 s61 s62 s63 s64 s65 s66 s67 s68 s69 s70 s71 s72 s73 s74 s75 s76 s77 s78 s79 s80 s81 s82 s83 s84 s85 s86 s87 s88 s89 s90 s91 s92 s93 s94 s95 s96 s97 s98 s99 s100 s101 s102 s103 s104 s105 s106 s107 s108 s109 s110 s111 s112 s113 s114 s115 s116 s117 s118 s119 s120 s121 s122 s123 s124 s125 s126 s127 s128 s129 s130 s131 s132 s133 s134 s135 s136 s137 s138 s139 s140 s141 s142 s143 s144 s145 s146 s147 s148 s149 s150 s151 s152 s153 s154 s155 s156 s157 s158 s159 s160 s161 s162 s163 s164 s165 s166 s167 s168 s169 s170 s171 s172 s173 s174 s175 s176 s177 s178 s179 s180 s181 s182 s183 s184 s185 s186 s187 s188 s189 s190 s191 s192 s193 s194 s195 s196 s197 s198 s199 s200 s201 s202 s203 s204 s205 s206 s207 s208 s209 s210 s211 s212 s213 s214 s215 s216 s217 s218 s219 s220 s221 s222 s223 s224 s225 s226 s227 s228 s229 s230 s231 s232 s233 s234 s235 s236 s237 s238 s239 s240 s241 s242 s243 s244 s245 s246 s247 s248 s249 s250 s251 s252 s253 s254 s255 s256 s257 s258 s259 s260 s261 s262 s263 s264 s265 s266 s267 s268 s269 s270 s271 s272 s273 s274 s275 s276 s277 s278 s279 s280 s281 s282 s283 s284 s285 s286 s287 s288 s289 s290 s291 s292 s293 s294 s295 s296 s297 s298 s299 s300 s301 s302 s303 s304 s305 s306 s307 s308 s309 s310 s311 s312 s313 s314 s315 s316 s317 s318 s319 s320 s321 s322 s323 s324 s325 s326 s327 s328 s329 s330 s331 s332 s333 s334 s335 s336 s337 s338 s339 s340 s341 s342 s343 s344 s345 s346 s347 s348 s349 s350 s351 s352 s353 s354 s355 s356 s357 s358 s359 s360 s361 s362 s363 s364 s365 s366 s367 s368 s369 s370 s371 s372 s373 s374 s375 s376 s377 s378 s379 s380 s381 s382 s383 s384 s385 s386 s387 s388 s389 s390 s391 s392 s393 s394 s395 s396 s397 s398 s399 s400 s401 s402 s403 s404 s405 s406 s407 s408 s409 s410 s411 s412 s413 s414 s415 s416 s417 s418 s419 s420 s421 s422 s423 : Value) (Q : Exit → Act → World → Prop)
    (hN : ∀ (u10 u181 u182 u183 u184 u185 u186 u187 u188 u189 u190 u191 u192 u193 u194 u195 u196 u197 u198 u199 u200 u201 u202 u203 u204 u205 u206 u207 u208 u209 u210 u211 u212 u213 u214 u215 u216 u217 u218 u219 u220 u221 u222 : Value) (w' : World), Below W.heap.size W w' → Q .normal ⟨#[s0, s1, .pointer (some ⟨bx, 0, none⟩), .pointer (some ⟨bz, 0, none⟩), s4, .pointer (some ⟨ga, 0, none⟩), .pointer (some ⟨gb, 0, none⟩), .bool (s && allB n (fun i => eqF (X i) (Y i))), s8, s9, u10, s11, s12, s13, s14, s15, s16, s17, s18, s19, s20, s21, s22, s23, s24, s25, s26, s27, s28, s29, s30, s31, s32, s33, s34, s35, s36, s37, s38, s39, s40, s41, s42, s43, s44, s45, s46, s47, s48, s49, s50, s51, s52, s53, s54, s55, s56, s57, s58, s59, s60, s61, s62, s63, s64, s65, s66, s67, s68, s69, s70, s71, s72, s73, s74, s75, s76, s77, s78, s79, s80, s81, s82, s83, s84, s85, s86, s87, s88, s89, s90, s91, s92, s93, s94, s95, s96, s97, s98, s99, s100, s101, s102, s103, s104, s105, s106, s107, s108, s109, s110, s111, s112, s113, s114, s115, s116, s117, s118, s119, s120, s121, s122, s123, s124, s125, s126, s127, s128, s129, s130, s131, s132, s133, s134, s135, s136, s137, s138, s139, s140, s141, s142, s143, s144, s145, s146, s147, s148, s149, s150, s151, s152, s153, s154, s155, s156, s157, s158, s159, s160, s161, s162, s163, s164, s165, s166, s167, s168, s169, s170, s171, s172, s173, s174, s175, s176, s177, s178, s179, s180, u181, u182, u183, u184, u185, u186, u187, u188, u189, u190, u191, u192, u193, u194, u195, u196, u197, u198, u199, u200, u201, u202, u203, u204, u205, u206, u207, u208, u209, u210, u211, u212, u213, u214, u215, u216, u217, u218, u219, u220, u221, u222, s223, s224, s225, s226, s227, s228, s229, s230, s231, s232, s233, s234, s235, s236, s237, s238, s239, s240, s241, s242, s243, s244, s245, s246, s247, s248, s249, s250, s251, s252, s253, s254, s255, s256, s257, s258, s259, s260, s261, s262, s263, s264, s265, s266, s267, s268, s269, s270, s271, s272, s273, s274, s275, s276, s277, s278, s279, s280, s281, s282, s283, s284, s285, s286, s287, s288, s289, s290, s291, s292, s293, s294, s295, s296, s297, s298, s299, s300, s301, s302, s303, s304, s305, s306, s307, s308, s309, s310, s311, s312, s313, s314, s315, s316, s317, s318, s319, s320, s321, s322, s323, s324, s325, s326, s327, s328, s329, s330, s331, s332, s333, s334, s335, s336, s337, s338, s339, s340, s341, s342, s343, s344, s345, s346, s347, s348, s349, s350, s351, s352, s353, s354, s355, s356, s357, s358, s359, s360, s361, s362, s363, s364, s365, s366, s367, s368, s369, s370, s371, s372, s373, s374, s375, s376, s377, s378, s379, s380, s381, s382, s383, s384, s385, s386, s387, s388, s389, s390, s391, s392, s393, s394, s395, s396, s397, s398, s399, s400, s401, s402, s403, s404, s405, s406, s407, s408, s409, s410, s411, s412, s413, s414, s415, s416, s417, s418, s419, s420, s421, s422, s423], []⟩ w') :
    Code.wp Try.prog smBlk2 Q ⟨#[s0, s1, .pointer (some ⟨bx, 0, none⟩), .pointer (some ⟨bz, 0, none⟩), s4, .pointer (some ⟨ga, 0, none⟩), .pointer (some ⟨gb, 0, none⟩), .bool s, s8, s9, .int .i64 0, s11, s12, s13, s14, s15, s16, s17, s18, s19, s20, s21, s22, s23, s24, s25, s26, s27, s28, s29, s30, s31, s32, s33, s34, s35, s36, s37, s38, s39, s40, s41, s42, s43, s44, s45, s46, s47, s48, s49, s50, s51, s52, s53, s54, s55, s56, s57, s58, s59, s60, s61, s62, s63, s64, s65, s66, s67, s68, s69, s70, s71, s72, s73, s74, s75, s76, s77, s78, s79, s80, s81, s82, s83, s84, s85, s86, s87, s88, s89, s90, s91, s92, s93, s94, s95, s96, s97, s98, s99, s100, s101, s102, s103, s104, s105, s106, s107, s108, s109, s110, s111, s112, s113, s114, s115, s116, s117, s118, s119, s120, s121, s122, s123, s124, s125, s126, s127, s128, s129, s130, s131, s132, s133, s134, s135, s136, s137, s138, s139, s140, s141, s142, s143, s144, s145, s146, s147, s148, s149, s150, s151, s152, s153, s154, s155, s156, s157, s158, s159, s160, s161, s162, s163, s164, s165, s166, s167, s168, s169, s170, s171, s172, s173, s174, s175, s176, s177, s178, s179, s180, s181, s182, s183, s184, s185, s186, s187, s188, s189, s190, s191, s192, s193, s194, s195, s196, s197, s198, s199, s200, s201, s202, s203, s204, s205, s206, s207, s208, s209, s210, s211, s212, s213, s214, s215, s216, s217, s218, s219, s220, s221, s222, s223, s224, s225, s226, s227, s228, s229, s230, s231, s232, s233, s234, s235, s236, s237, s238, s239, s240, s241, s242, s243, s244, s245, s246, s247, s248, s249, s250, s251, s252, s253, s254, s255, s256, s257, s258, s259, s260, s261, s262, s263, s264, s265, s266, s267, s268, s269, s270, s271, s272, s273, s274, s275, s276, s277, s278, s279, s280, s281, s282, s283, s284, s285, s286, s287, s288, s289, s290, s291, s292, s293, s294, s295, s296, s297, s298, s299, s300, s301, s302, s303, s304, s305, s306, s307, s308, s309, s310, s311, s312, s313, s314, s315, s316, s317, s318, s319, s320, s321, s322, s323, s324, s325, s326, s327, s328, s329, s330, s331, s332, s333, s334, s335, s336, s337, s338, s339, s340, s341, s342, s343, s344, s345, s346, s347, s348, s349, s350, s351, s352, s353, s354, s355, s356, s357, s358, s359, s360, s361, s362, s363, s364, s365, s366, s367, s368, s369, s370, s371, s372, s373, s374, s375, s376, s377, s378, s379, s380, s381, s382, s383, s384, s385, s386, s387, s388, s389, s390, s391, s392, s393, s394, s395, s396, s397, s398, s399, s400, s401, s402, s403, s404, s405, s406, s407, s408, s409, s410, s411, s412, s413, s414, s415, s416, s417, s418, s419, s420, s421, s422, s423], []⟩ W := by
  have HN := Lib.hid hN
  have HA := Lib.hid hr
  have HB := Lib.hid hr2
  have HRA := Lib.hid hra
  have HRB := Lib.hid hrb
  have hca : n ≤ c := hr.1
  have hcm : c ≤ 9223372036854775807 := hr.2.1
  have hcb : m ≤ c' := hr2.1
  have hcmb : c' ≤ 9223372036854775807 := hr2.2.1
  have hca3 : n ≤ c2 := hra.1
  have hcm3 : c2 ≤ 9223372036854775807 := hra.2.1
  have hcb3 : m ≤ d2 := hrb.1
  have hcmb3 : d2 ≤ 9223372036854775807 := hrb.2.1
  have HS := Lib.hid hs
  have HCX := Lib.hid hcx
  have HCY := Lib.hid hcy
  have HCA := Lib.hid hca2
  have HCB := Lib.hid hcb2
  have HLX := Lib.hid hlx
  have HLY := Lib.hid hly
  clear hN hr hr2 hs hcx hcy hra hrb hca2 hcb2 hlx hly
  conv => arg 2; whnf
  go_wp2_with fail
  go_loopw [7, 10] (fun v7 v10 wr => ∃ (k : Nat) (sk : Bool), k ≤ n ∧ v7 = .bool sk ∧ v10 = .int .i64 k ∧ Hid (sk = (s && allB k (fun i => eqF (X i) (Y i)))) ∧ Hid (Below W.heap.size W wr)) (fun _ v10 _ => n - (intOf v10).toNat)
  case atStart => exact ⟨0, s, by omega, rfl, rfl, Lib.hid (by unfold allB; simp), Lib.hid (Below.refl _ _)⟩
  case round =>
    obtain ⟨k, sk, hk, rfl, rfl, HE, HW⟩ := hrel
    by_cases hlt : k < n
    · obtain ⟨b, off, rfl, hbl, hat⟩ := HA.out.2.2 (by omega)
      have cx : wr.cell? ⟨bx, 2, none⟩ = some (.slice (some ⟨b, off, none⟩) n c) := (HW.out.cell (p := ⟨bx, 2, none⟩) hbx).trans HCX.out
      cases sk with
      | false =>
        have HZ := Lib.hid (allB_stop1 (n := n) hk HE.out)
        have hk1 : (k : Int) < (n : Int) := by omega
        go_wp2_with fail
        try go_quiet (fail)
        go_wp2
        have h := HN.out
        rw [HZ.out] at h
        apply h
        first | exact HW.out | exact below_drewN HW.out _ | exact below_drewN (below_drewN HW.out _) _
      | true =>
        have hst : s = true := by
          have h := HE.out
          cases s with
          | false => exact absurd h (by simp)
          | true => rfl
        have hkm : k < m := by have := HS.out hst; omega
        obtain ⟨b2, off2, rfl, hbl2, hat2⟩ := HB.out.2.2 (by omega)
        obtain ⟨ab, ao, rfl, habl, hata⟩ := HRA.out.2.2 (by omega)
        obtain ⟨bb, bo, rfl, hbbl, hatb⟩ := HRB.out.2.2 (by omega)
        have HK : Hid (∀ x y (v : Bool), x = X k → y = Y k → eqF x y = v → v = (s && allB (k + 1) (fun i => eqF (X i) (Y i)))) := Lib.hid (fun x y v e1 e2 h => allB_step1 HE.out (by subst e1 e2; exact h))
        have lx := HLX.out k hlt
        have ly := HLY.out k hkm
        have hx := hat k hlt
        have hy := hat2 k hkm
        have hxa := hata k hlt
        have hyb := hatb k hkm
        obtain ⟨x, hxe⟩ : ∃ x, x = X k := ⟨_, rfl⟩
        obtain ⟨y, hye⟩ : ∃ y, y = Y k := ⟨_, rfl⟩
        rw [← hxe] at hx hxa lx
        rw [← hye] at hy hyb ly
        have HK2 := Lib.hid (HK.out x y _ hxe hye rfl)
        unfold eqF at HK2
        clear hat hat2 hata hatb hxe hye HK HE hst
        obtain ⟨_, _, _, _, xs0, _, _, _, _⟩ := hx
        obtain ⟨_, _, _, _, ys0, _, _, _, _⟩ := hy
        obtain ⟨LA, lc, IA, ic, _, al0, ai0, hbA, hiA⟩ := hxa
        obtain ⟨LB, lc', IB, ic', _, bl0, bi0, hbB, hiB⟩ := hyb
        have HC := Lib.hid (fun V (hV : Below W.heap.size W V) => CodeSame_ok LA LB IA IB _ _ lc lc' _ _ ic ic' _ _ _ _ lx.1 ly.1 lx.2.1 ly.2.1 lx.2.2 ly.2.2 V (hbA.below hV) (hbB.below hV) (hiA.below hV) (hiB.below hV))
        generalize hgr : eqB x.lc y.lc x.m y.m x.X y.X = v at HC HK2
        generalize x.lc.length = ln at al0 HC
        generalize y.lc.length = ln' at bl0 HC
        clear hgr hbA hiA hbB hiB lx ly
        generalize x.m = im at ai0 HC
        generalize y.m = im' at bi0 HC
        generalize x.sg = p0 at xs0 HK2
        generalize y.sg = q0 at ys0 HK2
        have HKP : Hid (∀ V, Below W.heap.size W V → V.cell? ⟨bx, 2, none⟩ = some (.slice (some ⟨b, off, none⟩) n c) ∧ V.cell? ⟨bz, 2, none⟩ = some (.slice (some ⟨b2, off2, none⟩) m c') ∧ V.cell? ⟨b, off + k * 3, none⟩ = some (.int .i64 p0) ∧ V.cell? ⟨b2, off2 + k * 3, none⟩ = some (.int .i64 q0) ∧ V.cell? ⟨ga, 2, none⟩ = some (.slice (some ⟨ab, ao, none⟩) n c2) ∧ V.cell? ⟨gb, 2, none⟩ = some (.slice (some ⟨bb, bo, none⟩) m d2) ∧ V.cell? ⟨ab, ao + k * 3 + 1, none⟩ = some (.slice LA ln lc) ∧ V.cell? ⟨ab, ao + k * 3 + 2, none⟩ = some (.slice IA im ic) ∧ V.cell? ⟨bb, bo + k * 3 + 1, none⟩ = some (.slice LB ln' lc') ∧ V.cell? ⟨bb, bo + k * 3 + 2, none⟩ = some (.slice IB im' ic')) := Lib.hid (fun V hV => ⟨(hV.cell (p := ⟨bx, 2, none⟩) hbx).trans HCX.out, (hV.cell (p := ⟨bz, 2, none⟩) hbz).trans HCY.out, (hV.cell (p := ⟨b, off + k * 3, none⟩) hbl).trans xs0, (hV.cell (p := ⟨b2, off2 + k * 3, none⟩) hbl2).trans ys0, (hV.cell (p := ⟨ga, 2, none⟩) hga).trans HCA.out, (hV.cell (p := ⟨gb, 2, none⟩) hgb).trans HCB.out, (hV.cell (p := ⟨ab, ao + k * 3 + 1, none⟩) habl).trans al0, (hV.cell (p := ⟨ab, ao + k * 3 + 2, none⟩) habl).trans ai0, (hV.cell (p := ⟨bb, bo + k * 3 + 1, none⟩) hbbl).trans bl0, (hV.cell (p := ⟨bb, bo + k * 3 + 2, none⟩) hbbl).trans bi0⟩)
        clear xs0 ys0 al0 ai0 bl0 bi0
        have HBD : Hid (Below W.heap.size W wr.drew) := Lib.hid (below_drew HW.out)
        have hk0 : (0 : Int) ≤ (k : Int) := by omega
        have hk1 : (k : Int) < (n : Int) := by omega
        have hk2 : (k : Int) < (m : Int) := by omega
        go_upto_region 16 with fail
        obtain ⟨x2, y2, xs, ys, a2, b2_, al, ai, bl, bi⟩ := HKP.out _ HBD.out
        by_cases h0 : p0 = q0
        case neg =>
          have hc : (p0 == q0) = false := by simp [h0]
          have hd : decide (p0 = q0) = false := by simp [h0]
          rw [hd, Bool.false_and] at HK2
          clear h0 hd
          refine wp_region_noPanic ?_
          refine wp_region_held_drew (S := (fun W => W.cell? ⟨bx, 2, none⟩ = some (.slice (some ⟨b, off, none⟩) n c) ∧ W.cell? ⟨bz, 2, none⟩ = some (.slice (some ⟨b2, off2, none⟩) m c') ∧ W.cell? ⟨b, off + k * 3, none⟩ = some (.int .i64 p0) ∧ W.cell? ⟨b2, off2 + k * 3, none⟩ = some (.int .i64 q0) ∧ W.cell? ⟨ga, 2, none⟩ = some (.slice (some ⟨ab, ao, none⟩) n c2) ∧ W.cell? ⟨gb, 2, none⟩ = some (.slice (some ⟨bb, bo, none⟩) m d2) ∧ W.cell? ⟨ab, ao + k * 3 + 1, none⟩ = some (.slice LA ln lc) ∧ W.cell? ⟨ab, ao + k * 3 + 2, none⟩ = some (.slice IA im ic) ∧ W.cell? ⟨bb, bo + k * 3 + 1, none⟩ = some (.slice LB ln' lc') ∧ W.cell? ⟨bb, bo + k * 3 + 2, none⟩ = some (.slice IB im' ic'))) (by kernel_rfl) ⟨x2, y2, xs, ys, a2, b2_, al, ai, bl, bi⟩ (fun hHeld => ?_)
          refine wpAnyH_take (i := 0) (oi := ?oi_1) (v := ?_) ?hi_1 (by kernel_rfl) ?hf_1 (by kernel_rfl) ?hQ_1 ?hy_1 (by assumption) ?_
          case hi_1 => simp only [List.getElem?_toArray, List.getElem?_cons_zero, List.getElem?_cons_succ]; try rfl
          case hf_1 => kernel_rfl
          case hQ_1 => exact fun _ _ _ h => h
          case hy_1 =>
            refine Or.inl ⟨by rfl, ?_⟩
            intro W hSw
            obtain ⟨q0, q1, q2, q3, q4, q5, q6, q7, q8, q9⟩ := hSw
            go_simp
            try with_reducible rfl
          try simp only [Act.put, List.setIfInBounds_toArray, List.set_cons_zero, List.set_cons_succ]
          refine wpAnyH_take (i := 1) (oi := ?oi_2) (v := ?_) ?hi_2 (by kernel_rfl) ?hf_2 (by kernel_rfl) ?hQ_2 ?hy_2 (by assumption) ?_
          case hi_2 => simp only [List.getElem?_toArray, List.getElem?_cons_zero, List.getElem?_cons_succ]; try rfl
          case hf_2 => kernel_rfl
          case hQ_2 => exact fun _ _ _ h => h
          case hy_2 =>
            refine Or.inl ⟨by rfl, ?_⟩
            intro W hSw
            obtain ⟨q0, q1, q2, q3, q4, q5, q6, q7, q8, q9⟩ := hSw
            go_simp
            try with_reducible rfl
          try simp only [Act.put, List.setIfInBounds_toArray, List.set_cons_zero, List.set_cons_succ]
          refine wpAnyH_take (i := 2) (oi := ?oi_3) (v := ?_) ?hi_3 (by kernel_rfl) ?hf_3 (by kernel_rfl) ?hQ_3 ?hy_3 (by assumption) ?_
          case hi_3 => simp only [List.getElem?_toArray, List.getElem?_cons_zero, List.getElem?_cons_succ]; try rfl
          case hf_3 => kernel_rfl
          case hQ_3 => exact fun _ _ _ h => h
          case hy_3 =>
            refine Or.inl ⟨by rfl, ?_⟩
            intro W hSw
            obtain ⟨q0, q1, q2, q3, q4, q5, q6, q7, q8, q9⟩ := hSw
            go_simp
            try with_reducible rfl
          try simp only [Act.put, List.setIfInBounds_toArray, List.set_cons_zero, List.set_cons_succ]
          refine wpAnyH_take (i := 3) (oi := ?oi_4) (v := ?_) ?hi_4 (by kernel_rfl) ?hf_4 (by kernel_rfl) ?hQ_4 ?hy_4 (by assumption) ?_
          case hi_4 => simp only [List.getElem?_toArray, List.getElem?_cons_zero, List.getElem?_cons_succ]; try rfl
          case hf_4 => kernel_rfl
          case hQ_4 => exact fun _ _ _ h => h
          case hy_4 =>
            refine Or.inl ⟨by rfl, ?_⟩
            intro W hSw
            obtain ⟨q0, q1, q2, q3, q4, q5, q6, q7, q8, q9⟩ := hSw
            go_simp
            try with_reducible rfl
          try simp only [Act.put, List.setIfInBounds_toArray, List.set_cons_zero, List.set_cons_succ]
          refine wpAnyH_take (i := 4) (oi := ?oi_5) (v := ?_) ?hi_5 (by kernel_rfl) ?hf_5 (by kernel_rfl) ?hQ_5 ?hy_5 (by assumption) ?_
          case hi_5 => simp only [List.getElem?_toArray, List.getElem?_cons_zero, List.getElem?_cons_succ]; try rfl
          case hf_5 => kernel_rfl
          case hQ_5 => exact fun _ _ _ h => h
          case hy_5 =>
            refine Or.inl ⟨by rfl, ?_⟩
            intro W hSw
            obtain ⟨q0, q1, q2, q3, q4, q5, q6, q7, q8, q9⟩ := hSw
            go_simp
            try with_reducible rfl
          try simp only [Act.put, List.setIfInBounds_toArray, List.set_cons_zero, List.set_cons_succ]
          refine wpAnyH_take (i := 5) (oi := ?oi_6) (v := ?_) ?hi_6 (by kernel_rfl) ?hf_6 (by kernel_rfl) ?hQ_6 ?hy_6 (by assumption) ?_
          case hi_6 => simp only [List.getElem?_toArray, List.getElem?_cons_zero, List.getElem?_cons_succ]; try rfl
          case hf_6 => kernel_rfl
          case hQ_6 => exact fun _ _ _ h => h
          case hy_6 =>
            refine Or.inl ⟨by rfl, ?_⟩
            intro W hSw
            obtain ⟨q0, q1, q2, q3, q4, q5, q6, q7, q8, q9⟩ := hSw
            go_simp
            try with_reducible rfl
          try simp only [Act.put, List.setIfInBounds_toArray, List.set_cons_zero, List.set_cons_succ]
          refine wpAnyH_take (i := 6) (oi := ?oi_7) (v := ?_) ?hi_7 (by kernel_rfl) ?hf_7 (by kernel_rfl) ?hQ_7 ?hy_7 (by assumption) ?_
          case hi_7 => simp only [List.getElem?_toArray, List.getElem?_cons_zero, List.getElem?_cons_succ]; try rfl
          case hf_7 => kernel_rfl
          case hQ_7 => exact fun _ _ _ h => h
          case hy_7 =>
            refine Or.inl ⟨by rfl, ?_⟩
            intro W hSw
            obtain ⟨q0, q1, q2, q3, q4, q5, q6, q7, q8, q9⟩ := hSw
            go_simp
            try with_reducible rfl
          try simp only [Act.put, List.setIfInBounds_toArray, List.set_cons_zero, List.set_cons_succ]
          refine wpAnyH_take (i := 7) (oi := ?oi_8) (v := ?_) ?hi_8 (by kernel_rfl) ?hf_8 (by kernel_rfl) ?hQ_8 ?hy_8 (by assumption) ?_
          case hi_8 => simp only [List.getElem?_toArray, List.getElem?_cons_zero, List.getElem?_cons_succ]; try rfl
          case hf_8 => kernel_rfl
          case hQ_8 => exact fun _ _ _ h => h
          case hy_8 =>
            refine Or.inl ⟨by rfl, ?_⟩
            intro W hSw
            obtain ⟨q0, q1, q2, q3, q4, q5, q6, q7, q8, q9⟩ := hSw
            go_simp
            try with_reducible rfl
          try simp only [Act.put, List.setIfInBounds_toArray, List.set_cons_zero, List.set_cons_succ]
          refine wpAnyH_take (i := 8) (oi := ?oi_9) (v := ?_) ?hi_9 (by kernel_rfl) ?hf_9 (by kernel_rfl) ?hQ_9 ?hy_9 (by assumption) ?_
          case hi_9 => simp only [List.getElem?_toArray, List.getElem?_cons_zero, List.getElem?_cons_succ]; try rfl
          case hf_9 => kernel_rfl
          case hQ_9 => exact fun _ _ _ h => h
          case hy_9 =>
            refine Or.inl ⟨by rfl, ?_⟩
            intro W hSw
            obtain ⟨q0, q1, q2, q3, q4, q5, q6, q7, q8, q9⟩ := hSw
            go_simp
            try with_reducible rfl
          try simp only [Act.put, List.setIfInBounds_toArray, List.set_cons_zero, List.set_cons_succ]
          refine wpAnyH_take (i := 9) (oi := ?oi_10) (v := ?_) ?hi_10 (by kernel_rfl) ?hf_10 (by kernel_rfl) ?hQ_10 ?hy_10 (by assumption) ?_
          case hi_10 => simp only [List.getElem?_toArray, List.getElem?_cons_zero, List.getElem?_cons_succ]; try rfl
          case hf_10 => kernel_rfl
          case hQ_10 => exact fun _ _ _ h => h
          case hy_10 =>
            refine Or.inl ⟨by rfl, ?_⟩
            intro W hSw
            obtain ⟨q0, q1, q2, q3, q4, q5, q6, q7, q8, q9⟩ := hSw
            go_simp
            try with_reducible rfl
          try simp only [Act.put, List.setIfInBounds_toArray, List.set_cons_zero, List.set_cons_succ]
          refine wpAnyH_take (i := 10) (oi := ?oi_11) (v := ?_) ?hi_11 (by kernel_rfl) ?hf_11 (by kernel_rfl) ?hQ_11 ?hy_11 (by assumption) ?_
          case hi_11 => simp only [List.getElem?_toArray, List.getElem?_cons_zero, List.getElem?_cons_succ]; try rfl
          case hf_11 => kernel_rfl
          case hQ_11 => exact fun _ _ _ h => h
          case hy_11 =>
            refine Or.inl ⟨by rfl, ?_⟩
            intro W hSw
            obtain ⟨q0, q1, q2, q3, q4, q5, q6, q7, q8, q9⟩ := hSw
            go_simp
            try with_reducible rfl
          try simp only [Act.put, List.setIfInBounds_toArray, List.set_cons_zero, List.set_cons_succ]
          refine wpAnyH_take (i := 11) (oi := ?oi_12) (v := ?_) ?hi_12 (by kernel_rfl) ?hf_12 (by kernel_rfl) ?hQ_12 ?hy_12 (by assumption) ?_
          case hi_12 => simp only [List.getElem?_toArray, List.getElem?_cons_zero, List.getElem?_cons_succ]; try rfl
          case hf_12 => kernel_rfl
          case hQ_12 => exact fun _ _ _ h => h
          case hy_12 =>
            refine Or.inl ⟨by rfl, ?_⟩
            intro W hSw
            obtain ⟨q0, q1, q2, q3, q4, q5, q6, q7, q8, q9⟩ := hSw
            go_simp
            try with_reducible rfl
          try simp only [Act.put, List.setIfInBounds_toArray, List.set_cons_zero, List.set_cons_succ]
          refine wpAnyH_take (i := 12) (oi := ?oi_13) (v := ?_) ?hi_13 (by kernel_rfl) ?hf_13 (by kernel_rfl) ?hQ_13 ?hy_13 (by assumption) ?_
          case hi_13 => simp only [List.getElem?_toArray, List.getElem?_cons_zero, List.getElem?_cons_succ]; try rfl
          case hf_13 => kernel_rfl
          case hQ_13 => exact fun _ _ _ h => h
          case hy_13 =>
            refine Or.inl ⟨by rfl, ?_⟩
            intro W hSw
            obtain ⟨q0, q1, q2, q3, q4, q5, q6, q7, q8, q9⟩ := hSw
            go_simp
            try with_reducible rfl
          try simp only [Act.put, List.setIfInBounds_toArray, List.set_cons_zero, List.set_cons_succ]
          refine wpAnyH_take (i := 13) (oi := ?oi_14) (v := ?_) ?hi_14 (by kernel_rfl) ?hf_14 (by kernel_rfl) ?hQ_14 ?hy_14 (by assumption) ?_
          case hi_14 => simp only [List.getElem?_toArray, List.getElem?_cons_zero, List.getElem?_cons_succ]; try rfl
          case hf_14 => kernel_rfl
          case hQ_14 => exact fun _ _ _ h => h
          case hy_14 =>
            refine Or.inl ⟨by rfl, ?_⟩
            intro W hSw
            obtain ⟨q0, q1, q2, q3, q4, q5, q6, q7, q8, q9⟩ := hSw
            go_simp
            try with_reducible rfl
          try simp only [Act.put, List.setIfInBounds_toArray, List.set_cons_zero, List.set_cons_succ]
          refine wpAnyH_take (i := 14) (oi := ?oi_15) (v := undef) ?hi_15 (by kernel_rfl) ?hf_15 (by kernel_rfl) ?hQ_15 ?hy_15 (by assumption) ?_
          case hi_15 => simp only [List.getElem?_toArray, List.getElem?_cons_zero, List.getElem?_cons_succ]; try rfl
          case hf_15 => kernel_rfl
          case hQ_15 => exact fun _ _ _ h => h
          case hy_15 => exact Or.inr ⟨by rfl, rfl⟩
          try simp only [Act.put, List.setIfInBounds_toArray, List.set_cons_zero, List.set_cons_succ]
          refine wpAnyH_take (i := 15) (oi := ?oi_16) (v := undef) ?hi_16 (by kernel_rfl) ?hf_16 (by kernel_rfl) ?hQ_16 ?hy_16 (by assumption) ?_
          case hi_16 => simp only [List.getElem?_toArray, List.getElem?_cons_zero, List.getElem?_cons_succ]; try rfl
          case hf_16 => kernel_rfl
          case hQ_16 => exact fun _ _ _ h => h
          case hy_16 => exact Or.inr ⟨by rfl, rfl⟩
          try simp only [Act.put, List.setIfInBounds_toArray, List.set_cons_zero, List.set_cons_succ]
          refine wpAnyH_take (i := 16) (oi := ?oi_17) (v := undef) ?hi_17 (by kernel_rfl) ?hf_17 (by kernel_rfl) ?hQ_17 ?hy_17 (by assumption) ?_
          case hi_17 => simp only [List.getElem?_toArray, List.getElem?_cons_zero, List.getElem?_cons_succ]; try rfl
          case hf_17 => kernel_rfl
          case hQ_17 => exact fun _ _ _ h => h
          case hy_17 => exact Or.inr ⟨by rfl, rfl⟩
          try simp only [Act.put, List.setIfInBounds_toArray, List.set_cons_zero, List.set_cons_succ]
          refine wpAnyH_take (i := 17) (oi := ?oi_18) (v := undef) ?hi_18 (by kernel_rfl) ?hf_18 (by kernel_rfl) ?hQ_18 ?hy_18 (by assumption) ?_
          case hi_18 => simp only [List.getElem?_toArray, List.getElem?_cons_zero, List.getElem?_cons_succ]; try rfl
          case hf_18 => kernel_rfl
          case hQ_18 => exact fun _ _ _ h => h
          case hy_18 => exact Or.inr ⟨by rfl, rfl⟩
          try simp only [Act.put, List.setIfInBounds_toArray, List.set_cons_zero, List.set_cons_succ]
          refine wpAnyH_take (i := 18) (oi := ?oi_19) (v := undef) ?hi_19 (by kernel_rfl) ?hf_19 (by kernel_rfl) ?hQ_19 ?hy_19 (by assumption) ?_
          case hi_19 => simp only [List.getElem?_toArray, List.getElem?_cons_zero, List.getElem?_cons_succ]; try rfl
          case hf_19 => kernel_rfl
          case hQ_19 => exact fun _ _ _ h => h
          case hy_19 => exact Or.inr ⟨by rfl, rfl⟩
          try simp only [Act.put, List.setIfInBounds_toArray, List.set_cons_zero, List.set_cons_succ]
          refine wpAnyH_take (i := 19) (oi := ?oi_20) (v := undef) ?hi_20 (by kernel_rfl) ?hf_20 (by kernel_rfl) ?hQ_20 ?hy_20 (by assumption) ?_
          case hi_20 => simp only [List.getElem?_toArray, List.getElem?_cons_zero, List.getElem?_cons_succ]; try rfl
          case hf_20 => kernel_rfl
          case hQ_20 => exact fun _ _ _ h => h
          case hy_20 => exact Or.inr ⟨by rfl, rfl⟩
          try simp only [Act.put, List.setIfInBounds_toArray, List.set_cons_zero, List.set_cons_succ]
          refine wpAnyH_take (i := 20) (oi := ?oi_21) (v := undef) ?hi_21 (by kernel_rfl) ?hf_21 (by kernel_rfl) ?hQ_21 ?hy_21 (by assumption) ?_
          case hi_21 => simp only [List.getElem?_toArray, List.getElem?_cons_zero, List.getElem?_cons_succ]; try rfl
          case hf_21 => kernel_rfl
          case hQ_21 => exact fun _ _ _ h => h
          case hy_21 => exact Or.inr ⟨by rfl, rfl⟩
          try simp only [Act.put, List.setIfInBounds_toArray, List.set_cons_zero, List.set_cons_succ]
          refine wpAnyH_take (i := 21) (oi := ?oi_22) (v := undef) ?hi_22 (by kernel_rfl) ?hf_22 (by kernel_rfl) ?hQ_22 ?hy_22 (by assumption) ?_
          case hi_22 => simp only [List.getElem?_toArray, List.getElem?_cons_zero, List.getElem?_cons_succ]; try rfl
          case hf_22 => kernel_rfl
          case hQ_22 => exact fun _ _ _ h => h
          case hy_22 => exact Or.inr ⟨by rfl, rfl⟩
          try simp only [Act.put, List.setIfInBounds_toArray, List.set_cons_zero, List.set_cons_succ]
          refine wpAnyH_take (i := 22) (oi := ?oi_23) (v := undef) ?hi_23 (by kernel_rfl) ?hf_23 (by kernel_rfl) ?hQ_23 ?hy_23 (by assumption) ?_
          case hi_23 => simp only [List.getElem?_toArray, List.getElem?_cons_zero, List.getElem?_cons_succ]; try rfl
          case hf_23 => kernel_rfl
          case hQ_23 => exact fun _ _ _ h => h
          case hy_23 => exact Or.inr ⟨by rfl, rfl⟩
          try simp only [Act.put, List.setIfInBounds_toArray, List.set_cons_zero, List.set_cons_succ]
          refine wpAnyH_take (i := 23) (oi := ?oi_24) (v := undef) ?hi_24 (by kernel_rfl) ?hf_24 (by kernel_rfl) ?hQ_24 ?hy_24 (by assumption) ?_
          case hi_24 => simp only [List.getElem?_toArray, List.getElem?_cons_zero, List.getElem?_cons_succ]; try rfl
          case hf_24 => kernel_rfl
          case hQ_24 => exact fun _ _ _ h => h
          case hy_24 => exact Or.inr ⟨by rfl, rfl⟩
          try simp only [Act.put, List.setIfInBounds_toArray, List.set_cons_zero, List.set_cons_succ]
          refine wpAnyH_take (i := 24) (oi := ?oi_25) (v := undef) ?hi_25 (by kernel_rfl) ?hf_25 (by kernel_rfl) ?hQ_25 ?hy_25 (by assumption) ?_
          case hi_25 => simp only [List.getElem?_toArray, List.getElem?_cons_zero, List.getElem?_cons_succ]; try rfl
          case hf_25 => kernel_rfl
          case hQ_25 => exact fun _ _ _ h => h
          case hy_25 => exact Or.inr ⟨by rfl, rfl⟩
          try simp only [Act.put, List.setIfInBounds_toArray, List.set_cons_zero, List.set_cons_succ]
          refine wpAnyH_take (i := 25) (oi := ?oi_26) (v := undef) ?hi_26 (by kernel_rfl) ?hf_26 (by kernel_rfl) ?hQ_26 ?hy_26 (by assumption) ?_
          case hi_26 => simp only [List.getElem?_toArray, List.getElem?_cons_zero, List.getElem?_cons_succ]; try rfl
          case hf_26 => kernel_rfl
          case hQ_26 => exact fun _ _ _ h => h
          case hy_26 => exact Or.inr ⟨by rfl, rfl⟩
          try simp only [Act.put, List.setIfInBounds_toArray, List.set_cons_zero, List.set_cons_succ]
          refine wpAnyH_take (i := 26) (oi := ?oi_27) (v := undef) ?hi_27 (by kernel_rfl) ?hf_27 (by kernel_rfl) ?hQ_27 ?hy_27 (by assumption) ?_
          case hi_27 => simp only [List.getElem?_toArray, List.getElem?_cons_zero, List.getElem?_cons_succ]; try rfl
          case hf_27 => kernel_rfl
          case hQ_27 => exact fun _ _ _ h => h
          case hy_27 => exact Or.inr ⟨by rfl, rfl⟩
          try simp only [Act.put, List.setIfInBounds_toArray, List.set_cons_zero, List.set_cons_succ]
          refine wpAnyH_take (i := 27) (oi := ?oi_28) (v := undef) ?hi_28 (by kernel_rfl) ?hf_28 (by kernel_rfl) ?hQ_28 ?hy_28 (by assumption) ?_
          case hi_28 => simp only [List.getElem?_toArray, List.getElem?_cons_zero, List.getElem?_cons_succ]; try rfl
          case hf_28 => kernel_rfl
          case hQ_28 => exact fun _ _ _ h => h
          case hy_28 => exact Or.inr ⟨by rfl, rfl⟩
          try simp only [Act.put, List.setIfInBounds_toArray, List.set_cons_zero, List.set_cons_succ]
          refine wpAnyH_take (i := 28) (oi := ?oi_29) (v := undef) ?hi_29 (by kernel_rfl) ?hf_29 (by kernel_rfl) ?hQ_29 ?hy_29 (by assumption) ?_
          case hi_29 => simp only [List.getElem?_toArray, List.getElem?_cons_zero, List.getElem?_cons_succ]; try rfl
          case hf_29 => kernel_rfl
          case hQ_29 => exact fun _ _ _ h => h
          case hy_29 => exact Or.inr ⟨by rfl, rfl⟩
          try simp only [Act.put, List.setIfInBounds_toArray, List.set_cons_zero, List.set_cons_succ]
          refine wpAnyH_take (i := 29) (oi := ?oi_30) (v := undef) ?hi_30 (by kernel_rfl) ?hf_30 (by kernel_rfl) ?hQ_30 ?hy_30 (by assumption) ?_
          case hi_30 => simp only [List.getElem?_toArray, List.getElem?_cons_zero, List.getElem?_cons_succ]; try rfl
          case hf_30 => kernel_rfl
          case hQ_30 => exact fun _ _ _ h => h
          case hy_30 => exact Or.inr ⟨by rfl, rfl⟩
          try simp only [Act.put, List.setIfInBounds_toArray, List.set_cons_zero, List.set_cons_succ]
          refine wpAnyH_take (i := 30) (oi := ?oi_31) (v := undef) ?hi_31 (by kernel_rfl) ?hf_31 (by kernel_rfl) ?hQ_31 ?hy_31 (by assumption) ?_
          case hi_31 => simp only [List.getElem?_toArray, List.getElem?_cons_zero, List.getElem?_cons_succ]; try rfl
          case hf_31 => kernel_rfl
          case hQ_31 => exact fun _ _ _ h => h
          case hy_31 => exact Or.inr ⟨by rfl, rfl⟩
          try simp only [Act.put, List.setIfInBounds_toArray, List.set_cons_zero, List.set_cons_succ]
          refine wpAnyH_take (i := 31) (oi := ?oi_32) (v := ?_) ?hi_32 (by kernel_rfl) ?hf_32 (by kernel_rfl) ?hQ_32 ?hy_32 (by assumption) ?_
          case hi_32 => simp only [List.getElem?_toArray, List.getElem?_cons_zero, List.getElem?_cons_succ]; try rfl
          case hf_32 => kernel_rfl
          case hQ_32 => exact fun _ _ _ h => h
          case hy_32 =>
            refine Or.inl ⟨by rfl, ?_⟩
            intro W hSw
            obtain ⟨q0, q1, q2, q3, q4, q5, q6, q7, q8, q9⟩ := hSw
            go_simp
            try with_reducible rfl
          try simp only [Act.put, List.setIfInBounds_toArray, List.set_cons_zero, List.set_cons_succ]
          refine wpAnyH_take (i := 32) (oi := ?oi_33) (v := ?_) ?hi_33 (by kernel_rfl) ?hf_33 (by kernel_rfl) ?hQ_33 ?hy_33 (by assumption) ?_
          case hi_33 => simp only [List.getElem?_toArray, List.getElem?_cons_zero, List.getElem?_cons_succ]; try rfl
          case hf_33 => kernel_rfl
          case hQ_33 => exact fun _ _ _ h => h
          case hy_33 =>
            refine Or.inl ⟨by rfl, ?_⟩
            intro W hSw
            obtain ⟨q0, q1, q2, q3, q4, q5, q6, q7, q8, q9⟩ := hSw
            go_simp
            try with_reducible rfl
          try simp only [Act.put, List.setIfInBounds_toArray, List.set_cons_zero, List.set_cons_succ]
          refine wpAnyH_done (by kernel_rfl) ?_ _
          refine NoPanic.normal ?_
          clear hHeld
          go_wp2
          go_roundw
          case rel => exact ⟨k + 1, false, by omega, rfl, by go_num, HK2, HBD⟩
          case measure => simp [intOf]; omega
        subst h0
        have hd : decide (p0 = p0) = true := by simp
        rw [hd, Bool.true_and] at HK2
        clear hd
        refine wp_region_noPanic ?_
        refine wp_region_held_drew (S := (fun W => W.cell? ⟨bx, 2, none⟩ = some (.slice (some ⟨b, off, none⟩) n c) ∧ W.cell? ⟨bz, 2, none⟩ = some (.slice (some ⟨b2, off2, none⟩) m c') ∧ W.cell? ⟨b, off + k * 3, none⟩ = some (.int .i64 p0) ∧ W.cell? ⟨b2, off2 + k * 3, none⟩ = some (.int .i64 p0) ∧ W.cell? ⟨ga, 2, none⟩ = some (.slice (some ⟨ab, ao, none⟩) n c2) ∧ W.cell? ⟨gb, 2, none⟩ = some (.slice (some ⟨bb, bo, none⟩) m d2) ∧ W.cell? ⟨ab, ao + k * 3 + 1, none⟩ = some (.slice LA ln lc) ∧ W.cell? ⟨ab, ao + k * 3 + 2, none⟩ = some (.slice IA im ic) ∧ W.cell? ⟨bb, bo + k * 3 + 1, none⟩ = some (.slice LB ln' lc') ∧ W.cell? ⟨bb, bo + k * 3 + 2, none⟩ = some (.slice IB im' ic'))) (by kernel_rfl) ⟨x2, y2, xs, ys, a2, b2_, al, ai, bl, bi⟩ (fun hHeld => ?_)
        refine wpAnyH_take (i := 0) (oi := ?oi_34) (v := ?_) ?hi_34 (by kernel_rfl) ?hf_34 (by kernel_rfl) ?hQ_34 ?hy_34 (by assumption) ?_
        case hi_34 => simp only [List.getElem?_toArray, List.getElem?_cons_zero, List.getElem?_cons_succ]; try rfl
        case hf_34 => kernel_rfl
        case hQ_34 => exact fun _ _ _ h => h
        case hy_34 =>
          refine Or.inl ⟨by rfl, ?_⟩
          intro W hSw
          obtain ⟨q0, q1, q2, q3, q4, q5, q6, q7, q8, q9⟩ := hSw
          go_simp
          try with_reducible rfl
        try simp only [Act.put, List.setIfInBounds_toArray, List.set_cons_zero, List.set_cons_succ]
        refine wpAnyH_take (i := 1) (oi := ?oi_35) (v := ?_) ?hi_35 (by kernel_rfl) ?hf_35 (by kernel_rfl) ?hQ_35 ?hy_35 (by assumption) ?_
        case hi_35 => simp only [List.getElem?_toArray, List.getElem?_cons_zero, List.getElem?_cons_succ]; try rfl
        case hf_35 => kernel_rfl
        case hQ_35 => exact fun _ _ _ h => h
        case hy_35 =>
          refine Or.inl ⟨by rfl, ?_⟩
          intro W hSw
          obtain ⟨q0, q1, q2, q3, q4, q5, q6, q7, q8, q9⟩ := hSw
          go_simp
          try with_reducible rfl
        try simp only [Act.put, List.setIfInBounds_toArray, List.set_cons_zero, List.set_cons_succ]
        refine wpAnyH_take (i := 2) (oi := ?oi_36) (v := ?_) ?hi_36 (by kernel_rfl) ?hf_36 (by kernel_rfl) ?hQ_36 ?hy_36 (by assumption) ?_
        case hi_36 => simp only [List.getElem?_toArray, List.getElem?_cons_zero, List.getElem?_cons_succ]; try rfl
        case hf_36 => kernel_rfl
        case hQ_36 => exact fun _ _ _ h => h
        case hy_36 =>
          refine Or.inl ⟨by rfl, ?_⟩
          intro W hSw
          obtain ⟨q0, q1, q2, q3, q4, q5, q6, q7, q8, q9⟩ := hSw
          go_simp
          try with_reducible rfl
        try simp only [Act.put, List.setIfInBounds_toArray, List.set_cons_zero, List.set_cons_succ]
        refine wpAnyH_take (i := 3) (oi := ?oi_37) (v := ?_) ?hi_37 (by kernel_rfl) ?hf_37 (by kernel_rfl) ?hQ_37 ?hy_37 (by assumption) ?_
        case hi_37 => simp only [List.getElem?_toArray, List.getElem?_cons_zero, List.getElem?_cons_succ]; try rfl
        case hf_37 => kernel_rfl
        case hQ_37 => exact fun _ _ _ h => h
        case hy_37 =>
          refine Or.inl ⟨by rfl, ?_⟩
          intro W hSw
          obtain ⟨q0, q1, q2, q3, q4, q5, q6, q7, q8, q9⟩ := hSw
          go_simp
          try with_reducible rfl
        try simp only [Act.put, List.setIfInBounds_toArray, List.set_cons_zero, List.set_cons_succ]
        refine wpAnyH_take (i := 4) (oi := ?oi_38) (v := ?_) ?hi_38 (by kernel_rfl) ?hf_38 (by kernel_rfl) ?hQ_38 ?hy_38 (by assumption) ?_
        case hi_38 => simp only [List.getElem?_toArray, List.getElem?_cons_zero, List.getElem?_cons_succ]; try rfl
        case hf_38 => kernel_rfl
        case hQ_38 => exact fun _ _ _ h => h
        case hy_38 =>
          refine Or.inl ⟨by rfl, ?_⟩
          intro W hSw
          obtain ⟨q0, q1, q2, q3, q4, q5, q6, q7, q8, q9⟩ := hSw
          go_simp
          try with_reducible rfl
        try simp only [Act.put, List.setIfInBounds_toArray, List.set_cons_zero, List.set_cons_succ]
        refine wpAnyH_take (i := 5) (oi := ?oi_39) (v := ?_) ?hi_39 (by kernel_rfl) ?hf_39 (by kernel_rfl) ?hQ_39 ?hy_39 (by assumption) ?_
        case hi_39 => simp only [List.getElem?_toArray, List.getElem?_cons_zero, List.getElem?_cons_succ]; try rfl
        case hf_39 => kernel_rfl
        case hQ_39 => exact fun _ _ _ h => h
        case hy_39 =>
          refine Or.inl ⟨by rfl, ?_⟩
          intro W hSw
          obtain ⟨q0, q1, q2, q3, q4, q5, q6, q7, q8, q9⟩ := hSw
          go_simp
          try with_reducible rfl
        try simp only [Act.put, List.setIfInBounds_toArray, List.set_cons_zero, List.set_cons_succ]
        refine wpAnyH_take (i := 6) (oi := ?oi_40) (v := ?_) ?hi_40 (by kernel_rfl) ?hf_40 (by kernel_rfl) ?hQ_40 ?hy_40 (by assumption) ?_
        case hi_40 => simp only [List.getElem?_toArray, List.getElem?_cons_zero, List.getElem?_cons_succ]; try rfl
        case hf_40 => kernel_rfl
        case hQ_40 => exact fun _ _ _ h => h
        case hy_40 =>
          refine Or.inl ⟨by rfl, ?_⟩
          intro W hSw
          obtain ⟨q0, q1, q2, q3, q4, q5, q6, q7, q8, q9⟩ := hSw
          go_simp
          try with_reducible rfl
        try simp only [Act.put, List.setIfInBounds_toArray, List.set_cons_zero, List.set_cons_succ]
        refine wpAnyH_take (i := 7) (oi := ?oi_41) (v := ?_) ?hi_41 (by kernel_rfl) ?hf_41 (by kernel_rfl) ?hQ_41 ?hy_41 (by assumption) ?_
        case hi_41 => simp only [List.getElem?_toArray, List.getElem?_cons_zero, List.getElem?_cons_succ]; try rfl
        case hf_41 => kernel_rfl
        case hQ_41 => exact fun _ _ _ h => h
        case hy_41 =>
          refine Or.inl ⟨by rfl, ?_⟩
          intro W hSw
          obtain ⟨q0, q1, q2, q3, q4, q5, q6, q7, q8, q9⟩ := hSw
          go_simp
          try with_reducible rfl
        try simp only [Act.put, List.setIfInBounds_toArray, List.set_cons_zero, List.set_cons_succ]
        refine wpAnyH_take (i := 8) (oi := ?oi_42) (v := ?_) ?hi_42 (by kernel_rfl) ?hf_42 (by kernel_rfl) ?hQ_42 ?hy_42 (by assumption) ?_
        case hi_42 => simp only [List.getElem?_toArray, List.getElem?_cons_zero, List.getElem?_cons_succ]; try rfl
        case hf_42 => kernel_rfl
        case hQ_42 => exact fun _ _ _ h => h
        case hy_42 =>
          refine Or.inl ⟨by rfl, ?_⟩
          intro W hSw
          obtain ⟨q0, q1, q2, q3, q4, q5, q6, q7, q8, q9⟩ := hSw
          go_simp
          try with_reducible rfl
        try simp only [Act.put, List.setIfInBounds_toArray, List.set_cons_zero, List.set_cons_succ]
        refine wpAnyH_take (i := 9) (oi := ?oi_43) (v := ?_) ?hi_43 (by kernel_rfl) ?hf_43 (by kernel_rfl) ?hQ_43 ?hy_43 (by assumption) ?_
        case hi_43 => simp only [List.getElem?_toArray, List.getElem?_cons_zero, List.getElem?_cons_succ]; try rfl
        case hf_43 => kernel_rfl
        case hQ_43 => exact fun _ _ _ h => h
        case hy_43 =>
          refine Or.inl ⟨by rfl, ?_⟩
          intro W hSw
          obtain ⟨q0, q1, q2, q3, q4, q5, q6, q7, q8, q9⟩ := hSw
          go_simp
          try with_reducible rfl
        try simp only [Act.put, List.setIfInBounds_toArray, List.set_cons_zero, List.set_cons_succ]
        refine wpAnyH_take (i := 10) (oi := ?oi_44) (v := ?_) ?hi_44 (by kernel_rfl) ?hf_44 (by kernel_rfl) ?hQ_44 ?hy_44 (by assumption) ?_
        case hi_44 => simp only [List.getElem?_toArray, List.getElem?_cons_zero, List.getElem?_cons_succ]; try rfl
        case hf_44 => kernel_rfl
        case hQ_44 => exact fun _ _ _ h => h
        case hy_44 =>
          refine Or.inl ⟨by rfl, ?_⟩
          intro W hSw
          obtain ⟨q0, q1, q2, q3, q4, q5, q6, q7, q8, q9⟩ := hSw
          go_simp
          try with_reducible rfl
        try simp only [Act.put, List.setIfInBounds_toArray, List.set_cons_zero, List.set_cons_succ]
        refine wpAnyH_take (i := 11) (oi := ?oi_45) (v := ?_) ?hi_45 (by kernel_rfl) ?hf_45 (by kernel_rfl) ?hQ_45 ?hy_45 (by assumption) ?_
        case hi_45 => simp only [List.getElem?_toArray, List.getElem?_cons_zero, List.getElem?_cons_succ]; try rfl
        case hf_45 => kernel_rfl
        case hQ_45 => exact fun _ _ _ h => h
        case hy_45 =>
          refine Or.inl ⟨by rfl, ?_⟩
          intro W hSw
          obtain ⟨q0, q1, q2, q3, q4, q5, q6, q7, q8, q9⟩ := hSw
          go_simp
          try with_reducible rfl
        try simp only [Act.put, List.setIfInBounds_toArray, List.set_cons_zero, List.set_cons_succ]
        refine wpAnyH_take (i := 12) (oi := ?oi_46) (v := ?_) ?hi_46 (by kernel_rfl) ?hf_46 (by kernel_rfl) ?hQ_46 ?hy_46 (by assumption) ?_
        case hi_46 => simp only [List.getElem?_toArray, List.getElem?_cons_zero, List.getElem?_cons_succ]; try rfl
        case hf_46 => kernel_rfl
        case hQ_46 => exact fun _ _ _ h => h
        case hy_46 =>
          refine Or.inl ⟨by rfl, ?_⟩
          intro W hSw
          obtain ⟨q0, q1, q2, q3, q4, q5, q6, q7, q8, q9⟩ := hSw
          go_simp
          try with_reducible rfl
        try simp only [Act.put, List.setIfInBounds_toArray, List.set_cons_zero, List.set_cons_succ]
        refine wpAnyH_take (i := 13) (oi := ?oi_47) (v := ?_) ?hi_47 (by kernel_rfl) ?hf_47 (by kernel_rfl) ?hQ_47 ?hy_47 (by assumption) ?_
        case hi_47 => simp only [List.getElem?_toArray, List.getElem?_cons_zero, List.getElem?_cons_succ]; try rfl
        case hf_47 => kernel_rfl
        case hQ_47 => exact fun _ _ _ h => h
        case hy_47 =>
          refine Or.inl ⟨by rfl, ?_⟩
          intro W hSw
          obtain ⟨q0, q1, q2, q3, q4, q5, q6, q7, q8, q9⟩ := hSw
          go_simp
          try with_reducible rfl
        try simp only [Act.put, List.setIfInBounds_toArray, List.set_cons_zero, List.set_cons_succ]
        refine wpAnyH_take (i := 14) (oi := ?oi_48) (v := ?_) ?hi_48 (by kernel_rfl) ?hf_48 (by kernel_rfl) ?hQ_48 ?hy_48 (by assumption) ?_
        case hi_48 => simp only [List.getElem?_toArray, List.getElem?_cons_zero, List.getElem?_cons_succ]; try rfl
        case hf_48 => kernel_rfl
        case hQ_48 => exact fun _ _ _ h => h
        case hy_48 =>
          refine Or.inl ⟨by rfl, ?_⟩
          intro W hSw
          obtain ⟨q0, q1, q2, q3, q4, q5, q6, q7, q8, q9⟩ := hSw
          go_simp
          try with_reducible rfl
        try simp only [Act.put, List.setIfInBounds_toArray, List.set_cons_zero, List.set_cons_succ]
        refine wpAnyH_take (i := 15) (oi := ?oi_49) (v := ?_) ?hi_49 (by kernel_rfl) ?hf_49 (by kernel_rfl) ?hQ_49 ?hy_49 (by assumption) ?_
        case hi_49 => simp only [List.getElem?_toArray, List.getElem?_cons_zero, List.getElem?_cons_succ]; try rfl
        case hf_49 => kernel_rfl
        case hQ_49 => exact fun _ _ _ h => h
        case hy_49 =>
          refine Or.inl ⟨by rfl, ?_⟩
          intro W hSw
          obtain ⟨q0, q1, q2, q3, q4, q5, q6, q7, q8, q9⟩ := hSw
          go_simp
          try with_reducible rfl
        try simp only [Act.put, List.setIfInBounds_toArray, List.set_cons_zero, List.set_cons_succ]
        refine wpAnyH_take (i := 16) (oi := ?oi_50) (v := ?_) ?hi_50 (by kernel_rfl) ?hf_50 (by kernel_rfl) ?hQ_50 ?hy_50 (by assumption) ?_
        case hi_50 => simp only [List.getElem?_toArray, List.getElem?_cons_zero, List.getElem?_cons_succ]; try rfl
        case hf_50 => kernel_rfl
        case hQ_50 => exact fun _ _ _ h => h
        case hy_50 =>
          refine Or.inl ⟨by rfl, ?_⟩
          intro W hSw
          obtain ⟨q0, q1, q2, q3, q4, q5, q6, q7, q8, q9⟩ := hSw
          go_simp
          try with_reducible rfl
        try simp only [Act.put, List.setIfInBounds_toArray, List.set_cons_zero, List.set_cons_succ]
        refine wpAnyH_take (i := 17) (oi := ?oi_51) (v := ?_) ?hi_51 (by kernel_rfl) ?hf_51 (by kernel_rfl) ?hQ_51 ?hy_51 (by assumption) ?_
        case hi_51 => simp only [List.getElem?_toArray, List.getElem?_cons_zero, List.getElem?_cons_succ]; try rfl
        case hf_51 => kernel_rfl
        case hQ_51 => exact fun _ _ _ h => h
        case hy_51 =>
          refine Or.inl ⟨by rfl, ?_⟩
          intro W hSw
          obtain ⟨q0, q1, q2, q3, q4, q5, q6, q7, q8, q9⟩ := hSw
          go_simp
          try with_reducible rfl
        try simp only [Act.put, List.setIfInBounds_toArray, List.set_cons_zero, List.set_cons_succ]
        refine wpAnyH_take (i := 18) (oi := ?oi_52) (v := ?_) ?hi_52 (by kernel_rfl) ?hf_52 (by kernel_rfl) ?hQ_52 ?hy_52 (by assumption) ?_
        case hi_52 => simp only [List.getElem?_toArray, List.getElem?_cons_zero, List.getElem?_cons_succ]; try rfl
        case hf_52 => kernel_rfl
        case hQ_52 => exact fun _ _ _ h => h
        case hy_52 =>
          refine Or.inl ⟨by rfl, ?_⟩
          intro W hSw
          obtain ⟨q0, q1, q2, q3, q4, q5, q6, q7, q8, q9⟩ := hSw
          go_simp
          try with_reducible rfl
        try simp only [Act.put, List.setIfInBounds_toArray, List.set_cons_zero, List.set_cons_succ]
        refine wpAnyH_take (i := 19) (oi := ?oi_53) (v := ?_) ?hi_53 (by kernel_rfl) ?hf_53 (by kernel_rfl) ?hQ_53 ?hy_53 (by assumption) ?_
        case hi_53 => simp only [List.getElem?_toArray, List.getElem?_cons_zero, List.getElem?_cons_succ]; try rfl
        case hf_53 => kernel_rfl
        case hQ_53 => exact fun _ _ _ h => h
        case hy_53 =>
          refine Or.inl ⟨by rfl, ?_⟩
          intro W hSw
          obtain ⟨q0, q1, q2, q3, q4, q5, q6, q7, q8, q9⟩ := hSw
          go_simp
          try with_reducible rfl
        try simp only [Act.put, List.setIfInBounds_toArray, List.set_cons_zero, List.set_cons_succ]
        refine wpAnyH_take (i := 20) (oi := ?oi_54) (v := ?_) ?hi_54 (by kernel_rfl) ?hf_54 (by kernel_rfl) ?hQ_54 ?hy_54 (by assumption) ?_
        case hi_54 => simp only [List.getElem?_toArray, List.getElem?_cons_zero, List.getElem?_cons_succ]; try rfl
        case hf_54 => kernel_rfl
        case hQ_54 => exact fun _ _ _ h => h
        case hy_54 =>
          refine Or.inl ⟨by rfl, ?_⟩
          intro W hSw
          obtain ⟨q0, q1, q2, q3, q4, q5, q6, q7, q8, q9⟩ := hSw
          go_simp
          try with_reducible rfl
        try simp only [Act.put, List.setIfInBounds_toArray, List.set_cons_zero, List.set_cons_succ]
        refine wpAnyH_take (i := 21) (oi := ?oi_55) (v := ?_) ?hi_55 (by kernel_rfl) ?hf_55 (by kernel_rfl) ?hQ_55 ?hy_55 (by assumption) ?_
        case hi_55 => simp only [List.getElem?_toArray, List.getElem?_cons_zero, List.getElem?_cons_succ]; try rfl
        case hf_55 => kernel_rfl
        case hQ_55 => exact fun _ _ _ h => h
        case hy_55 =>
          refine Or.inl ⟨by rfl, ?_⟩
          intro W hSw
          obtain ⟨q0, q1, q2, q3, q4, q5, q6, q7, q8, q9⟩ := hSw
          go_simp
          try with_reducible rfl
        try simp only [Act.put, List.setIfInBounds_toArray, List.set_cons_zero, List.set_cons_succ]
        refine wpAnyH_take (i := 22) (oi := ?oi_56) (v := ?_) ?hi_56 (by kernel_rfl) ?hf_56 (by kernel_rfl) ?hQ_56 ?hy_56 (by assumption) ?_
        case hi_56 => simp only [List.getElem?_toArray, List.getElem?_cons_zero, List.getElem?_cons_succ]; try rfl
        case hf_56 => kernel_rfl
        case hQ_56 => exact fun _ _ _ h => h
        case hy_56 =>
          refine Or.inl ⟨by rfl, ?_⟩
          intro W hSw
          obtain ⟨q0, q1, q2, q3, q4, q5, q6, q7, q8, q9⟩ := hSw
          go_simp
          try with_reducible rfl
        try simp only [Act.put, List.setIfInBounds_toArray, List.set_cons_zero, List.set_cons_succ]
        refine wpAnyH_take (i := 23) (oi := ?oi_57) (v := ?_) ?hi_57 (by kernel_rfl) ?hf_57 (by kernel_rfl) ?hQ_57 ?hy_57 (by assumption) ?_
        case hi_57 => simp only [List.getElem?_toArray, List.getElem?_cons_zero, List.getElem?_cons_succ]; try rfl
        case hf_57 => kernel_rfl
        case hQ_57 => exact fun _ _ _ h => h
        case hy_57 =>
          refine Or.inl ⟨by rfl, ?_⟩
          intro W hSw
          obtain ⟨q0, q1, q2, q3, q4, q5, q6, q7, q8, q9⟩ := hSw
          go_simp
          try with_reducible rfl
        try simp only [Act.put, List.setIfInBounds_toArray, List.set_cons_zero, List.set_cons_succ]
        refine wpAnyH_take (i := 24) (oi := ?oi_58) (v := ?_) ?hi_58 (by kernel_rfl) ?hf_58 (by kernel_rfl) ?hQ_58 ?hy_58 (by assumption) ?_
        case hi_58 => simp only [List.getElem?_toArray, List.getElem?_cons_zero, List.getElem?_cons_succ]; try rfl
        case hf_58 => kernel_rfl
        case hQ_58 => exact fun _ _ _ h => h
        case hy_58 =>
          refine Or.inl ⟨by rfl, ?_⟩
          intro W hSw
          obtain ⟨q0, q1, q2, q3, q4, q5, q6, q7, q8, q9⟩ := hSw
          go_simp
          try with_reducible rfl
        try simp only [Act.put, List.setIfInBounds_toArray, List.set_cons_zero, List.set_cons_succ]
        refine wpAnyH_take (i := 25) (oi := ?oi_59) (v := ?_) ?hi_59 (by kernel_rfl) ?hf_59 (by kernel_rfl) ?hQ_59 ?hy_59 (by assumption) ?_
        case hi_59 => simp only [List.getElem?_toArray, List.getElem?_cons_zero, List.getElem?_cons_succ]; try rfl
        case hf_59 => kernel_rfl
        case hQ_59 => exact fun _ _ _ h => h
        case hy_59 =>
          refine Or.inl ⟨by rfl, ?_⟩
          intro W hSw
          obtain ⟨q0, q1, q2, q3, q4, q5, q6, q7, q8, q9⟩ := hSw
          go_simp
          try with_reducible rfl
        try simp only [Act.put, List.setIfInBounds_toArray, List.set_cons_zero, List.set_cons_succ]
        refine wpAnyH_take (i := 26) (oi := ?oi_60) (v := ?_) ?hi_60 (by kernel_rfl) ?hf_60 (by kernel_rfl) ?hQ_60 ?hy_60 (by assumption) ?_
        case hi_60 => simp only [List.getElem?_toArray, List.getElem?_cons_zero, List.getElem?_cons_succ]; try rfl
        case hf_60 => kernel_rfl
        case hQ_60 => exact fun _ _ _ h => h
        case hy_60 =>
          refine Or.inl ⟨by rfl, ?_⟩
          intro W hSw
          obtain ⟨q0, q1, q2, q3, q4, q5, q6, q7, q8, q9⟩ := hSw
          go_simp
          try with_reducible rfl
        try simp only [Act.put, List.setIfInBounds_toArray, List.set_cons_zero, List.set_cons_succ]
        refine wpAnyH_take (i := 27) (oi := ?oi_61) (v := ?_) ?hi_61 (by kernel_rfl) ?hf_61 (by kernel_rfl) ?hQ_61 ?hy_61 (by assumption) ?_
        case hi_61 => simp only [List.getElem?_toArray, List.getElem?_cons_zero, List.getElem?_cons_succ]; try rfl
        case hf_61 => kernel_rfl
        case hQ_61 => exact fun _ _ _ h => h
        case hy_61 =>
          refine Or.inl ⟨by rfl, ?_⟩
          intro W hSw
          obtain ⟨q0, q1, q2, q3, q4, q5, q6, q7, q8, q9⟩ := hSw
          go_simp
          try with_reducible rfl
        try simp only [Act.put, List.setIfInBounds_toArray, List.set_cons_zero, List.set_cons_succ]
        refine wpAnyH_take (i := 28) (oi := ?oi_62) (v := ?_) ?hi_62 (by kernel_rfl) ?hf_62 (by kernel_rfl) ?hQ_62 ?hy_62 (by assumption) ?_
        case hi_62 => simp only [List.getElem?_toArray, List.getElem?_cons_zero, List.getElem?_cons_succ]; try rfl
        case hf_62 => kernel_rfl
        case hQ_62 => exact fun _ _ _ h => h
        case hy_62 =>
          refine Or.inl ⟨by rfl, ?_⟩
          intro W hSw
          obtain ⟨q0, q1, q2, q3, q4, q5, q6, q7, q8, q9⟩ := hSw
          go_simp
          try with_reducible rfl
        try simp only [Act.put, List.setIfInBounds_toArray, List.set_cons_zero, List.set_cons_succ]
        refine wpAnyH_take (i := 29) (oi := ?oi_63) (v := ?_) ?hi_63 (by kernel_rfl) ?hf_63 (by kernel_rfl) ?hQ_63 ?hy_63 (by assumption) ?_
        case hi_63 => simp only [List.getElem?_toArray, List.getElem?_cons_zero, List.getElem?_cons_succ]; try rfl
        case hf_63 => kernel_rfl
        case hQ_63 => exact fun _ _ _ h => h
        case hy_63 =>
          refine Or.inl ⟨by rfl, ?_⟩
          intro W hSw
          obtain ⟨q0, q1, q2, q3, q4, q5, q6, q7, q8, q9⟩ := hSw
          go_simp
          try with_reducible rfl
        try simp only [Act.put, List.setIfInBounds_toArray, List.set_cons_zero, List.set_cons_succ]
        refine wpAnyH_ready (rs := [30]) (by kernel_rfl) (by simp) ?_
        refine AllReadyH.cons (o := ?oi_64) ?hi_64 (fun K hK => ?_) AllReadyH.nil
        case hi_64 => simp only [List.getElem?_toArray, List.getElem?_cons_zero, List.getElem?_cons_succ]; try rfl
        go_simp
        (go_at_call 20
         with_reducible refine (HC.out _ HBD.out).mono ?_
         rintro e' w1 ⟨rfl, hb1⟩
         have HB1 : Hid (Below W.heap.size W w1) := Lib.hid (HBD.out.trans (hb1.mono HBD.out.size))
         clear hb1)
        refine hK.out _ _ (HKP.out _ HB1.out) (fun hHeld => ?_)
        clear hK K
        try simp only [Act.put, List.setIfInBounds_toArray, List.set_cons_zero, List.set_cons_succ]
        refine wpAnyH_take (i := 31) (oi := ?oi_65) (v := ?_) ?hi_65 (by kernel_rfl) ?hf_65 (by kernel_rfl) ?hQ_65 ?hy_65 (by assumption) ?_
        case hi_65 => simp only [List.getElem?_toArray, List.getElem?_cons_zero, List.getElem?_cons_succ]; try rfl
        case hf_65 => kernel_rfl
        case hQ_65 => exact fun _ _ _ h => h
        case hy_65 =>
          refine Or.inl ⟨by rfl, ?_⟩
          intro W hSw
          obtain ⟨q0, q1, q2, q3, q4, q5, q6, q7, q8, q9⟩ := hSw
          go_simp
          try with_reducible rfl
        try simp only [Act.put, List.setIfInBounds_toArray, List.set_cons_zero, List.set_cons_succ]
        refine wpAnyH_take (i := 32) (oi := ?oi_66) (v := ?_) ?hi_66 (by kernel_rfl) ?hf_66 (by kernel_rfl) ?hQ_66 ?hy_66 (by assumption) ?_
        case hi_66 => simp only [List.getElem?_toArray, List.getElem?_cons_zero, List.getElem?_cons_succ]; try rfl
        case hf_66 => kernel_rfl
        case hQ_66 => exact fun _ _ _ h => h
        case hy_66 =>
          refine Or.inl ⟨by rfl, ?_⟩
          intro W hSw
          obtain ⟨q0, q1, q2, q3, q4, q5, q6, q7, q8, q9⟩ := hSw
          go_simp
          try with_reducible rfl
        try simp only [Act.put, List.setIfInBounds_toArray, List.set_cons_zero, List.set_cons_succ]
        refine wpAnyH_done (by kernel_rfl) ?_ _
        refine NoPanic.normal ?_
        clear hHeld
        go_wp2
        go_roundw
        case rel => exact ⟨k + 1, v, by omega, rfl, by go_num, HK2, HB1⟩
        case measure => simp [intOf]; omega
    · obtain rfl : n = k := by omega
      have cx : wr.cell? ⟨bx, 2, none⟩ = some (.slice A n c) := (HW.out.cell (p := ⟨bx, 2, none⟩) hbx).trans HCX.out
      have h := HN.out
      rw [← HE.out] at h
      have HN2 := Lib.hid h
      clear h HN HE
      go_wp2_with fail
      try go_quiet (fail)
      go_wp2
      apply HN2.out
      first | exact HW.out | exact below_drewN HW.out _ | exact below_drewN (below_drewN HW.out _) _
end Go.Proofs.Ytackompihengfaa
