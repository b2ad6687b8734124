/-
  ModuleSame: the loop over field 6.
-/
import Derived.Test.YtackompihengfaaWJh
import Derived.Test.YtackompihengfaaWUa
import Derived.BigQuiet
namespace Go.Proofs.Ytackompihengfaa
open Go.RowKit Go.PlainAid
set_option linter.unusedVariables false
set_option linter.unusedSimpArgs false
noncomputable def smBlk6 : Code := ((Try.f4.body.bind (fromBlk 10)).getD .skip)
theorem allB_stop6 {k n : Nat} {s : Bool} {e : Nat → Bool} (hk : k ≤ n) (h : false = (s && allB k e)) : (s && allB n e) = false := by
  cases s with
  | false => rfl
  | true =>
    rw [Bool.true_and] at h ⊢
    unfold allB at h ⊢
    have h := h.symm
    rw [List.all_eq_false] at h ⊢
    obtain ⟨x, hx, h2⟩ := h
    rw [List.mem_range] at hx
    exact ⟨x, List.mem_range.2 (by omega), h2⟩
theorem allB_step6 {k : Nat} {s b : Bool} {e : Nat → Bool} (h : true = (s && allB k e)) (hb : e k = b) : b = (s && allB (k + 1) e) := by
  have h1 := h.symm
  rw [Bool.and_eq_true] at h1
  unfold allB at h1 ⊢
  rw [List.range_succ, List.all_append, h1.1, h1.2]
  simp [hb]
set_option maxHeartbeats 8000000 in
set_option maxRecDepth 1000000 in
theorem smLoop6 {W : World} {bx bz : Nat} {A B : Option Addr} {n m c c' : Nat} {X Y : Nat → ExT} {s : Bool}
    (hcx : W.cell? ⟨bx, 6, none⟩ = some (.slice A n c)) (hcy : W.cell? ⟨bz, 6, none⟩ = some (.slice B m c')) (hr : Row 3 ExAt W A n c X) (hr2 : Row 3 ExAt W B m c' Y) (hn : n ≤ 1000) (hm : m ≤ 1000) (hs : s = true → n ≤ m)
    (s0 s1 s4 s5 s6 s8 s9 s10 s11 s12 s14 s15 s16 s17 s18 s19 s20 s21 s22 s23 s24 s25 s26 s27 s28 s29 s30 s31 s32 s33 s34 s35 s36 s37 s38 s39 s40 s41 s42 s43 s44 s45 s46 s47 s48 s49 s50 s51 s52 s53 s54 s55 s56 s57 s58 s59 s60 s61 s62 s63 s64 s65 s66 s67 s68 s69 s70 s71 s72 s73 s74 s75 s76 s77 s78 s79 s80 s81 s82 s83 s84 s85 s86 s87 s88 s89 s90 s91 s92 s93 s94 s95 s96 s97 s98 s99 s100 s101 s102 s103 s104 s105 s106 s107 s108 s109 s110 s111 s112 s113 s114 s115 s116 s117 s118 s119 s120 s121 s122 s123 s124 s125 s126 s127 s128 s129 s130 s131 s132 s133 s134 s135 s136 s137 s138 s139 s140 s141 s142 s143 s144 s145 s146 s147 s148 s149 s150 s151 s152 s153 s154 s155 s156 s157 s158 s159 s160 s161 s162 s163 s164 s165 s166 s167 s168 s169 s170 s171 s172 s173 s174 s175 s176 s177 s178 s179 s180 s181 s182 s183 s184 s185 s186 s187 s188 s189 s190 s191 s192 s193 s194 s195 s196 s197 s198 s199 s200 s201 s202 s203 s204 s205 s206 s207 s208 s209 s210 s211 s212 s213 s214 s215 s216 s217 s218 s219 s220 s221 s222 s223 s224 s225 s226 s227 s228 s229 s230 s231 s232 s233 s234 s235 s236 s237 s238 s239 s240 s241 s242 s243 s244 s245 s246 s247 s248 s249 s250 s251 s252 s253 s254 s255 s256 s257 s258 s259 s260 s261 s262 s263 s264 s265 s266 s267 s268 s269 s270 s271 s272 s273 s274 s275 s276 s277 s278 s279 s280 s281 s282 s283 s284 s285 s286 s287 s288 s289 s290 s291 s292 s293 s294 s295 s296 s297 s298 s299 s300 s301 s302 s303 s304 s305 s306 s307 s308 s309 s310 s311 s312 s313 s314 s315 s316 s317 s318 s319 s320 s321 s322 s323 s324 s325 s326 s327 s328 s329 s330 s331 s332 s333 s334 s335 s336 s337 s338 s339 s340 s341 s342 s343 s344 s345 s346 s347 s348 s349 s350 s351 s352 s353 s354 s355 s356 s357 s358 s359 s360 s361 s362 s363 s364 s365 s366 s367 s368 s369 s370 s371 s372 s373 s374 s375 s376 s377 s378 s379 s380 s381 s382 s383 s384 s385 s386 s387 s388 s389 s390 s391 s392 s393 s394 s395 s396 s397 s398 s399 s400 s401 s402 s403 s404 s405 s406 s407 s408 s409 s410 s411 s412 s413 s414 s415 s416 s417 s418 s419 s420 s421 s422 s423 : Value) (Q : Exit → Act → World → Prop)
    (hN : ∀ (u13 u265 u266 u267 u268 u269 u270 u271 u272 u273 u274 u275 u276 u277 u278 u279 u280 u281 u282 u283 u284 u285 : Value) (q : Nat), Q .normal ⟨#[s0, s1, .pointer (some ⟨bx, 0, none⟩), .pointer (some ⟨bz, 0, none⟩), s4, s5, s6, .bool (s && allB n (fun i => eqExport (X i) (Y i))), s8, s9, s10, s11, s12, u13, s14, s15, s16, s17, s18, s19, s20, s21, s22, s23, s24, s25, s26, s27, s28, s29, s30, s31, s32, s33, s34, s35, s36, s37, s38, s39, s40, s41, s42, s43, s44, s45, s46, s47, s48, s49, s50, s51, s52, s53, s54, s55, s56, s57, s58, s59, s60, s61, s62, s63, s64, s65, s66, s67, s68, s69, s70, s71, s72, s73, s74, s75, s76, s77, s78, s79, s80, s81, s82, s83, s84, s85, s86, s87, s88, s89, s90, s91, s92, s93, s94, s95, s96, s97, s98, s99, s100, s101, s102, s103, s104, s105, s106, s107, s108, s109, s110, s111, s112, s113, s114, s115, s116, s117, s118, s119, s120, s121, s122, s123, s124, s125, s126, s127, s128, s129, s130, s131, s132, s133, s134, s135, s136, s137, s138, s139, s140, s141, s142, s143, s144, s145, s146, s147, s148, s149, s150, s151, s152, s153, s154, s155, s156, s157, s158, s159, s160, s161, s162, s163, s164, s165, s166, s167, s168, s169, s170, s171, s172, s173, s174, s175, s176, s177, s178, s179, s180, s181, s182, s183, s184, s185, s186, s187, s188, s189, s190, s191, s192, s193, s194, s195, s196, s197, s198, s199, s200, s201, s202, s203, s204, s205, s206, s207, s208, s209, s210, s211, s212, s213, s214, s215, s216, s217, s218, s219, s220, s221, s222, s223, s224, s225, s226, s227, s228, s229, s230, s231, s232, s233, s234, s235, s236, s237, s238, s239, s240, s241, s242, s243, s244, s245, s246, s247, s248, s249, s250, s251, s252, s253, s254, s255, s256, s257, s258, s259, s260, s261, s262, s263, s264, u265, u266, u267, u268, u269, u270, u271, u272, u273, u274, u275, u276, u277, u278, u279, u280, u281, u282, u283, u284, u285, s286, s287, s288, s289, s290, s291, s292, s293, s294, s295, s296, s297, s298, s299, s300, s301, s302, s303, s304, s305, s306, s307, s308, s309, s310, s311, s312, s313, s314, s315, s316, s317, s318, s319, s320, s321, s322, s323, s324, s325, s326, s327, s328, s329, s330, s331, s332, s333, s334, s335, s336, s337, s338, s339, s340, s341, s342, s343, s344, s345, s346, s347, s348, s349, s350, s351, s352, s353, s354, s355, s356, s357, s358, s359, s360, s361, s362, s363, s364, s365, s366, s367, s368, s369, s370, s371, s372, s373, s374, s375, s376, s377, s378, s379, s380, s381, s382, s383, s384, s385, s386, s387, s388, s389, s390, s391, s392, s393, s394, s395, s396, s397, s398, s399, s400, s401, s402, s403, s404, s405, s406, s407, s408, s409, s410, s411, s412, s413, s414, s415, s416, s417, s418, s419, s420, s421, s422, s423], []⟩ (W.drewN q)) :
    Code.wp Try.prog smBlk6 Q ⟨#[s0, s1, .pointer (some ⟨bx, 0, none⟩), .pointer (some ⟨bz, 0, none⟩), s4, s5, s6, .bool s, s8, s9, s10, s11, s12, .int .i64 0, s14, s15, s16, s17, s18, s19, s20, s21, s22, s23, s24, s25, s26, s27, s28, s29, s30, s31, s32, s33, s34, s35, s36, s37, s38, s39, s40, s41, s42, s43, s44, s45, s46, s47, s48, s49, s50, s51, s52, s53, s54, s55, s56, s57, s58, s59, s60, s61, s62, s63, s64, s65, s66, s67, s68, s69, s70, s71, s72, s73, s74, s75, s76, s77, s78, s79, s80, s81, s82, s83, s84, s85, s86, s87, s88, s89, s90, s91, s92, s93, s94, s95, s96, s97, s98, s99, s100, s101, s102, s103, s104, s105, s106, s107, s108, s109, s110, s111, s112, s113, s114, s115, s116, s117, s118, s119, s120, s121, s122, s123, s124, s125, s126, s127, s128, s129, s130, s131, s132, s133, s134, s135, s136, s137, s138, s139, s140, s141, s142, s143, s144, s145, s146, s147, s148, s149, s150, s151, s152, s153, s154, s155, s156, s157, s158, s159, s160, s161, s162, s163, s164, s165, s166, s167, s168, s169, s170, s171, s172, s173, s174, s175, s176, s177, s178, s179, s180, s181, s182, s183, s184, s185, s186, s187, s188, s189, s190, s191, s192, s193, s194, s195, s196, s197, s198, s199, s200, s201, s202, s203, s204, s205, s206, s207, s208, s209, s210, s211, s212, s213, s214, s215, s216, s217, s218, s219, s220, s221, s222, s223, s224, s225, s226, s227, s228, s229, s230, s231, s232, s233, s234, s235, s236, s237, s238, s239, s240, s241, s242, s243, s244, s245, s246, s247, s248, s249, s250, s251, s252, s253, s254, s255, s256, s257, s258, s259, s260, s261, s262, s263, s264, s265, s266, s267, s268, s269, s270, s271, s272, s273, s274, s275, s276, s277, s278, s279, s280, s281, s282, s283, s284, s285, s286, s287, s288, s289, s290, s291, s292, s293, s294, s295, s296, s297, s298, s299, s300, s301, s302, s303, s304, s305, s306, s307, s308, s309, s310, s311, s312, s313, s314, s315, s316, s317, s318, s319, s320, s321, s322, s323, s324, s325, s326, s327, s328, s329, s330, s331, s332, s333, s334, s335, s336, s337, s338, s339, s340, s341, s342, s343, s344, s345, s346, s347, s348, s349, s350, s351, s352, s353, s354, s355, s356, s357, s358, s359, s360, s361, s362, s363, s364, s365, s366, s367, s368, s369, s370, s371, s372, s373, s374, s375, s376, s377, s378, s379, s380, s381, s382, s383, s384, s385, s386, s387, s388, s389, s390, s391, s392, s393, s394, s395, s396, s397, s398, s399, s400, s401, s402, s403, s404, s405, s406, s407, s408, s409, s410, s411, s412, s413, s414, s415, s416, s417, s418, s419, s420, s421, s422, s423], []⟩ W := by
  have HN := Lib.hid hN
  have HA := Lib.hid hr.2.2
  have HB := Lib.hid hr2.2.2
  have hca : n ≤ c := hr.1
  have hcm : c ≤ 9223372036854775807 := hr.2.1
  have hcb : m ≤ c' := hr2.1
  have hcmb : c' ≤ 9223372036854775807 := hr2.2.1
  have HS := Lib.hid hs
  have HCX := Lib.hid hcx
  have HCY := Lib.hid hcy
  clear hN hr hr2 hs hcx hcy
  conv => arg 2; whnf
  go_wp2_with fail
  go_loopw [7, 13] (fun v7 v13 wr => ∃ (k : Nat) (sk : Bool), k ≤ n ∧ v7 = .bool sk ∧ v13 = .int .i64 k ∧ Hid (sk = (s && allB k (fun i => eqExport (X i) (Y i)))) ∧ ∃ q, Hid (wr = W.drewN q)) (fun _ v13 _ => n - (intOf v13).toNat)
  case atStart => exact ⟨0, s, by omega, rfl, rfl, Lib.hid (by unfold allB; simp), 0, Lib.hid rfl⟩
  case round =>
    obtain ⟨k, sk, hk, rfl, rfl, HE, q, HD⟩ := hrel
    obtain rfl := HD.out
    clear HD
    by_cases hlt : k < n
    · obtain ⟨b, off, rfl, hbl, hat⟩ := HA.out (by omega)
      have cx : ∀ p, (W.drewN p).cell? ⟨bx, 6, none⟩ = some (.slice (some ⟨b, off, none⟩) n c) := fun p => HCX.out
      cases sk with
      | false =>
        have HZ := Lib.hid (allB_stop6 (n := n) hk HE.out)
        have hk1 : (k : Int) < (n : Int) := by omega
        go_wp2_with fail
        first | go_quiet (fail) | skip
        go_wp2
        have h := HN.out
        rw [HZ.out] at h
        apply h
      | true =>
        have hst : s = true := by
          have h := HE.out
          cases s with
          | false => exact absurd h (by simp)
          | true => rfl
        have hkm : k < m := by have := HS.out hst; omega
        obtain ⟨b2, off2, rfl, hbl2, hat2⟩ := HB.out (by omega)
        have cy : ∀ p, (W.drewN p).cell? ⟨bz, 6, none⟩ = some (.slice (some ⟨b2, off2, none⟩) m c') := fun p => HCY.out
        have hx := hat k hlt
        have hy := hat2 k hkm
        have HK : Hid (∀ x y (bb : Bool), x = X k → y = Y k → eqExport x y = bb → bb = (s && allB (k + 1) (fun i => eqExport (X i) (Y i)))) := Lib.hid (fun x y bb e1 e2 h => allB_step6 HE.out (by subst e1 e2; exact h))
        obtain ⟨x, hxe⟩ : ∃ x, x = X k := ⟨_, rfl⟩
        obtain ⟨y, hye⟩ : ∃ y, y = Y k := ⟨_, rfl⟩
        rw [← hxe] at hx
        rw [← hye] at hy
        have HK2 := Lib.hid (fun bb => HK.out x y bb hxe hye)
        clear hat hat2 hxe hye HK HE hst
        obtain ⟨x0, x1, x2⟩ := hx
        obtain ⟨y0, y1, y2⟩ := hy
        obtain ⟨p0, p1, p2⟩ := x
        obtain ⟨q0, q1, q2⟩ := y
        dsimp only at x0 x1 x2 y0 y1 y2
        have z0 : ∀ q, (W.drewN q).cell? ⟨b, off + k * 3, none⟩ = some (.string p0) := fun q => x0
        have t0 : ∀ q, (W.drewN q).cell? ⟨b2, off2 + k * 3, none⟩ = some (.string q0) := fun q => y0
        have z1 : ∀ q, (W.drewN q).cell? ⟨b, off + k * 3 + 1, none⟩ = some (.int .i64 p1) := fun q => x1
        have t1 : ∀ q, (W.drewN q).cell? ⟨b2, off2 + k * 3 + 1, none⟩ = some (.int .i64 q1) := fun q => y1
        have z2 : ∀ q, (W.drewN q).cell? ⟨b, off + k * 3 + 2, none⟩ = some (.int .i64 p2) := fun q => x2
        have t2 : ∀ q, (W.drewN q).cell? ⟨b2, off2 + k * 3 + 2, none⟩ = some (.int .i64 q2) := fun q => y2
        clear x0 x1 x2 y0 y1 y2
        have hk0 : (0 : Int) ≤ (k : Int) := by omega
        have hk1 : (k : Int) < (n : Int) := by omega
        have hk2 : (k : Int) < (m : Int) := by omega
        by_cases h0 : p0 = q0
        case neg =>
          have hc : (p0.toList == q0.toList) = false := by rw [str_eq]; simp [h0]
          have HK3 := Lib.hid (HK2.out false (by unfold eqExport; simp [h0]))
          clear HK2 h0
          go_wp2_with fail
          try go_quiet (fail)
          go_wp2_with fail
          try go_quiet (fail)
          go_wp2
          go_roundw
          case rel => exact ⟨k + 1, false, by omega, rfl, by go_num, HK3, _, Lib.hid rfl⟩
          case measure => simp [intOf]; omega
        subst h0
        by_cases h1 : p1 = q1
        case neg =>
          have hc : (p1 == q1) = false := by simp [h1]
          have HK3 := Lib.hid (HK2.out false (by unfold eqExport; simp [h1]))
          clear HK2 h1
          go_wp2_with fail
          try go_quiet (fail)
          go_wp2_with fail
          try go_quiet (fail)
          go_wp2
          go_roundw
          case rel => exact ⟨k + 1, false, by omega, rfl, by go_num, HK3, _, Lib.hid rfl⟩
          case measure => simp [intOf]; omega
        subst h1
        by_cases h2 : p2 = q2
        case neg =>
          have hc : (p2 == q2) = false := by simp [h2]
          have HK3 := Lib.hid (HK2.out false (by unfold eqExport; simp [h2]))
          clear HK2 h2
          go_wp2_with fail
          try go_quiet (fail)
          go_wp2_with fail
          try go_quiet (fail)
          go_wp2
          go_roundw
          case rel => exact ⟨k + 1, false, by omega, rfl, by go_num, HK3, _, Lib.hid rfl⟩
          case measure => simp [intOf]; omega
        subst h2
        have hc0 : (p0.toList == p0.toList) = true := by rw [str_eq]; simp
        have HK3 := Lib.hid (HK2.out true (by unfold eqExport; simp))
        clear HK2
        go_wp2_with fail
        try go_quiet (fail)
        go_wp2_with fail
        try go_quiet (fail)
        go_wp2
        go_roundw
        case rel => exact ⟨k + 1, true, by omega, rfl, by go_num, HK3, _, Lib.hid rfl⟩
        case measure => simp [intOf]; omega
    · obtain rfl : n = k := by omega
      have cx : ∀ p, (W.drewN p).cell? ⟨bx, 6, none⟩ = some (.slice A n c) := fun p => HCX.out
      have h := HN.out
      rw [← HE.out] at h
      have HN2 := Lib.hid h
      clear h HN HE
      go_wp2_with fail
      try go_quiet (fail)
      go_wp2
      apply HN2.out
end Go.Proofs.Ytackompihengfaa
