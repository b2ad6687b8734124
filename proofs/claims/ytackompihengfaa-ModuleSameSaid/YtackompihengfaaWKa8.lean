/-
  ModuleSame: the loop over field 8.
-/
import Derived.Test.YtackompihengfaaWJh
import Derived.Test.YtackompihengfaaWJk
import Derived.Test.YtackompihengfaaWKa8i
import Derived.Test.YtackompihengfaaWUa
import Derived.BigQuiet
namespace Go.Proofs.Ytackompihengfaa
open Go.RowKit Go.PlainAid
set_option linter.unusedVariables false
set_option linter.unusedSimpArgs false
noncomputable def smBlk8 : Code := ((Try.f4.body.bind (fromBlk 12)).getD .skip)
theorem eqE_in (l l' : List Int) (a : Bool) : ((a && decide (l.length = l'.length)) && allB l.length (fun j => decide (l.getD j 0 = l'.getD j 0))) = (a && decide (l = l')) := by
  rw [Bool.and_assoc]
  congr 1
  rw [Bool.eq_iff_iff]
  simp only [Bool.and_eq_true, decide_eq_true_eq]
  constructor
  · rintro ⟨h1, h2⟩
    unfold allB at h2
    rw [List.all_eq_true] at h2
    refine List.ext_getElem h1 (fun j hj hj' => ?_)
    have h := h2 j (List.mem_range.2 hj)
    rw [decide_eq_true_eq, List.getD_eq_getElem?_getD, List.getD_eq_getElem?_getD, List.getElem?_eq_getElem hj, List.getElem?_eq_getElem hj'] at h
    exact h
  · rintro rfl
    exact ⟨rfl, allB_yes (fun j hj => by simp)⟩
theorem allB_stop8 {k n : Nat} {s : Bool} {e : Nat → Bool} (hk : k ≤ n) (h : false = (s && allB k e)) : (s && allB n e) = false := by
  cases s with
  | false => rfl
  | true =>
    rw [Bool.true_and] at h ⊢
    unfold allB at h ⊢
    have h := h.symm
    rw [List.all_eq_false] at h ⊢
    obtain ⟨x, hx, h2⟩ := h
    rw [List.mem_range] at hx
    exact ⟨x, List.mem_range.2 (by omega), h2⟩
theorem allB_step8 {k : Nat} {s b : Bool} {e : Nat → Bool} (h : true = (s && allB k e)) (hb : e k = b) : b = (s && allB (k + 1) e) := by
  have h1 := h.symm
  rw [Bool.and_eq_true] at h1
  unfold allB at h1 ⊢
  rw [List.range_succ, List.all_append, h1.1, h1.2]
  simp [hb]
set_option maxHeartbeats 8000000 in
set_option maxRecDepth 1000000 in
theorem smLoop8 {W : World} {bx bz : Nat} {A B : Option Addr} {n m c c' : Nat} {X Y : Nat → ElT} {s : Bool}
    (hcx : W.cell? ⟨bx, 8, none⟩ = some (.slice A n c)) (hcy : W.cell? ⟨bz, 8, none⟩ = some (.slice B m c')) (hr : Row 2 ElAt W A n c X) (hr2 : Row 2 ElAt W B m c' Y) (hn : n ≤ 1000) (hm : m ≤ 1000) (hs : s = true → n ≤ m) (hlx : ∀ i, i < n → (X i).fs.length ≤ 1000)
    (s0 s1 s4 s5 s6 s8 s9 s10 s11 s12 s13 s15 s16 s17 s18 s19 s20 s21 s22 s23 s24 s25 s26 s27 s28 s29 s30 s31 s32 s33 s34 s35 s36 s37 s38 s39 s40 s41 s42 s43 s44 s45 s46 s47 s48 s49 s50 s51 s52 s53 s54 s55 s56 s57 s58 s59 s60 s61 s62 s63 s64 s65 s66 s67 s68 s69 s70 s71 s72 s73 s74 s75 s76 s77 s78 s79 s80 s81 s82 s83 s84 s85 s86 s87 s88 s89 s90 s91 s92 s93 s94 s95 s96 s97 s98 s99 s100 s101 s102 s103 s104 s105 s106 s107 s108 s109 s110 s111 s112 s113 s114 s115 s116 s117 s118 s119 s120 s121 s122 s123 s124 s125 s126 s127 s128 s129 s130 s131 s132 s133 s134 s135 s136 s137 s138 s139 s140 s141 s142 s143 s144 s145 s146 s147 s148 s149 s150 s151 s152 s153 s154 s155 s156 s157 s158 s159 s160 s161 s162 s163 s164 s165 s166 s167 s168 s169 s170 s171 s172 s173 s174 s175 s176 s177 s178 s179 s180 s181 s182 s183 s184 s185 s186 s187 s188 s189 s190 s191 s192 s193 s194 s195 s196 s197 s198 s199 s200 s201 s202 s203 s204 s205 s206 s207 s208 s209 s210 s211 s212 s213 s214 s215 s216 s217 s218 s219 s220 s221 s222 s223 s224 s225 s226 s227 s228 s229 s230 s231 s232 s233 s234 s235 s236 s237 s238 s239 s240 s241 s242 s243 s244 s245 s246 s247 s248 s249 s250 s251 s252 s253 s254 s255 s256 s257 s258 s259 s260 s261 s262 s263 s264 s265 s266 s267 s268 s269 s270 s271 s272 s273 s274 s275 s276 s277 s278 s279 s280 s281 s282 s283 s284 s285 s286 s287 s288 s289 s290 s291 s292 s293 s294 s295 s296 s297 s298 s299 s300 s301 s302 s303 s304 s305 s306 s307 s308 s309 s310 s311 s312 s313 s314 s315 s316 s317 s318 s319 s320 s321 s322 s323 s324 s325 s326 s327 s328 s329 s330 s331 s332 s333 s334 s335 s336 s337 s338 s339 s340 s341 s342 s343 s344 s345 s346 s347 s348 s349 s350 s351 s352 s353 s354 s355 s356 s357 s358 s359 s360 s361 s362 s363 s364 s365 s366 s367 s368 s369 s370 s371 s372 s373 s374 s375 s376 s377 s378 s379 s380 s381 s382 s383 s384 s385 s386 s387 s388 s389 s390 s391 s392 s393 s394 s395 s396 s397 s398 s399 s400 s401 s402 s403 s404 s405 s406 s407 s408 s409 s410 s411 s412 s413 s414 s415 s416 s417 s418 s419 s420 s421 s422 s423 : Value) (Q : Exit → Act → World → Prop)
    (hN : ∀ (u14 u15 u286 u287 u288 u289 u290 u291 u292 u293 u294 u295 u296 u297 u298 u299 u300 u301 u302 u303 u304 u305 u306 u307 u308 u309 u310 u311 u312 u313 u314 u315 u316 u317 u318 u319 u320 u321 u322 u323 u324 u325 u326 u327 u328 u329 u330 u331 u332 u333 u334 u335 u336 u337 u338 u339 u340 u341 u342 u343 u344 u345 u346 u347 u348 u349 u350 u351 u352 u353 u354 u355 u356 u357 u358 : Value) (q : Nat), Q .normal ⟨#[s0, s1, .pointer (some ⟨bx, 0, none⟩), .pointer (some ⟨bz, 0, none⟩), s4, s5, s6, .bool (s && allB n (fun i => eqE (X i) (Y i))), s8, s9, s10, s11, s12, s13, u14, u15, s16, s17, s18, s19, s20, s21, s22, s23, s24, s25, s26, s27, s28, s29, s30, s31, s32, s33, s34, s35, s36, s37, s38, s39, s40, s41, s42, s43, s44, s45, s46, s47, s48, s49, s50, s51, s52, s53, s54, s55, s56, s57, s58, s59, s60, s61, s62, s63, s64, s65, s66, s67, s68, s69, s70, s71, s72, s73, s74, s75, s76, s77, s78, s79, s80, s81, s82, s83, s84, s85, s86, s87, s88, s89, s90, s91, s92, s93, s94, s95, s96, s97, s98, s99, s100, s101, s102, s103, s104, s105, s106, s107, s108, s109, s110, s111, s112, s113, s114, s115, s116, s117, s118, s119, s120, s121, s122, s123, s124, s125, s126, s127, s128, s129, s130, s131, s132, s133, s134, s135, s136, s137, s138, s139, s140, s141, s142, s143, s144, s145, s146, s147, s148, s149, s150, s151, s152, s153, s154, s155, s156, s157, s158, s159, s160, s161, s162, s163, s164, s165, s166, s167, s168, s169, s170, s171, s172, s173, s174, s175, s176, s177, s178, s179, s180, s181, s182, s183, s184, s185, s186, s187, s188, s189, s190, s191, s192, s193, s194, s195, s196, s197, s198, s199, s200, s201, s202, s203, s204, s205, s206, s207, s208, s209, s210, s211, s212, s213, s214, s215, s216, s217, s218, s219, s220, s221, s222, s223, s224, s225, s226, s227, s228, s229, s230, s231, s232, s233, s234, s235, s236, s237, s238, s239, s240, s241, s242, s243, s244, s245, s246, s247, s248, s249, s250, s251, s252, s253, s254, s255, s256, s257, s258, s259, s260, s261, s262, s263, s264, s265, s266, s267, s268, s269, s270, s271, s272, s273, s274, s275, s276, s277, s278, s279, s280, s281, s282, s283, s284, s285, u286, u287, u288, u289, u290, u291, u292, u293, u294, u295, u296, u297, u298, u299, u300, u301, u302, u303, u304, u305, u306, u307, u308, u309, u310, u311, u312, u313, u314, u315, u316, u317, u318, u319, u320, u321, u322, u323, u324, u325, u326, u327, u328, u329, u330, u331, u332, u333, u334, u335, u336, u337, u338, u339, u340, u341, u342, u343, u344, u345, u346, u347, u348, u349, u350, u351, u352, u353, u354, u355, u356, u357, u358, s359, s360, s361, s362, s363, s364, s365, s366, s367, s368, s369, s370, s371, s372, s373, s374, s375, s376, s377, s378, s379, s380, s381, s382, s383, s384, s385, s386, s387, s388, s389, s390, s391, s392, s393, s394, s395, s396, s397, s398, s399, s400, s401, s402, s403, s404, s405, s406, s407, s408, s409, s410, s411, s412, s413, s414, s415, s416, s417, s418, s419, s420, s421, s422, s423], []⟩ (W.drewN q)) :
    Code.wp Try.prog smBlk8 Q ⟨#[s0, s1, .pointer (some ⟨bx, 0, none⟩), .pointer (some ⟨bz, 0, none⟩), s4, s5, s6, .bool s, s8, s9, s10, s11, s12, s13, .int .i64 0, s15, s16, s17, s18, s19, s20, s21, s22, s23, s24, s25, s26, s27, s28, s29, s30, s31, s32, s33, s34, s35, s36, s37, s38, s39, s40, s41, s42, s43, s44, s45, s46, s47, s48, s49, s50, s51, s52, s53, s54, s55, s56, s57, s58, s59, s60, s61, s62, s63, s64, s65, s66, s67, s68, s69, s70, s71, s72, s73, s74, s75, s76, s77, s78, s79, s80, s81, s82, s83, s84, s85, s86, s87, s88, s89, s90, s91, s92, s93, s94, s95, s96, s97, s98, s99, s100, s101, s102, s103, s104, s105, s106, s107, s108, s109, s110, s111, s112, s113, s114, s115, s116, s117, s118, s119, s120, s121, s122, s123, s124, s125, s126, s127, s128, s129, s130, s131, s132, s133, s134, s135, s136, s137, s138, s139, s140, s141, s142, s143, s144, s145, s146, s147, s148, s149, s150, s151, s152, s153, s154, s155, s156, s157, s158, s159, s160, s161, s162, s163, s164, s165, s166, s167, s168, s169, s170, s171, s172, s173, s174, s175, s176, s177, s178, s179, s180, s181, s182, s183, s184, s185, s186, s187, s188, s189, s190, s191, s192, s193, s194, s195, s196, s197, s198, s199, s200, s201, s202, s203, s204, s205, s206, s207, s208, s209, s210, s211, s212, s213, s214, s215, s216, s217, s218, s219, s220, s221, s222, s223, s224, s225, s226, s227, s228, s229, s230, s231, s232, s233, s234, s235, s236, s237, s238, s239, s240, s241, s242, s243, s244, s245, s246, s247, s248, s249, s250, s251, s252, s253, s254, s255, s256, s257, s258, s259, s260, s261, s262, s263, s264, s265, s266, s267, s268, s269, s270, s271, s272, s273, s274, s275, s276, s277, s278, s279, s280, s281, s282, s283, s284, s285, s286, s287, s288, s289, s290, s291, s292, s293, s294, s295, s296, s297, s298, s299, s300, s301, s302, s303, s304, s305, s306, s307, s308, s309, s310, s311, s312, s313, s314, s315, s316, s317, s318, s319, s320, s321, s322, s323, s324, s325, s326, s327, s328, s329, s330, s331, s332, s333, s334, s335, s336, s337, s338, s339, s340, s341, s342, s343, s344, s345, s346, s347, s348, s349, s350, s351, s352, s353, s354, s355, s356, s357, s358, s359, s360, s361, s362, s363, s364, s365, s366, s367, s368, s369, s370, s371, s372, s373, s374, s375, s376, s377, s378, s379, s380, s381, s382, s383, s384, s385, s386, s387, s388, s389, s390, s391, s392, s393, s394, s395, s396, s397, s398, s399, s400, s401, s402, s403, s404, s405, s406, s407, s408, s409, s410, s411, s412, s413, s414, s415, s416, s417, s418, s419, s420, s421, s422, s423], []⟩ W := by
  have HN := Lib.hid hN
  have HA := Lib.hid hr.2.2
  have HB := Lib.hid hr2.2.2
  have hca : n ≤ c := hr.1
  have hcm : c ≤ 9223372036854775807 := hr.2.1
  have hcb : m ≤ c' := hr2.1
  have hcmb : c' ≤ 9223372036854775807 := hr2.2.1
  have HS := Lib.hid hs
  have HLX := Lib.hid hlx
  have HCX := Lib.hid hcx
  have HCY := Lib.hid hcy
  clear hN hr hr2 hs hcx hcy hlx
  conv => arg 2; whnf
  go_wp2_with fail
  go_loopw [7, 14] (fun v7 v14 wr => ∃ (k : Nat) (sk : Bool), k ≤ n ∧ v7 = .bool sk ∧ v14 = .int .i64 k ∧ Hid (sk = (s && allB k (fun i => eqE (X i) (Y i)))) ∧ ∃ q, Hid (wr = W.drewN q)) (fun _ v14 _ => n - (intOf v14).toNat)
  case atStart => exact ⟨0, s, by omega, rfl, rfl, Lib.hid (by unfold allB; simp), 0, Lib.hid rfl⟩
  case round =>
    obtain ⟨k, sk, hk, rfl, rfl, HE, q, HD⟩ := hrel
    obtain rfl := HD.out
    clear HD
    by_cases hlt : k < n
    · obtain ⟨b, off, rfl, hbl, hat⟩ := HA.out (by omega)
      have cx : ∀ p, (W.drewN p).cell? ⟨bx, 8, none⟩ = some (.slice (some ⟨b, off, none⟩) n c) := fun p => HCX.out
      cases sk with
      | false =>
        have HZ := Lib.hid (allB_stop8 (n := n) hk HE.out)
        have hk1 : (k : Int) < (n : Int) := by omega
        go_wp2_with fail
        first | go_quiet (fail) | skip
        go_wp2
        have h := HN.out
        rw [HZ.out] at h
        apply h
      | true =>
        have hst : s = true := by
          have h := HE.out
          cases s with
          | false => exact absurd h (by simp)
          | true => rfl
        have hkm : k < m := by have := HS.out hst; omega
        obtain ⟨b2, off2, rfl, hbl2, hat2⟩ := HB.out (by omega)
        have cy : ∀ p, (W.drewN p).cell? ⟨bz, 8, none⟩ = some (.slice (some ⟨b2, off2, none⟩) m c') := fun p => HCY.out
        have hx := hat k hlt
        have hy := hat2 k hkm
        have HK : Hid (∀ x y (bb : Bool), x = X k → y = Y k → eqE x y = bb → bb = (s && allB (k + 1) (fun i => eqE (X i) (Y i)))) := Lib.hid (fun x y bb e1 e2 h => allB_step8 HE.out (by subst e1 e2; exact h))
        obtain ⟨x, hxe⟩ : ∃ x, x = X k := ⟨_, rfl⟩
        obtain ⟨y, hye⟩ : ∃ y, y = Y k := ⟨_, rfl⟩
        rw [← hxe] at hx
        rw [← hye] at hy
        have HK2 := Lib.hid (fun bb => HK.out x y bb hxe hye)
        clear hat hat2 hye HK HE hst
        obtain ⟨FA, fc, x0, x1, sx⟩ := hx
        obtain ⟨FB, fc', y0, y1, sy⟩ := hy
        have hlk : x.fs.length ≤ 1000 := by rw [hxe]; exact HLX.out k hlt
        have HK3 := Lib.hid (HK2.out _ rfl)
        unfold eqE at HK3
        have HEI := Lib.hid (eqE_in x.fs y.fs)
        clear HK2 hxe
        have z0 : ∀ q, (W.drewN q).cell? ⟨b, off + k * 2, none⟩ = some (.int .u64 x.at_) := fun q => x0
        have z1 : ∀ q, (W.drewN q).cell? ⟨b, off + k * 2 + 1, none⟩ = some (.slice FA x.fs.length fc) := fun q => x1
        have t0 : ∀ q, (W.drewN q).cell? ⟨b2, off2 + k * 2, none⟩ = some (.int .u64 y.at_) := fun q => y0
        have t1 : ∀ q, (W.drewN q).cell? ⟨b2, off2 + k * 2 + 1, none⟩ = some (.slice FB y.fs.length fc') := fun q => y1
        have SX : Hid (∀ q, Si (W.drewN q) FA x.fs.length fc x.fs) := Lib.hid (fun q => sx)
        have SY : Hid (∀ q, Si (W.drewN q) FB y.fs.length fc' y.fs) := Lib.hid (fun q => sy)
        clear x0 x1 y0 y1 sx sy
        generalize x.at_ = p0 at z0 HK3
        generalize y.at_ = q0 at t0 HK3
        generalize x.fs = l1 at z1 SX HK3 HEI hlk
        generalize y.fs = l2 at t1 SY HK3 HEI
        have hk0 : (0 : Int) ≤ (k : Int) := by omega
        have hk1 : (k : Int) < (n : Int) := by omega
        have hk2 : (k : Int) < (m : Int) := by omega
        obtain ⟨f1, hf1⟩ : ∃ f1, f1 = l1.length := ⟨_, rfl⟩
        obtain ⟨f2, hf2⟩ : ∃ f2, f2 = l2.length := ⟨_, rfl⟩
        rw [← hf1] at z1 SX hlk
        rw [← hf2] at t1 SY
        have HEI := Lib.hid (fun a => HEI.out a)
        rw [← hf1, ← hf2] at HEI
        clear hf1 hf2
        by_cases h0 : p0 = q0
        case neg =>
          have hc : (p0 == q0) = false := by simp [h0]
          have hd : decide (p0 = q0) = false := by simp [h0]
          rw [hd, Bool.false_and] at HK3
          clear h0 hd
          go_wp2_with fail
          go_quiet (fail)
          go_upto_block 14 with fail
          rename_i ha
          refine smLoop8i (s := false) (b2 := 0) (off2 := 0) (m := 0) (c' := 0) (f' := 0) (fc' := 0) (B := none) (l' := []) (b := b) (off := off) (A := FA) (fc := fc) (f := f1) (l := l1) ?c1 (fun h => absurd h (by decide)) ?c3 (fun h => absurd h (by decide)) ?c5 (fun h => absurd h (by decide)) (show k < n by omega) (fun h => absurd h (by decide)) hn (by omega) (by omega) (by omega) (fun h => absurd h (by decide)) (fun h => absurd h (by decide)) hlk (fun h => absurd h (by decide)) _ _ _ _ _ _ _ _ _ _ _ _ _ _ _ _ _ _ _ _ _ _ _ _ _ _ _ _ _ _ _ _ _ _ _ _ _ _ _ _ _ _ _ _ _ _ _ _ _ _ _ _ _ _ _ _ _ _ _ _ _ _ _ _ _ _ _ _ _ _ _ _ _ _ _ _ _ _ _ _ _ _ _ _ _ _ _ _ _ _ _ _ _ _ _ _ _ _ _ _ _ _ _ _ _ _ _ _ _ _ _ _ _ _ _ _ _ _ _ _ _ _ _ _ _ _ _ _ _ _ _ _ _ _ _ _ _ _ _ _ _ _ _ _ _ _ _ _ _ _ _ _ _ _ _ _ _ _ _ _ _ _ _ _ _ _ _ _ _ _ _ _ _ _ _ _ _ _ _ _ _ _ _ _ _ _ _ _ _ _ _ _ _ _ _ _ _ _ _ _ _ _ _ _ _ _ _ _ _ _ _ _ _ _ _ _ _ _ _ _ _ _ _ _ _ _ _ _ _ _ _ _ _ _ _ _ _ _ _ _ _ _ _ _ _ _ _ _ _ _ _ _ _ _ _ _ _ _ _ _ _ _ _ _ _ _ _ _ _ _ _ _ _ _ _ _ _ _ _ _ _ _ _ _ _ _ _ _ _ _ _ _ _ _ _ _ _ _ _ _ _ _ _ _ _ _ _ _ _ _ _ _ _ _ _ _ _ _ _ _ _ _ _ _ _ _ _ _ _ _ _ _ _ _ _ _ _ _ _ _ _ _ _ _ _ _ _ _ _ _ _ _ _ _ _ _ _ _ _ _ _ _ _ _ _ _ _ _ _ _ _ _ _ _ _ _ _ _ _ _ _ _ _ _ _ _ _ _ _ _ _ _ _ _ _ _ _ _ _ _ _ _ _ _ _ _ _ _ _ _ _ _ _ _ _ _ _ _ _ _ (fun _ _ _ _ _ _ _ _ _ _ _ _ _ _ _ _ _ _ _ _ _ _ _ _ _ _ _ _ _ _ _ _ _ _ qq => ?rest)
          case c1 => exact HCX.out
          case c3 => exact z1 0
          case c5 => exact SX.out 0
          case rest =>
          refine ha _ _ ?_
          go_wp2
          go_roundw
          case rel => exact ⟨k + 1, false, by omega, rfl, by go_num, HK3, _, Lib.hid rfl⟩
          case measure => simp [intOf]; omega
        subst h0
        have hd : decide (p0 = p0) = true := by simp
        rw [hd, Bool.true_and] at HK3
        clear hd
        have HEI := Lib.hid (HEI.out true)
        rw [Bool.true_and, Bool.true_and] at HEI
        by_cases h1 : f1 = f2
        case neg =>
          have hc : ((f1 : Int) == (f2 : Int)) = false := by simp; omega
          have hd : decide (f1 = f2) = false := by simp [h1]
          rw [hd, Bool.false_and] at HEI
          rw [← HEI.out] at HK3
          clear h1 hd HEI
          go_wp2_with fail
          go_quiet (fail)
          go_upto_block 14 with fail
          rename_i ha
          refine smLoop8i (s := false) (b2 := 0) (off2 := 0) (m := 0) (c' := 0) (f' := 0) (fc' := 0) (B := none) (l' := []) (b := b) (off := off) (A := FA) (fc := fc) (f := f1) (l := l1) ?c1 (fun h => absurd h (by decide)) ?c3 (fun h => absurd h (by decide)) ?c5 (fun h => absurd h (by decide)) (show k < n by omega) (fun h => absurd h (by decide)) hn (by omega) (by omega) (by omega) (fun h => absurd h (by decide)) (fun h => absurd h (by decide)) hlk (fun h => absurd h (by decide)) _ _ _ _ _ _ _ _ _ _ _ _ _ _ _ _ _ _ _ _ _ _ _ _ _ _ _ _ _ _ _ _ _ _ _ _ _ _ _ _ _ _ _ _ _ _ _ _ _ _ _ _ _ _ _ _ _ _ _ _ _ _ _ _ _ _ _ _ _ _ _ _ _ _ _ _ _ _ _ _ _ _ _ _ _ _ _ _ _ _ _ _ _ _ _ _ _ _ _ _ _ _ _ _ _ _ _ _ _ _ _ _ _ _ _ _ _ _ _ _ _ _ _ _ _ _ _ _ _ _ _ _ _ _ _ _ _ _ _ _ _ _ _ _ _ _ _ _ _ _ _ _ _ _ _ _ _ _ _ _ _ _ _ _ _ _ _ _ _ _ _ _ _ _ _ _ _ _ _ _ _ _ _ _ _ _ _ _ _ _ _ _ _ _ _ _ _ _ _ _ _ _ _ _ _ _ _ _ _ _ _ _ _ _ _ _ _ _ _ _ _ _ _ _ _ _ _ _ _ _ _ _ _ _ _ _ _ _ _ _ _ _ _ _ _ _ _ _ _ _ _ _ _ _ _ _ _ _ _ _ _ _ _ _ _ _ _ _ _ _ _ _ _ _ _ _ _ _ _ _ _ _ _ _ _ _ _ _ _ _ _ _ _ _ _ _ _ _ _ _ _ _ _ _ _ _ _ _ _ _ _ _ _ _ _ _ _ _ _ _ _ _ _ _ _ _ _ _ _ _ _ _ _ _ _ _ _ _ _ _ _ _ _ _ _ _ _ _ _ _ _ _ _ _ _ _ _ _ _ _ _ _ _ _ _ _ _ _ _ _ _ _ _ _ _ _ _ _ _ _ _ _ _ _ _ _ _ _ _ _ _ _ _ _ _ _ _ _ _ _ _ _ _ _ _ _ _ _ _ _ _ _ _ _ _ _ _ _ _ _ (fun _ _ _ _ _ _ _ _ _ _ _ _ _ _ _ _ _ _ _ _ _ _ _ _ _ _ _ _ _ _ _ _ _ _ qq => ?rest)
          case c1 => exact HCX.out
          case c3 => exact z1 0
          case c5 => exact SX.out 0
          case rest =>
          refine ha _ _ ?_
          go_wp2
          go_roundw
          case rel => exact ⟨k + 1, false, by omega, rfl, by go_num, HK3, _, Lib.hid rfl⟩
          case measure => simp [intOf]; omega
        subst h1
        have hd : decide (f1 = f1) = true := by simp
        rw [hd, Bool.true_and] at HEI
        rw [← HEI.out] at HK3
        clear hd HEI
        go_wp2_with fail
        go_quiet (fail)
        go_upto_block 14 with fail
        rename_i ha
        refine smLoop8i (s := true) (b := b) (off := off) (A := FA) (fc := fc) (f := f1) (l := l1) (b2 := b2) (off2 := off2) (m := m) (c' := c') (f' := f1) (fc' := fc') (B := FB) (l' := l2) ?c1 ?c2 ?c3 ?c4 ?c5 ?c6 (show k < n by omega) (fun _ => hkm) hn hm (by omega) (by omega) (fun _ => by omega) (fun _ => by omega) hlk (fun _ => rfl) _ _ _ _ _ _ _ _ _ _ _ _ _ _ _ _ _ _ _ _ _ _ _ _ _ _ _ _ _ _ _ _ _ _ _ _ _ _ _ _ _ _ _ _ _ _ _ _ _ _ _ _ _ _ _ _ _ _ _ _ _ _ _ _ _ _ _ _ _ _ _ _ _ _ _ _ _ _ _ _ _ _ _ _ _ _ _ _ _ _ _ _ _ _ _ _ _ _ _ _ _ _ _ _ _ _ _ _ _ _ _ _ _ _ _ _ _ _ _ _ _ _ _ _ _ _ _ _ _ _ _ _ _ _ _ _ _ _ _ _ _ _ _ _ _ _ _ _ _ _ _ _ _ _ _ _ _ _ _ _ _ _ _ _ _ _ _ _ _ _ _ _ _ _ _ _ _ _ _ _ _ _ _ _ _ _ _ _ _ _ _ _ _ _ _ _ _ _ _ _ _ _ _ _ _ _ _ _ _ _ _ _ _ _ _ _ _ _ _ _ _ _ _ _ _ _ _ _ _ _ _ _ _ _ _ _ _ _ _ _ _ _ _ _ _ _ _ _ _ _ _ _ _ _ _ _ _ _ _ _ _ _ _ _ _ _ _ _ _ _ _ _ _ _ _ _ _ _ _ _ _ _ _ _ _ _ _ _ _ _ _ _ _ _ _ _ _ _ _ _ _ _ _ _ _ _ _ _ _ _ _ _ _ _ _ _ _ _ _ _ _ _ _ _ _ _ _ _ _ _ _ _ _ _ _ _ _ _ _ _ _ _ _ _ _ _ _ _ _ _ _ _ _ _ _ _ _ _ _ _ _ _ _ _ _ _ _ _ _ _ _ _ _ _ _ _ _ _ _ _ _ _ _ _ _ _ _ _ _ _ _ _ _ _ _ _ _ _ _ _ _ _ _ _ _ _ _ _ _ _ _ _ _ _ _ _ _ _ _ _ (fun _ _ _ _ _ _ _ _ _ _ _ _ _ _ _ _ _ _ _ _ _ _ _ _ _ _ _ _ _ _ _ _ _ _ qq => ?rest)
        case c1 => exact HCX.out
        case c3 => exact z1 0
        case c5 => exact SX.out 0
        case c2 => exact fun _ => HCY.out
        case c4 => exact fun _ => t1 0
        case c6 => exact fun _ => SY.out 0
        case rest =>
        refine ha _ _ ?_
        go_wp2
        go_roundw
        case rel => exact ⟨k + 1, _, by omega, rfl, by go_num, HK3, _, Lib.hid rfl⟩
        case measure => simp [intOf]; omega
    · obtain rfl : n = k := by omega
      have cx : ∀ p, (W.drewN p).cell? ⟨bx, 8, none⟩ = some (.slice A n c) := fun p => HCX.out
      have h := HN.out
      rw [← HE.out] at h
      have HN2 := Lib.hid h
      clear h HN HE
      go_wp2_with fail
      try go_quiet (fail)
      go_wp2
      apply HN2.out
end Go.Proofs.Ytackompihengfaa
