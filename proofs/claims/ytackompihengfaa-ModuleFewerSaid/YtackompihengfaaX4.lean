/-
  Is there what an export tells of?
-/
import Derived.Test.YtackompihengfaaX1
import Derived.Test.YtackompihengfaaX3
import Derived.Test.YtackompihengfaaHa
import Derived.BigQuiet
import Derived.Deep.RegionHeld3
import Derived.BigGuard
import Derived.Test.YtackompihengfaaFc
namespace Go.Proofs.Ytackompihengfaa
open Go.RowKit Go.PlainAid
set_option linter.unusedVariables false
set_option linter.unusedSimpArgs false
def cntOf (na tab : Int) (n4 n5 : Nat) (kd : Int) : Int := if kd = 0 then na else if kd = 1 then (if 0 ≤ tab then 1 else 0) else if kd = 2 then (n4 : Int) else (n5 : Int)
def thB (na tab : Int) (n4 n5 : Nat) (kd ix : Int) : Bool := inB 4 kd && inB (cntOf na tab n4 n5 kd) ix
noncomputable def thCode : Code := ((Try.f77.body.bind (fromReg 5)).getD .skip)
theorem results77 : Try.f77.results = #[.tmp 4] := by kernel_rfl
set_option maxHeartbeats 4000000 in
set_option maxRecDepth 100000 in
theorem th_end {W : World} {bx b6 : Nat} {kd ix k0 k1 k2 k3 : Int} (x1 : W.drew.cell? ⟨bx, 1, none⟩ = some (.int .i64 kd)) (x2 : W.drew.cell? ⟨bx, 2, none⟩ = some (.int .i64 ix))
    (z0 : W.drew.cell? ⟨b6, 0, none⟩ = some (.int .i64 k0)) (z1 : W.drew.cell? ⟨b6, 1, none⟩ = some (.int .i64 k1)) (z2 : W.drew.cell? ⟨b6, 2, none⟩ = some (.int .i64 k2)) (z3 : W.drew.cell? ⟨b6, 3, none⟩ = some (.int .i64 k3))
    (s0 s1 s2 s4 s5 s7 s8 s9 s10 s11 s12 s13 s14 s15 s16 s17 s18 s19 s20 s21 s22 s23 s24 s25 s26 s27 s28 s29 s30 s31 s32 s33 s34 s35 s36 s37 : Value) (Q : Exit → Act → World → Prop)
    (hQ : ∀ (t : Array Value), t[4]? = some (.bool (inB 4 kd && inB (if kd = 0 then k0 else if kd = 1 then k1 else if kd = 2 then k2 else k3) ix)) → Q .ret ⟨t, []⟩ W.drew) :
    Code.wp Try.prog thCode Q ⟨#[s0, s1, s2, .pointer (some ⟨bx, 0, none⟩), s4, s5, .pointer (some ⟨b6, 0, none⟩), s7, s8, s9, s10, s11, s12, s13, s14, s15, s16, s17, s18, s19, s20, s21, s22, s23, s24, s25, s26, s27, s28, s29, s30, s31, s32, s33, s34, s35, s36, s37], []⟩ W := by
  have HQ := Lib.hid hQ
  have H1 : Hid (∀ W, Calls Try.prog 27 #[.int .i64 kd, .int .i64 4] W fun e w' => e = .returned (.bool (inB 4 kd)) ∧ W = w') := Lib.hid (fun W => within_any kd 4 W)
  clear hQ
  by_cases hin : 0 ≤ kd ∧ kd < 4
  case neg =>
    have hf : inB 4 kd = false := by
      unfold inB
      rw [Bool.and_eq_false_iff, decide_eq_false_iff_not, decide_eq_false_iff_not]
      omega
    rw [hf] at H1 HQ
    clear hin hf
    conv => arg 2; whnf
    go_wp2_with fail
    refine wp_region_noPanic ?_
    refine wp_region_held_drew (S := (fun W => W.cell? ⟨bx, 1, none⟩ = some (.int .i64 kd) ∧ W.cell? ⟨bx, 2, none⟩ = some (.int .i64 ix) ∧ W.cell? ⟨b6, 0, none⟩ = some (.int .i64 k0) ∧ W.cell? ⟨b6, 1, none⟩ = some (.int .i64 k1) ∧ W.cell? ⟨b6, 2, none⟩ = some (.int .i64 k2) ∧ W.cell? ⟨b6, 3, none⟩ = some (.int .i64 k3))) (by kernel_rfl) ⟨x1, x2, z0, z1, z2, z3⟩ (fun hHeld => ?_)
    refine wpAnyH_take (i := 0) (oi := ?oi_96) (v := ?_) ?hi_96 (by kernel_rfl) ?hf_96 (by kernel_rfl) ?hQ_96 ?hy_96 (by assumption) ?_
    case hi_96 => simp only [List.getElem?_toArray, List.getElem?_cons_zero, List.getElem?_cons_succ]; try rfl
    case hf_96 => kernel_rfl
    case hQ_96 => exact fun _ _ _ h => h
    case hy_96 =>
      refine Or.inl ⟨by rfl, ?_⟩
      intro W hSw
      obtain ⟨q0, q1, q2, q3, q4, q5⟩ := hSw
      go_simp
      try with_reducible rfl
    try simp only [Act.put, List.setIfInBounds_toArray, List.set_cons_zero, List.set_cons_succ]
    refine wpAnyH_take (i := 1) (oi := ?oi_97) (v := ?_) ?hi_97 (by kernel_rfl) ?hf_97 (by kernel_rfl) ?hQ_97 ?hy_97 (by assumption) ?_
    case hi_97 => simp only [List.getElem?_toArray, List.getElem?_cons_zero, List.getElem?_cons_succ]; try rfl
    case hf_97 => kernel_rfl
    case hQ_97 => exact fun _ _ _ h => h
    case hy_97 =>
      refine Or.inl ⟨by rfl, ?_⟩
      intro W hSw
      obtain ⟨q0, q1, q2, q3, q4, q5⟩ := hSw
      go_simp
      try with_reducible rfl
    try simp only [Act.put, List.setIfInBounds_toArray, List.set_cons_zero, List.set_cons_succ]
    refine wpAnyH_ready (rs := [2]) (by kernel_rfl) (by simp) ?_
    refine AllReadyH.cons (o := ?oi_98) ?hi_98 (fun K hK => ?_) AllReadyH.nil
    case hi_98 => simp only [List.getElem?_toArray, List.getElem?_cons_zero, List.getElem?_cons_succ]; try rfl
    go_simp
    (go_at_call 27
     (with_reducible refine (H1.out _).mono ?_)
     rintro e w7 ⟨rfl, rfl⟩)
    refine hK.out _ _ ⟨x1, x2, z0, z1, z2, z3⟩ (fun hHeld => ?_)
    clear hK K
    try simp only [Act.put, List.setIfInBounds_toArray, List.set_cons_zero, List.set_cons_succ]
    refine wpAnyH_take (i := 3) (oi := ?oi_99) (v := ?_) ?hi_99 (by kernel_rfl) ?hf_99 (by kernel_rfl) ?hQ_99 ?hy_99 (by assumption) ?_
    case hi_99 => simp only [List.getElem?_toArray, List.getElem?_cons_zero, List.getElem?_cons_succ]; try rfl
    case hf_99 => kernel_rfl
    case hQ_99 => exact fun _ _ _ h => h
    case hy_99 =>
      refine Or.inl ⟨by rfl, ?_⟩
      intro W hSw
      obtain ⟨q0, q1, q2, q3, q4, q5⟩ := hSw
      go_simp
      try with_reducible rfl
    try simp only [Act.put, List.setIfInBounds_toArray, List.set_cons_zero, List.set_cons_succ]
    refine wpAnyH_take (i := 4) (oi := ?oi_100) (v := undef) ?hi_100 (by kernel_rfl) ?hf_100 (by kernel_rfl) ?hQ_100 ?hy_100 (by assumption) ?_
    case hi_100 => simp only [List.getElem?_toArray, List.getElem?_cons_zero, List.getElem?_cons_succ]; try rfl
    case hf_100 => kernel_rfl
    case hQ_100 => exact fun _ _ _ h => h
    case hy_100 => exact Or.inr ⟨by rfl, rfl⟩
    try simp only [Act.put, List.setIfInBounds_toArray, List.set_cons_zero, List.set_cons_succ]
    refine wpAnyH_take (i := 5) (oi := ?oi_101) (v := undef) ?hi_101 (by kernel_rfl) ?hf_101 (by kernel_rfl) ?hQ_101 ?hy_101 (by assumption) ?_
    case hi_101 => simp only [List.getElem?_toArray, List.getElem?_cons_zero, List.getElem?_cons_succ]; try rfl
    case hf_101 => kernel_rfl
    case hQ_101 => exact fun _ _ _ h => h
    case hy_101 => exact Or.inr ⟨by rfl, rfl⟩
    try simp only [Act.put, List.setIfInBounds_toArray, List.set_cons_zero, List.set_cons_succ]
    refine wpAnyH_take (i := 6) (oi := ?oi_102) (v := undef) ?hi_102 (by kernel_rfl) ?hf_102 (by kernel_rfl) ?hQ_102 ?hy_102 (by assumption) ?_
    case hi_102 => simp only [List.getElem?_toArray, List.getElem?_cons_zero, List.getElem?_cons_succ]; try rfl
    case hf_102 => kernel_rfl
    case hQ_102 => exact fun _ _ _ h => h
    case hy_102 => exact Or.inr ⟨by rfl, rfl⟩
    try simp only [Act.put, List.setIfInBounds_toArray, List.set_cons_zero, List.set_cons_succ]
    refine wpAnyH_take (i := 7) (oi := ?oi_103) (v := undef) ?hi_103 (by kernel_rfl) ?hf_103 (by kernel_rfl) ?hQ_103 ?hy_103 (by assumption) ?_
    case hi_103 => simp only [List.getElem?_toArray, List.getElem?_cons_zero, List.getElem?_cons_succ]; try rfl
    case hf_103 => kernel_rfl
    case hQ_103 => exact fun _ _ _ h => h
    case hy_103 => exact Or.inr ⟨by rfl, rfl⟩
    try simp only [Act.put, List.setIfInBounds_toArray, List.set_cons_zero, List.set_cons_succ]
    refine wpAnyH_take (i := 8) (oi := ?oi_104) (v := undef) ?hi_104 (by kernel_rfl) ?hf_104 (by kernel_rfl) ?hQ_104 ?hy_104 (by assumption) ?_
    case hi_104 => simp only [List.getElem?_toArray, List.getElem?_cons_zero, List.getElem?_cons_succ]; try rfl
    case hf_104 => kernel_rfl
    case hQ_104 => exact fun _ _ _ h => h
    case hy_104 => exact Or.inr ⟨by rfl, rfl⟩
    try simp only [Act.put, List.setIfInBounds_toArray, List.set_cons_zero, List.set_cons_succ]
    refine wpAnyH_take (i := 9) (oi := ?oi_105) (v := undef) ?hi_105 (by kernel_rfl) ?hf_105 (by kernel_rfl) ?hQ_105 ?hy_105 (by assumption) ?_
    case hi_105 => simp only [List.getElem?_toArray, List.getElem?_cons_zero, List.getElem?_cons_succ]; try rfl
    case hf_105 => kernel_rfl
    case hQ_105 => exact fun _ _ _ h => h
    case hy_105 => exact Or.inr ⟨by rfl, rfl⟩
    try simp only [Act.put, List.setIfInBounds_toArray, List.set_cons_zero, List.set_cons_succ]
    refine wpAnyH_take (i := 10) (oi := ?oi_106) (v := undef) ?hi_106 (by kernel_rfl) ?hf_106 (by kernel_rfl) ?hQ_106 ?hy_106 (by assumption) ?_
    case hi_106 => simp only [List.getElem?_toArray, List.getElem?_cons_zero, List.getElem?_cons_succ]; try rfl
    case hf_106 => kernel_rfl
    case hQ_106 => exact fun _ _ _ h => h
    case hy_106 => exact Or.inr ⟨by rfl, rfl⟩
    try simp only [Act.put, List.setIfInBounds_toArray, List.set_cons_zero, List.set_cons_succ]
    refine wpAnyH_take (i := 11) (oi := ?oi_107) (v := ?_) ?hi_107 (by kernel_rfl) ?hf_107 (by kernel_rfl) ?hQ_107 ?hy_107 (by assumption) ?_
    case hi_107 => simp only [List.getElem?_toArray, List.getElem?_cons_zero, List.getElem?_cons_succ]; try rfl
    case hf_107 => kernel_rfl
    case hQ_107 => exact fun _ _ _ h => h
    case hy_107 =>
      refine Or.inl ⟨by rfl, ?_⟩
      intro W hSw
      obtain ⟨q0, q1, q2, q3, q4, q5⟩ := hSw
      go_simp
      try with_reducible rfl
    try simp only [Act.put, List.setIfInBounds_toArray, List.set_cons_zero, List.set_cons_succ]
    refine wpAnyH_take (i := 12) (oi := ?oi_108) (v := ?_) ?hi_108 (by kernel_rfl) ?hf_108 (by kernel_rfl) ?hQ_108 ?hy_108 (by assumption) ?_
    case hi_108 => simp only [List.getElem?_toArray, List.getElem?_cons_zero, List.getElem?_cons_succ]; try rfl
    case hf_108 => kernel_rfl
    case hQ_108 => exact fun _ _ _ h => h
    case hy_108 =>
      refine Or.inl ⟨by rfl, ?_⟩
      intro W hSw
      obtain ⟨q0, q1, q2, q3, q4, q5⟩ := hSw
      go_simp
      try with_reducible rfl
    try simp only [Act.put, List.setIfInBounds_toArray, List.set_cons_zero, List.set_cons_succ]
    refine wpAnyH_done (by kernel_rfl) ?_ _
    refine NoPanic.normal ?_
    clear hHeld
    go_wp2
    apply HQ.out
    rfl
  obtain ⟨ha, hb⟩ := hin
  have hd : kd = 0 ∨ kd = 1 ∨ kd = 2 ∨ kd = 3 := by omega
  clear ha hb
  rcases hd with rfl | rfl | rfl | rfl
  · have H2 : Hid (∀ W, Calls Try.prog 27 #[.int .i64 ix, .int .i64 k0] W fun e w' => e = .returned (.bool (inB k0 ix)) ∧ W = w') := Lib.hid (fun W => within_any ix k0 W)
    have HQ2 : Hid (∀ (t : Array Value), t[4]? = some (.bool (inB k0 ix)) → Q .ret ⟨t, []⟩ W.drew) := Lib.hid (fun t h => HQ.out t (by rw [h]; simp [inB]))
    have H1b : Hid (∀ W, Calls Try.prog 27 #[.int .i64 0, .int .i64 4] W fun e w' => e = .returned (.bool true) ∧ W = w') := Lib.hid (fun W => within_any 0 4 W)
    clear HQ H1
    have H1 := H1b
    clear H1b
    generalize inB k0 ix = q at H2 HQ2
    conv => arg 2; whnf
    go_wp2_with fail
    refine wp_region_noPanic ?_
    refine wp_region_held_drew (S := (fun W => W.cell? ⟨bx, 1, none⟩ = some (.int .i64 0) ∧ W.cell? ⟨bx, 2, none⟩ = some (.int .i64 ix) ∧ W.cell? ⟨b6, 0, none⟩ = some (.int .i64 k0) ∧ W.cell? ⟨b6, 1, none⟩ = some (.int .i64 k1) ∧ W.cell? ⟨b6, 2, none⟩ = some (.int .i64 k2) ∧ W.cell? ⟨b6, 3, none⟩ = some (.int .i64 k3))) (by kernel_rfl) ⟨x1, x2, z0, z1, z2, z3⟩ (fun hHeld => ?_)
    refine wpAnyH_take (i := 0) (oi := ?oi_109) (v := ?_) ?hi_109 (by kernel_rfl) ?hf_109 (by kernel_rfl) ?hQ_109 ?hy_109 (by assumption) ?_
    case hi_109 => simp only [List.getElem?_toArray, List.getElem?_cons_zero, List.getElem?_cons_succ]; try rfl
    case hf_109 => kernel_rfl
    case hQ_109 => exact fun _ _ _ h => h
    case hy_109 =>
      refine Or.inl ⟨by rfl, ?_⟩
      intro W hSw
      obtain ⟨q0, q1, q2, q3, q4, q5⟩ := hSw
      go_simp
      try with_reducible rfl
    try simp only [Act.put, List.setIfInBounds_toArray, List.set_cons_zero, List.set_cons_succ]
    refine wpAnyH_take (i := 1) (oi := ?oi_110) (v := ?_) ?hi_110 (by kernel_rfl) ?hf_110 (by kernel_rfl) ?hQ_110 ?hy_110 (by assumption) ?_
    case hi_110 => simp only [List.getElem?_toArray, List.getElem?_cons_zero, List.getElem?_cons_succ]; try rfl
    case hf_110 => kernel_rfl
    case hQ_110 => exact fun _ _ _ h => h
    case hy_110 =>
      refine Or.inl ⟨by rfl, ?_⟩
      intro W hSw
      obtain ⟨q0, q1, q2, q3, q4, q5⟩ := hSw
      go_simp
      try with_reducible rfl
    try simp only [Act.put, List.setIfInBounds_toArray, List.set_cons_zero, List.set_cons_succ]
    refine wpAnyH_ready (rs := [2]) (by kernel_rfl) (by simp) ?_
    refine AllReadyH.cons (o := ?oi_111) ?hi_111 (fun K hK => ?_) AllReadyH.nil
    case hi_111 => simp only [List.getElem?_toArray, List.getElem?_cons_zero, List.getElem?_cons_succ]; try rfl
    go_simp
    (go_at_call 27
     (with_reducible refine (H1.out _).mono ?_)
     rintro e w7 ⟨rfl, rfl⟩)
    refine hK.out _ _ ⟨x1, x2, z0, z1, z2, z3⟩ (fun hHeld => ?_)
    clear hK K
    try simp only [Act.put, List.setIfInBounds_toArray, List.set_cons_zero, List.set_cons_succ]
    refine wpAnyH_take (i := 3) (oi := ?oi_112) (v := ?_) ?hi_112 (by kernel_rfl) ?hf_112 (by kernel_rfl) ?hQ_112 ?hy_112 (by assumption) ?_
    case hi_112 => simp only [List.getElem?_toArray, List.getElem?_cons_zero, List.getElem?_cons_succ]; try rfl
    case hf_112 => kernel_rfl
    case hQ_112 => exact fun _ _ _ h => h
    case hy_112 =>
      refine Or.inl ⟨by rfl, ?_⟩
      intro W hSw
      obtain ⟨q0, q1, q2, q3, q4, q5⟩ := hSw
      go_simp
      try with_reducible rfl
    try simp only [Act.put, List.setIfInBounds_toArray, List.set_cons_zero, List.set_cons_succ]
    refine wpAnyH_take (i := 4) (oi := ?oi_113) (v := ?_) ?hi_113 (by kernel_rfl) ?hf_113 (by kernel_rfl) ?hQ_113 ?hy_113 (by assumption) ?_
    case hi_113 => simp only [List.getElem?_toArray, List.getElem?_cons_zero, List.getElem?_cons_succ]; try rfl
    case hf_113 => kernel_rfl
    case hQ_113 => exact fun _ _ _ h => h
    case hy_113 =>
      refine Or.inl ⟨by rfl, ?_⟩
      intro W hSw
      obtain ⟨q0, q1, q2, q3, q4, q5⟩ := hSw
      go_simp
      try with_reducible rfl
    try simp only [Act.put, List.setIfInBounds_toArray, List.set_cons_zero, List.set_cons_succ]
    refine wpAnyH_take (i := 5) (oi := ?oi_114) (v := ?_) ?hi_114 (by kernel_rfl) ?hf_114 (by kernel_rfl) ?hQ_114 ?hy_114 (by assumption) ?_
    case hi_114 => simp only [List.getElem?_toArray, List.getElem?_cons_zero, List.getElem?_cons_succ]; try rfl
    case hf_114 => kernel_rfl
    case hQ_114 => exact fun _ _ _ h => h
    case hy_114 =>
      refine Or.inl ⟨by rfl, ?_⟩
      intro W hSw
      obtain ⟨q0, q1, q2, q3, q4, q5⟩ := hSw
      go_simp
      try with_reducible rfl
    try simp only [Act.put, List.setIfInBounds_toArray, List.set_cons_zero, List.set_cons_succ]
    refine wpAnyH_take (i := 6) (oi := ?oi_115) (v := ?_) ?hi_115 (by kernel_rfl) ?hf_115 (by kernel_rfl) ?hQ_115 ?hy_115 (by assumption) ?_
    case hi_115 => simp only [List.getElem?_toArray, List.getElem?_cons_zero, List.getElem?_cons_succ]; try rfl
    case hf_115 => kernel_rfl
    case hQ_115 => exact fun _ _ _ h => h
    case hy_115 =>
      refine Or.inl ⟨by rfl, ?_⟩
      intro W hSw
      obtain ⟨q0, q1, q2, q3, q4, q5⟩ := hSw
      go_simp
      try with_reducible rfl
    try simp only [Act.put, List.setIfInBounds_toArray, List.set_cons_zero, List.set_cons_succ]
    refine wpAnyH_take (i := 7) (oi := ?oi_116) (v := ?_) ?hi_116 (by kernel_rfl) ?hf_116 (by kernel_rfl) ?hQ_116 ?hy_116 (by assumption) ?_
    case hi_116 => simp only [List.getElem?_toArray, List.getElem?_cons_zero, List.getElem?_cons_succ]; try rfl
    case hf_116 => kernel_rfl
    case hQ_116 => exact fun _ _ _ h => h
    case hy_116 =>
      refine Or.inl ⟨by rfl, ?_⟩
      intro W hSw
      obtain ⟨q0, q1, q2, q3, q4, q5⟩ := hSw
      go_simp
      try with_reducible rfl
    try simp only [Act.put, List.setIfInBounds_toArray, List.set_cons_zero, List.set_cons_succ]
    refine wpAnyH_take (i := 8) (oi := ?oi_117) (v := ?_) ?hi_117 (by kernel_rfl) ?hf_117 (by kernel_rfl) ?hQ_117 ?hy_117 (by assumption) ?_
    case hi_117 => simp only [List.getElem?_toArray, List.getElem?_cons_zero, List.getElem?_cons_succ]; try rfl
    case hf_117 => kernel_rfl
    case hQ_117 => exact fun _ _ _ h => h
    case hy_117 =>
      refine Or.inl ⟨by rfl, ?_⟩
      intro W hSw
      obtain ⟨q0, q1, q2, q3, q4, q5⟩ := hSw
      go_simp
      try with_reducible rfl
    try simp only [Act.put, List.setIfInBounds_toArray, List.set_cons_zero, List.set_cons_succ]
    refine wpAnyH_take (i := 9) (oi := ?oi_118) (v := ?_) ?hi_118 (by kernel_rfl) ?hf_118 (by kernel_rfl) ?hQ_118 ?hy_118 (by assumption) ?_
    case hi_118 => simp only [List.getElem?_toArray, List.getElem?_cons_zero, List.getElem?_cons_succ]; try rfl
    case hf_118 => kernel_rfl
    case hQ_118 => exact fun _ _ _ h => h
    case hy_118 =>
      refine Or.inl ⟨by rfl, ?_⟩
      intro W hSw
      obtain ⟨q0, q1, q2, q3, q4, q5⟩ := hSw
      go_simp
      try with_reducible rfl
    try simp only [Act.put, List.setIfInBounds_toArray, List.set_cons_zero, List.set_cons_succ]
    refine wpAnyH_ready (rs := [10]) (by kernel_rfl) (by simp) ?_
    refine AllReadyH.cons (o := ?oi_119) ?hi_119 (fun K hK => ?_) AllReadyH.nil
    case hi_119 => simp only [List.getElem?_toArray, List.getElem?_cons_zero, List.getElem?_cons_succ]; try rfl
    go_simp
    (go_at_call 27
     (with_reducible refine (H2.out _).mono ?_)
     rintro e w7 ⟨rfl, rfl⟩)
    refine hK.out _ _ ⟨x1, x2, z0, z1, z2, z3⟩ (fun hHeld => ?_)
    clear hK K
    try simp only [Act.put, List.setIfInBounds_toArray, List.set_cons_zero, List.set_cons_succ]
    refine wpAnyH_take (i := 11) (oi := ?oi_120) (v := ?_) ?hi_120 (by kernel_rfl) ?hf_120 (by kernel_rfl) ?hQ_120 ?hy_120 (by assumption) ?_
    case hi_120 => simp only [List.getElem?_toArray, List.getElem?_cons_zero, List.getElem?_cons_succ]; try rfl
    case hf_120 => kernel_rfl
    case hQ_120 => exact fun _ _ _ h => h
    case hy_120 =>
      refine Or.inl ⟨by rfl, ?_⟩
      intro W hSw
      obtain ⟨q0, q1, q2, q3, q4, q5⟩ := hSw
      go_simp
      try with_reducible rfl
    try simp only [Act.put, List.setIfInBounds_toArray, List.set_cons_zero, List.set_cons_succ]
    refine wpAnyH_take (i := 12) (oi := ?oi_121) (v := ?_) ?hi_121 (by kernel_rfl) ?hf_121 (by kernel_rfl) ?hQ_121 ?hy_121 (by assumption) ?_
    case hi_121 => simp only [List.getElem?_toArray, List.getElem?_cons_zero, List.getElem?_cons_succ]; try rfl
    case hf_121 => kernel_rfl
    case hQ_121 => exact fun _ _ _ h => h
    case hy_121 =>
      refine Or.inl ⟨by rfl, ?_⟩
      intro W hSw
      obtain ⟨q0, q1, q2, q3, q4, q5⟩ := hSw
      go_simp
      try with_reducible rfl
    try simp only [Act.put, List.setIfInBounds_toArray, List.set_cons_zero, List.set_cons_succ]
    refine wpAnyH_done (by kernel_rfl) ?_ _
    refine NoPanic.normal ?_
    clear hHeld
    go_wp2
    apply HQ2.out
    rfl
  · have H2 : Hid (∀ W, Calls Try.prog 27 #[.int .i64 ix, .int .i64 k1] W fun e w' => e = .returned (.bool (inB k1 ix)) ∧ W = w') := Lib.hid (fun W => within_any ix k1 W)
    have HQ2 : Hid (∀ (t : Array Value), t[4]? = some (.bool (inB k1 ix)) → Q .ret ⟨t, []⟩ W.drew) := Lib.hid (fun t h => HQ.out t (by rw [h]; simp [inB]))
    have H1b : Hid (∀ W, Calls Try.prog 27 #[.int .i64 1, .int .i64 4] W fun e w' => e = .returned (.bool true) ∧ W = w') := Lib.hid (fun W => within_any 1 4 W)
    clear HQ H1
    have H1 := H1b
    clear H1b
    generalize inB k1 ix = q at H2 HQ2
    conv => arg 2; whnf
    go_wp2_with fail
    refine wp_region_noPanic ?_
    refine wp_region_held_drew (S := (fun W => W.cell? ⟨bx, 1, none⟩ = some (.int .i64 1) ∧ W.cell? ⟨bx, 2, none⟩ = some (.int .i64 ix) ∧ W.cell? ⟨b6, 0, none⟩ = some (.int .i64 k0) ∧ W.cell? ⟨b6, 1, none⟩ = some (.int .i64 k1) ∧ W.cell? ⟨b6, 2, none⟩ = some (.int .i64 k2) ∧ W.cell? ⟨b6, 3, none⟩ = some (.int .i64 k3))) (by kernel_rfl) ⟨x1, x2, z0, z1, z2, z3⟩ (fun hHeld => ?_)
    refine wpAnyH_take (i := 0) (oi := ?oi_122) (v := ?_) ?hi_122 (by kernel_rfl) ?hf_122 (by kernel_rfl) ?hQ_122 ?hy_122 (by assumption) ?_
    case hi_122 => simp only [List.getElem?_toArray, List.getElem?_cons_zero, List.getElem?_cons_succ]; try rfl
    case hf_122 => kernel_rfl
    case hQ_122 => exact fun _ _ _ h => h
    case hy_122 =>
      refine Or.inl ⟨by rfl, ?_⟩
      intro W hSw
      obtain ⟨q0, q1, q2, q3, q4, q5⟩ := hSw
      go_simp
      try with_reducible rfl
    try simp only [Act.put, List.setIfInBounds_toArray, List.set_cons_zero, List.set_cons_succ]
    refine wpAnyH_take (i := 1) (oi := ?oi_123) (v := ?_) ?hi_123 (by kernel_rfl) ?hf_123 (by kernel_rfl) ?hQ_123 ?hy_123 (by assumption) ?_
    case hi_123 => simp only [List.getElem?_toArray, List.getElem?_cons_zero, List.getElem?_cons_succ]; try rfl
    case hf_123 => kernel_rfl
    case hQ_123 => exact fun _ _ _ h => h
    case hy_123 =>
      refine Or.inl ⟨by rfl, ?_⟩
      intro W hSw
      obtain ⟨q0, q1, q2, q3, q4, q5⟩ := hSw
      go_simp
      try with_reducible rfl
    try simp only [Act.put, List.setIfInBounds_toArray, List.set_cons_zero, List.set_cons_succ]
    refine wpAnyH_ready (rs := [2]) (by kernel_rfl) (by simp) ?_
    refine AllReadyH.cons (o := ?oi_124) ?hi_124 (fun K hK => ?_) AllReadyH.nil
    case hi_124 => simp only [List.getElem?_toArray, List.getElem?_cons_zero, List.getElem?_cons_succ]; try rfl
    go_simp
    (go_at_call 27
     (with_reducible refine (H1.out _).mono ?_)
     rintro e w7 ⟨rfl, rfl⟩)
    refine hK.out _ _ ⟨x1, x2, z0, z1, z2, z3⟩ (fun hHeld => ?_)
    clear hK K
    try simp only [Act.put, List.setIfInBounds_toArray, List.set_cons_zero, List.set_cons_succ]
    refine wpAnyH_take (i := 3) (oi := ?oi_125) (v := ?_) ?hi_125 (by kernel_rfl) ?hf_125 (by kernel_rfl) ?hQ_125 ?hy_125 (by assumption) ?_
    case hi_125 => simp only [List.getElem?_toArray, List.getElem?_cons_zero, List.getElem?_cons_succ]; try rfl
    case hf_125 => kernel_rfl
    case hQ_125 => exact fun _ _ _ h => h
    case hy_125 =>
      refine Or.inl ⟨by rfl, ?_⟩
      intro W hSw
      obtain ⟨q0, q1, q2, q3, q4, q5⟩ := hSw
      go_simp
      try with_reducible rfl
    try simp only [Act.put, List.setIfInBounds_toArray, List.set_cons_zero, List.set_cons_succ]
    refine wpAnyH_take (i := 4) (oi := ?oi_126) (v := ?_) ?hi_126 (by kernel_rfl) ?hf_126 (by kernel_rfl) ?hQ_126 ?hy_126 (by assumption) ?_
    case hi_126 => simp only [List.getElem?_toArray, List.getElem?_cons_zero, List.getElem?_cons_succ]; try rfl
    case hf_126 => kernel_rfl
    case hQ_126 => exact fun _ _ _ h => h
    case hy_126 =>
      refine Or.inl ⟨by rfl, ?_⟩
      intro W hSw
      obtain ⟨q0, q1, q2, q3, q4, q5⟩ := hSw
      go_simp
      try with_reducible rfl
    try simp only [Act.put, List.setIfInBounds_toArray, List.set_cons_zero, List.set_cons_succ]
    refine wpAnyH_take (i := 5) (oi := ?oi_127) (v := ?_) ?hi_127 (by kernel_rfl) ?hf_127 (by kernel_rfl) ?hQ_127 ?hy_127 (by assumption) ?_
    case hi_127 => simp only [List.getElem?_toArray, List.getElem?_cons_zero, List.getElem?_cons_succ]; try rfl
    case hf_127 => kernel_rfl
    case hQ_127 => exact fun _ _ _ h => h
    case hy_127 =>
      refine Or.inl ⟨by rfl, ?_⟩
      intro W hSw
      obtain ⟨q0, q1, q2, q3, q4, q5⟩ := hSw
      go_simp
      try with_reducible rfl
    try simp only [Act.put, List.setIfInBounds_toArray, List.set_cons_zero, List.set_cons_succ]
    refine wpAnyH_take (i := 6) (oi := ?oi_128) (v := ?_) ?hi_128 (by kernel_rfl) ?hf_128 (by kernel_rfl) ?hQ_128 ?hy_128 (by assumption) ?_
    case hi_128 => simp only [List.getElem?_toArray, List.getElem?_cons_zero, List.getElem?_cons_succ]; try rfl
    case hf_128 => kernel_rfl
    case hQ_128 => exact fun _ _ _ h => h
    case hy_128 =>
      refine Or.inl ⟨by rfl, ?_⟩
      intro W hSw
      obtain ⟨q0, q1, q2, q3, q4, q5⟩ := hSw
      go_simp
      try with_reducible rfl
    try simp only [Act.put, List.setIfInBounds_toArray, List.set_cons_zero, List.set_cons_succ]
    refine wpAnyH_take (i := 7) (oi := ?oi_129) (v := ?_) ?hi_129 (by kernel_rfl) ?hf_129 (by kernel_rfl) ?hQ_129 ?hy_129 (by assumption) ?_
    case hi_129 => simp only [List.getElem?_toArray, List.getElem?_cons_zero, List.getElem?_cons_succ]; try rfl
    case hf_129 => kernel_rfl
    case hQ_129 => exact fun _ _ _ h => h
    case hy_129 =>
      refine Or.inl ⟨by rfl, ?_⟩
      intro W hSw
      obtain ⟨q0, q1, q2, q3, q4, q5⟩ := hSw
      go_simp
      try with_reducible rfl
    try simp only [Act.put, List.setIfInBounds_toArray, List.set_cons_zero, List.set_cons_succ]
    refine wpAnyH_take (i := 8) (oi := ?oi_130) (v := ?_) ?hi_130 (by kernel_rfl) ?hf_130 (by kernel_rfl) ?hQ_130 ?hy_130 (by assumption) ?_
    case hi_130 => simp only [List.getElem?_toArray, List.getElem?_cons_zero, List.getElem?_cons_succ]; try rfl
    case hf_130 => kernel_rfl
    case hQ_130 => exact fun _ _ _ h => h
    case hy_130 =>
      refine Or.inl ⟨by rfl, ?_⟩
      intro W hSw
      obtain ⟨q0, q1, q2, q3, q4, q5⟩ := hSw
      go_simp
      try with_reducible rfl
    try simp only [Act.put, List.setIfInBounds_toArray, List.set_cons_zero, List.set_cons_succ]
    refine wpAnyH_take (i := 9) (oi := ?oi_131) (v := ?_) ?hi_131 (by kernel_rfl) ?hf_131 (by kernel_rfl) ?hQ_131 ?hy_131 (by assumption) ?_
    case hi_131 => simp only [List.getElem?_toArray, List.getElem?_cons_zero, List.getElem?_cons_succ]; try rfl
    case hf_131 => kernel_rfl
    case hQ_131 => exact fun _ _ _ h => h
    case hy_131 =>
      refine Or.inl ⟨by rfl, ?_⟩
      intro W hSw
      obtain ⟨q0, q1, q2, q3, q4, q5⟩ := hSw
      go_simp
      try with_reducible rfl
    try simp only [Act.put, List.setIfInBounds_toArray, List.set_cons_zero, List.set_cons_succ]
    refine wpAnyH_ready (rs := [10]) (by kernel_rfl) (by simp) ?_
    refine AllReadyH.cons (o := ?oi_132) ?hi_132 (fun K hK => ?_) AllReadyH.nil
    case hi_132 => simp only [List.getElem?_toArray, List.getElem?_cons_zero, List.getElem?_cons_succ]; try rfl
    go_simp
    (go_at_call 27
     (with_reducible refine (H2.out _).mono ?_)
     rintro e w7 ⟨rfl, rfl⟩)
    refine hK.out _ _ ⟨x1, x2, z0, z1, z2, z3⟩ (fun hHeld => ?_)
    clear hK K
    try simp only [Act.put, List.setIfInBounds_toArray, List.set_cons_zero, List.set_cons_succ]
    refine wpAnyH_take (i := 11) (oi := ?oi_133) (v := ?_) ?hi_133 (by kernel_rfl) ?hf_133 (by kernel_rfl) ?hQ_133 ?hy_133 (by assumption) ?_
    case hi_133 => simp only [List.getElem?_toArray, List.getElem?_cons_zero, List.getElem?_cons_succ]; try rfl
    case hf_133 => kernel_rfl
    case hQ_133 => exact fun _ _ _ h => h
    case hy_133 =>
      refine Or.inl ⟨by rfl, ?_⟩
      intro W hSw
      obtain ⟨q0, q1, q2, q3, q4, q5⟩ := hSw
      go_simp
      try with_reducible rfl
    try simp only [Act.put, List.setIfInBounds_toArray, List.set_cons_zero, List.set_cons_succ]
    refine wpAnyH_take (i := 12) (oi := ?oi_134) (v := ?_) ?hi_134 (by kernel_rfl) ?hf_134 (by kernel_rfl) ?hQ_134 ?hy_134 (by assumption) ?_
    case hi_134 => simp only [List.getElem?_toArray, List.getElem?_cons_zero, List.getElem?_cons_succ]; try rfl
    case hf_134 => kernel_rfl
    case hQ_134 => exact fun _ _ _ h => h
    case hy_134 =>
      refine Or.inl ⟨by rfl, ?_⟩
      intro W hSw
      obtain ⟨q0, q1, q2, q3, q4, q5⟩ := hSw
      go_simp
      try with_reducible rfl
    try simp only [Act.put, List.setIfInBounds_toArray, List.set_cons_zero, List.set_cons_succ]
    refine wpAnyH_done (by kernel_rfl) ?_ _
    refine NoPanic.normal ?_
    clear hHeld
    go_wp2
    apply HQ2.out
    rfl
  · have H2 : Hid (∀ W, Calls Try.prog 27 #[.int .i64 ix, .int .i64 k2] W fun e w' => e = .returned (.bool (inB k2 ix)) ∧ W = w') := Lib.hid (fun W => within_any ix k2 W)
    have HQ2 : Hid (∀ (t : Array Value), t[4]? = some (.bool (inB k2 ix)) → Q .ret ⟨t, []⟩ W.drew) := Lib.hid (fun t h => HQ.out t (by rw [h]; simp [inB]))
    have H1b : Hid (∀ W, Calls Try.prog 27 #[.int .i64 2, .int .i64 4] W fun e w' => e = .returned (.bool true) ∧ W = w') := Lib.hid (fun W => within_any 2 4 W)
    clear HQ H1
    have H1 := H1b
    clear H1b
    generalize inB k2 ix = q at H2 HQ2
    conv => arg 2; whnf
    go_wp2_with fail
    refine wp_region_noPanic ?_
    refine wp_region_held_drew (S := (fun W => W.cell? ⟨bx, 1, none⟩ = some (.int .i64 2) ∧ W.cell? ⟨bx, 2, none⟩ = some (.int .i64 ix) ∧ W.cell? ⟨b6, 0, none⟩ = some (.int .i64 k0) ∧ W.cell? ⟨b6, 1, none⟩ = some (.int .i64 k1) ∧ W.cell? ⟨b6, 2, none⟩ = some (.int .i64 k2) ∧ W.cell? ⟨b6, 3, none⟩ = some (.int .i64 k3))) (by kernel_rfl) ⟨x1, x2, z0, z1, z2, z3⟩ (fun hHeld => ?_)
    refine wpAnyH_take (i := 0) (oi := ?oi_135) (v := ?_) ?hi_135 (by kernel_rfl) ?hf_135 (by kernel_rfl) ?hQ_135 ?hy_135 (by assumption) ?_
    case hi_135 => simp only [List.getElem?_toArray, List.getElem?_cons_zero, List.getElem?_cons_succ]; try rfl
    case hf_135 => kernel_rfl
    case hQ_135 => exact fun _ _ _ h => h
    case hy_135 =>
      refine Or.inl ⟨by rfl, ?_⟩
      intro W hSw
      obtain ⟨q0, q1, q2, q3, q4, q5⟩ := hSw
      go_simp
      try with_reducible rfl
    try simp only [Act.put, List.setIfInBounds_toArray, List.set_cons_zero, List.set_cons_succ]
    refine wpAnyH_take (i := 1) (oi := ?oi_136) (v := ?_) ?hi_136 (by kernel_rfl) ?hf_136 (by kernel_rfl) ?hQ_136 ?hy_136 (by assumption) ?_
    case hi_136 => simp only [List.getElem?_toArray, List.getElem?_cons_zero, List.getElem?_cons_succ]; try rfl
    case hf_136 => kernel_rfl
    case hQ_136 => exact fun _ _ _ h => h
    case hy_136 =>
      refine Or.inl ⟨by rfl, ?_⟩
      intro W hSw
      obtain ⟨q0, q1, q2, q3, q4, q5⟩ := hSw
      go_simp
      try with_reducible rfl
    try simp only [Act.put, List.setIfInBounds_toArray, List.set_cons_zero, List.set_cons_succ]
    refine wpAnyH_ready (rs := [2]) (by kernel_rfl) (by simp) ?_
    refine AllReadyH.cons (o := ?oi_137) ?hi_137 (fun K hK => ?_) AllReadyH.nil
    case hi_137 => simp only [List.getElem?_toArray, List.getElem?_cons_zero, List.getElem?_cons_succ]; try rfl
    go_simp
    (go_at_call 27
     (with_reducible refine (H1.out _).mono ?_)
     rintro e w7 ⟨rfl, rfl⟩)
    refine hK.out _ _ ⟨x1, x2, z0, z1, z2, z3⟩ (fun hHeld => ?_)
    clear hK K
    try simp only [Act.put, List.setIfInBounds_toArray, List.set_cons_zero, List.set_cons_succ]
    refine wpAnyH_take (i := 3) (oi := ?oi_138) (v := ?_) ?hi_138 (by kernel_rfl) ?hf_138 (by kernel_rfl) ?hQ_138 ?hy_138 (by assumption) ?_
    case hi_138 => simp only [List.getElem?_toArray, List.getElem?_cons_zero, List.getElem?_cons_succ]; try rfl
    case hf_138 => kernel_rfl
    case hQ_138 => exact fun _ _ _ h => h
    case hy_138 =>
      refine Or.inl ⟨by rfl, ?_⟩
      intro W hSw
      obtain ⟨q0, q1, q2, q3, q4, q5⟩ := hSw
      go_simp
      try with_reducible rfl
    try simp only [Act.put, List.setIfInBounds_toArray, List.set_cons_zero, List.set_cons_succ]
    refine wpAnyH_take (i := 4) (oi := ?oi_139) (v := ?_) ?hi_139 (by kernel_rfl) ?hf_139 (by kernel_rfl) ?hQ_139 ?hy_139 (by assumption) ?_
    case hi_139 => simp only [List.getElem?_toArray, List.getElem?_cons_zero, List.getElem?_cons_succ]; try rfl
    case hf_139 => kernel_rfl
    case hQ_139 => exact fun _ _ _ h => h
    case hy_139 =>
      refine Or.inl ⟨by rfl, ?_⟩
      intro W hSw
      obtain ⟨q0, q1, q2, q3, q4, q5⟩ := hSw
      go_simp
      try with_reducible rfl
    try simp only [Act.put, List.setIfInBounds_toArray, List.set_cons_zero, List.set_cons_succ]
    refine wpAnyH_take (i := 5) (oi := ?oi_140) (v := ?_) ?hi_140 (by kernel_rfl) ?hf_140 (by kernel_rfl) ?hQ_140 ?hy_140 (by assumption) ?_
    case hi_140 => simp only [List.getElem?_toArray, List.getElem?_cons_zero, List.getElem?_cons_succ]; try rfl
    case hf_140 => kernel_rfl
    case hQ_140 => exact fun _ _ _ h => h
    case hy_140 =>
      refine Or.inl ⟨by rfl, ?_⟩
      intro W hSw
      obtain ⟨q0, q1, q2, q3, q4, q5⟩ := hSw
      go_simp
      try with_reducible rfl
    try simp only [Act.put, List.setIfInBounds_toArray, List.set_cons_zero, List.set_cons_succ]
    refine wpAnyH_take (i := 6) (oi := ?oi_141) (v := ?_) ?hi_141 (by kernel_rfl) ?hf_141 (by kernel_rfl) ?hQ_141 ?hy_141 (by assumption) ?_
    case hi_141 => simp only [List.getElem?_toArray, List.getElem?_cons_zero, List.getElem?_cons_succ]; try rfl
    case hf_141 => kernel_rfl
    case hQ_141 => exact fun _ _ _ h => h
    case hy_141 =>
      refine Or.inl ⟨by rfl, ?_⟩
      intro W hSw
      obtain ⟨q0, q1, q2, q3, q4, q5⟩ := hSw
      go_simp
      try with_reducible rfl
    try simp only [Act.put, List.setIfInBounds_toArray, List.set_cons_zero, List.set_cons_succ]
    refine wpAnyH_take (i := 7) (oi := ?oi_142) (v := ?_) ?hi_142 (by kernel_rfl) ?hf_142 (by kernel_rfl) ?hQ_142 ?hy_142 (by assumption) ?_
    case hi_142 => simp only [List.getElem?_toArray, List.getElem?_cons_zero, List.getElem?_cons_succ]; try rfl
    case hf_142 => kernel_rfl
    case hQ_142 => exact fun _ _ _ h => h
    case hy_142 =>
      refine Or.inl ⟨by rfl, ?_⟩
      intro W hSw
      obtain ⟨q0, q1, q2, q3, q4, q5⟩ := hSw
      go_simp
      try with_reducible rfl
    try simp only [Act.put, List.setIfInBounds_toArray, List.set_cons_zero, List.set_cons_succ]
    refine wpAnyH_take (i := 8) (oi := ?oi_143) (v := ?_) ?hi_143 (by kernel_rfl) ?hf_143 (by kernel_rfl) ?hQ_143 ?hy_143 (by assumption) ?_
    case hi_143 => simp only [List.getElem?_toArray, List.getElem?_cons_zero, List.getElem?_cons_succ]; try rfl
    case hf_143 => kernel_rfl
    case hQ_143 => exact fun _ _ _ h => h
    case hy_143 =>
      refine Or.inl ⟨by rfl, ?_⟩
      intro W hSw
      obtain ⟨q0, q1, q2, q3, q4, q5⟩ := hSw
      go_simp
      try with_reducible rfl
    try simp only [Act.put, List.setIfInBounds_toArray, List.set_cons_zero, List.set_cons_succ]
    refine wpAnyH_take (i := 9) (oi := ?oi_144) (v := ?_) ?hi_144 (by kernel_rfl) ?hf_144 (by kernel_rfl) ?hQ_144 ?hy_144 (by assumption) ?_
    case hi_144 => simp only [List.getElem?_toArray, List.getElem?_cons_zero, List.getElem?_cons_succ]; try rfl
    case hf_144 => kernel_rfl
    case hQ_144 => exact fun _ _ _ h => h
    case hy_144 =>
      refine Or.inl ⟨by rfl, ?_⟩
      intro W hSw
      obtain ⟨q0, q1, q2, q3, q4, q5⟩ := hSw
      go_simp
      try with_reducible rfl
    try simp only [Act.put, List.setIfInBounds_toArray, List.set_cons_zero, List.set_cons_succ]
    refine wpAnyH_ready (rs := [10]) (by kernel_rfl) (by simp) ?_
    refine AllReadyH.cons (o := ?oi_145) ?hi_145 (fun K hK => ?_) AllReadyH.nil
    case hi_145 => simp only [List.getElem?_toArray, List.getElem?_cons_zero, List.getElem?_cons_succ]; try rfl
    go_simp
    (go_at_call 27
     (with_reducible refine (H2.out _).mono ?_)
     rintro e w7 ⟨rfl, rfl⟩)
    refine hK.out _ _ ⟨x1, x2, z0, z1, z2, z3⟩ (fun hHeld => ?_)
    clear hK K
    try simp only [Act.put, List.setIfInBounds_toArray, List.set_cons_zero, List.set_cons_succ]
    refine wpAnyH_take (i := 11) (oi := ?oi_146) (v := ?_) ?hi_146 (by kernel_rfl) ?hf_146 (by kernel_rfl) ?hQ_146 ?hy_146 (by assumption) ?_
    case hi_146 => simp only [List.getElem?_toArray, List.getElem?_cons_zero, List.getElem?_cons_succ]; try rfl
    case hf_146 => kernel_rfl
    case hQ_146 => exact fun _ _ _ h => h
    case hy_146 =>
      refine Or.inl ⟨by rfl, ?_⟩
      intro W hSw
      obtain ⟨q0, q1, q2, q3, q4, q5⟩ := hSw
      go_simp
      try with_reducible rfl
    try simp only [Act.put, List.setIfInBounds_toArray, List.set_cons_zero, List.set_cons_succ]
    refine wpAnyH_take (i := 12) (oi := ?oi_147) (v := ?_) ?hi_147 (by kernel_rfl) ?hf_147 (by kernel_rfl) ?hQ_147 ?hy_147 (by assumption) ?_
    case hi_147 => simp only [List.getElem?_toArray, List.getElem?_cons_zero, List.getElem?_cons_succ]; try rfl
    case hf_147 => kernel_rfl
    case hQ_147 => exact fun _ _ _ h => h
    case hy_147 =>
      refine Or.inl ⟨by rfl, ?_⟩
      intro W hSw
      obtain ⟨q0, q1, q2, q3, q4, q5⟩ := hSw
      go_simp
      try with_reducible rfl
    try simp only [Act.put, List.setIfInBounds_toArray, List.set_cons_zero, List.set_cons_succ]
    refine wpAnyH_done (by kernel_rfl) ?_ _
    refine NoPanic.normal ?_
    clear hHeld
    go_wp2
    apply HQ2.out
    rfl
  · have H2 : Hid (∀ W, Calls Try.prog 27 #[.int .i64 ix, .int .i64 k3] W fun e w' => e = .returned (.bool (inB k3 ix)) ∧ W = w') := Lib.hid (fun W => within_any ix k3 W)
    have HQ2 : Hid (∀ (t : Array Value), t[4]? = some (.bool (inB k3 ix)) → Q .ret ⟨t, []⟩ W.drew) := Lib.hid (fun t h => HQ.out t (by rw [h]; simp [inB]))
    have H1b : Hid (∀ W, Calls Try.prog 27 #[.int .i64 3, .int .i64 4] W fun e w' => e = .returned (.bool true) ∧ W = w') := Lib.hid (fun W => within_any 3 4 W)
    clear HQ H1
    have H1 := H1b
    clear H1b
    generalize inB k3 ix = q at H2 HQ2
    conv => arg 2; whnf
    go_wp2_with fail
    refine wp_region_noPanic ?_
    refine wp_region_held_drew (S := (fun W => W.cell? ⟨bx, 1, none⟩ = some (.int .i64 3) ∧ W.cell? ⟨bx, 2, none⟩ = some (.int .i64 ix) ∧ W.cell? ⟨b6, 0, none⟩ = some (.int .i64 k0) ∧ W.cell? ⟨b6, 1, none⟩ = some (.int .i64 k1) ∧ W.cell? ⟨b6, 2, none⟩ = some (.int .i64 k2) ∧ W.cell? ⟨b6, 3, none⟩ = some (.int .i64 k3))) (by kernel_rfl) ⟨x1, x2, z0, z1, z2, z3⟩ (fun hHeld => ?_)
    refine wpAnyH_take (i := 0) (oi := ?oi_148) (v := ?_) ?hi_148 (by kernel_rfl) ?hf_148 (by kernel_rfl) ?hQ_148 ?hy_148 (by assumption) ?_
    case hi_148 => simp only [List.getElem?_toArray, List.getElem?_cons_zero, List.getElem?_cons_succ]; try rfl
    case hf_148 => kernel_rfl
    case hQ_148 => exact fun _ _ _ h => h
    case hy_148 =>
      refine Or.inl ⟨by rfl, ?_⟩
      intro W hSw
      obtain ⟨q0, q1, q2, q3, q4, q5⟩ := hSw
      go_simp
      try with_reducible rfl
    try simp only [Act.put, List.setIfInBounds_toArray, List.set_cons_zero, List.set_cons_succ]
    refine wpAnyH_take (i := 1) (oi := ?oi_149) (v := ?_) ?hi_149 (by kernel_rfl) ?hf_149 (by kernel_rfl) ?hQ_149 ?hy_149 (by assumption) ?_
    case hi_149 => simp only [List.getElem?_toArray, List.getElem?_cons_zero, List.getElem?_cons_succ]; try rfl
    case hf_149 => kernel_rfl
    case hQ_149 => exact fun _ _ _ h => h
    case hy_149 =>
      refine Or.inl ⟨by rfl, ?_⟩
      intro W hSw
      obtain ⟨q0, q1, q2, q3, q4, q5⟩ := hSw
      go_simp
      try with_reducible rfl
    try simp only [Act.put, List.setIfInBounds_toArray, List.set_cons_zero, List.set_cons_succ]
    refine wpAnyH_ready (rs := [2]) (by kernel_rfl) (by simp) ?_
    refine AllReadyH.cons (o := ?oi_150) ?hi_150 (fun K hK => ?_) AllReadyH.nil
    case hi_150 => simp only [List.getElem?_toArray, List.getElem?_cons_zero, List.getElem?_cons_succ]; try rfl
    go_simp
    (go_at_call 27
     (with_reducible refine (H1.out _).mono ?_)
     rintro e w7 ⟨rfl, rfl⟩)
    refine hK.out _ _ ⟨x1, x2, z0, z1, z2, z3⟩ (fun hHeld => ?_)
    clear hK K
    try simp only [Act.put, List.setIfInBounds_toArray, List.set_cons_zero, List.set_cons_succ]
    refine wpAnyH_take (i := 3) (oi := ?oi_151) (v := ?_) ?hi_151 (by kernel_rfl) ?hf_151 (by kernel_rfl) ?hQ_151 ?hy_151 (by assumption) ?_
    case hi_151 => simp only [List.getElem?_toArray, List.getElem?_cons_zero, List.getElem?_cons_succ]; try rfl
    case hf_151 => kernel_rfl
    case hQ_151 => exact fun _ _ _ h => h
    case hy_151 =>
      refine Or.inl ⟨by rfl, ?_⟩
      intro W hSw
      obtain ⟨q0, q1, q2, q3, q4, q5⟩ := hSw
      go_simp
      try with_reducible rfl
    try simp only [Act.put, List.setIfInBounds_toArray, List.set_cons_zero, List.set_cons_succ]
    refine wpAnyH_take (i := 4) (oi := ?oi_152) (v := ?_) ?hi_152 (by kernel_rfl) ?hf_152 (by kernel_rfl) ?hQ_152 ?hy_152 (by assumption) ?_
    case hi_152 => simp only [List.getElem?_toArray, List.getElem?_cons_zero, List.getElem?_cons_succ]; try rfl
    case hf_152 => kernel_rfl
    case hQ_152 => exact fun _ _ _ h => h
    case hy_152 =>
      refine Or.inl ⟨by rfl, ?_⟩
      intro W hSw
      obtain ⟨q0, q1, q2, q3, q4, q5⟩ := hSw
      go_simp
      try with_reducible rfl
    try simp only [Act.put, List.setIfInBounds_toArray, List.set_cons_zero, List.set_cons_succ]
    refine wpAnyH_take (i := 5) (oi := ?oi_153) (v := ?_) ?hi_153 (by kernel_rfl) ?hf_153 (by kernel_rfl) ?hQ_153 ?hy_153 (by assumption) ?_
    case hi_153 => simp only [List.getElem?_toArray, List.getElem?_cons_zero, List.getElem?_cons_succ]; try rfl
    case hf_153 => kernel_rfl
    case hQ_153 => exact fun _ _ _ h => h
    case hy_153 =>
      refine Or.inl ⟨by rfl, ?_⟩
      intro W hSw
      obtain ⟨q0, q1, q2, q3, q4, q5⟩ := hSw
      go_simp
      try with_reducible rfl
    try simp only [Act.put, List.setIfInBounds_toArray, List.set_cons_zero, List.set_cons_succ]
    refine wpAnyH_take (i := 6) (oi := ?oi_154) (v := ?_) ?hi_154 (by kernel_rfl) ?hf_154 (by kernel_rfl) ?hQ_154 ?hy_154 (by assumption) ?_
    case hi_154 => simp only [List.getElem?_toArray, List.getElem?_cons_zero, List.getElem?_cons_succ]; try rfl
    case hf_154 => kernel_rfl
    case hQ_154 => exact fun _ _ _ h => h
    case hy_154 =>
      refine Or.inl ⟨by rfl, ?_⟩
      intro W hSw
      obtain ⟨q0, q1, q2, q3, q4, q5⟩ := hSw
      go_simp
      try with_reducible rfl
    try simp only [Act.put, List.setIfInBounds_toArray, List.set_cons_zero, List.set_cons_succ]
    refine wpAnyH_take (i := 7) (oi := ?oi_155) (v := ?_) ?hi_155 (by kernel_rfl) ?hf_155 (by kernel_rfl) ?hQ_155 ?hy_155 (by assumption) ?_
    case hi_155 => simp only [List.getElem?_toArray, List.getElem?_cons_zero, List.getElem?_cons_succ]; try rfl
    case hf_155 => kernel_rfl
    case hQ_155 => exact fun _ _ _ h => h
    case hy_155 =>
      refine Or.inl ⟨by rfl, ?_⟩
      intro W hSw
      obtain ⟨q0, q1, q2, q3, q4, q5⟩ := hSw
      go_simp
      try with_reducible rfl
    try simp only [Act.put, List.setIfInBounds_toArray, List.set_cons_zero, List.set_cons_succ]
    refine wpAnyH_take (i := 8) (oi := ?oi_156) (v := ?_) ?hi_156 (by kernel_rfl) ?hf_156 (by kernel_rfl) ?hQ_156 ?hy_156 (by assumption) ?_
    case hi_156 => simp only [List.getElem?_toArray, List.getElem?_cons_zero, List.getElem?_cons_succ]; try rfl
    case hf_156 => kernel_rfl
    case hQ_156 => exact fun _ _ _ h => h
    case hy_156 =>
      refine Or.inl ⟨by rfl, ?_⟩
      intro W hSw
      obtain ⟨q0, q1, q2, q3, q4, q5⟩ := hSw
      go_simp
      try with_reducible rfl
    try simp only [Act.put, List.setIfInBounds_toArray, List.set_cons_zero, List.set_cons_succ]
    refine wpAnyH_take (i := 9) (oi := ?oi_157) (v := ?_) ?hi_157 (by kernel_rfl) ?hf_157 (by kernel_rfl) ?hQ_157 ?hy_157 (by assumption) ?_
    case hi_157 => simp only [List.getElem?_toArray, List.getElem?_cons_zero, List.getElem?_cons_succ]; try rfl
    case hf_157 => kernel_rfl
    case hQ_157 => exact fun _ _ _ h => h
    case hy_157 =>
      refine Or.inl ⟨by rfl, ?_⟩
      intro W hSw
      obtain ⟨q0, q1, q2, q3, q4, q5⟩ := hSw
      go_simp
      try with_reducible rfl
    try simp only [Act.put, List.setIfInBounds_toArray, List.set_cons_zero, List.set_cons_succ]
    refine wpAnyH_ready (rs := [10]) (by kernel_rfl) (by simp) ?_
    refine AllReadyH.cons (o := ?oi_158) ?hi_158 (fun K hK => ?_) AllReadyH.nil
    case hi_158 => simp only [List.getElem?_toArray, List.getElem?_cons_zero, List.getElem?_cons_succ]; try rfl
    go_simp
    (go_at_call 27
     (with_reducible refine (H2.out _).mono ?_)
     rintro e w7 ⟨rfl, rfl⟩)
    refine hK.out _ _ ⟨x1, x2, z0, z1, z2, z3⟩ (fun hHeld => ?_)
    clear hK K
    try simp only [Act.put, List.setIfInBounds_toArray, List.set_cons_zero, List.set_cons_succ]
    refine wpAnyH_take (i := 11) (oi := ?oi_159) (v := ?_) ?hi_159 (by kernel_rfl) ?hf_159 (by kernel_rfl) ?hQ_159 ?hy_159 (by assumption) ?_
    case hi_159 => simp only [List.getElem?_toArray, List.getElem?_cons_zero, List.getElem?_cons_succ]; try rfl
    case hf_159 => kernel_rfl
    case hQ_159 => exact fun _ _ _ h => h
    case hy_159 =>
      refine Or.inl ⟨by rfl, ?_⟩
      intro W hSw
      obtain ⟨q0, q1, q2, q3, q4, q5⟩ := hSw
      go_simp
      try with_reducible rfl
    try simp only [Act.put, List.setIfInBounds_toArray, List.set_cons_zero, List.set_cons_succ]
    refine wpAnyH_take (i := 12) (oi := ?oi_160) (v := ?_) ?hi_160 (by kernel_rfl) ?hf_160 (by kernel_rfl) ?hQ_160 ?hy_160 (by assumption) ?_
    case hi_160 => simp only [List.getElem?_toArray, List.getElem?_cons_zero, List.getElem?_cons_succ]; try rfl
    case hf_160 => kernel_rfl
    case hQ_160 => exact fun _ _ _ h => h
    case hy_160 =>
      refine Or.inl ⟨by rfl, ?_⟩
      intro W hSw
      obtain ⟨q0, q1, q2, q3, q4, q5⟩ := hSw
      go_simp
      try with_reducible rfl
    try simp only [Act.put, List.setIfInBounds_toArray, List.set_cons_zero, List.set_cons_succ]
    refine wpAnyH_done (by kernel_rfl) ?_ _
    refine NoPanic.normal ?_
    clear hHeld
    go_wp2
    apply HQ2.out
    rfl
end Go.Proofs.Ytackompihengfaa
/-
  Is there what an export tells of: the whole.
-/
namespace Go.Proofs.Ytackompihengfaa
open Go.RowKit Go.PlainAid
set_option linter.unusedVariables false
set_option linter.unusedSimpArgs false
set_option maxHeartbeats 4000000 in
set_option maxRecDepth 100000 in
theorem there_ok (nm : ByteArray) (kd ix na tab : Int) (g : Nat) (A4 A5 : Option Addr) (n4 c4 n5 c5 : Nat) (h4 : n4 ≤ c4) (h4m : c4 ≤ 9223372036854775807) (h5 : n5 ≤ c5) (h5m : c5 ≤ 9223372036854775807) (w : World)
    (hg3 : w.cell? ⟨g, 3, none⟩ = some (.int .i64 tab)) (hg4 : w.cell? ⟨g, 4, none⟩ = some (.slice A4 n4 c4)) (hg5 : w.cell? ⟨g, 5, none⟩ = some (.slice A5 n5 c5)) (hgl : g < w.heap.size)
    (hC : ∀ W, Below w.heap.size w W → Calls Try.prog 10 #[.pointer (some ⟨g, 0, none⟩)] W fun e w' => e = .returned (.int .i64 na) ∧ Below W.heap.size W w') :
    Calls Try.prog 77 #[.pointer (some ⟨g, 0, none⟩), .agg #[.string nm, .int .i64 kd, .int .i64 ix]] w fun e w' => e = .returned (.bool (thB na tab n4 n5 kd ix)) ∧ Below w.heap.size w w' := by
  obtain ⟨W, hW⟩ : ∃ W, W = w.alloc (.cells #[.string nm, .int .i64 kd, .int .i64 ix] 53) := ⟨_, rfl⟩
  have hbl : Below w.heap.size w W := by rw [hW]; exact (Below.refl _ _).alloc (Nat.le_refl _) _
  have hxb : Blk W w.heap.size 53 #[.string nm, .int .i64 kd, .int .i64 ix] := by rw [hW]; exact Blk.new w 53 _
  have hx2 : w.heap.size < W.heap.size := hxb.lt
  have y3 : W.cell? ⟨g, 3, none⟩ = some (.int .i64 tab) := (hbl.cell (p := ⟨g, 3, none⟩) hgl).trans hg3
  have HKS : Hid (∀ V, Below w.heap.size w V → V.cell? ⟨g, 4, none⟩ = some (.slice A4 n4 c4) ∧ V.cell? ⟨g, 5, none⟩ = some (.slice A5 n5 c5)) := Lib.hid (fun V hV => ⟨(hV.cell (p := ⟨g, 4, none⟩) hgl).trans hg4, (hV.cell (p := ⟨g, 5, none⟩) hgl).trans hg5⟩)
  obtain ⟨y4, y5⟩ := HKS.out W hbl
  have HB := Lib.hid hbl
  have HBD := Lib.hid (below_drew hbl)
  have HW := Lib.hid hW
  have HC := Lib.hid hC
  have HBDW : Hid (Below W.heap.size W W.drew) := Lib.hid (below_drew (Below.refl _ _))
  have HXB := Lib.hid (fun V (hV : Below W.heap.size W V) => hxb.below hV hxb.lt)
  clear hbl hW hg3 hg4 hg5 hC hxb hx2
  by_cases ht : 0 ≤ tab
  · have HTH : Hid (thB na tab n4 n5 kd ix = (inB 4 kd && inB (if kd = 0 then na else if kd = 1 then 1 else if kd = 2 then (n4 : Int) else (n5 : Int)) ix)) := Lib.hid (by unfold thB cntOf; rw [if_pos ht])
    go_enter Try.func77, Try.ntmps77
    go_upto_region 1 with fail
    rw [← HW.out]
    go_upto_region 4 with fail
    rename_i ha
    refine wp_region_noPanic ?_
    refine wp_region_held_drew (S := (fun W => W.cell? ⟨g, 4, none⟩ = some (.slice A4 n4 c4) ∧ W.cell? ⟨g, 5, none⟩ = some (.slice A5 n5 c5))) (by kernel_rfl) ⟨y4, y5⟩ (fun hHeld => ?_)
    refine wpAnyH_take (i := 0) (oi := ?oi_167) (v := ?_) ?hi_167 (by kernel_rfl) ?hf_167 (by kernel_rfl) ?hQ_167 ?hy_167 (by assumption) ?_
    case hi_167 => simp only [List.getElem?_toArray, List.getElem?_cons_zero, List.getElem?_cons_succ]; try rfl
    case hf_167 => kernel_rfl
    case hQ_167 => exact fun _ _ _ h => h
    case hy_167 =>
      refine Or.inl ⟨by rfl, ?_⟩
      intro W hSw
      obtain ⟨q0, q1⟩ := hSw
      go_simp
      try with_reducible rfl
    try simp only [Act.put, List.setIfInBounds_toArray, List.set_cons_zero, List.set_cons_succ]
    refine wpAnyH_take (i := 2) (oi := ?oi_168) (v := ?_) ?hi_168 (by kernel_rfl) ?hf_168 (by kernel_rfl) ?hQ_168 ?hy_168 (by assumption) ?_
    case hi_168 => simp only [List.getElem?_toArray, List.getElem?_cons_zero, List.getElem?_cons_succ]; try rfl
    case hf_168 => kernel_rfl
    case hQ_168 => exact fun _ _ _ h => h
    case hy_168 =>
      refine Or.inl ⟨by rfl, ?_⟩
      intro W hSw
      obtain ⟨q0, q1⟩ := hSw
      go_simp
      try with_reducible rfl
    try simp only [Act.put, List.setIfInBounds_toArray, List.set_cons_zero, List.set_cons_succ]
    refine wpAnyH_take (i := 3) (oi := ?oi_169) (v := ?_) ?hi_169 (by kernel_rfl) ?hf_169 (by kernel_rfl) ?hQ_169 ?hy_169 (by assumption) ?_
    case hi_169 => simp only [List.getElem?_toArray, List.getElem?_cons_zero, List.getElem?_cons_succ]; try rfl
    case hf_169 => kernel_rfl
    case hQ_169 => exact fun _ _ _ h => h
    case hy_169 =>
      refine Or.inl ⟨by rfl, ?_⟩
      intro W hSw
      obtain ⟨q0, q1⟩ := hSw
      go_simp
      try with_reducible rfl
    try simp only [Act.put, List.setIfInBounds_toArray, List.set_cons_zero, List.set_cons_succ]
    refine wpAnyH_take (i := 4) (oi := ?oi_170) (v := ?_) ?hi_170 (by kernel_rfl) ?hf_170 (by kernel_rfl) ?hQ_170 ?hy_170 (by assumption) ?_
    case hi_170 => simp only [List.getElem?_toArray, List.getElem?_cons_zero, List.getElem?_cons_succ]; try rfl
    case hf_170 => kernel_rfl
    case hQ_170 => exact fun _ _ _ h => h
    case hy_170 =>
      refine Or.inl ⟨by rfl, ?_⟩
      intro W hSw
      obtain ⟨q0, q1⟩ := hSw
      go_simp
      try with_reducible rfl
    try simp only [Act.put, List.setIfInBounds_toArray, List.set_cons_zero, List.set_cons_succ]
    refine wpAnyH_take (i := 5) (oi := ?oi_171) (v := ?_) ?hi_171 (by kernel_rfl) ?hf_171 (by kernel_rfl) ?hQ_171 ?hy_171 (by assumption) ?_
    case hi_171 => simp only [List.getElem?_toArray, List.getElem?_cons_zero, List.getElem?_cons_succ]; try rfl
    case hf_171 => kernel_rfl
    case hQ_171 => exact fun _ _ _ h => h
    case hy_171 =>
      refine Or.inl ⟨by rfl, ?_⟩
      intro W hSw
      obtain ⟨q0, q1⟩ := hSw
      go_simp
      try with_reducible rfl
    try simp only [Act.put, List.setIfInBounds_toArray, List.set_cons_zero, List.set_cons_succ]
    refine wpAnyH_take (i := 6) (oi := ?oi_172) (v := ?_) ?hi_172 (by kernel_rfl) ?hf_172 (by kernel_rfl) ?hQ_172 ?hy_172 (by assumption) ?_
    case hi_172 => simp only [List.getElem?_toArray, List.getElem?_cons_zero, List.getElem?_cons_succ]; try rfl
    case hf_172 => kernel_rfl
    case hQ_172 => exact fun _ _ _ h => h
    case hy_172 =>
      refine Or.inl ⟨by rfl, ?_⟩
      intro W hSw
      obtain ⟨q0, q1⟩ := hSw
      go_simp
      try with_reducible rfl
    try simp only [Act.put, List.setIfInBounds_toArray, List.set_cons_zero, List.set_cons_succ]
    refine wpAnyH_take (i := 7) (oi := ?oi_173) (v := ?_) ?hi_173 (by kernel_rfl) ?hf_173 (by kernel_rfl) ?hQ_173 ?hy_173 (by assumption) ?_
    case hi_173 => simp only [List.getElem?_toArray, List.getElem?_cons_zero, List.getElem?_cons_succ]; try rfl
    case hf_173 => kernel_rfl
    case hQ_173 => exact fun _ _ _ h => h
    case hy_173 =>
      refine Or.inl ⟨by rfl, ?_⟩
      intro W hSw
      obtain ⟨q0, q1⟩ := hSw
      go_simp
      try with_reducible rfl
    try simp only [Act.put, List.setIfInBounds_toArray, List.set_cons_zero, List.set_cons_succ]
    refine wpAnyH_take (i := 8) (oi := ?oi_174) (v := ?_) ?hi_174 (by kernel_rfl) ?hf_174 (by kernel_rfl) ?hQ_174 ?hy_174 (by assumption) ?_
    case hi_174 => simp only [List.getElem?_toArray, List.getElem?_cons_zero, List.getElem?_cons_succ]; try rfl
    case hf_174 => kernel_rfl
    case hQ_174 => exact fun _ _ _ h => h
    case hy_174 =>
      refine Or.inl ⟨by rfl, ?_⟩
      intro W hSw
      obtain ⟨q0, q1⟩ := hSw
      go_simp
      try with_reducible rfl
    try simp only [Act.put, List.setIfInBounds_toArray, List.set_cons_zero, List.set_cons_succ]
    refine wpAnyH_take (i := 9) (oi := ?oi_175) (v := ?_) ?hi_175 (by kernel_rfl) ?hf_175 (by kernel_rfl) ?hQ_175 ?hy_175 (by assumption) ?_
    case hi_175 => simp only [List.getElem?_toArray, List.getElem?_cons_zero, List.getElem?_cons_succ]; try rfl
    case hf_175 => kernel_rfl
    case hQ_175 => exact fun _ _ _ h => h
    case hy_175 =>
      refine Or.inl ⟨by rfl, ?_⟩
      intro W hSw
      obtain ⟨q0, q1⟩ := hSw
      go_simp
      try with_reducible rfl
    try simp only [Act.put, List.setIfInBounds_toArray, List.set_cons_zero, List.set_cons_succ]
    refine wpAnyH_take (i := 10) (oi := ?oi_176) (v := ?_) ?hi_176 (by kernel_rfl) ?hf_176 (by kernel_rfl) ?hQ_176 ?hy_176 (by assumption) ?_
    case hi_176 => simp only [List.getElem?_toArray, List.getElem?_cons_zero, List.getElem?_cons_succ]; try rfl
    case hf_176 => kernel_rfl
    case hQ_176 => exact fun _ _ _ h => h
    case hy_176 =>
      refine Or.inl ⟨by rfl, ?_⟩
      intro W hSw
      obtain ⟨q0, q1⟩ := hSw
      go_simp
      try with_reducible rfl
    try simp only [Act.put, List.setIfInBounds_toArray, List.set_cons_zero, List.set_cons_succ]
    refine wpAnyH_take (i := 11) (oi := ?oi_177) (v := ?_) ?hi_177 (by kernel_rfl) ?hf_177 (by kernel_rfl) ?hQ_177 ?hy_177 (by assumption) ?_
    case hi_177 => simp only [List.getElem?_toArray, List.getElem?_cons_zero, List.getElem?_cons_succ]; try rfl
    case hf_177 => kernel_rfl
    case hQ_177 => exact fun _ _ _ h => h
    case hy_177 =>
      refine Or.inl ⟨by rfl, ?_⟩
      intro W hSw
      obtain ⟨q0, q1⟩ := hSw
      go_simp
      try with_reducible rfl
    try simp only [Act.put, List.setIfInBounds_toArray, List.set_cons_zero, List.set_cons_succ]
    refine wpAnyH_take (i := 12) (oi := ?oi_178) (v := ?_) ?hi_178 (by kernel_rfl) ?hf_178 (by kernel_rfl) ?hQ_178 ?hy_178 (by assumption) ?_
    case hi_178 => simp only [List.getElem?_toArray, List.getElem?_cons_zero, List.getElem?_cons_succ]; try rfl
    case hf_178 => kernel_rfl
    case hQ_178 => exact fun _ _ _ h => h
    case hy_178 =>
      refine Or.inl ⟨by rfl, ?_⟩
      intro W hSw
      obtain ⟨q0, q1⟩ := hSw
      go_simp
      try with_reducible rfl
    try simp only [Act.put, List.setIfInBounds_toArray, List.set_cons_zero, List.set_cons_succ]
    refine wpAnyH_ready (rs := [1, 14]) (by kernel_rfl) (by simp) ?_
    refine AllReadyH.cons (o := ?oi_179_0) ?hi_179_0 (fun K hK => ?_) (AllReadyH.cons (o := ?oi_179_1) ?hi_179_1 (fun K hK => ?_) AllReadyH.nil)
    case hi_179_0 => simp only [List.getElem?_toArray, List.getElem?_cons_zero, List.getElem?_cons_succ]; try rfl
    case hi_179_1 => simp only [List.getElem?_toArray, List.getElem?_cons_zero, List.getElem?_cons_succ]; try rfl
    · go_simp
      (go_at_call 10
       (with_reducible refine (HC.out _ HBD.out).mono ?_)
       rintro e w1 ⟨rfl, hb1⟩
       have HB1 := Lib.hid (HBD.out.trans (hb1.mono HBD.out.size))
       have HV1 := Lib.hid (HBDW.out.trans (hb1.mono HBDW.out.size))
       have hk1 := HKS.out _ HB1.out
       clear hb1)
      refine hK.out _ _ hk1 (fun hHeld => ?_)
      clear hK K
      try simp only [Act.put, List.setIfInBounds_toArray, List.set_cons_zero, List.set_cons_succ]
      refine wpAnyH_take (i := 13) (oi := ?oi_161) (v := ?_) ?hi_161 (by kernel_rfl) ?hf_161 (by kernel_rfl) ?hQ_161 ?hy_161 (by assumption) ?_
      case hi_161 => simp only [List.getElem?_toArray, List.getElem?_cons_zero, List.getElem?_cons_succ]; try rfl
      case hf_161 => kernel_rfl
      case hQ_161 => exact fun _ _ _ h => h
      case hy_161 =>
        refine Or.inl ⟨by rfl, ?_⟩
        intro W hSw
        obtain ⟨q0, q1⟩ := hSw
        go_simp
        try with_reducible rfl
      try simp only [Act.put, List.setIfInBounds_toArray, List.set_cons_zero, List.set_cons_succ]
      refine wpAnyH_ready (rs := [14]) (by kernel_rfl) (by simp) ?_
      refine AllReadyH.cons (o := ?oi_162_0) ?hi_162_0 (fun K hK => ?_) AllReadyH.nil
      case hi_162_0 => simp only [List.getElem?_toArray, List.getElem?_cons_zero, List.getElem?_cons_succ]; try rfl
      go_simp
      have HZ := Lib.hid (Blk.new w1 150 #[.int .i64 0, .int .i64 0, .int .i64 0, .int .i64 0])
      have HB2 := Lib.hid (HB1.out.alloc HB1.out.size (.cells #[.int .i64 0, .int .i64 0, .int .i64 0, .int .i64 0] 150))
      have HV2 := Lib.hid (HV1.out.alloc HV1.out.size (.cells #[.int .i64 0, .int .i64 0, .int .i64 0, .int .i64 0] 150))
      have hk2 := HKS.out _ HB2.out
      refine hK.out _ _ hk2 (fun hHeld => ?_)
      clear hK K
      try simp only [Act.put, List.setIfInBounds_toArray, List.set_cons_zero, List.set_cons_succ]
      refine wpAnyH_ready (rs := [15]) (by kernel_rfl) (by simp) ?_
      refine AllReadyH.cons (o := ?oi_163_0) ?hi_163_0 (fun K hK => ?_) AllReadyH.nil
      case hi_163_0 => simp only [List.getElem?_toArray, List.getElem?_cons_zero, List.getElem?_cons_succ]; try rfl
      refine step_store_row rfl 150 (.tmp 6) (.tmp 25) rfl w1.heap.size #[.int .i64 na, .int .i64 1, .int .i64 n4, .int .i64 n5] rfl rfl 150 _ HZ.out (by kernel_rfl) rfl (by simp [Value.oneCell']) ?_
      have hbs := below_setRow HB2.out HB1.out.size #[.int .i64 na, .int .i64 1, .int .i64 n4, .int .i64 n5]
      have hvs := below_setRow HV2.out HV1.out.size #[.int .i64 na, .int .i64 1, .int .i64 n4, .int .i64 n5]
      have HBS := Lib.hid hbs
      have hk5 := HKS.out _ hbs
      have HZS := Lib.hid (setRow_heap _ w1.heap.size _ #[.int .i64 na, .int .i64 1, .int .i64 n4, .int .i64 n5] 150 (0, 0) HZ.out)
      have HXS := Lib.hid (HXB.out _ hvs)
      clear hbs hvs
      refine hK.out _ _ hk5 (fun hHeld => ?_)
      clear hK K
      try simp only [Act.put, List.setIfInBounds_toArray, List.set_cons_zero, List.set_cons_succ]
      refine wpAnyH_done (by kernel_rfl) ?_ _
      refine NoPanic.normal ?_
      clear hHeld
      refine ha _ _ ?_
      clear ha
      refine th_end (kd := kd) (ix := ix) (k0 := na) (k1 := 1) (k2 := (n4 : Int)) (k3 := (n5 : Int)) ?hx1 ?hx2 ?hz0 ?hz1 ?hz2 ?hz3 _ _ _ _ _ _ _ _ _ _ _ _ _ _ _ _ _ _ _ _ _ _ _ _ _ _ _ _ _ _ _ _ _ _ _ _ _ (fun t ht => ?hq)
      case hx1 => exact HXS.out.cell 1
      case hx2 => exact HXS.out.cell 2
      case hz0 => exact Blk.cell HZS.out 0
      case hz1 => exact Blk.cell HZS.out 1
      case hz2 => exact Blk.cell HZS.out 2
      case hz3 => exact Blk.cell HZS.out 3
      case hq =>
        refine bodyPost_ret (results_tmp results77 _ _ _) rfl ?_
        refine ⟨?_, below_drew HBS.out⟩
        have e2 : t.getD 4 undef = .bool (inB 4 kd && inB (if kd = 0 then na else if kd = 1 then 1 else if kd = 2 then (n4 : Int) else (n5 : Int)) ix) := by rw [Array.getD_eq_getD_getElem?, ht]; rfl
        rw [e2, HTH.out]
    · go_simp
      have HZ0 : Hid (Blk (W.alloc (.cells #[.int .i64 0, .int .i64 0, .int .i64 0, .int .i64 0] 150)).drew W.heap.size 150 #[.int .i64 0, .int .i64 0, .int .i64 0, .int .i64 0]) := Lib.hid (Blk.new W 150 _)
      have HB2 : Hid (Below w.heap.size w (W.alloc (.cells #[.int .i64 0, .int .i64 0, .int .i64 0, .int .i64 0] 150)).drew) := Lib.hid (below_drew (HB.out.alloc HB.out.size (.cells #[.int .i64 0, .int .i64 0, .int .i64 0, .int .i64 0] 150)))
      have HV2 : Hid (Below W.heap.size W (W.alloc (.cells #[.int .i64 0, .int .i64 0, .int .i64 0, .int .i64 0] 150)).drew) := Lib.hid (below_drew ((Below.refl _ _).alloc (Nat.le_refl _) (.cells #[.int .i64 0, .int .i64 0, .int .i64 0, .int .i64 0] 150)))
      have hk2 := HKS.out _ HB2.out
      refine hK.out _ _ hk2 (fun hHeld => ?_)
      clear hK K
      try simp only [Act.put, List.setIfInBounds_toArray, List.set_cons_zero, List.set_cons_succ]
      refine wpAnyH_ready (rs := [1]) (by kernel_rfl) (by simp) ?_
      refine AllReadyH.cons (o := ?oi_164_0) ?hi_164_0 (fun K hK => ?_) AllReadyH.nil
      case hi_164_0 => simp only [List.getElem?_toArray, List.getElem?_cons_zero, List.getElem?_cons_succ]; try rfl
      go_simp
      (go_at_call 10
       (with_reducible refine (HC.out _ HB2.out).mono ?_)
       rintro e w1 ⟨rfl, hb1⟩
       have HB1 := Lib.hid (HB2.out.trans (hb1.mono HB2.out.size))
       have HV1 := Lib.hid (HV2.out.trans (hb1.mono HV2.out.size))
       have HZ := Lib.hid (HZ0.out.below hb1 HZ0.out.lt)
       have hk1 := HKS.out _ HB1.out
       clear hb1)
      refine hK.out _ _ hk1 (fun hHeld => ?_)
      clear hK K
      try simp only [Act.put, List.setIfInBounds_toArray, List.set_cons_zero, List.set_cons_succ]
      refine wpAnyH_take (i := 13) (oi := ?oi_165) (v := ?_) ?hi_165 (by kernel_rfl) ?hf_165 (by kernel_rfl) ?hQ_165 ?hy_165 (by assumption) ?_
      case hi_165 => simp only [List.getElem?_toArray, List.getElem?_cons_zero, List.getElem?_cons_succ]; try rfl
      case hf_165 => kernel_rfl
      case hQ_165 => exact fun _ _ _ h => h
      case hy_165 =>
        refine Or.inl ⟨by rfl, ?_⟩
        intro W hSw
        obtain ⟨q0, q1⟩ := hSw
        go_simp
        try with_reducible rfl
      try simp only [Act.put, List.setIfInBounds_toArray, List.set_cons_zero, List.set_cons_succ]
      refine wpAnyH_ready (rs := [15]) (by kernel_rfl) (by simp) ?_
      refine AllReadyH.cons (o := ?oi_166_0) ?hi_166_0 (fun K hK => ?_) AllReadyH.nil
      case hi_166_0 => simp only [List.getElem?_toArray, List.getElem?_cons_zero, List.getElem?_cons_succ]; try rfl
      refine step_store_row rfl 150 (.tmp 6) (.tmp 25) rfl W.heap.size #[.int .i64 na, .int .i64 1, .int .i64 n4, .int .i64 n5] rfl rfl 150 _ HZ.out (by kernel_rfl) rfl (by simp [Value.oneCell']) ?_
      have hbs := below_setRow HB1.out HB.out.size #[.int .i64 na, .int .i64 1, .int .i64 n4, .int .i64 n5]
      have hvs := below_setRow HV1.out (Nat.le_refl _) #[.int .i64 na, .int .i64 1, .int .i64 n4, .int .i64 n5]
      have HBS := Lib.hid hbs
      have hk5 := HKS.out _ hbs
      have HZS := Lib.hid (setRow_heap _ W.heap.size _ #[.int .i64 na, .int .i64 1, .int .i64 n4, .int .i64 n5] 150 (0, 0) HZ.out)
      have HXS := Lib.hid (HXB.out _ hvs)
      clear hbs hvs
      refine hK.out _ _ hk5 (fun hHeld => ?_)
      clear hK K
      try simp only [Act.put, List.setIfInBounds_toArray, List.set_cons_zero, List.set_cons_succ]
      refine wpAnyH_done (by kernel_rfl) ?_ _
      refine NoPanic.normal ?_
      clear hHeld
      refine ha _ _ ?_
      clear ha
      refine th_end (kd := kd) (ix := ix) (k0 := na) (k1 := 1) (k2 := (n4 : Int)) (k3 := (n5 : Int)) ?hx1 ?hx2 ?hz0 ?hz1 ?hz2 ?hz3 _ _ _ _ _ _ _ _ _ _ _ _ _ _ _ _ _ _ _ _ _ _ _ _ _ _ _ _ _ _ _ _ _ _ _ _ _ (fun t ht => ?hq)
      case hx1 => exact HXS.out.cell 1
      case hx2 => exact HXS.out.cell 2
      case hz0 => exact Blk.cell HZS.out 0
      case hz1 => exact Blk.cell HZS.out 1
      case hz2 => exact Blk.cell HZS.out 2
      case hz3 => exact Blk.cell HZS.out 3
      case hq =>
        refine bodyPost_ret (results_tmp results77 _ _ _) rfl ?_
        refine ⟨?_, below_drew HBS.out⟩
        have e2 : t.getD 4 undef = .bool (inB 4 kd && inB (if kd = 0 then na else if kd = 1 then 1 else if kd = 2 then (n4 : Int) else (n5 : Int)) ix) := by rw [Array.getD_eq_getD_getElem?, ht]; rfl
        rw [e2, HTH.out]
  · have HTH : Hid (thB na tab n4 n5 kd ix = (inB 4 kd && inB (if kd = 0 then na else if kd = 1 then 0 else if kd = 2 then (n4 : Int) else (n5 : Int)) ix)) := Lib.hid (by unfold thB cntOf; rw [if_neg ht])
    go_enter Try.func77, Try.ntmps77
    go_upto_region 1 with fail
    rw [← HW.out]
    go_upto_region 4 with fail
    rename_i ha
    refine wp_region_noPanic ?_
    refine wp_region_held_drew (S := (fun W => W.cell? ⟨g, 4, none⟩ = some (.slice A4 n4 c4) ∧ W.cell? ⟨g, 5, none⟩ = some (.slice A5 n5 c5))) (by kernel_rfl) ⟨y4, y5⟩ (fun hHeld => ?_)
    refine wpAnyH_take (i := 0) (oi := ?oi_186) (v := ?_) ?hi_186 (by kernel_rfl) ?hf_186 (by kernel_rfl) ?hQ_186 ?hy_186 (by assumption) ?_
    case hi_186 => simp only [List.getElem?_toArray, List.getElem?_cons_zero, List.getElem?_cons_succ]; try rfl
    case hf_186 => kernel_rfl
    case hQ_186 => exact fun _ _ _ h => h
    case hy_186 =>
      refine Or.inl ⟨by rfl, ?_⟩
      intro W hSw
      obtain ⟨q0, q1⟩ := hSw
      go_simp
      try with_reducible rfl
    try simp only [Act.put, List.setIfInBounds_toArray, List.set_cons_zero, List.set_cons_succ]
    refine wpAnyH_take (i := 2) (oi := ?oi_187) (v := ?_) ?hi_187 (by kernel_rfl) ?hf_187 (by kernel_rfl) ?hQ_187 ?hy_187 (by assumption) ?_
    case hi_187 => simp only [List.getElem?_toArray, List.getElem?_cons_zero, List.getElem?_cons_succ]; try rfl
    case hf_187 => kernel_rfl
    case hQ_187 => exact fun _ _ _ h => h
    case hy_187 =>
      refine Or.inl ⟨by rfl, ?_⟩
      intro W hSw
      obtain ⟨q0, q1⟩ := hSw
      go_simp
      try with_reducible rfl
    try simp only [Act.put, List.setIfInBounds_toArray, List.set_cons_zero, List.set_cons_succ]
    refine wpAnyH_take (i := 3) (oi := ?oi_188) (v := ?_) ?hi_188 (by kernel_rfl) ?hf_188 (by kernel_rfl) ?hQ_188 ?hy_188 (by assumption) ?_
    case hi_188 => simp only [List.getElem?_toArray, List.getElem?_cons_zero, List.getElem?_cons_succ]; try rfl
    case hf_188 => kernel_rfl
    case hQ_188 => exact fun _ _ _ h => h
    case hy_188 =>
      refine Or.inl ⟨by rfl, ?_⟩
      intro W hSw
      obtain ⟨q0, q1⟩ := hSw
      go_simp
      try with_reducible rfl
    try simp only [Act.put, List.setIfInBounds_toArray, List.set_cons_zero, List.set_cons_succ]
    refine wpAnyH_take (i := 4) (oi := ?oi_189) (v := ?_) ?hi_189 (by kernel_rfl) ?hf_189 (by kernel_rfl) ?hQ_189 ?hy_189 (by assumption) ?_
    case hi_189 => simp only [List.getElem?_toArray, List.getElem?_cons_zero, List.getElem?_cons_succ]; try rfl
    case hf_189 => kernel_rfl
    case hQ_189 => exact fun _ _ _ h => h
    case hy_189 =>
      refine Or.inl ⟨by rfl, ?_⟩
      intro W hSw
      obtain ⟨q0, q1⟩ := hSw
      go_simp
      try with_reducible rfl
    try simp only [Act.put, List.setIfInBounds_toArray, List.set_cons_zero, List.set_cons_succ]
    refine wpAnyH_take (i := 5) (oi := ?oi_190) (v := ?_) ?hi_190 (by kernel_rfl) ?hf_190 (by kernel_rfl) ?hQ_190 ?hy_190 (by assumption) ?_
    case hi_190 => simp only [List.getElem?_toArray, List.getElem?_cons_zero, List.getElem?_cons_succ]; try rfl
    case hf_190 => kernel_rfl
    case hQ_190 => exact fun _ _ _ h => h
    case hy_190 =>
      refine Or.inl ⟨by rfl, ?_⟩
      intro W hSw
      obtain ⟨q0, q1⟩ := hSw
      go_simp
      try with_reducible rfl
    try simp only [Act.put, List.setIfInBounds_toArray, List.set_cons_zero, List.set_cons_succ]
    refine wpAnyH_take (i := 6) (oi := ?oi_191) (v := ?_) ?hi_191 (by kernel_rfl) ?hf_191 (by kernel_rfl) ?hQ_191 ?hy_191 (by assumption) ?_
    case hi_191 => simp only [List.getElem?_toArray, List.getElem?_cons_zero, List.getElem?_cons_succ]; try rfl
    case hf_191 => kernel_rfl
    case hQ_191 => exact fun _ _ _ h => h
    case hy_191 =>
      refine Or.inl ⟨by rfl, ?_⟩
      intro W hSw
      obtain ⟨q0, q1⟩ := hSw
      go_simp
      try with_reducible rfl
    try simp only [Act.put, List.setIfInBounds_toArray, List.set_cons_zero, List.set_cons_succ]
    refine wpAnyH_take (i := 7) (oi := ?oi_192) (v := ?_) ?hi_192 (by kernel_rfl) ?hf_192 (by kernel_rfl) ?hQ_192 ?hy_192 (by assumption) ?_
    case hi_192 => simp only [List.getElem?_toArray, List.getElem?_cons_zero, List.getElem?_cons_succ]; try rfl
    case hf_192 => kernel_rfl
    case hQ_192 => exact fun _ _ _ h => h
    case hy_192 =>
      refine Or.inl ⟨by rfl, ?_⟩
      intro W hSw
      obtain ⟨q0, q1⟩ := hSw
      go_simp
      try with_reducible rfl
    try simp only [Act.put, List.setIfInBounds_toArray, List.set_cons_zero, List.set_cons_succ]
    refine wpAnyH_take (i := 8) (oi := ?oi_193) (v := ?_) ?hi_193 (by kernel_rfl) ?hf_193 (by kernel_rfl) ?hQ_193 ?hy_193 (by assumption) ?_
    case hi_193 => simp only [List.getElem?_toArray, List.getElem?_cons_zero, List.getElem?_cons_succ]; try rfl
    case hf_193 => kernel_rfl
    case hQ_193 => exact fun _ _ _ h => h
    case hy_193 =>
      refine Or.inl ⟨by rfl, ?_⟩
      intro W hSw
      obtain ⟨q0, q1⟩ := hSw
      go_simp
      try with_reducible rfl
    try simp only [Act.put, List.setIfInBounds_toArray, List.set_cons_zero, List.set_cons_succ]
    refine wpAnyH_take (i := 9) (oi := ?oi_194) (v := ?_) ?hi_194 (by kernel_rfl) ?hf_194 (by kernel_rfl) ?hQ_194 ?hy_194 (by assumption) ?_
    case hi_194 => simp only [List.getElem?_toArray, List.getElem?_cons_zero, List.getElem?_cons_succ]; try rfl
    case hf_194 => kernel_rfl
    case hQ_194 => exact fun _ _ _ h => h
    case hy_194 =>
      refine Or.inl ⟨by rfl, ?_⟩
      intro W hSw
      obtain ⟨q0, q1⟩ := hSw
      go_simp
      try with_reducible rfl
    try simp only [Act.put, List.setIfInBounds_toArray, List.set_cons_zero, List.set_cons_succ]
    refine wpAnyH_take (i := 10) (oi := ?oi_195) (v := ?_) ?hi_195 (by kernel_rfl) ?hf_195 (by kernel_rfl) ?hQ_195 ?hy_195 (by assumption) ?_
    case hi_195 => simp only [List.getElem?_toArray, List.getElem?_cons_zero, List.getElem?_cons_succ]; try rfl
    case hf_195 => kernel_rfl
    case hQ_195 => exact fun _ _ _ h => h
    case hy_195 =>
      refine Or.inl ⟨by rfl, ?_⟩
      intro W hSw
      obtain ⟨q0, q1⟩ := hSw
      go_simp
      try with_reducible rfl
    try simp only [Act.put, List.setIfInBounds_toArray, List.set_cons_zero, List.set_cons_succ]
    refine wpAnyH_take (i := 11) (oi := ?oi_196) (v := ?_) ?hi_196 (by kernel_rfl) ?hf_196 (by kernel_rfl) ?hQ_196 ?hy_196 (by assumption) ?_
    case hi_196 => simp only [List.getElem?_toArray, List.getElem?_cons_zero, List.getElem?_cons_succ]; try rfl
    case hf_196 => kernel_rfl
    case hQ_196 => exact fun _ _ _ h => h
    case hy_196 =>
      refine Or.inl ⟨by rfl, ?_⟩
      intro W hSw
      obtain ⟨q0, q1⟩ := hSw
      go_simp
      try with_reducible rfl
    try simp only [Act.put, List.setIfInBounds_toArray, List.set_cons_zero, List.set_cons_succ]
    refine wpAnyH_take (i := 12) (oi := ?oi_197) (v := ?_) ?hi_197 (by kernel_rfl) ?hf_197 (by kernel_rfl) ?hQ_197 ?hy_197 (by assumption) ?_
    case hi_197 => simp only [List.getElem?_toArray, List.getElem?_cons_zero, List.getElem?_cons_succ]; try rfl
    case hf_197 => kernel_rfl
    case hQ_197 => exact fun _ _ _ h => h
    case hy_197 =>
      refine Or.inl ⟨by rfl, ?_⟩
      intro W hSw
      obtain ⟨q0, q1⟩ := hSw
      go_simp
      try with_reducible rfl
    try simp only [Act.put, List.setIfInBounds_toArray, List.set_cons_zero, List.set_cons_succ]
    refine wpAnyH_ready (rs := [1, 14]) (by kernel_rfl) (by simp) ?_
    refine AllReadyH.cons (o := ?oi_198_0) ?hi_198_0 (fun K hK => ?_) (AllReadyH.cons (o := ?oi_198_1) ?hi_198_1 (fun K hK => ?_) AllReadyH.nil)
    case hi_198_0 => simp only [List.getElem?_toArray, List.getElem?_cons_zero, List.getElem?_cons_succ]; try rfl
    case hi_198_1 => simp only [List.getElem?_toArray, List.getElem?_cons_zero, List.getElem?_cons_succ]; try rfl
    · go_simp
      (go_at_call 10
       (with_reducible refine (HC.out _ HBD.out).mono ?_)
       rintro e w1 ⟨rfl, hb1⟩
       have HB1 := Lib.hid (HBD.out.trans (hb1.mono HBD.out.size))
       have HV1 := Lib.hid (HBDW.out.trans (hb1.mono HBDW.out.size))
       have hk1 := HKS.out _ HB1.out
       clear hb1)
      refine hK.out _ _ hk1 (fun hHeld => ?_)
      clear hK K
      try simp only [Act.put, List.setIfInBounds_toArray, List.set_cons_zero, List.set_cons_succ]
      refine wpAnyH_take (i := 13) (oi := ?oi_180) (v := ?_) ?hi_180 (by kernel_rfl) ?hf_180 (by kernel_rfl) ?hQ_180 ?hy_180 (by assumption) ?_
      case hi_180 => simp only [List.getElem?_toArray, List.getElem?_cons_zero, List.getElem?_cons_succ]; try rfl
      case hf_180 => kernel_rfl
      case hQ_180 => exact fun _ _ _ h => h
      case hy_180 =>
        refine Or.inl ⟨by rfl, ?_⟩
        intro W hSw
        obtain ⟨q0, q1⟩ := hSw
        go_simp
        try with_reducible rfl
      try simp only [Act.put, List.setIfInBounds_toArray, List.set_cons_zero, List.set_cons_succ]
      refine wpAnyH_ready (rs := [14]) (by kernel_rfl) (by simp) ?_
      refine AllReadyH.cons (o := ?oi_181_0) ?hi_181_0 (fun K hK => ?_) AllReadyH.nil
      case hi_181_0 => simp only [List.getElem?_toArray, List.getElem?_cons_zero, List.getElem?_cons_succ]; try rfl
      go_simp
      have HZ := Lib.hid (Blk.new w1 150 #[.int .i64 0, .int .i64 0, .int .i64 0, .int .i64 0])
      have HB2 := Lib.hid (HB1.out.alloc HB1.out.size (.cells #[.int .i64 0, .int .i64 0, .int .i64 0, .int .i64 0] 150))
      have HV2 := Lib.hid (HV1.out.alloc HV1.out.size (.cells #[.int .i64 0, .int .i64 0, .int .i64 0, .int .i64 0] 150))
      have hk2 := HKS.out _ HB2.out
      refine hK.out _ _ hk2 (fun hHeld => ?_)
      clear hK K
      try simp only [Act.put, List.setIfInBounds_toArray, List.set_cons_zero, List.set_cons_succ]
      refine wpAnyH_ready (rs := [15]) (by kernel_rfl) (by simp) ?_
      refine AllReadyH.cons (o := ?oi_182_0) ?hi_182_0 (fun K hK => ?_) AllReadyH.nil
      case hi_182_0 => simp only [List.getElem?_toArray, List.getElem?_cons_zero, List.getElem?_cons_succ]; try rfl
      refine step_store_row rfl 150 (.tmp 6) (.tmp 25) rfl w1.heap.size #[.int .i64 na, .int .i64 0, .int .i64 n4, .int .i64 n5] rfl rfl 150 _ HZ.out (by kernel_rfl) rfl (by simp [Value.oneCell']) ?_
      have hbs := below_setRow HB2.out HB1.out.size #[.int .i64 na, .int .i64 0, .int .i64 n4, .int .i64 n5]
      have hvs := below_setRow HV2.out HV1.out.size #[.int .i64 na, .int .i64 0, .int .i64 n4, .int .i64 n5]
      have HBS := Lib.hid hbs
      have hk5 := HKS.out _ hbs
      have HZS := Lib.hid (setRow_heap _ w1.heap.size _ #[.int .i64 na, .int .i64 0, .int .i64 n4, .int .i64 n5] 150 (0, 0) HZ.out)
      have HXS := Lib.hid (HXB.out _ hvs)
      clear hbs hvs
      refine hK.out _ _ hk5 (fun hHeld => ?_)
      clear hK K
      try simp only [Act.put, List.setIfInBounds_toArray, List.set_cons_zero, List.set_cons_succ]
      refine wpAnyH_done (by kernel_rfl) ?_ _
      refine NoPanic.normal ?_
      clear hHeld
      refine ha _ _ ?_
      clear ha
      refine th_end (kd := kd) (ix := ix) (k0 := na) (k1 := 0) (k2 := (n4 : Int)) (k3 := (n5 : Int)) ?hx1 ?hx2 ?hz0 ?hz1 ?hz2 ?hz3 _ _ _ _ _ _ _ _ _ _ _ _ _ _ _ _ _ _ _ _ _ _ _ _ _ _ _ _ _ _ _ _ _ _ _ _ _ (fun t ht => ?hq)
      case hx1 => exact HXS.out.cell 1
      case hx2 => exact HXS.out.cell 2
      case hz0 => exact Blk.cell HZS.out 0
      case hz1 => exact Blk.cell HZS.out 1
      case hz2 => exact Blk.cell HZS.out 2
      case hz3 => exact Blk.cell HZS.out 3
      case hq =>
        refine bodyPost_ret (results_tmp results77 _ _ _) rfl ?_
        refine ⟨?_, below_drew HBS.out⟩
        have e2 : t.getD 4 undef = .bool (inB 4 kd && inB (if kd = 0 then na else if kd = 1 then 0 else if kd = 2 then (n4 : Int) else (n5 : Int)) ix) := by rw [Array.getD_eq_getD_getElem?, ht]; rfl
        rw [e2, HTH.out]
    · go_simp
      have HZ0 : Hid (Blk (W.alloc (.cells #[.int .i64 0, .int .i64 0, .int .i64 0, .int .i64 0] 150)).drew W.heap.size 150 #[.int .i64 0, .int .i64 0, .int .i64 0, .int .i64 0]) := Lib.hid (Blk.new W 150 _)
      have HB2 : Hid (Below w.heap.size w (W.alloc (.cells #[.int .i64 0, .int .i64 0, .int .i64 0, .int .i64 0] 150)).drew) := Lib.hid (below_drew (HB.out.alloc HB.out.size (.cells #[.int .i64 0, .int .i64 0, .int .i64 0, .int .i64 0] 150)))
      have HV2 : Hid (Below W.heap.size W (W.alloc (.cells #[.int .i64 0, .int .i64 0, .int .i64 0, .int .i64 0] 150)).drew) := Lib.hid (below_drew ((Below.refl _ _).alloc (Nat.le_refl _) (.cells #[.int .i64 0, .int .i64 0, .int .i64 0, .int .i64 0] 150)))
      have hk2 := HKS.out _ HB2.out
      refine hK.out _ _ hk2 (fun hHeld => ?_)
      clear hK K
      try simp only [Act.put, List.setIfInBounds_toArray, List.set_cons_zero, List.set_cons_succ]
      refine wpAnyH_ready (rs := [1]) (by kernel_rfl) (by simp) ?_
      refine AllReadyH.cons (o := ?oi_183_0) ?hi_183_0 (fun K hK => ?_) AllReadyH.nil
      case hi_183_0 => simp only [List.getElem?_toArray, List.getElem?_cons_zero, List.getElem?_cons_succ]; try rfl
      go_simp
      (go_at_call 10
       (with_reducible refine (HC.out _ HB2.out).mono ?_)
       rintro e w1 ⟨rfl, hb1⟩
       have HB1 := Lib.hid (HB2.out.trans (hb1.mono HB2.out.size))
       have HV1 := Lib.hid (HV2.out.trans (hb1.mono HV2.out.size))
       have HZ := Lib.hid (HZ0.out.below hb1 HZ0.out.lt)
       have hk1 := HKS.out _ HB1.out
       clear hb1)
      refine hK.out _ _ hk1 (fun hHeld => ?_)
      clear hK K
      try simp only [Act.put, List.setIfInBounds_toArray, List.set_cons_zero, List.set_cons_succ]
      refine wpAnyH_take (i := 13) (oi := ?oi_184) (v := ?_) ?hi_184 (by kernel_rfl) ?hf_184 (by kernel_rfl) ?hQ_184 ?hy_184 (by assumption) ?_
      case hi_184 => simp only [List.getElem?_toArray, List.getElem?_cons_zero, List.getElem?_cons_succ]; try rfl
      case hf_184 => kernel_rfl
      case hQ_184 => exact fun _ _ _ h => h
      case hy_184 =>
        refine Or.inl ⟨by rfl, ?_⟩
        intro W hSw
        obtain ⟨q0, q1⟩ := hSw
        go_simp
        try with_reducible rfl
      try simp only [Act.put, List.setIfInBounds_toArray, List.set_cons_zero, List.set_cons_succ]
      refine wpAnyH_ready (rs := [15]) (by kernel_rfl) (by simp) ?_
      refine AllReadyH.cons (o := ?oi_185_0) ?hi_185_0 (fun K hK => ?_) AllReadyH.nil
      case hi_185_0 => simp only [List.getElem?_toArray, List.getElem?_cons_zero, List.getElem?_cons_succ]; try rfl
      refine step_store_row rfl 150 (.tmp 6) (.tmp 25) rfl W.heap.size #[.int .i64 na, .int .i64 0, .int .i64 n4, .int .i64 n5] rfl rfl 150 _ HZ.out (by kernel_rfl) rfl (by simp [Value.oneCell']) ?_
      have hbs := below_setRow HB1.out HB.out.size #[.int .i64 na, .int .i64 0, .int .i64 n4, .int .i64 n5]
      have hvs := below_setRow HV1.out (Nat.le_refl _) #[.int .i64 na, .int .i64 0, .int .i64 n4, .int .i64 n5]
      have HBS := Lib.hid hbs
      have hk5 := HKS.out _ hbs
      have HZS := Lib.hid (setRow_heap _ W.heap.size _ #[.int .i64 na, .int .i64 0, .int .i64 n4, .int .i64 n5] 150 (0, 0) HZ.out)
      have HXS := Lib.hid (HXB.out _ hvs)
      clear hbs hvs
      refine hK.out _ _ hk5 (fun hHeld => ?_)
      clear hK K
      try simp only [Act.put, List.setIfInBounds_toArray, List.set_cons_zero, List.set_cons_succ]
      refine wpAnyH_done (by kernel_rfl) ?_ _
      refine NoPanic.normal ?_
      clear hHeld
      refine ha _ _ ?_
      clear ha
      refine th_end (kd := kd) (ix := ix) (k0 := na) (k1 := 0) (k2 := (n4 : Int)) (k3 := (n5 : Int)) ?hx1 ?hx2 ?hz0 ?hz1 ?hz2 ?hz3 _ _ _ _ _ _ _ _ _ _ _ _ _ _ _ _ _ _ _ _ _ _ _ _ _ _ _ _ _ _ _ _ _ _ _ _ _ (fun t ht => ?hq)
      case hx1 => exact HXS.out.cell 1
      case hx2 => exact HXS.out.cell 2
      case hz0 => exact Blk.cell HZS.out 0
      case hz1 => exact Blk.cell HZS.out 1
      case hz2 => exact Blk.cell HZS.out 2
      case hz3 => exact Blk.cell HZS.out 3
      case hq =>
        refine bodyPost_ret (results_tmp results77 _ _ _) rfl ?_
        refine ⟨?_, below_drew HBS.out⟩
        have e2 : t.getD 4 undef = .bool (inB 4 kd && inB (if kd = 0 then na else if kd = 1 then 0 else if kd = 2 then (n4 : Int) else (n5 : Int)) ix) := by rw [Array.getD_eq_getD_getElem?, ht]; rfl
        rw [e2, HTH.out]
end Go.Proofs.Ytackompihengfaa
