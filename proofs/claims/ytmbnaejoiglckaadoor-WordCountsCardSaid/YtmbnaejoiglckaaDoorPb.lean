/-
  Called with any number of bits and any two words, grommetlaw05.WordCounts returns true, the tables of math/bits lying as the program's text lays them; no other condition.
-/
import Derived.Test.YtmbnaejoiglckaaDoorWh
import Derived.Test.YtmbnaejoiglckaaDoorCards
import Derived.WalkKit
import Derived.ProofKit
import Derived.OpenShut
import Derived.ShutString
import Derived.ChangeOld
import Derived.Below
namespace Go.Proofs.YtmbnaejoiglckaaDoor
open Go.ChangeShapes Go.WideShapes Go.ChangeAt Go.RowKit
set_option linter.unusedVariables false      -- a wordCounts_walk need not use every 'w<i>' (that an integer argument fits its kind)


set_option maxHeartbeats 4000000 in
set_option maxRecDepth 100000 in
theorem wordCounts_walk (a0 : Int) (a1 : Int) (a2 : Int) (w0 : (Lit.int .i64 a0).wf = true) (w1 : (Lit.int .u64 a1).wf = true) (w2 : (Lit.int .u64 a2).wf = true) (w : World) (hT : Tb w) :
    Calls Tryd.prog 5 #[.int .i64 a0, .int .u64 a1, .int .u64 a2] w fun e w' => e = .returned (.bool true) ∧ Below w.heap.size w w' := by
  obtain ⟨a, rfl, ha⟩ := u64_nat w1
  obtain ⟨b, rfl, hb⟩ := u64_nat w2
  clear w0 w1 w2
  by_cases h : Wd.ok a0
  · have R := Lib.hid (right_yes a0 w h)
    obtain ⟨l1, l2, l3, l4, l5⟩ := Wd.both_law h ha hb
    have n1 := fun e => Wd.none_law h ha e
    have s1 := fun e => Wd.some_law h ha e
    have lt64 : ∀ op a b, a < 18446744073709551616 → b < 18446744073709551616 → Wd.bz op a0 a b < 18446744073709551616 := fun op a b ha hb => Nat.lt_of_lt_of_le (Wd.bz_lt h ha hb) (Wd.md_le h)
    have kx := lt64 7 a b ha hb
    have ky := lt64 8 a b ha hb
    have kc := Nat.lt_of_lt_of_le (Wd.cut_lt h ha) (Wd.md_le h)
    have B1 := Lib.hid (Binary_ok 7 a0 a b w h (by decide) (by decide) ha hb)
    have B2 := Lib.hid (Binary_ok 8 a0 a b w h (by decide) (by decide) ha hb)
    have U1 := Lib.hid (fun (w1 : World) (hT : Tb w1) => Unary_ok 2 a0 a w1 h (by decide) (by decide) ha hT)
    have U2 := Lib.hid (fun (w1 : World) (hT : Tb w1) => Unary_ok 2 a0 b w1 h (by decide) (by decide) hb hT)
    have U3 := Lib.hid (fun (w1 : World) (hT : Tb w1) => Unary_ok 2 a0 _ w1 h (by decide) (by decide) kx hT)
    have U4 := Lib.hid (fun (w1 : World) (hT : Tb w1) => Unary_ok 2 a0 _ w1 h (by decide) (by decide) ky hT)
    have U5 := Lib.hid (fun (w1 : World) (hT : Tb w1) => Unary_ok 0 a0 a w1 h (by decide) (by decide) ha hT)
    have U6 := Lib.hid (fun (w1 : World) (hT : Tb w1) => Unary_ok 1 a0 a w1 h (by decide) (by decide) ha hT)
    have C := Lib.hid (fun w1 : World => Cut_any a0 a w1)
    obtain ⟨x, ex⟩ : ∃ x, x = Wd.bz 7 a0 a b := ⟨_, rfl⟩
    obtain ⟨y, ey⟩ : ∃ y, y = Wd.bz 8 a0 a b := ⟨_, rfl⟩
    rw [← ex] at B1 U3 l1 l4
    rw [← ey] at B2 U4 l1 l5
    obtain ⟨m, em⟩ : ∃ m, m = uz 2 a0 a := ⟨_, rfl⟩
    obtain ⟨n, en⟩ : ∃ m, m = uz 2 a0 b := ⟨_, rfl⟩
    obtain ⟨p, ep⟩ : ∃ m, m = uz 2 a0 x := ⟨_, rfl⟩
    obtain ⟨q, eq⟩ : ∃ m, m = uz 2 a0 y := ⟨_, rfl⟩
    obtain ⟨H, eH⟩ : ∃ m, m = uz 0 a0 a := ⟨_, rfl⟩
    obtain ⟨t, et⟩ : ∃ m, m = uz 1 a0 a := ⟨_, rfl⟩
    obtain ⟨c, ec⟩ : ∃ c, c = Wd.cut a0 a := ⟨_, rfl⟩
    rw [← em, ← en, ← ep, ← eq] at l1
    rw [← em] at U1 l2 n1 s1
    rw [← en] at U2 l3
    rw [← ep] at U3 l4
    rw [← eq] at U4 l5
    rw [← eH, ← et] at n1 s1
    rw [← ec] at s1 C kc
    rw [← eH] at U5
    rw [← et] at U6
    have AW := Lib.hid awake_any
    have HT := Lib.hid hT
    have l1' : ((m : Int) + n != p + q) = false := by
      have : (m : Int) + n = p + q := by omega
      simp [this]
    have HA := Lib.hid ha
    have HB := Lib.hid hb
    clear l1 lt64 kx ky ex ey em en ep eq eH et ec ha hb hT
    by_cases hm : m = 0
    · obtain ⟨rfl, rfl⟩ := n1 hm
      clear s1 n1
      have hm' : ((m : Int) == 0) = true := by simp [hm]
      rcases h with rfl | rfl
      all_goals
        clear hm
        go_enter Tryd.func5, Tryd.ntmps5
        go_wp2_with (first
          | (go_at_call 14; refine R.out.mono ?_; rintro e w3 ⟨rfl, rfl⟩)
          | (go_at_call 15; refine (AW.out _).mono ?_; rintro e w3 ⟨rfl, rfl⟩)
          | (go_at_call 17; with_reducible refine B1.out.mono ?_; rintro e w3 ⟨rfl, rfl⟩)
          | (go_at_call 17; with_reducible refine B2.out.mono ?_; rintro e w3 ⟨rfl, rfl⟩)
          | (go_at_call 11; with_reducible refine (U1.out _ HT.out).mono ?_; rintro e w3 ⟨rfl, hb3⟩; have H3 := Lib.hid hb3; have T3 := Lib.hid (HT.out.below hb3 HT.out.size); clear hb3)
          | (go_at_call 11; with_reducible refine (U2.out _ T3.out).mono ?_; rintro e w4 ⟨rfl, hb4⟩; have H4 := Lib.hid (H3.out.trans (hb4.mono H3.out.size)); have T4 := Lib.hid (T3.out.below hb4 T3.out.size); clear hb4)
          | (go_at_call 11; with_reducible refine (U3.out _ T4.out).mono ?_; rintro e w5 ⟨rfl, hb5⟩; have H5 := Lib.hid (H4.out.trans (hb5.mono H4.out.size)); have T5 := Lib.hid (T4.out.below hb5 T4.out.size); clear hb5)
          | (go_at_call 11; with_reducible refine (U4.out _ T5.out).mono ?_; rintro e w6 ⟨rfl, hb6⟩; have H6 := Lib.hid (H5.out.trans (hb6.mono H5.out.size)); have T6 := Lib.hid (T5.out.below hb6 T5.out.size); clear hb6)
          | (go_at_call 11; with_reducible refine (U5.out _ T6.out).mono ?_; rintro e w7 ⟨rfl, hb7⟩; have H7 := Lib.hid (H6.out.trans (hb7.mono H6.out.size)); have T7 := Lib.hid (T6.out.below hb7 T6.out.size); clear hb7)
          | (go_at_call 11; with_reducible refine (U6.out _ T7.out).mono ?_; rintro e w8 ⟨rfl, hb8⟩; have H8 := Lib.hid (H7.out.trans (hb8.mono H7.out.size)); clear hb8)
          | (go_at_call 12; refine (C.out _).mono ?_; rintro e w9 ⟨rfl, rfl⟩))
        go_ret
        exact ⟨rfl, H8.out⟩
    · obtain ⟨s1, s2, s3, s4, s5, s6⟩ := s1 hm
      have hm' : ((m : Int) == 0) = false := by simp [hm]
      clear n1 hm
      rcases h with rfl | rfl
      all_goals
        simp only [Int.reduceToNat] at s1 s2 s3 s4
        have e4 := congrArg (fun z : Nat => (z : Int)) s4
        have e5 := congrArg (fun z : Nat => (z : Int)) s5
        have e6 := congrArg (fun z : Nat => (z : Int)) s6
        simp only [Int.natCast_ediv, Int.natCast_emod, Int.natCast_pow, Int.natCast_mul, Int.cast_ofNat_Int, Int.natCast_one] at e4 e5 e6
        clear s4 s5 s6
        go_enter Tryd.func5, Tryd.ntmps5
        go_wp2_with (first
          | (go_at_call 14; refine R.out.mono ?_; rintro e w3 ⟨rfl, rfl⟩)
          | (go_at_call 15; refine (AW.out _).mono ?_; rintro e w3 ⟨rfl, rfl⟩)
          | (go_at_call 17; with_reducible refine B1.out.mono ?_; rintro e w3 ⟨rfl, rfl⟩)
          | (go_at_call 17; with_reducible refine B2.out.mono ?_; rintro e w3 ⟨rfl, rfl⟩)
          | (go_at_call 11; with_reducible refine (U1.out _ HT.out).mono ?_; rintro e w3 ⟨rfl, hb3⟩; have H3 := Lib.hid hb3; have T3 := Lib.hid (HT.out.below hb3 HT.out.size); clear hb3)
          | (go_at_call 11; with_reducible refine (U2.out _ T3.out).mono ?_; rintro e w4 ⟨rfl, hb4⟩; have H4 := Lib.hid (H3.out.trans (hb4.mono H3.out.size)); have T4 := Lib.hid (T3.out.below hb4 T3.out.size); clear hb4)
          | (go_at_call 11; with_reducible refine (U3.out _ T4.out).mono ?_; rintro e w5 ⟨rfl, hb5⟩; have H5 := Lib.hid (H4.out.trans (hb5.mono H4.out.size)); have T5 := Lib.hid (T4.out.below hb5 T4.out.size); clear hb5)
          | (go_at_call 11; with_reducible refine (U4.out _ T5.out).mono ?_; rintro e w6 ⟨rfl, hb6⟩; have H6 := Lib.hid (H5.out.trans (hb6.mono H5.out.size)); have T6 := Lib.hid (T5.out.below hb6 T5.out.size); clear hb6)
          | (go_at_call 11; with_reducible refine (U5.out _ T6.out).mono ?_; rintro e w7 ⟨rfl, hb7⟩; have H7 := Lib.hid (H6.out.trans (hb7.mono H6.out.size)); have T7 := Lib.hid (T6.out.below hb7 T6.out.size); clear hb7)
          | (go_at_call 11; with_reducible refine (U6.out _ T7.out).mono ?_; rintro e w8 ⟨rfl, hb8⟩; have H8 := Lib.hid (H7.out.trans (hb8.mono H7.out.size)); clear hb8)
          | (go_at_call 12; refine (C.out _).mono ?_; rintro e w9 ⟨rfl, rfl⟩))
        go_ret
        exact ⟨rfl, H8.out⟩
  · have R := Lib.hid (right_no a0 w h)
    have AW := Lib.hid awake_any
    clear h
    go_enter Tryd.func5, Tryd.ntmps5
    go_wp2_with (first
      | (go_at_call 14; refine R.out.mono ?_; rintro e w3 ⟨rfl, rfl⟩)
      | (go_at_call 15; refine (AW.out _).mono ?_; rintro e w3 ⟨rfl, rfl⟩))
    go_ret
    exact ⟨rfl, Below.refl _ _⟩

set_option maxRecDepth 100000 in
theorem wordCounts_lifted (os : Os) (started : os.Started) (H : Type) (enc : TypeId × Value → H) :
    ReturnsInHanded {} Tryd.checked os 5 .any (fun w args => (Rows.wordCountsSpec.pre enc Tryd.prog Tryd.f5 [] false w args ∧ laidMetH Tryd.prog laidA w) ∧ sizedMet enc Tryd.prog Tryd.f5 (OpenSpec.ofChange Rows.wordCountsSpec) false w args) (Rows.wordCountsSpec.post enc Tryd.prog Tryd.f5 false true false false) := by
  refine returnsInHanded_of_change_and (C := Tryd.checked) (X := fun w _ => laidMetH Tryd.prog laidA w) (fun _ _ _ hh h => h.of_heap hh) Tryd.own started (by kernel_rfl) Tryd.func5
    (ChangeSpec.witness_shaped (enc := enc) (C := Tryd.checked) (os := os) (X := fun w _ => laidMetH Tryd.prog laidA w) false (World.doorLaid Tryd.prog 2000 os) #[.int .i64 0, .int .u64 0, .int .u64 0] 8 rfl (World.shaped_of_RefB (by kernel_rfl) (by kernel_rfl)) (by kernel_rfl) (by kernel_rfl) (by kernel_rfl) (doorA_met os _)) ?_
  intro W base args ds gs before hval0 hW _ _ hL _
  have hval : ∀ (j : Nat) t v, Tryd.f5.params[j]? = some t → args[j]? = some v → Value.okWide Tryd.prog W .any base t v := hval0
  have hW' := hW
  obtain ⟨p, q, hA0, hV, rfl, hfz, hnd⟩ := hW
  have hA : DataW.TrodAll enc Tryd.prog W 0 (fun _ => true) true Tryd.f5.params.toList args.toList ds p := hA0
  rw [Tryd.params5] at hA hval
  obtain ⟨v0, vs0, d0, ds0, p0, q0, hargs, rfl, rfl, h0, r0⟩ := trodAll_cons hA
  obtain ⟨v1, vs1, d1, ds1, p1, q1, rfl, rfl, rfl, h1, r1⟩ := trodAll_cons r0
  obtain ⟨v2, vs2, d2, ds2, p2, q2, rfl, rfl, rfl, h2, r2⟩ := trodAll_cons r1
  obtain ⟨rfl, rfl, rfl⟩ := trodAll_nil r2
  obtain rfl : args = #[v0, v1, v2] := by cases args; simp_all
  obtain ⟨rfl, rfl⟩ := trodVars_none hV
  obtain ⟨a0, rfl, rfl, rfl, w0⟩ := open_int Tryd.underlying3 (hval 0 3 v0 rfl rfl) h0
  obtain ⟨a1, rfl, rfl, rfl, w1⟩ := open_int Tryd.underlying22 (hval 1 22 v1 rfl rfl) h1
  obtain ⟨a2, rfl, rfl, rfl, w2⟩ := open_int Tryd.underlying22 (hval 2 22 v2 rfl rfl) h2
  clear hA0 hval0
  simp only [List.append_nil] at hW'
  refine (wordCounts_walk a0 a1 a2 w0 w1 w2 W (tb_A hL)).mono fun e W' ⟨he, hg⟩ => ?_
  subst he
  exact ⟨_, rfl, _, _, _, [], [], [], hW', (trodAll_cons_mk (shut_bool Tryd.underlying4 _) trodAll_mk0), (trodAll_cons_mk (shut_int Tryd.underlying3 w0) (trodAll_cons_mk (shut_int Tryd.underlying22 w1) (trodAll_cons_mk (shut_int Tryd.underlying22 w2) trodAll_mk0))), rfl, hg.frame _, fun h => by cases h⟩

theorem wordCounts_over : Rows.wordCountsRow.holds Tryd.pinned (OpenSpec.ofChange Rows.wordCountsSpec) :=
  OpenClaim.holds_of_wide 5 Tryd.f5 rfl rfl rfl rfl rfl rfl rfl ⟨rfl, rfl, rfl, rfl, rfl⟩ rfl rfl rfl rfl rfl (by kernel_rfl) Tryd.func5 (by kernel_rfl)
    (of_decide_eq_true (by kernel_rfl)) (by unfold Func.isWrapper; first | (rw [if_pos (by decide +kernel)]; kernel_rfl) | (rw [if_neg (by decide +kernel)]; exact ⟨rfl, rfl⟩))
    (fun os started H enc _ => wordCounts_lifted os started H enc)

theorem wordCounts_proved : Rows.WordCountsCardSaid :=
  Claim7.holds_tied_plain_at .later [] [.data] true (true, "397b09112119fa734b71d0dfbaa52ad10e3cfe198ad17a9f7798ec029590703f") true
    wordCounts_over (fun _ h => by cases h) (by kernel_rfl) (fun _ h => by cases h) wordCounts_row_tie rfl ⟨rfl, rfl⟩ (by kernel_rfl) rfl
    (fun f fn hf hfn => by
      obtain rfl : f = 5 := Option.some.inj ((show Tryd.prog.funcNamed "grommet/grommetlaw05.WordCounts" = some 5 by kernel_rfl).symm.trans hf) |>.symm
      obtain rfl : fn = Tryd.f5 := (Option.some.inj (Tryd.func5.symm.trans hfn)).symm
      exact ⟨by kernel_rfl, fun j t ht => by
        rw [Tryd.params5] at ht
        have hm : t ∈ [3, 22] := by
          have := Array.mem_of_getElem? ht
          simp at this ⊢
          omega
        have hall : ([3, 22].all fun u => !Tryd.prog.wantsStandIn u) = true := by kernel_rfl
        exact (show Tryd.prog.wantsStandIn t = false by simpa using List.all_eq_true.1 hall t hm)⟩)
    (by kernel_rfl)
#print axioms wordCounts_proved
end Go.Proofs.YtmbnaejoiglckaaDoor
