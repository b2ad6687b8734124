/-
  Called with any number of bits and any two words, grommetlaw05.WordTurns returns true, the tables of math/bits lying as the program's text lays them; no other condition.
-/
import Derived.Test.YtmbnaejoiglckaaDoorWe
import Derived.Test.YtmbnaejoiglckaaDoorCards
import Derived.WalkKit
import Derived.ProofKit
import Derived.OpenShut
import Derived.ShutString
import Derived.ChangeOld
import Derived.Below
namespace Go.Proofs.YtmbnaejoiglckaaDoor
open Go.ChangeShapes Go.WideShapes Go.ChangeAt Go.RowKit
set_option linter.unusedVariables false      -- a wordTurns_walk need not use every 'w<i>' (that an integer argument fits its kind)


set_option maxHeartbeats 4000000 in
set_option maxRecDepth 100000 in
theorem wordTurns_walk (a0 : Int) (a1 : Int) (a2 : Int) (w0 : (Lit.int .i64 a0).wf = true) (w1 : (Lit.int .u64 a1).wf = true) (w2 : (Lit.int .u64 a2).wf = true) (w : World) (hT : Tb w) :
    Calls Tryd.prog 4 #[.int .i64 a0, .int .u64 a1, .int .u64 a2] w fun e w' => e = .returned (.bool true) ∧ Below w.heap.size w w' := by
  obtain ⟨a, rfl, ha⟩ := u64_nat w1
  obtain ⟨k, rfl, hk⟩ := u64_nat w2
  clear w0 w1 w2
  by_cases h : Wd.ok a0
  · have R := Lib.hid (right_yes a0 w h)
    obtain ⟨l1, l2, l3⟩ := Wd.turn_law h ha hk
    have lt64 : ∀ op a b, a < 18446744073709551616 → b < 18446744073709551616 → Wd.bz op a0 a b < 18446744073709551616 := fun op a b ha hb => Nat.lt_of_lt_of_le (Wd.bz_lt h ha hb) (Wd.md_le h)
    have kx := lt64 13 a k ha hk
    have kz := lt64 10 a k ha hk
    have kw := lt64 12 _ k kz hk
    have ku := lt64 9 _ a kw ha
    have B1 := Lib.hid (Binary_ok 13 a0 a k w h (by decide) (by decide) ha hk)
    have B2 := Lib.hid (Binary_ok 14 a0 _ k w h (by decide) (by decide) kx hk)
    have B3 := Lib.hid (Binary_ok 10 a0 a k w h (by decide) (by decide) ha hk)
    have B4 := Lib.hid (Binary_ok 12 a0 _ k w h (by decide) (by decide) kz hk)
    have B5 := Lib.hid (fun w1 : World => Binary_ok 9 a0 _ a w1 h (by decide) (by decide) kw ha)
    have B6 := Lib.hid (fun w1 : World => Binary_ok 10 a0 _ k w1 h (by decide) (by decide) ku hk)
    have U1 := Lib.hid (Unary_ok 2 a0 _ w h (by decide) (by decide) kx hT)
    have U2 := Lib.hid (fun (w1 : World) (hT : Tb w1) => Unary_ok 2 a0 a w1 h (by decide) (by decide) ha hT)
    rw [l1] at B2
    rw [l2] at U1
    rw [l3] at B6
    have C := Lib.hid (fun w1 : World => Cut_any a0 a w1)
    obtain ⟨x, ex⟩ : ∃ x, x = Wd.bz 13 a0 a k := ⟨_, rfl⟩
    obtain ⟨z, ez⟩ : ∃ z, z = Wd.bz 10 a0 a k := ⟨_, rfl⟩
    rw [← ex] at B1 B2 U1
    rw [← ez] at B3 B4 B5 B6
    obtain ⟨v, ev⟩ : ∃ v, v = Wd.bz 12 a0 z k := ⟨_, rfl⟩
    rw [← ev] at B4 B5 B6
    obtain ⟨u, eu⟩ : ∃ u, u = Wd.bz 9 a0 v a := ⟨_, rfl⟩
    rw [← eu] at B5 B6
    obtain ⟨m, em⟩ : ∃ m, m = uz 2 a0 a := ⟨_, rfl⟩
    rw [← em] at U1 U2
    obtain ⟨c, ec⟩ : ∃ c, c = Wd.cut a0 a := ⟨_, rfl⟩
    rw [← ec] at B2 C
    have AW := Lib.hid awake_any
    have HT := Lib.hid hT
    clear l1 l2 l3 lt64 kx kz kw ku ex ez ev eu em ec h ha hk hT
    go_enter Tryd.func4, Tryd.ntmps4
    go_wp2_with (first
        | (go_at_call 14; refine R.out.mono ?_; rintro e w3 ⟨rfl, rfl⟩)
        | (go_at_call 15; refine (AW.out _).mono ?_; rintro e w3 ⟨rfl, rfl⟩)
        | (go_at_call 17; with_reducible refine B1.out.mono ?_; rintro e w3 ⟨rfl, rfl⟩)
        | (go_at_call 17; with_reducible refine B2.out.mono ?_; rintro e w3 ⟨rfl, rfl⟩)
        | (go_at_call 17; with_reducible refine B3.out.mono ?_; rintro e w3 ⟨rfl, rfl⟩)
        | (go_at_call 17; with_reducible refine B4.out.mono ?_; rintro e w3 ⟨rfl, rfl⟩)
        | (go_at_call 17; with_reducible refine (B5.out _).mono ?_; rintro e w3 ⟨rfl, rfl⟩)
        | (go_at_call 17; with_reducible refine (B6.out _).mono ?_; rintro e w3 ⟨rfl, rfl⟩)
        | (go_at_call 11; with_reducible refine U1.out.mono ?_; rintro e w3 ⟨rfl, hb3⟩; have H3 := Lib.hid hb3; have T3 := Lib.hid (HT.out.below hb3 HT.out.size); clear hb3)
        | (go_at_call 11; with_reducible refine (U2.out _ T3.out).mono ?_; rintro e w4 ⟨rfl, hb4⟩; have H4 := Lib.hid (H3.out.trans (hb4.mono H3.out.size)); clear hb4)
        | (go_at_call 12; refine (C.out _).mono ?_; rintro e w5 ⟨rfl, rfl⟩))
    go_ret
    exact ⟨rfl, H4.out⟩
  · have R := Lib.hid (right_no a0 w h)
    have AW := Lib.hid awake_any
    clear h
    go_enter Tryd.func4, Tryd.ntmps4
    go_wp2_with (first
      | (go_at_call 14; refine R.out.mono ?_; rintro e w3 ⟨rfl, rfl⟩)
      | (go_at_call 15; refine (AW.out _).mono ?_; rintro e w3 ⟨rfl, rfl⟩))
    go_ret
    exact ⟨rfl, Below.refl _ _⟩

set_option maxRecDepth 100000 in
theorem wordTurns_lifted (os : Os) (started : os.Started) (H : Type) (enc : TypeId × Value → H) :
    ReturnsInHanded {} Tryd.checked os 4 .any (fun w args => (Rows.wordTurnsSpec.pre enc Tryd.prog Tryd.f4 [] false w args ∧ laidMetH Tryd.prog laidA w) ∧ sizedMet enc Tryd.prog Tryd.f4 (OpenSpec.ofChange Rows.wordTurnsSpec) false w args) (Rows.wordTurnsSpec.post enc Tryd.prog Tryd.f4 false true false false) := by
  refine returnsInHanded_of_change_and (C := Tryd.checked) (X := fun w _ => laidMetH Tryd.prog laidA w) (fun _ _ _ hh h => h.of_heap hh) Tryd.own started (by kernel_rfl) Tryd.func4
    (ChangeSpec.witness_shaped (enc := enc) (C := Tryd.checked) (os := os) (X := fun w _ => laidMetH Tryd.prog laidA w) false (World.doorLaid Tryd.prog 2000 os) #[.int .i64 0, .int .u64 0, .int .u64 0] 8 rfl (World.shaped_of_RefB (by kernel_rfl) (by kernel_rfl)) (by kernel_rfl) (by kernel_rfl) (by kernel_rfl) (doorA_met os _)) ?_
  intro W base args ds gs before hval0 hW _ _ hL _
  have hval : ∀ (j : Nat) t v, Tryd.f4.params[j]? = some t → args[j]? = some v → Value.okWide Tryd.prog W .any base t v := hval0
  have hW' := hW
  obtain ⟨p, q, hA0, hV, rfl, hfz, hnd⟩ := hW
  have hA : DataW.TrodAll enc Tryd.prog W 0 (fun _ => true) true Tryd.f4.params.toList args.toList ds p := hA0
  rw [Tryd.params4] at hA hval
  obtain ⟨v0, vs0, d0, ds0, p0, q0, hargs, rfl, rfl, h0, r0⟩ := trodAll_cons hA
  obtain ⟨v1, vs1, d1, ds1, p1, q1, rfl, rfl, rfl, h1, r1⟩ := trodAll_cons r0
  obtain ⟨v2, vs2, d2, ds2, p2, q2, rfl, rfl, rfl, h2, r2⟩ := trodAll_cons r1
  obtain ⟨rfl, rfl, rfl⟩ := trodAll_nil r2
  obtain rfl : args = #[v0, v1, v2] := by cases args; simp_all
  obtain ⟨rfl, rfl⟩ := trodVars_none hV
  obtain ⟨a0, rfl, rfl, rfl, w0⟩ := open_int Tryd.underlying3 (hval 0 3 v0 rfl rfl) h0
  obtain ⟨a1, rfl, rfl, rfl, w1⟩ := open_int Tryd.underlying22 (hval 1 22 v1 rfl rfl) h1
  obtain ⟨a2, rfl, rfl, rfl, w2⟩ := open_int Tryd.underlying22 (hval 2 22 v2 rfl rfl) h2
  clear hA0 hval0
  simp only [List.append_nil] at hW'
  refine (wordTurns_walk a0 a1 a2 w0 w1 w2 W (tb_A hL)).mono fun e W' ⟨he, hg⟩ => ?_
  subst he
  exact ⟨_, rfl, _, _, _, [], [], [], hW', (trodAll_cons_mk (shut_bool Tryd.underlying4 _) trodAll_mk0), (trodAll_cons_mk (shut_int Tryd.underlying3 w0) (trodAll_cons_mk (shut_int Tryd.underlying22 w1) (trodAll_cons_mk (shut_int Tryd.underlying22 w2) trodAll_mk0))), rfl, hg.frame _, fun h => by cases h⟩

theorem wordTurns_over : Rows.wordTurnsRow.holds Tryd.pinned (OpenSpec.ofChange Rows.wordTurnsSpec) :=
  OpenClaim.holds_of_wide 4 Tryd.f4 rfl rfl rfl rfl rfl rfl rfl ⟨rfl, rfl, rfl, rfl, rfl⟩ rfl rfl rfl rfl rfl (by kernel_rfl) Tryd.func4 (by kernel_rfl)
    (of_decide_eq_true (by kernel_rfl)) (by unfold Func.isWrapper; first | (rw [if_pos (by decide +kernel)]; kernel_rfl) | (rw [if_neg (by decide +kernel)]; exact ⟨rfl, rfl⟩))
    (fun os started H enc _ => wordTurns_lifted os started H enc)

theorem wordTurns_proved : Rows.WordTurnsCardSaid :=
  Claim7.holds_tied_plain_at .later [] [.data] true (true, "397b09112119fa734b71d0dfbaa52ad10e3cfe198ad17a9f7798ec029590703f") true
    wordTurns_over (fun _ h => by cases h) (by kernel_rfl) (fun _ h => by cases h) wordTurns_row_tie rfl ⟨rfl, rfl⟩ (by kernel_rfl) rfl
    (fun f fn hf hfn => by
      obtain rfl : f = 4 := Option.some.inj ((show Tryd.prog.funcNamed "grommet/grommetlaw05.WordTurns" = some 4 by kernel_rfl).symm.trans hf) |>.symm
      obtain rfl : fn = Tryd.f4 := (Option.some.inj (Tryd.func4.symm.trans hfn)).symm
      exact ⟨by kernel_rfl, fun j t ht => by
        rw [Tryd.params4] at ht
        have hm : t ∈ [3, 22] := by
          have := Array.mem_of_getElem? ht
          simp at this ⊢
          omega
        have hall : ([3, 22].all fun u => !Tryd.prog.wantsStandIn u) = true := by kernel_rfl
        exact (show Tryd.prog.wantsStandIn t = false by simpa using List.all_eq_true.1 hall t hm)⟩)
    (by kernel_rfl)
#print axioms wordTurns_proved
end Go.Proofs.YtmbnaejoiglckaaDoor
