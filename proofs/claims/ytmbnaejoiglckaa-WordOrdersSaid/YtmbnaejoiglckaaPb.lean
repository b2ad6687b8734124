/-
  Called with any number of bits, any two words and either answer to whether they have a sign, grommetlaw05.WordOrders returns true; no condition.
-/
import Derived.Test.YtmbnaejoiglckaaWe
import Derived.WalkKit
import Derived.ProofKit
import Derived.OpenShut
import Derived.ShutString
import Derived.ChangeOld
import Derived.Below
namespace Go.Proofs.Ytmbnaejoiglckaa
open Go.ChangeShapes Go.WideShapes Go.ChangeAt Go.RowKit
open Go.ChangeMaps (open_string shut_string)
set_option linter.unusedVariables false      -- a wordOrders_walk need not use every 'w<i>' (that an integer argument fits its kind)


set_option maxHeartbeats 1000000 in
set_option maxRecDepth 100000 in
theorem wordOrders_walk (a0 : Int) (a1 : Int) (a2 : Int) (a3 : Bool) (w0 : (Lit.int .i64 a0).wf = true) (w1 : (Lit.int .u64 a1).wf = true) (w2 : (Lit.int .u64 a2).wf = true) (w : World) :
    Calls Try.prog 7 #[.int .i64 a0, .int .u64 a1, .int .u64 a2, .bool a3] w fun e w' => e = .returned (.bool true) ∧ Below w.heap.size w w' := by
  obtain ⟨a, rfl, ha⟩ := u64_nat w1
  obtain ⟨b, rfl, hb⟩ := u64_nat w2
  have AW := Lib.hid (awake_any w)
  clear w0 w1 w2
  by_cases h : Wd.ok a0
  · have R := Lib.hid (right_yes a0 w h)
    cases a3
    · have T := Wd.tst_lt (s := false) h ha hb
      have B0 := Lib.hid (Test_ok 3 a0 a b w h (by decide) (by decide) ha hb)
      have B1 := Lib.hid (Test_ok 5 a0 a b w h (by decide) (by decide) ha hb)
      have B2 := Lib.hid (Test_ok 7 a0 a b w h (by decide) (by decide) ha hb)
      have B3 := Lib.hid (Test_ok 9 a0 a b w h (by decide) (by decide) ha hb)
      have B4 := Lib.hid (Test_ok 0 a0 a b w h (by decide) (by decide) ha hb)
      have B5 := Lib.hid (Test_ok 1 a0 a b w h (by decide) (by decide) ha hb)
      have B6 := Lib.hid (Test_ok 3 a0 b a w h (by decide) (by decide) hb ha)
      have T : Wd.tz 3 a0 a b + Wd.tz 5 a0 a b + Wd.tz 0 a0 a b = 1 ∧ Wd.tz 3 a0 a b + Wd.tz 9 a0 a b = 1 ∧ Wd.tz 5 a0 a b + Wd.tz 7 a0 a b = 1 ∧ Wd.tz 0 a0 a b + Wd.tz 1 a0 a b = 1 ∧ Wd.tz 3 a0 b a = Wd.tz 5 a0 a b := T
      obtain ⟨lt, e0⟩ : ∃ x, x = Wd.tz 3 a0 a b := ⟨_, rfl⟩
      obtain ⟨gt, e1⟩ : ∃ x, x = Wd.tz 5 a0 a b := ⟨_, rfl⟩
      obtain ⟨le, e2⟩ : ∃ x, x = Wd.tz 7 a0 a b := ⟨_, rfl⟩
      obtain ⟨ge, e3⟩ : ∃ x, x = Wd.tz 9 a0 a b := ⟨_, rfl⟩
      obtain ⟨eq, e4⟩ : ∃ x, x = Wd.tz 0 a0 a b := ⟨_, rfl⟩
      obtain ⟨ne, e5⟩ : ∃ x, x = Wd.tz 1 a0 a b := ⟨_, rfl⟩
      rw [← e0, ← e1, ← e2, ← e3, ← e4, ← e5] at T
      rw [T.2.2.2.2] at B6
      rw [← e0] at B0
      rw [← e1] at B1
      rw [← e2] at B2
      rw [← e3] at B3
      rw [← e4] at B4
      rw [← e5] at B5
      have t1 := T.1
      have t2 := T.2.1
      have t3 := T.2.2.1
      have t4 := T.2.2.2.1
      have b1 : lt ≤ 1 ∧ gt ≤ 1 ∧ le ≤ 1 ∧ ge ≤ 1 ∧ eq ≤ 1 ∧ ne ≤ 1 := by omega
      clear e0 e1 e2 e3 e4 e5 T h ha hb
      go_enter Try.func7, Try.ntmps7
      go_wp2_with (first
        | (go_at_call 9; refine R.out.mono ?_; rintro e w3 ⟨rfl, rfl⟩)
        | (go_at_call 10; refine AW.out.mono ?_; rintro e w3 ⟨rfl, rfl⟩)
        | (go_at_call 12; with_reducible refine B0.out.mono ?_; rintro e w3 ⟨rfl, rfl⟩)
        | (go_at_call 12; with_reducible refine B1.out.mono ?_; rintro e w3 ⟨rfl, rfl⟩)
        | (go_at_call 12; with_reducible refine B2.out.mono ?_; rintro e w3 ⟨rfl, rfl⟩)
        | (go_at_call 12; with_reducible refine B3.out.mono ?_; rintro e w3 ⟨rfl, rfl⟩)
        | (go_at_call 12; with_reducible refine B4.out.mono ?_; rintro e w3 ⟨rfl, rfl⟩)
        | (go_at_call 12; with_reducible refine B5.out.mono ?_; rintro e w3 ⟨rfl, rfl⟩)
        | (go_at_call 12; with_reducible refine B6.out.mono ?_; rintro e w3 ⟨rfl, rfl⟩))
      go_ret
      exact ⟨rfl, Below.refl _ _⟩
    · have T := Wd.tst_lt (s := true) h ha hb
      have B0 := Lib.hid (Test_ok 2 a0 a b w h (by decide) (by decide) ha hb)
      have B1 := Lib.hid (Test_ok 4 a0 a b w h (by decide) (by decide) ha hb)
      have B2 := Lib.hid (Test_ok 6 a0 a b w h (by decide) (by decide) ha hb)
      have B3 := Lib.hid (Test_ok 8 a0 a b w h (by decide) (by decide) ha hb)
      have B4 := Lib.hid (Test_ok 0 a0 a b w h (by decide) (by decide) ha hb)
      have B5 := Lib.hid (Test_ok 1 a0 a b w h (by decide) (by decide) ha hb)
      have B6 := Lib.hid (Test_ok 2 a0 b a w h (by decide) (by decide) hb ha)
      have T : Wd.tz 2 a0 a b + Wd.tz 4 a0 a b + Wd.tz 0 a0 a b = 1 ∧ Wd.tz 2 a0 a b + Wd.tz 8 a0 a b = 1 ∧ Wd.tz 4 a0 a b + Wd.tz 6 a0 a b = 1 ∧ Wd.tz 0 a0 a b + Wd.tz 1 a0 a b = 1 ∧ Wd.tz 2 a0 b a = Wd.tz 4 a0 a b := T
      obtain ⟨lt, e0⟩ : ∃ x, x = Wd.tz 2 a0 a b := ⟨_, rfl⟩
      obtain ⟨gt, e1⟩ : ∃ x, x = Wd.tz 4 a0 a b := ⟨_, rfl⟩
      obtain ⟨le, e2⟩ : ∃ x, x = Wd.tz 6 a0 a b := ⟨_, rfl⟩
      obtain ⟨ge, e3⟩ : ∃ x, x = Wd.tz 8 a0 a b := ⟨_, rfl⟩
      obtain ⟨eq, e4⟩ : ∃ x, x = Wd.tz 0 a0 a b := ⟨_, rfl⟩
      obtain ⟨ne, e5⟩ : ∃ x, x = Wd.tz 1 a0 a b := ⟨_, rfl⟩
      rw [← e0, ← e1, ← e2, ← e3, ← e4, ← e5] at T
      rw [T.2.2.2.2] at B6
      rw [← e0] at B0
      rw [← e1] at B1
      rw [← e2] at B2
      rw [← e3] at B3
      rw [← e4] at B4
      rw [← e5] at B5
      have t1 := T.1
      have t2 := T.2.1
      have t3 := T.2.2.1
      have t4 := T.2.2.2.1
      have b1 : lt ≤ 1 ∧ gt ≤ 1 ∧ le ≤ 1 ∧ ge ≤ 1 ∧ eq ≤ 1 ∧ ne ≤ 1 := by omega
      clear e0 e1 e2 e3 e4 e5 T h ha hb
      go_enter Try.func7, Try.ntmps7
      go_wp2_with (first
        | (go_at_call 9; refine R.out.mono ?_; rintro e w3 ⟨rfl, rfl⟩)
        | (go_at_call 10; refine AW.out.mono ?_; rintro e w3 ⟨rfl, rfl⟩)
        | (go_at_call 12; with_reducible refine B0.out.mono ?_; rintro e w3 ⟨rfl, rfl⟩)
        | (go_at_call 12; with_reducible refine B1.out.mono ?_; rintro e w3 ⟨rfl, rfl⟩)
        | (go_at_call 12; with_reducible refine B2.out.mono ?_; rintro e w3 ⟨rfl, rfl⟩)
        | (go_at_call 12; with_reducible refine B3.out.mono ?_; rintro e w3 ⟨rfl, rfl⟩)
        | (go_at_call 12; with_reducible refine B4.out.mono ?_; rintro e w3 ⟨rfl, rfl⟩)
        | (go_at_call 12; with_reducible refine B5.out.mono ?_; rintro e w3 ⟨rfl, rfl⟩)
        | (go_at_call 12; with_reducible refine B6.out.mono ?_; rintro e w3 ⟨rfl, rfl⟩))
      go_ret
      exact ⟨rfl, Below.refl _ _⟩
  · have R := Lib.hid (right_no a0 w h)
    clear h
    go_enter Try.func7, Try.ntmps7
    go_wp2_with (first
      | (go_at_call 9; refine R.out.mono ?_; rintro e w3 ⟨rfl, rfl⟩)
      | (go_at_call 10; refine AW.out.mono ?_; rintro e w3 ⟨rfl, rfl⟩))
    go_ret
    exact ⟨rfl, Below.refl _ _⟩

set_option maxRecDepth 100000 in
theorem wordOrders_lifted (os : Os) (started : os.Started) (H : Type) (enc : TypeId × Value → H) :
    ReturnsInHanded {} Try.checked os 7 .any (Rows.wordOrdersSpec.pre6 enc Try.prog Try.f7 Rows.wordOrdersRow.domain false) (Rows.wordOrdersSpec.post enc Try.prog Try.f7 false true false false) := by
  refine returnsInHanded_of_change (C := Try.checked) Try.own started (by kernel_rfl) Try.func7
    (ChangeSpec.witness6 (enc := enc) (C := Try.checked) false ⟨#[], #[.int .i64 0, .int .u64 0, .int .u64 0, .bool false], []⟩ 8 (by kernel_rfl) (by kernel_rfl) (by kernel_rfl) (by kernel_rfl)) ?_
  intro W base args ds gs before hval0 hW hcnd _
  have hval : ∀ (j : Nat) t v, Try.f7.params[j]? = some t → args[j]? = some v → Value.okWide Try.prog W .any base t v := hval0
  have hW' := hW
  obtain ⟨p, q, hA0, hV, rfl, hfz, hnd⟩ := hW
  have hA : DataW.TrodAll enc Try.prog W 0 (fun _ => true) true Try.f7.params.toList args.toList ds p := hA0
  rw [Try.params7] at hA hval
  obtain ⟨v0, vs0, d0, ds0, p0, q0, hargs, rfl, rfl, h0, r0⟩ := trodAll_cons hA
  obtain ⟨v1, vs1, d1, ds1, p1, q1, rfl, rfl, rfl, h1, r1⟩ := trodAll_cons r0
  obtain ⟨v2, vs2, d2, ds2, p2, q2, rfl, rfl, rfl, h2, r2⟩ := trodAll_cons r1
  obtain ⟨v3, vs3, d3, ds3, p3, q3, rfl, rfl, rfl, h3, r3⟩ := trodAll_cons r2
  obtain ⟨rfl, rfl, rfl⟩ := trodAll_nil r3
  obtain rfl : args = #[v0, v1, v2, v3] := by cases args; simp_all
  obtain ⟨rfl, rfl⟩ := trodVars_none hV
  obtain ⟨a0, rfl, rfl, rfl, w0⟩ := open_int Try.underlying3 (hval 0 3 v0 rfl rfl) h0
  obtain ⟨a1, rfl, rfl, rfl, w1⟩ := open_int Try.underlying22 (hval 1 22 v1 rfl rfl) h1
  obtain ⟨a2, rfl, rfl, rfl, w2⟩ := open_int Try.underlying22 (hval 2 22 v2 rfl rfl) h2
  obtain ⟨a3, rfl, rfl, rfl⟩ := open_bool Try.underlying4 (hval 3 4 v3 rfl rfl) h3
  clear hA0 hval0
  simp only [List.append_nil] at hW'
  refine (wordOrders_walk a0 a1 a2 a3 w0 w1 w2 W).mono fun e W' ⟨he, hg⟩ => ?_
  subst he
  exact ⟨_, rfl, _, _, _, [], [], [], hW', (trodAll_cons_mk (shut_bool Try.underlying4 _) trodAll_mk0), (trodAll_cons_mk (shut_int Try.underlying3 w0) (trodAll_cons_mk (shut_int Try.underlying22 w1) (trodAll_cons_mk (shut_int Try.underlying22 w2) (trodAll_cons_mk (shut_bool Try.underlying4 _) trodAll_mk0)))), rfl, hg.frame _, fun h => by cases h⟩

theorem wordOrders_over : Rows.wordOrdersRow.holds Try.pinned (OpenSpec.ofChange Rows.wordOrdersSpec) :=
  OpenClaim.holds_of_wide 7 Try.f7 rfl rfl rfl rfl rfl rfl rfl ⟨rfl, rfl, rfl, rfl, rfl⟩ rfl rfl rfl rfl rfl (by kernel_rfl) Try.func7 (by kernel_rfl)
    (of_decide_eq_true (by kernel_rfl)) (by unfold Func.isWrapper; first | (rw [if_pos (by decide +kernel)]; kernel_rfl) | (rw [if_neg (by decide +kernel)]; exact ⟨rfl, rfl⟩))
    (fun os started H enc _ => wordOrders_lifted os started H enc)

theorem wordOrders_proved : Rows.WordOrdersSaid :=
  wordOrders_over
#print axioms wordOrders_proved
end Go.Proofs.Ytmbnaejoiglckaa
