/-
  Called with any number of bits and any two words, grommetlaw05.WordShifts returns true; no condition.
-/
import Derived.Test.YtmbnaejoiglckaaWe
import Derived.WalkKit
import Derived.ProofKit
import Derived.OpenShut
import Derived.ShutString
import Derived.ChangeOld
import Derived.Below
namespace Go.Proofs.Ytmbnaejoiglckaa
open Go.ChangeShapes Go.WideShapes Go.ChangeAt Go.RowKit
open Go.ChangeMaps (open_string shut_string)
set_option linter.unusedVariables false      -- a wordShifts_walk need not use every 'w<i>' (that an integer argument fits its kind)


set_option maxHeartbeats 1000000 in
set_option maxRecDepth 100000 in
theorem wordShifts_walk (a0 : Int) (a1 : Int) (a2 : Int) (w0 : (Lit.int .i64 a0).wf = true) (w1 : (Lit.int .u64 a1).wf = true) (w2 : (Lit.int .u64 a2).wf = true) (w : World) :
    Calls Try.prog 6 #[.int .i64 a0, .int .u64 a1, .int .u64 a2] w fun e w' => e = .returned (.bool true) ∧ Below w.heap.size w w' := by
  obtain ⟨a, rfl, ha⟩ := u64_nat w1
  obtain ⟨k, rfl, hk⟩ := u64_nat w2
  have AW := Lib.hid (awake_any w)
  clear w0 w1 w2
  by_cases h : Wd.ok a0
  · have R := Lib.hid (right_yes a0 w h)
    have h1 := Wd.sh_lt h k
    have hp : 2 ^ (k % a0.toNat) < 18446744073709551616 := Nat.lt_of_lt_of_le (Nat.pow_lt_pow_right (by decide) h1) (by rw [← Wd.md_pow h]; exact Wd.md_le h)
    have e1 := Wd.shl_mul h ha hk
    obtain ⟨e2, e3⟩ := Wd.shr_div h ha hk
    have t0 : ∀ b, Wd.tr 10 a0 a b = 0 ∧ Wd.tr 2 a0 a b = 0 ∧ Wd.tr 12 a0 a b = 0 := fun b => ⟨rfl, rfl, rfl⟩
    obtain ⟨p, ep⟩ : ∃ p, p = 2 ^ (k % a0.toNat) := ⟨_, rfl⟩
    rw [← ep] at e1 e2 e3 hp
    have B1 := Lib.hid (Binary_ok 10 a0 a k w h (by decide) (by decide) ha hk)
    have B2 := Lib.hid (Binary_ok 2 a0 a p w h (by decide) (by decide) ha hp)
    have B3 := Lib.hid (Binary_ok 12 a0 a k w h (by decide) (by decide) ha hk)
    have B4 := Lib.hid (Binary_ok 4 a0 a p w h (by decide) (by decide) ha hp)
    rw [← e1] at B2
    rw [← e2, e3] at B4
    have EP := Lib.hid (show IntKind.u64.wrap ((2 : Int) ^ (k % a0.toNat)) = (p : Int) from by
      have h2 : 1 * 2 ^ (k % a0.toNat) % 18446744073709551616 = p := by rw [Nat.one_mul, ← ep]; exact Nat.mod_eq_of_lt hp
      have := wrap_nat 1 (k % a0.toNat)
      rw [h2] at this
      simpa using this)
    obtain ⟨x, ex⟩ : ∃ x, x = Wd.bz 10 a0 a k := ⟨_, rfl⟩
    obtain ⟨y, ey⟩ : ∃ y, y = Wd.bz 12 a0 a k := ⟨_, rfl⟩
    rw [← ex] at B1 B2
    rw [← ey] at B3 B4
    have HA := Lib.hid ha
    have HK := Lib.hid hk
    clear h1 e1 e2 e3 t0 ep ex ey hp ha hk
    rcases h with rfl | rfl
    · have E2 : Hid (IntKind.u64.wrap ((2 : Int) ^ (k % 32)) = (p : Int)) := EP
      clear EP
      go_enter Try.func6, Try.ntmps6
      go_wp2_with (first
        | (go_at_call 9; refine R.out.mono ?_; rintro e w3 ⟨rfl, rfl⟩)
        | (go_at_call 10; refine AW.out.mono ?_; rintro e w3 ⟨rfl, rfl⟩)
        | (go_at_call 8; with_reducible refine B1.out.mono ?_; rintro e w3 ⟨rfl, rfl⟩)
        | (go_at_call 8; with_reducible refine B3.out.mono ?_; rintro e w3 ⟨rfl, rfl⟩)
        | (go_at_call 8; (try rw [E2.out]); with_reducible refine B2.out.mono ?_; rintro e w3 ⟨rfl, rfl⟩)
        | (go_at_call 8; (try rw [E2.out]); with_reducible refine B4.out.mono ?_; rintro e w3 ⟨rfl, rfl⟩))
      go_ret
      exact ⟨rfl, Below.refl _ _⟩
    · have E2 : Hid (IntKind.u64.wrap ((2 : Int) ^ (k % 64)) = (p : Int)) := EP
      clear EP
      go_enter Try.func6, Try.ntmps6
      go_wp2_with (first
        | (go_at_call 9; refine R.out.mono ?_; rintro e w3 ⟨rfl, rfl⟩)
        | (go_at_call 10; refine AW.out.mono ?_; rintro e w3 ⟨rfl, rfl⟩)
        | (go_at_call 8; with_reducible refine B1.out.mono ?_; rintro e w3 ⟨rfl, rfl⟩)
        | (go_at_call 8; with_reducible refine B3.out.mono ?_; rintro e w3 ⟨rfl, rfl⟩)
        | (go_at_call 8; (try rw [E2.out]); with_reducible refine B2.out.mono ?_; rintro e w3 ⟨rfl, rfl⟩)
        | (go_at_call 8; (try rw [E2.out]); with_reducible refine B4.out.mono ?_; rintro e w3 ⟨rfl, rfl⟩))
      go_ret
      exact ⟨rfl, Below.refl _ _⟩
  · have R := Lib.hid (right_no a0 w h)
    clear h
    go_enter Try.func6, Try.ntmps6
    go_wp2_with (first
      | (go_at_call 9; refine R.out.mono ?_; rintro e w3 ⟨rfl, rfl⟩)
      | (go_at_call 10; refine AW.out.mono ?_; rintro e w3 ⟨rfl, rfl⟩))
    go_ret
    exact ⟨rfl, Below.refl _ _⟩

set_option maxRecDepth 100000 in
theorem wordShifts_lifted (os : Os) (started : os.Started) (H : Type) (enc : TypeId × Value → H) :
    ReturnsInHanded {} Try.checked os 6 .any (Rows.wordShiftsSpec.pre6 enc Try.prog Try.f6 Rows.wordShiftsRow.domain false) (Rows.wordShiftsSpec.post enc Try.prog Try.f6 false true false false) := by
  refine returnsInHanded_of_change (C := Try.checked) Try.own started (by kernel_rfl) Try.func6
    (ChangeSpec.witness6 (enc := enc) (C := Try.checked) false ⟨#[], #[.int .i64 0, .int .u64 0, .int .u64 0], []⟩ 8 (by kernel_rfl) (by kernel_rfl) (by kernel_rfl) (by kernel_rfl)) ?_
  intro W base args ds gs before hval0 hW hcnd _
  have hval : ∀ (j : Nat) t v, Try.f6.params[j]? = some t → args[j]? = some v → Value.okWide Try.prog W .any base t v := hval0
  have hW' := hW
  obtain ⟨p, q, hA0, hV, rfl, hfz, hnd⟩ := hW
  have hA : DataW.TrodAll enc Try.prog W 0 (fun _ => true) true Try.f6.params.toList args.toList ds p := hA0
  rw [Try.params6] at hA hval
  obtain ⟨v0, vs0, d0, ds0, p0, q0, hargs, rfl, rfl, h0, r0⟩ := trodAll_cons hA
  obtain ⟨v1, vs1, d1, ds1, p1, q1, rfl, rfl, rfl, h1, r1⟩ := trodAll_cons r0
  obtain ⟨v2, vs2, d2, ds2, p2, q2, rfl, rfl, rfl, h2, r2⟩ := trodAll_cons r1
  obtain ⟨rfl, rfl, rfl⟩ := trodAll_nil r2
  obtain rfl : args = #[v0, v1, v2] := by cases args; simp_all
  obtain ⟨rfl, rfl⟩ := trodVars_none hV
  obtain ⟨a0, rfl, rfl, rfl, w0⟩ := open_int Try.underlying3 (hval 0 3 v0 rfl rfl) h0
  obtain ⟨a1, rfl, rfl, rfl, w1⟩ := open_int Try.underlying22 (hval 1 22 v1 rfl rfl) h1
  obtain ⟨a2, rfl, rfl, rfl, w2⟩ := open_int Try.underlying22 (hval 2 22 v2 rfl rfl) h2
  clear hA0 hval0
  simp only [List.append_nil] at hW'
  refine (wordShifts_walk a0 a1 a2 w0 w1 w2 W).mono fun e W' ⟨he, hg⟩ => ?_
  subst he
  exact ⟨_, rfl, _, _, _, [], [], [], hW', (trodAll_cons_mk (shut_bool Try.underlying4 _) trodAll_mk0), (trodAll_cons_mk (shut_int Try.underlying3 w0) (trodAll_cons_mk (shut_int Try.underlying22 w1) (trodAll_cons_mk (shut_int Try.underlying22 w2) trodAll_mk0))), rfl, hg.frame _, fun h => by cases h⟩

theorem wordShifts_over : Rows.wordShiftsRow.holds Try.pinned (OpenSpec.ofChange Rows.wordShiftsSpec) :=
  OpenClaim.holds_of_wide 6 Try.f6 rfl rfl rfl rfl rfl rfl rfl ⟨rfl, rfl, rfl, rfl, rfl⟩ rfl rfl rfl rfl rfl (by kernel_rfl) Try.func6 (by kernel_rfl)
    (of_decide_eq_true (by kernel_rfl)) (by unfold Func.isWrapper; first | (rw [if_pos (by decide +kernel)]; kernel_rfl) | (rw [if_neg (by decide +kernel)]; exact ⟨rfl, rfl⟩))
    (fun os started H enc _ => wordShifts_lifted os started H enc)

theorem wordShifts_proved : Rows.WordShiftsSaid :=
  wordShifts_over
#print axioms wordShifts_proved
end Go.Proofs.Ytmbnaejoiglckaa
