/-
  Called with any number of bits, any two words and either answer to whether they have a sign, grommetlaw05.WordDivides returns true; no condition.
-/
import Derived.Test.YtmbnaejoiglckaaWe
import Derived.WalkKit
import Derived.ProofKit
import Derived.OpenShut
import Derived.ShutString
import Derived.ChangeOld
import Derived.Below
namespace Go.Proofs.Ytmbnaejoiglckaa
open Go.ChangeShapes Go.WideShapes Go.ChangeAt Go.RowKit
open Go.ChangeMaps (open_string shut_string)
set_option linter.unusedVariables false      -- a wordDivides_walk need not use every 'w<i>' (that an integer argument fits its kind)


set_option maxHeartbeats 1000000 in
set_option maxRecDepth 100000 in
theorem wordDivides_walk (a0 : Int) (a1 : Int) (a2 : Int) (a3 : Bool) (w0 : (Lit.int .i64 a0).wf = true) (w1 : (Lit.int .u64 a1).wf = true) (w2 : (Lit.int .u64 a2).wf = true) (w : World) :
    Calls Try.prog 5 #[.int .i64 a0, .int .u64 a1, .int .u64 a2, .bool a3] w fun e w' => e = .returned (.bool true) ∧ Below w.heap.size w w' := by
  obtain ⟨a, rfl, ha⟩ := u64_nat w1
  obtain ⟨b, rfl, hb⟩ := u64_nat w2
  have AW := Lib.hid (awake_any w)
  clear w0 w1 w2
  by_cases h : Wd.ok a0
  · have R := Lib.hid (right_yes a0 w h)
    cases a3
    · have L : (Wd.cut a0 b = 0 ∧ Wd.tr 4 a0 a b = 2 ∧ Wd.tr 6 a0 a b = 2) ∨ (Wd.cut a0 b ≠ 0 ∧ Wd.tr 4 a0 a b = 3 ∧ Wd.tr 6 a0 a b = 0 ∧ Wd.bz 6 a0 a b = 0 ∧ Wd.sgn a0 b = -1) ∨ (Wd.cut a0 b ≠ 0 ∧ Wd.tr 4 a0 a b = 0 ∧ Wd.tr 6 a0 a b = 0 ∧ Wd.bz 0 a0 (Wd.bz 2 a0 (Wd.bz 4 a0 a b) b) (Wd.bz 6 a0 a b) = Wd.cut a0 a) := Wd.div_law (s := false) h ha hb
      have B0 := Lib.hid (Binary_ok 4 a0 a b w h (by decide) (by decide) ha hb)
      have B1 := Lib.hid (Binary_ok 6 a0 a b w h (by decide) (by decide) ha hb)
      have l0 := Nat.lt_of_lt_of_le (Wd.bz_lt (op := 4) h ha hb) (Wd.md_le h)
      have l1 := Nat.lt_of_lt_of_le (Wd.bz_lt (op := 6) h ha hb) (Wd.md_le h)
      obtain ⟨q, e0⟩ : ∃ x, x = Wd.bz 4 a0 a b := ⟨_, rfl⟩
      obtain ⟨r, e1⟩ : ∃ x, x = Wd.bz 6 a0 a b := ⟨_, rfl⟩
      rw [← e0, ← e1] at L
      rw [← e0] at B0 l0
      rw [← e1] at B1 l1
      have l2 := Nat.lt_of_lt_of_le (Wd.bz_lt (op := 2) h l0 hb) (Wd.md_le h)
      have B2 := Lib.hid (Binary_ok 2 a0 q b w h (by decide) (by decide) l0 hb)
      have B3 := Lib.hid (Binary_ok 0 a0 (Wd.bz 2 a0 q b) r w h (by decide) (by decide) l2 l1)
      obtain ⟨p, e2⟩ : ∃ x, x = Wd.bz 2 a0 q b := ⟨_, rfl⟩
      rw [← e2] at L B2 B3
      have CA := Lib.hid (Cut_any a0 a w)
      have CB := Lib.hid (Cut_any a0 b w)
      have SB := Lib.hid (Sign_any a0 b w hb)
      clear e0 e1 e2 l0 l1 l2 h ha hb
      rcases L with ⟨c, t, u⟩ | ⟨c, t, u, hr, hs⟩ | ⟨c, t, u, hs⟩
      · rw [t] at B0
        rw [u] at B1
        rw [c] at CB
        clear c t u
        go_enter Try.func5, Try.ntmps5
        go_wp2_with (first
          | (go_at_call 9; refine R.out.mono ?_; rintro e w3 ⟨rfl, rfl⟩)
          | (go_at_call 10; refine AW.out.mono ?_; rintro e w3 ⟨rfl, rfl⟩)
          | (go_at_call 8; with_reducible refine B0.out.mono ?_; rintro e w3 ⟨rfl, rfl⟩)
          | (go_at_call 8; with_reducible refine B1.out.mono ?_; rintro e w3 ⟨rfl, rfl⟩)
          | (go_at_call 8; with_reducible refine B2.out.mono ?_; rintro e w3 ⟨rfl, rfl⟩)
          | (go_at_call 8; with_reducible refine B3.out.mono ?_; rintro e w3 ⟨rfl, rfl⟩)
          | (go_at_call 14; with_reducible refine CA.out.mono ?_; rintro e w3 ⟨rfl, rfl⟩)
          | (go_at_call 14; with_reducible refine CB.out.mono ?_; rintro e w3 ⟨rfl, rfl⟩)
          | (go_at_call 15; with_reducible refine SB.out.mono ?_; rintro e w3 ⟨rfl, rfl⟩))
        go_ret
        exact ⟨rfl, Below.refl _ _⟩
      · rw [t] at B0
        rw [u] at B1
        rw [hr] at B1
        rw [hs] at SB
        clear c t u hs
        go_enter Try.func5, Try.ntmps5
        go_wp2_with (first
          | (go_at_call 9; refine R.out.mono ?_; rintro e w3 ⟨rfl, rfl⟩)
          | (go_at_call 10; refine AW.out.mono ?_; rintro e w3 ⟨rfl, rfl⟩)
          | (go_at_call 8; with_reducible refine B0.out.mono ?_; rintro e w3 ⟨rfl, rfl⟩)
          | (go_at_call 8; with_reducible refine B1.out.mono ?_; rintro e w3 ⟨rfl, rfl⟩)
          | (go_at_call 8; with_reducible refine B2.out.mono ?_; rintro e w3 ⟨rfl, rfl⟩)
          | (go_at_call 8; with_reducible refine B3.out.mono ?_; rintro e w3 ⟨rfl, rfl⟩)
          | (go_at_call 14; with_reducible refine CA.out.mono ?_; rintro e w3 ⟨rfl, rfl⟩)
          | (go_at_call 14; with_reducible refine CB.out.mono ?_; rintro e w3 ⟨rfl, rfl⟩)
          | (go_at_call 15; with_reducible refine SB.out.mono ?_; rintro e w3 ⟨rfl, rfl⟩))
        go_ret
        exact ⟨rfl, Below.refl _ _⟩
      · rw [t] at B0
        rw [u] at B1
        rw [hs] at B3
        obtain ⟨ca, eca⟩ : ∃ x, x = Wd.cut a0 a := ⟨_, rfl⟩
        rw [← eca] at CA B3
        clear c t u hs eca
        go_enter Try.func5, Try.ntmps5
        go_wp2_with (first
          | (go_at_call 9; refine R.out.mono ?_; rintro e w3 ⟨rfl, rfl⟩)
          | (go_at_call 10; refine AW.out.mono ?_; rintro e w3 ⟨rfl, rfl⟩)
          | (go_at_call 8; with_reducible refine B0.out.mono ?_; rintro e w3 ⟨rfl, rfl⟩)
          | (go_at_call 8; with_reducible refine B1.out.mono ?_; rintro e w3 ⟨rfl, rfl⟩)
          | (go_at_call 8; with_reducible refine B2.out.mono ?_; rintro e w3 ⟨rfl, rfl⟩)
          | (go_at_call 8; with_reducible refine B3.out.mono ?_; rintro e w3 ⟨rfl, rfl⟩)
          | (go_at_call 14; with_reducible refine CA.out.mono ?_; rintro e w3 ⟨rfl, rfl⟩)
          | (go_at_call 14; with_reducible refine CB.out.mono ?_; rintro e w3 ⟨rfl, rfl⟩)
          | (go_at_call 15; with_reducible refine SB.out.mono ?_; rintro e w3 ⟨rfl, rfl⟩))
        go_ret
        exact ⟨rfl, Below.refl _ _⟩
    · have L : (Wd.cut a0 b = 0 ∧ Wd.tr 3 a0 a b = 2 ∧ Wd.tr 5 a0 a b = 2) ∨ (Wd.cut a0 b ≠ 0 ∧ Wd.tr 3 a0 a b = 3 ∧ Wd.tr 5 a0 a b = 0 ∧ Wd.bz 5 a0 a b = 0 ∧ Wd.sgn a0 b = -1) ∨ (Wd.cut a0 b ≠ 0 ∧ Wd.tr 3 a0 a b = 0 ∧ Wd.tr 5 a0 a b = 0 ∧ Wd.bz 0 a0 (Wd.bz 2 a0 (Wd.bz 3 a0 a b) b) (Wd.bz 5 a0 a b) = Wd.cut a0 a) := Wd.div_law (s := true) h ha hb
      have B0 := Lib.hid (Binary_ok 3 a0 a b w h (by decide) (by decide) ha hb)
      have B1 := Lib.hid (Binary_ok 5 a0 a b w h (by decide) (by decide) ha hb)
      have l0 := Nat.lt_of_lt_of_le (Wd.bz_lt (op := 3) h ha hb) (Wd.md_le h)
      have l1 := Nat.lt_of_lt_of_le (Wd.bz_lt (op := 5) h ha hb) (Wd.md_le h)
      obtain ⟨q, e0⟩ : ∃ x, x = Wd.bz 3 a0 a b := ⟨_, rfl⟩
      obtain ⟨r, e1⟩ : ∃ x, x = Wd.bz 5 a0 a b := ⟨_, rfl⟩
      rw [← e0, ← e1] at L
      rw [← e0] at B0 l0
      rw [← e1] at B1 l1
      have l2 := Nat.lt_of_lt_of_le (Wd.bz_lt (op := 2) h l0 hb) (Wd.md_le h)
      have B2 := Lib.hid (Binary_ok 2 a0 q b w h (by decide) (by decide) l0 hb)
      have B3 := Lib.hid (Binary_ok 0 a0 (Wd.bz 2 a0 q b) r w h (by decide) (by decide) l2 l1)
      obtain ⟨p, e2⟩ : ∃ x, x = Wd.bz 2 a0 q b := ⟨_, rfl⟩
      rw [← e2] at L B2 B3
      have CA := Lib.hid (Cut_any a0 a w)
      have CB := Lib.hid (Cut_any a0 b w)
      have SB := Lib.hid (Sign_any a0 b w hb)
      clear e0 e1 e2 l0 l1 l2 h ha hb
      rcases L with ⟨c, t, u⟩ | ⟨c, t, u, hr, hs⟩ | ⟨c, t, u, hs⟩
      · rw [t] at B0
        rw [u] at B1
        rw [c] at CB
        clear c t u
        go_enter Try.func5, Try.ntmps5
        go_wp2_with (first
          | (go_at_call 9; refine R.out.mono ?_; rintro e w3 ⟨rfl, rfl⟩)
          | (go_at_call 10; refine AW.out.mono ?_; rintro e w3 ⟨rfl, rfl⟩)
          | (go_at_call 8; with_reducible refine B0.out.mono ?_; rintro e w3 ⟨rfl, rfl⟩)
          | (go_at_call 8; with_reducible refine B1.out.mono ?_; rintro e w3 ⟨rfl, rfl⟩)
          | (go_at_call 8; with_reducible refine B2.out.mono ?_; rintro e w3 ⟨rfl, rfl⟩)
          | (go_at_call 8; with_reducible refine B3.out.mono ?_; rintro e w3 ⟨rfl, rfl⟩)
          | (go_at_call 14; with_reducible refine CA.out.mono ?_; rintro e w3 ⟨rfl, rfl⟩)
          | (go_at_call 14; with_reducible refine CB.out.mono ?_; rintro e w3 ⟨rfl, rfl⟩)
          | (go_at_call 15; with_reducible refine SB.out.mono ?_; rintro e w3 ⟨rfl, rfl⟩))
        go_ret
        exact ⟨rfl, Below.refl _ _⟩
      · rw [t] at B0
        rw [u] at B1
        rw [hr] at B1
        rw [hs] at SB
        clear c t u hs
        go_enter Try.func5, Try.ntmps5
        go_wp2_with (first
          | (go_at_call 9; refine R.out.mono ?_; rintro e w3 ⟨rfl, rfl⟩)
          | (go_at_call 10; refine AW.out.mono ?_; rintro e w3 ⟨rfl, rfl⟩)
          | (go_at_call 8; with_reducible refine B0.out.mono ?_; rintro e w3 ⟨rfl, rfl⟩)
          | (go_at_call 8; with_reducible refine B1.out.mono ?_; rintro e w3 ⟨rfl, rfl⟩)
          | (go_at_call 8; with_reducible refine B2.out.mono ?_; rintro e w3 ⟨rfl, rfl⟩)
          | (go_at_call 8; with_reducible refine B3.out.mono ?_; rintro e w3 ⟨rfl, rfl⟩)
          | (go_at_call 14; with_reducible refine CA.out.mono ?_; rintro e w3 ⟨rfl, rfl⟩)
          | (go_at_call 14; with_reducible refine CB.out.mono ?_; rintro e w3 ⟨rfl, rfl⟩)
          | (go_at_call 15; with_reducible refine SB.out.mono ?_; rintro e w3 ⟨rfl, rfl⟩))
        go_ret
        exact ⟨rfl, Below.refl _ _⟩
      · rw [t] at B0
        rw [u] at B1
        rw [hs] at B3
        obtain ⟨ca, eca⟩ : ∃ x, x = Wd.cut a0 a := ⟨_, rfl⟩
        rw [← eca] at CA B3
        clear c t u hs eca
        go_enter Try.func5, Try.ntmps5
        go_wp2_with (first
          | (go_at_call 9; refine R.out.mono ?_; rintro e w3 ⟨rfl, rfl⟩)
          | (go_at_call 10; refine AW.out.mono ?_; rintro e w3 ⟨rfl, rfl⟩)
          | (go_at_call 8; with_reducible refine B0.out.mono ?_; rintro e w3 ⟨rfl, rfl⟩)
          | (go_at_call 8; with_reducible refine B1.out.mono ?_; rintro e w3 ⟨rfl, rfl⟩)
          | (go_at_call 8; with_reducible refine B2.out.mono ?_; rintro e w3 ⟨rfl, rfl⟩)
          | (go_at_call 8; with_reducible refine B3.out.mono ?_; rintro e w3 ⟨rfl, rfl⟩)
          | (go_at_call 14; with_reducible refine CA.out.mono ?_; rintro e w3 ⟨rfl, rfl⟩)
          | (go_at_call 14; with_reducible refine CB.out.mono ?_; rintro e w3 ⟨rfl, rfl⟩)
          | (go_at_call 15; with_reducible refine SB.out.mono ?_; rintro e w3 ⟨rfl, rfl⟩))
        go_ret
        exact ⟨rfl, Below.refl _ _⟩
  · have R := Lib.hid (right_no a0 w h)
    clear h
    go_enter Try.func5, Try.ntmps5
    go_wp2_with (first
      | (go_at_call 9; refine R.out.mono ?_; rintro e w3 ⟨rfl, rfl⟩)
      | (go_at_call 10; refine AW.out.mono ?_; rintro e w3 ⟨rfl, rfl⟩))
    go_ret
    exact ⟨rfl, Below.refl _ _⟩

set_option maxRecDepth 100000 in
theorem wordDivides_lifted (os : Os) (started : os.Started) (H : Type) (enc : TypeId × Value → H) :
    ReturnsInHanded {} Try.checked os 5 .any (Rows.wordDividesSpec.pre6 enc Try.prog Try.f5 Rows.wordDividesRow.domain false) (Rows.wordDividesSpec.post enc Try.prog Try.f5 false true false false) := by
  refine returnsInHanded_of_change (C := Try.checked) Try.own started (by kernel_rfl) Try.func5
    (ChangeSpec.witness6 (enc := enc) (C := Try.checked) false ⟨#[], #[.int .i64 0, .int .u64 0, .int .u64 0, .bool false], []⟩ 8 (by kernel_rfl) (by kernel_rfl) (by kernel_rfl) (by kernel_rfl)) ?_
  intro W base args ds gs before hval0 hW hcnd _
  have hval : ∀ (j : Nat) t v, Try.f5.params[j]? = some t → args[j]? = some v → Value.okWide Try.prog W .any base t v := hval0
  have hW' := hW
  obtain ⟨p, q, hA0, hV, rfl, hfz, hnd⟩ := hW
  have hA : DataW.TrodAll enc Try.prog W 0 (fun _ => true) true Try.f5.params.toList args.toList ds p := hA0
  rw [Try.params5] at hA hval
  obtain ⟨v0, vs0, d0, ds0, p0, q0, hargs, rfl, rfl, h0, r0⟩ := trodAll_cons hA
  obtain ⟨v1, vs1, d1, ds1, p1, q1, rfl, rfl, rfl, h1, r1⟩ := trodAll_cons r0
  obtain ⟨v2, vs2, d2, ds2, p2, q2, rfl, rfl, rfl, h2, r2⟩ := trodAll_cons r1
  obtain ⟨v3, vs3, d3, ds3, p3, q3, rfl, rfl, rfl, h3, r3⟩ := trodAll_cons r2
  obtain ⟨rfl, rfl, rfl⟩ := trodAll_nil r3
  obtain rfl : args = #[v0, v1, v2, v3] := by cases args; simp_all
  obtain ⟨rfl, rfl⟩ := trodVars_none hV
  obtain ⟨a0, rfl, rfl, rfl, w0⟩ := open_int Try.underlying3 (hval 0 3 v0 rfl rfl) h0
  obtain ⟨a1, rfl, rfl, rfl, w1⟩ := open_int Try.underlying22 (hval 1 22 v1 rfl rfl) h1
  obtain ⟨a2, rfl, rfl, rfl, w2⟩ := open_int Try.underlying22 (hval 2 22 v2 rfl rfl) h2
  obtain ⟨a3, rfl, rfl, rfl⟩ := open_bool Try.underlying4 (hval 3 4 v3 rfl rfl) h3
  clear hA0 hval0
  simp only [List.append_nil] at hW'
  refine (wordDivides_walk a0 a1 a2 a3 w0 w1 w2 W).mono fun e W' ⟨he, hg⟩ => ?_
  subst he
  exact ⟨_, rfl, _, _, _, [], [], [], hW', (trodAll_cons_mk (shut_bool Try.underlying4 _) trodAll_mk0), (trodAll_cons_mk (shut_int Try.underlying3 w0) (trodAll_cons_mk (shut_int Try.underlying22 w1) (trodAll_cons_mk (shut_int Try.underlying22 w2) (trodAll_cons_mk (shut_bool Try.underlying4 _) trodAll_mk0)))), rfl, hg.frame _, fun h => by cases h⟩

theorem wordDivides_over : Rows.wordDividesRow.holds Try.pinned (OpenSpec.ofChange Rows.wordDividesSpec) :=
  OpenClaim.holds_of_wide 5 Try.f5 rfl rfl rfl rfl rfl rfl rfl ⟨rfl, rfl, rfl, rfl, rfl⟩ rfl rfl rfl rfl rfl (by kernel_rfl) Try.func5 (by kernel_rfl)
    (of_decide_eq_true (by kernel_rfl)) (by unfold Func.isWrapper; first | (rw [if_pos (by decide +kernel)]; kernel_rfl) | (rw [if_neg (by decide +kernel)]; exact ⟨rfl, rfl⟩))
    (fun os started H enc _ => wordDivides_lifted os started H enc)

theorem wordDivides_proved : Rows.WordDividesSaid :=
  wordDivides_over
#print axioms wordDivides_proved
end Go.Proofs.Ytmbnaejoiglckaa
