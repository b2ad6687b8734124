/-
  Called with any whole number, grommetlaw10.OpNumeric returns true, the tables unicode.White_Space, strings.asciiSpace and op.numeric lying as the program's text lays them; no other condition.
-/
import Derived.Test.YtalpkdnnclghaaaDoorTf
import Derived.Test.YtalpkdnnclghaaaDoorCards
import Derived.WalkKit
import Derived.ProofKit
import Derived.OpenShut
import Derived.ShutString
import Derived.ChangeOld
import Derived.Below
namespace Go.Proofs.YtalpkdnnclghaaaDoor
open Go.ChangeShapes Go.WideShapes Go.ChangeAt Go.RowKit
set_option linter.unusedVariables false      -- a opNumeric_walk need not use every 'w<i>' (that an integer argument fits its kind)


theorem numUniqB : (numL.all fun a => numL.all fun b => decide (a = b) || decide (a.getD 1 0 < b.getD 0 0) || decide (b.getD 1 0 < a.getD 0 0)) = true := by kernel_rfl
theorem num_uniq {c : Int} {r r' : List Int} (h : NumAt c r) (h' : NumAt c r') : r = r' := by
  have hB := List.all_eq_true.1 (List.all_eq_true.1 numUniqB r h.1) r' h'.1
  simp only [Bool.or_eq_true, decide_eq_true_eq] at hB
  rcases hB with (e | e) | e
  · exact e
  · have := h.2.2; have := h'.2.1; omega
  · have := h'.2.2; have := h.2.1; omega
theorem opNumeric_walk (a0 : Int) (w0 : (Lit.int .i64 a0).wf = true) (w : World) (hT : Tb w ∧ Tab w 2 8 5 numL) :
    Calls Tryd.prog 10 #[.int .i64 a0] w fun e w' => e = .returned (.bool true) ∧ Below w.heap.size w w' := by
  have hA := Numeric_any a0 (bounds_i64 w0) w hT.2
  rcases Classical.em (∃ r, NumAt a0 r) with ⟨r, hr⟩ | hno
  · obtain ⟨g, k, e1, hg, e2, hk, hbt, hnm⟩ := num_facts hr
    have hA2 : Calls Tryd.prog 43 #[.int .i64 a0] w fun e w' => e = .returned (.tuple #[.int .i64 (g : Int), .int .i64 (k : Int), .int .i64 (r.getD 4 0), .bool true]) ∧ Below w.heap.size w w' := hA.mono fun e w' h => by
      rcases h with ⟨r', hr', h1, h2⟩ | ⟨h1, _⟩
      · obtain rfl := num_uniq hr hr'
        rw [e1, e2] at h1
        exact ⟨h1, h2⟩
      · exact absurd hr (h1 r)
    rcases (by omega : g = 0 ∨ g = 1 ∨ g = 2) with rfl | rfl | rfl <;> rcases hbt with hb | hb <;> rw [hb] at hA2 hnm
    · exact numeric_0_32 a0 w0 k hk w hT.1 hnm hA2
    · exact numeric_0_64 a0 w0 k hk w hT.1 hnm hA2
    · exact numeric_1_32 a0 w0 k hk w hT.1 hnm hA2
    · exact numeric_1_64 a0 w0 k hk w hT.1 hnm hA2
    · exact numeric_2_32 a0 w0 k hk w hT.1 hnm hA2
    · exact numeric_2_64 a0 w0 k hk w hT.1 hnm hA2
  · have hn : ∀ r, ¬ NumAt a0 r := fun r h => hno ⟨r, h⟩
    refine numeric_no a0 w0 w hT.1 (num_none hn) (hA.mono fun e w' h => ?_)
    rcases h with ⟨r', hr', _⟩ | ⟨_, h2⟩
    · exact absurd hr' (hn r')
    · exact h2

set_option maxRecDepth 100000 in
theorem opNumeric_lifted (os : Os) (started : os.Started) (H : Type) (enc : TypeId × Value → H) :
    ReturnsInHanded {} Tryd.checked os 10 .any (fun w args => (Rows.opNumericSpec.pre enc Tryd.prog Tryd.f10 [] false w args ∧ laidMetH Tryd.prog laidM w) ∧ sizedMet enc Tryd.prog Tryd.f10 (OpenSpec.ofChange Rows.opNumericSpec) false w args) (Rows.opNumericSpec.post enc Tryd.prog Tryd.f10 false true false false) := by
  refine returnsInHanded_of_change_and (C := Tryd.checked) (X := fun w _ => laidMetH Tryd.prog laidM w) (fun _ _ _ hh h => h.of_heap hh) Tryd.own started (by kernel_rfl) Tryd.func10
    (ChangeSpec.witness_shaped (enc := enc) (C := Tryd.checked) (os := os) (X := fun w _ => laidMetH Tryd.prog laidM w) false (World.doorLaid Tryd.prog 2000 os) #[.int .i64 0] 8 rfl (World.shaped_of_RefB (by kernel_rfl) (by kernel_rfl)) (by kernel_rfl) (by kernel_rfl) (by kernel_rfl) (doorM_met os _)) ?_
  intro W base args ds gs before hval0 hW _ _ hL _
  have hval : ∀ (j : Nat) t v, Tryd.f10.params[j]? = some t → args[j]? = some v → Value.okWide Tryd.prog W .any base t v := hval0
  have hW' := hW
  obtain ⟨p, q, hA0, hV, rfl, hfz, hnd⟩ := hW
  have hA : DataW.TrodAll enc Tryd.prog W 0 (fun _ => true) true Tryd.f10.params.toList args.toList ds p := hA0
  rw [Tryd.params10] at hA hval
  obtain ⟨v0, vs0, d0, ds0, p0, q0, hargs, rfl, rfl, h0, r0⟩ := trodAll_cons hA
  obtain ⟨rfl, rfl, rfl⟩ := trodAll_nil r0
  obtain rfl : args = #[v0] := by cases args; simp_all
  obtain ⟨rfl, rfl⟩ := trodVars_none hV
  obtain ⟨a0, rfl, rfl, rfl, w0⟩ := open_int Tryd.underlying3 (hval 0 3 v0 rfl rfl) h0
  clear hA0 hval0
  simp only [List.append_nil] at hW'
  refine (opNumeric_walk a0 w0 W (tb_M hL)).mono fun e W' ⟨he, hg⟩ => ?_
  subst he
  exact ⟨_, rfl, _, _, _, [], [], [], hW', (trodAll_cons_mk (shut_bool Tryd.underlying4 _) trodAll_mk0), (trodAll_cons_mk (shut_int Tryd.underlying3 w0) trodAll_mk0), rfl, hg.frame _, fun h => by cases h⟩

theorem opNumeric_over : Rows.opNumericRow.holds Tryd.pinned (OpenSpec.ofChange Rows.opNumericSpec) :=
  OpenClaim.holds_of_wide 10 Tryd.f10 rfl rfl rfl rfl rfl rfl rfl ⟨rfl, rfl, rfl, rfl, rfl⟩ rfl rfl rfl rfl rfl (by kernel_rfl) Tryd.func10 (by kernel_rfl)
    (of_decide_eq_true (by kernel_rfl)) (by unfold Func.isWrapper; first | (rw [if_pos (by decide +kernel)]; kernel_rfl) | (rw [if_neg (by decide +kernel)]; exact ⟨rfl, rfl⟩))
    (fun os started H enc _ => opNumeric_lifted os started H enc)

theorem opNumeric_proved : Rows.OpNumericCardSaid :=
  Claim7.holds_tied_plain_at .later [] [.listed, .data, .data] true (true, "4363a9f1bcaa13f3b457e37f1a1b0955e8ef81f2314578975e89844add95430d") true
    opNumeric_over (fun _ h => by cases h) (by kernel_rfl) (fun _ h => by cases h) opNumeric_row_tie rfl ⟨rfl, rfl⟩ (by kernel_rfl) rfl
    (fun f fn hf hfn => by
      obtain rfl : f = 10 := Option.some.inj ((show Tryd.prog.funcNamed "grommet/grommetlaw10.OpNumeric" = some 10 by kernel_rfl).symm.trans hf) |>.symm
      obtain rfl : fn = Tryd.f10 := (Option.some.inj (Tryd.func10.symm.trans hfn)).symm
      exact ⟨by kernel_rfl, fun j t ht => by
        rw [Tryd.params10] at ht
        have hm : t ∈ [3] := by simpa using Array.mem_of_getElem? ht
        have hall : ([3].all fun u => !Tryd.prog.wantsStandIn u) = true := by kernel_rfl
        exact (show Tryd.prog.wantsStandIn t = false by simpa using List.all_eq_true.1 hall t hm)⟩)
    (by kernel_rfl)
#print axioms opNumeric_proved
end Go.Proofs.YtalpkdnnclghaaaDoor
