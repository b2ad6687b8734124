/-
  Called with any type's number, grommetlaw09.TypesNames returns true, the tables unicode/utf8.acceptRanges and unicode/utf8.first lying as the program's text lays them; no other condition.
-/
import Derived.Test.YtalpkdnnclghaaaDoorVa
import Derived.Test.YtalpkdnnclghaaaDoorCards
import Derived.Deep.RegionHeld3
import Derived.WalkKit
import Derived.ProofKit
import Derived.OpenShut
import Derived.ShutString
import Derived.ChangeOld
import Derived.Below
import Derived.ChangeMaps5
namespace Go.Proofs.YtalpkdnnclghaaaDoor
open Go.ChangeShapes Go.WideShapes Go.ChangeAt Go.RowKit
open Go.ChangeMaps (open_string shut_string)
set_option linter.unusedVariables false

set_option maxRecDepth 100000 in
theorem names_gen (t b : Nat) (nm : ByteArray) (h127 : ((t : Int) == 127) = decide (b = 32)) (h126 : ((t : Int) == 126) = decide (b = 64)) (hb : b = 32 ∨ b = 64 ∨ b = 0)
    (w : World) (hM : Mx w)
    (c1 : ∀ w, Calls Tryd.prog 28 #[.int .u8 t] w fun e w' => e = .returned (.string nm) ∧ w = w')
    (c2 : ∀ w, Calls Tryd.prog 29 #[.int .u8 t] w fun e w' => e = .returned (.string nm) ∧ w = w')
    (c3 : ∀ w, Calls Tryd.prog 30 #[.int .u8 t] w fun e w' => e = .returned (.int .i64 b) ∧ w = w') :
    Calls Tryd.prog 6 #[.int .u8 t] w fun e w' => e = .returned (.bool true) ∧ Below w.heap.size w w' := by
  obtain ⟨m, h5, hm⟩ := hM
  have HA := Lib.hid (awake9_any m w h5 hm)
  have H1 := Lib.hid c1
  have H2 := Lib.hid c2
  have H3 := Lib.hid c3
  have hst : (nm.toList == nm.toList) = true := by simp
  clear c1 c2 c3 hm h5
  rcases hb with rfl | rfl | rfl
  all_goals
    simp only [Nat.reduceEqDiff, decide_true, decide_false] at h127 h126
    go_enter Tryd.func6, Tryd.ntmps6
    go_wp2_with (first
      | (go_at_call 28; (with_reducible refine (H1.out _).mono ?_); rintro e w1 ⟨rfl, rfl⟩)
      | (go_at_call 29; (with_reducible refine (H2.out _).mono ?_); rintro e w1 ⟨rfl, rfl⟩)
      | (go_at_call 30; (with_reducible refine (H3.out _).mono ?_); rintro e w1 ⟨rfl, rfl⟩)
      | (go_at_call 13; (with_reducible refine HA.out.mono ?_); rintro e w1 ⟨rfl, hb⟩
         have HB := Lib.hid hb
         clear hb))
    go_ret
    exact ⟨by simp, HB.out⟩
theorem typesNames_walk (a0 : Int) (w : World) (w0 : (Lit.int .u8 a0).wf = true) (hM : Mx w) :
    Calls Tryd.prog 6 #[.int .u8 a0] w fun e w' => e = .returned (.bool true) ∧ Below w.heap.size w w' := by
  have h := wf_u8 w0
  obtain ⟨t, rfl⟩ : ∃ t : Nat, a0 = (t : Int) := ⟨a0.toNat, by omega⟩
  have ht : t < 256 := by omega
  refine names_gen t (btT t) (nmT t) ?_ ?_ ?_ w hM (Name_ok t ht) (RName9_ok t ht) (Bits_ok t ht)
  · unfold btT; by_cases h1 : t = 127
    · subst h1; rfl
    · by_cases h2 : t = 126
      · subst h2; rfl
      · rw [if_neg h1, if_neg h2, beq_eq_false_iff_ne.2 (by omega)]; rfl
  · unfold btT; by_cases h1 : t = 127
    · subst h1; rfl
    · by_cases h2 : t = 126
      · subst h2; rfl
      · rw [if_neg h1, if_neg h2, beq_eq_false_iff_ne.2 (by omega)]; rfl
  · unfold btT; split
    · exact .inl rfl
    · split
      · exact .inr (.inl rfl)
      · exact .inr (.inr rfl)

set_option maxRecDepth 100000 in
theorem typesNames_lifted (os : Os) (started : os.Started) (H : Type) (enc : TypeId × Value → H) :
    ReturnsInHanded {} Tryd.checked os 6 .any (fun w args => (Rows.typesNamesSpec.pre enc Tryd.prog Tryd.f6 [] false w args ∧ laidMetH Tryd.prog laidY w) ∧ sizedMet enc Tryd.prog Tryd.f6 (OpenSpec.ofChange Rows.typesNamesSpec) false w args) (Rows.typesNamesSpec.post enc Tryd.prog Tryd.f6 false true false false) := by
  refine returnsInHanded_of_change_and_sh (C := Tryd.checked) (X := fun w _ => laidMetH Tryd.prog laidY w) (fun _ _ _ hh h => h.of_heap hh) Tryd.own started (by kernel_rfl) Tryd.func6
    (ChangeSpec.witness_shaped (enc := enc) (C := Tryd.checked) (os := os) (X := fun w _ => laidMetH Tryd.prog laidY w) false (World.laidAll Tryd.prog os laidY) #[.int .u8 0] 8 (World.laidAll_os _ _ _) (World.shaped_of_ZipB (by kernel_rfl) (by kernel_rfl)) (by kernel_rfl) (by kernel_rfl) (by kernel_rfl) (laidY_met os _)) ?_
  intro W base args ds gs before hval0 hW _ _ hL hsh _
  have hval : ∀ (j : Nat) t v, Tryd.f6.params[j]? = some t → args[j]? = some v → Value.okWide Tryd.prog W .any base t v := hval0
  have hW' := hW
  obtain ⟨p, q, hA0, hV, rfl, hfz, hnd⟩ := hW
  have hA : DataW.TrodAll enc Tryd.prog W 0 (fun _ => true) true Tryd.f6.params.toList args.toList ds p := hA0
  rw [Tryd.params6] at hA hval
  obtain ⟨v0, vs0, d0, ds0, p0, q0, hargs, rfl, rfl, h0, r0⟩ := trodAll_cons hA
  obtain ⟨rfl, rfl, rfl⟩ := trodAll_nil r0
  obtain rfl : args = #[v0] := by cases args; simp_all
  obtain ⟨rfl, rfl⟩ := trodVars_none hV
  obtain ⟨a0, rfl, rfl, rfl, w0⟩ := open_int Tryd.underlying5 (hval 0 5 v0 rfl rfl) h0
  clear hA0 hval0
  refine (typesNames_walk a0 W w0 (mx_of hsh)).mono fun e W' ⟨he, hg⟩ => ?_
  subst he
  exact ⟨_, rfl, _, _, _, [], _, [], hW', trodAll_mk1 (shut_bool Tryd.underlying4 _), (trodAll_cons_mk (shut_int Tryd.underlying5 w0) trodAll_mk0), rfl, hg.frame _, fun h => by cases h⟩

theorem typesNames_over : Rows.typesNamesRow.holds Tryd.pinned (OpenSpec.ofChange Rows.typesNamesSpec) :=
  OpenClaim.holds_of_wide 6 Tryd.f6 rfl rfl rfl rfl rfl rfl rfl ⟨rfl, rfl, rfl, rfl, rfl⟩ rfl rfl rfl rfl rfl (by kernel_rfl) Tryd.func6 (by kernel_rfl)
    (of_decide_eq_true (by kernel_rfl)) (by unfold Func.isWrapper; first | (rw [if_pos (by decide +kernel)]; kernel_rfl) | (rw [if_neg (by decide +kernel)]; exact ⟨rfl, rfl⟩))
    (fun os started H enc _ => typesNames_lifted os started H enc)

theorem typesNames_proved : Rows.TypesNamesCardSaid :=
  Claim7.holds_tied_plain_at .later [] [.data, .pinned] true (true, "4363a9f1bcaa13f3b457e37f1a1b0955e8ef81f2314578975e89844add95430d") true
    typesNames_over (fun _ h => by cases h) (by kernel_rfl) (fun _ h => by cases h) typesNames_row_tie rfl ⟨rfl, rfl⟩ (by kernel_rfl) rfl
    (fun f fn hf hfn => by
      obtain rfl : f = 6 := Option.some.inj ((show Tryd.prog.funcNamed "grommet/grommetlaw09.TypesNames" = some 6 by kernel_rfl).symm.trans hf) |>.symm
      obtain rfl : fn = Tryd.f6 := (Option.some.inj (Tryd.func6.symm.trans hfn)).symm
      exact ⟨by kernel_rfl, fun j t ht => by
        rw [Tryd.params6] at ht
        have hm : t ∈ [5] := by simpa using Array.mem_of_getElem? ht
        have hall : ([5].all fun u => !Tryd.prog.wantsStandIn u) = true := by kernel_rfl
        exact (show Tryd.prog.wantsStandIn t = false by simpa using List.all_eq_true.1 hall t hm)⟩)
    (by kernel_rfl)
#print axioms typesNames_proved
end Go.Proofs.YtalpkdnnclghaaaDoor
