/-
  Called with any two whole numbers, grommetlaw10.OpApart returns true, the tables unicode.White_Space and strings.asciiSpace lying as the program's text lays them; no other condition.
-/
import Derived.Test.YtalpkdnnclghaaaDoorOm
import Derived.Test.YtalpkdnnclghaaaDoorCards
import Derived.WalkKit
import Derived.ProofKit
import Derived.OpenShut
import Derived.ShutString
import Derived.ChangeOld
import Derived.Below
namespace Go.Proofs.YtalpkdnnclghaaaDoor
open Go.ChangeShapes Go.WideShapes Go.ChangeAt Go.RowKit
set_option linter.unusedVariables false      -- a opApart_walk need not use every 'w<i>' (that an integer argument fits its kind)


theorem opApart_walk (a0 : Int) (a1 : Int) (w0 : (Lit.int .i64 a0).wf = true) (w1 : (Lit.int .i64 a1).wf = true) (w : World) (hT : Tb w) :
    Calls Tryd.prog 12 #[.int .i64 a0, .int .i64 a1] w fun e w' => e = .returned (.bool true) ∧ Below w.heap.size w w' := by
  obtain ⟨o1, h1, c1⟩ := Find_flat a0 w0
  obtain ⟨o2, h2, c2⟩ := Find_flat a1 w1
  obtain ⟨o3, h3, c3⟩ := Named_flat o1.s
  obtain ⟨ok, ca, sa, fa, ta, ga⟩ := o1
  obtain ⟨is, cb, sb, fb, tb, gb⟩ := o2
  obtain ⟨has, cc, sc, fc, tc, gc⟩ := o3
  refine apart_gen a0 a1 ok is has ca cb cc sa sb sc fa fb fc ta ga tb gb tc gc w hT c1 c2 c3 ?_ ?_ ?_
  · intro h
    rcases h1 with ⟨r, i, _, e⟩ | ⟨_, e⟩
    · simp only [opv, Opv.mk.injEq] at e; rw [e.1] at h; cases h
    · simp only [opz, Opv.mk.injEq] at e; exact e.2.2.1
  · intro h
    rcases h2 with ⟨r, i, _, e⟩ | ⟨_, e⟩
    · simp only [opv, Opv.mk.injEq] at e; rw [e.1] at h; cases h
    · simp only [opz, Opv.mk.injEq] at e; exact e.2.2.1
  · intro hk hs
    rcases h1 with ⟨r, i, ho, e⟩ | ⟨_, e⟩
    · rcases h2 with ⟨r', i', ho', e'⟩ | ⟨_, e'⟩
      · simp only [opv, Opv.mk.injEq] at e e'
        have hca := e.2.1.trans ho.2
        have hsa := e.2.2.1
        have hsb := e'.2.2.1
        refine ⟨?_, ?_, hca, ?_⟩
        · rcases h3 with ⟨c, r3, i3, ho3, hn, e3⟩ | ⟨hn, _⟩
          · simp only [opv, Opv.mk.injEq] at e3; exact e3.1
          · exact absurd hsa.symm (hn _ r i ho)
        · rcases h3 with ⟨c, r3, i3, ho3, hn, e3⟩ | ⟨hn, _⟩
          · simp only [opv, Opv.mk.injEq] at e3
            have q := (names_apart ho3 ho).1 (hn.trans hsa)
            rw [e3.2.1, ho3.2, q]
          · exact absurd hsa.symm (hn _ r i ho)
        · rw [str_beq, hsa, hsb]
          exact decide_eq_decide.2 (names_apart ho ho')
      · simp only [opz, Opv.mk.injEq] at e'; rw [e'.1] at hs; cases hs
    · simp only [opz, Opv.mk.injEq] at e; rw [e.1] at hk; cases hk

set_option maxRecDepth 100000 in
theorem opApart_lifted (os : Os) (started : os.Started) (H : Type) (enc : TypeId × Value → H) :
    ReturnsInHanded {} Tryd.checked os 12 .any (fun w args => (Rows.opApartSpec.pre enc Tryd.prog Tryd.f12 [] false w args ∧ laidMetH Tryd.prog laidS w) ∧ sizedMet enc Tryd.prog Tryd.f12 (OpenSpec.ofChange Rows.opApartSpec) false w args) (Rows.opApartSpec.post enc Tryd.prog Tryd.f12 false true false false) := by
  refine returnsInHanded_of_change_and (C := Tryd.checked) (X := fun w _ => laidMetH Tryd.prog laidS w) (fun _ _ _ hh h => h.of_heap hh) Tryd.own started (by kernel_rfl) Tryd.func12
    (ChangeSpec.witness_shaped (enc := enc) (C := Tryd.checked) (os := os) (X := fun w _ => laidMetH Tryd.prog laidS w) false (World.doorLaid Tryd.prog 2000 os) #[.int .i64 0, .int .i64 0] 8 rfl (World.shaped_of_RefB (by kernel_rfl) (by kernel_rfl)) (by kernel_rfl) (by kernel_rfl) (by kernel_rfl) (doorS_met os _)) ?_
  intro W base args ds gs before hval0 hW _ _ hL _
  have hval : ∀ (j : Nat) t v, Tryd.f12.params[j]? = some t → args[j]? = some v → Value.okWide Tryd.prog W .any base t v := hval0
  have hW' := hW
  obtain ⟨p, q, hA0, hV, rfl, hfz, hnd⟩ := hW
  have hA : DataW.TrodAll enc Tryd.prog W 0 (fun _ => true) true Tryd.f12.params.toList args.toList ds p := hA0
  rw [Tryd.params12] at hA hval
  obtain ⟨v0, vs0, d0, ds0, p0, q0, hargs, rfl, rfl, h0, r0⟩ := trodAll_cons hA
  obtain ⟨v1, vs1, d1, ds1, p1, q1, rfl, rfl, rfl, h1, r1⟩ := trodAll_cons r0
  obtain ⟨rfl, rfl, rfl⟩ := trodAll_nil r1
  obtain rfl : args = #[v0, v1] := by cases args; simp_all
  obtain ⟨rfl, rfl⟩ := trodVars_none hV
  obtain ⟨a0, rfl, rfl, rfl, w0⟩ := open_int Tryd.underlying3 (hval 0 3 v0 rfl rfl) h0
  obtain ⟨a1, rfl, rfl, rfl, w1⟩ := open_int Tryd.underlying3 (hval 1 3 v1 rfl rfl) h1
  clear hA0 hval0
  simp only [List.append_nil] at hW'
  refine (opApart_walk a0 a1 w0 w1 W (tb_S hL)).mono fun e W' ⟨he, hg⟩ => ?_
  subst he
  exact ⟨_, rfl, _, _, _, [], [], [], hW', (trodAll_cons_mk (shut_bool Tryd.underlying4 _) trodAll_mk0), (trodAll_cons_mk (shut_int Tryd.underlying3 w0) (trodAll_cons_mk (shut_int Tryd.underlying3 w1) trodAll_mk0)), rfl, hg.frame _, fun h => by cases h⟩

theorem opApart_over : Rows.opApartRow.holds Tryd.pinned (OpenSpec.ofChange Rows.opApartSpec) :=
  OpenClaim.holds_of_wide 12 Tryd.f12 rfl rfl rfl rfl rfl rfl rfl ⟨rfl, rfl, rfl, rfl, rfl⟩ rfl rfl rfl rfl rfl (by kernel_rfl) Tryd.func12 (by kernel_rfl)
    (of_decide_eq_true (by kernel_rfl)) (by unfold Func.isWrapper; first | (rw [if_pos (by decide +kernel)]; kernel_rfl) | (rw [if_neg (by decide +kernel)]; exact ⟨rfl, rfl⟩))
    (fun os started H enc _ => opApart_lifted os started H enc)

theorem opApart_proved : Rows.OpApartCardSaid :=
  Claim7.holds_tied_plain_at .later [] [.listed, .data] true (true, "4363a9f1bcaa13f3b457e37f1a1b0955e8ef81f2314578975e89844add95430d") true
    opApart_over (fun _ h => by cases h) (by kernel_rfl) (fun _ h => by cases h) opApart_row_tie rfl ⟨rfl, rfl⟩ (by kernel_rfl) rfl
    (fun f fn hf hfn => by
      obtain rfl : f = 12 := Option.some.inj ((show Tryd.prog.funcNamed "grommet/grommetlaw10.OpApart" = some 12 by kernel_rfl).symm.trans hf) |>.symm
      obtain rfl : fn = Tryd.f12 := (Option.some.inj (Tryd.func12.symm.trans hfn)).symm
      exact ⟨by kernel_rfl, fun j t ht => by
        rw [Tryd.params12] at ht
        have hm : t ∈ [3, 3] := by simpa using Array.mem_of_getElem? ht
        have hall : ([3, 3].all fun u => !Tryd.prog.wantsStandIn u) = true := by kernel_rfl
        exact (show Tryd.prog.wantsStandIn t = false by simpa using List.all_eq_true.1 hall t hm)⟩)
    (by kernel_rfl)
#print axioms opApart_proved
end Go.Proofs.YtalpkdnnclghaaaDoor
