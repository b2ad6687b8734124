/-
  Called with any numbers of bits, either answer to whether there is a sign, and any word, grommetlaw06.ConvExtends returns true, the tables of math/bits and internal/strconv lying as the program's text lays them; no other condition.
-/
import Derived.Test.YtmbnaejoiglckaaDoorCh
import Derived.Test.YtmbnaejoiglckaaDoorCards
import Derived.WalkKit
import Derived.ProofKit
import Derived.OpenShut
import Derived.ShutString
import Derived.ChangeOld
import Derived.Below
namespace Go.Proofs.YtmbnaejoiglckaaDoor
open Go.ChangeShapes Go.WideShapes Go.ChangeAt Go.RowKit
set_option linter.unusedVariables false      -- a convExtends_walk need not use every 'w<i>' (that an integer argument fits its kind)


theorem Wrap_any (a : Nat) (w : World) : Calls Tryd.prog 19 #[.int .u64 a] w fun e w' => e = .returned (.int .u64 ((Wd.cut 32 a : Nat) : Int)) ∧ w = w' := by
  have C := Lib.hid (Cut_any 32 a w)
  go_enter Tryd.func19, Tryd.ntmps19
  go_wp2_with (go_at_call 12; refine C.out.mono ?_; rintro e w1 ⟨rfl, rfl⟩)
  go_ret
  exact ⟨rfl, rfl⟩
set_option maxHeartbeats 4000000 in
set_option maxRecDepth 100000 in
theorem convExtends_walk (a0 : Int) (a1 : Int) (a2 : Bool) (a3 : Int) (w0 : (Lit.int .i64 a0).wf = true) (w1 : (Lit.int .i64 a1).wf = true) (w3 : (Lit.int .u64 a3).wf = true) (w : World) (hT : Pw w) :
    Calls Tryd.prog 6 #[.int .i64 a0, .int .i64 a1, .bool a2, .int .u64 a3] w fun e w' => e = .returned (.bool true) ∧ Below w.heap.size w w' := by
  obtain ⟨a, rfl, ha⟩ := u64_nat w3
  clear w0 w1 w3
  have AW := Lib.hid awake6_any
  have HT := Lib.hid hT
  have WR := Lib.hid (Wrap_any a w)
  obtain ⟨c, ec⟩ : ∃ c : Int, c = ((Wd.cut 32 a : Nat) : Int) := ⟨_, rfl⟩
  have hc : (a : Int) % 4294967296 = c := by rw [ec]; simp [Wd.cut]
  rw [← ec] at WR
  clear hT ec
  by_cases h : (a0 = 8 ∨ a0 = 16 ∨ a0 = 32) ∧ Wd.ok a1
  · obtain ⟨hf, ht⟩ := h
    have E := Lib.hid (Extend_ok a0 a1 a2 a w hf ht ha)
    have R := Lib.hid (fun w1 : World => RExtend_any a0 a1 a2 a w1 hf ht ha)
    obtain ⟨x, ex⟩ : ∃ x, x = exv a0.toNat a1.toNat a2 a := ⟨_, rfl⟩
    rw [← ex] at E R
    clear ex ha
    rcases hf with rfl | rfl | rfl <;> rcases ht with rfl | rfl
    all_goals
      go_enter Tryd.func6, Tryd.ntmps6
      go_wp2_with (first
        | (go_at_call 18; refine E.out.mono ?_; rintro e w1 ⟨rfl, rfl⟩)
        | (go_at_call 19; refine WR.out.mono ?_; rintro e w1 ⟨rfl, rfl⟩)
        | (go_at_call 21; refine (R.out _).mono ?_; rintro e w2 ⟨rfl, h2⟩; have H2 := Lib.hid h2; clear h2)
        | (go_at_call 20; refine (AW.out _ (HT.out.below H2.out HT.out.size)).mono ?_; rintro e w3 ⟨rfl, h3⟩; have H3 := Lib.hid (H2.out.trans (h3.mono H2.out.size)); clear h3))
      go_ret
      exact ⟨rfl, H3.out⟩
  · have E := Lib.hid (Extend_bad a0 a1 a2 a w h)
    have A := Lib.hid (AW.out w HT.out)
    have hor : (Hid (a0 = 8 ∨ a0 = 16 ∨ a0 = 32) ∧ (a1 != 32) = true ∧ (a1 != 64) = true) ∨ ((a0 != 8) = true ∧ (a0 != 16) = true ∧ (a0 != 32) = true) := by
      by_cases hf : a0 = 8 ∨ a0 = 16 ∨ a0 = 32
      · refine .inl ⟨Lib.hid hf, ?_, ?_⟩
        · simp; exact fun e => h ⟨hf, .inl e⟩
        · simp; exact fun e => h ⟨hf, .inr e⟩
      · refine .inr ⟨?_, ?_, ?_⟩ <;> simp <;> omega
    clear h ha
    rcases hor with ⟨hf, h1, h2⟩ | ⟨h1, h2, h3⟩
    · rcases hf.out with rfl | rfl | rfl
      all_goals
        clear hf
        go_enter Tryd.func6, Tryd.ntmps6
        go_wp2_with (first
          | (go_at_call 18; refine E.out.mono ?_; rintro e w1 ⟨rfl, rfl⟩)
          | (go_at_call 19; refine WR.out.mono ?_; rintro e w1 ⟨rfl, rfl⟩)
          | (go_at_call 20; refine A.out.mono ?_; rintro e w3 ⟨rfl, h3⟩; have H3 := Lib.hid h3; clear h3))
        go_ret
        exact ⟨rfl, H3.out⟩
    · go_enter Tryd.func6, Tryd.ntmps6
      go_wp2_with (first
        | (go_at_call 18; refine E.out.mono ?_; rintro e w1 ⟨rfl, rfl⟩)
        | (go_at_call 19; refine WR.out.mono ?_; rintro e w1 ⟨rfl, rfl⟩)
        | (go_at_call 20; refine A.out.mono ?_; rintro e w3 ⟨rfl, h4⟩; have H3 := Lib.hid h4; clear h4))
      go_ret
      exact ⟨rfl, H3.out⟩

set_option maxRecDepth 100000 in
theorem convExtends_lifted (os : Os) (started : os.Started) (H : Type) (enc : TypeId × Value → H) :
    ReturnsInHanded {} Tryd.checked os 6 .any (fun w args => (Rows.convExtendsSpec.pre enc Tryd.prog Tryd.f6 [] false w args ∧ laidMetH Tryd.prog laidP w) ∧ sizedMet enc Tryd.prog Tryd.f6 (OpenSpec.ofChange Rows.convExtendsSpec) false w args) (Rows.convExtendsSpec.post enc Tryd.prog Tryd.f6 false true false false) := by
  refine returnsInHanded_of_change_and (C := Tryd.checked) (X := fun w _ => laidMetH Tryd.prog laidP w) (fun _ _ _ hh h => h.of_heap hh) Tryd.own started (by kernel_rfl) Tryd.func6
    (ChangeSpec.witness_shaped (enc := enc) (C := Tryd.checked) (os := os) (X := fun w _ => laidMetH Tryd.prog laidP w) false (World.doorLaid Tryd.prog 2000 os) #[.int .i64 0, .int .i64 0, .bool false, .int .u64 0] 8 rfl (World.shaped_of_RefB (by kernel_rfl) (by kernel_rfl)) (by kernel_rfl) (by kernel_rfl) (by kernel_rfl) (doorP_met os _)) ?_
  intro W base args ds gs before hval0 hW _ _ hL _
  have hval : ∀ (j : Nat) t v, Tryd.f6.params[j]? = some t → args[j]? = some v → Value.okWide Tryd.prog W .any base t v := hval0
  have hW' := hW
  obtain ⟨p, q, hA0, hV, rfl, hfz, hnd⟩ := hW
  have hA : DataW.TrodAll enc Tryd.prog W 0 (fun _ => true) true Tryd.f6.params.toList args.toList ds p := hA0
  rw [Tryd.params6] at hA hval
  obtain ⟨v0, vs0, d0, ds0, p0, q0, hargs, rfl, rfl, h0, r0⟩ := trodAll_cons hA
  obtain ⟨v1, vs1, d1, ds1, p1, q1, rfl, rfl, rfl, h1, r1⟩ := trodAll_cons r0
  obtain ⟨v2, vs2, d2, ds2, p2, q2, rfl, rfl, rfl, h2, r2⟩ := trodAll_cons r1
  obtain ⟨v3, vs3, d3, ds3, p3, q3, rfl, rfl, rfl, h3, r3⟩ := trodAll_cons r2
  obtain ⟨rfl, rfl, rfl⟩ := trodAll_nil r3
  obtain rfl : args = #[v0, v1, v2, v3] := by cases args; simp_all
  obtain ⟨rfl, rfl⟩ := trodVars_none hV
  obtain ⟨a0, rfl, rfl, rfl, w0⟩ := open_int Tryd.underlying3 (hval 0 3 v0 rfl rfl) h0
  obtain ⟨a1, rfl, rfl, rfl, w1⟩ := open_int Tryd.underlying3 (hval 1 3 v1 rfl rfl) h1
  obtain ⟨a2, rfl, rfl, rfl⟩ := open_bool Tryd.underlying4 (hval 2 4 v2 rfl rfl) h2
  obtain ⟨a3, rfl, rfl, rfl, w3⟩ := open_int Tryd.underlying22 (hval 3 22 v3 rfl rfl) h3
  clear hA0 hval0
  simp only [List.append_nil] at hW'
  refine (convExtends_walk a0 a1 a2 a3 w0 w1 w3 W (tb_P hL)).mono fun e W' ⟨he, hg⟩ => ?_
  subst he
  exact ⟨_, rfl, _, _, _, [], [], [], hW', (trodAll_cons_mk (shut_bool Tryd.underlying4 _) trodAll_mk0), (trodAll_cons_mk (shut_int Tryd.underlying3 w0) (trodAll_cons_mk (shut_int Tryd.underlying3 w1) (trodAll_cons_mk (shut_bool Tryd.underlying4 _) (trodAll_cons_mk (shut_int Tryd.underlying22 w3) trodAll_mk0)))), rfl, hg.frame _, fun h => by cases h⟩

theorem convExtends_over : Rows.convExtendsRow.holds Tryd.pinned (OpenSpec.ofChange Rows.convExtendsSpec) :=
  OpenClaim.holds_of_wide 6 Tryd.f6 rfl rfl rfl rfl rfl rfl rfl ⟨rfl, rfl, rfl, rfl, rfl⟩ rfl rfl rfl rfl rfl (by kernel_rfl) Tryd.func6 (by kernel_rfl)
    (of_decide_eq_true (by kernel_rfl)) (by unfold Func.isWrapper; first | (rw [if_pos (by decide +kernel)]; kernel_rfl) | (rw [if_neg (by decide +kernel)]; exact ⟨rfl, rfl⟩))
    (fun os started H enc _ => convExtends_lifted os started H enc)

theorem convExtends_proved : Rows.ConvExtendsCardSaid :=
  Claim7.holds_tied_plain_at .later [] [.data, .data, .data] true (true, "397b09112119fa734b71d0dfbaa52ad10e3cfe198ad17a9f7798ec029590703f") true
    convExtends_over (fun _ h => by cases h) (by kernel_rfl) (fun _ h => by cases h) convExtends_row_tie rfl ⟨rfl, rfl⟩ (by kernel_rfl) rfl
    (fun f fn hf hfn => by
      obtain rfl : f = 6 := Option.some.inj ((show Tryd.prog.funcNamed "grommet/grommetlaw06.ConvExtends" = some 6 by kernel_rfl).symm.trans hf) |>.symm
      obtain rfl : fn = Tryd.f6 := (Option.some.inj (Tryd.func6.symm.trans hfn)).symm
      exact ⟨by kernel_rfl, fun j t ht => by
        rw [Tryd.params6] at ht
        have hm : t ∈ [3, 3, 4, 22] := by simpa using Array.mem_of_getElem? ht
        have hall : ([3, 3, 4, 22].all fun u => !Tryd.prog.wantsStandIn u) = true := by kernel_rfl
        exact (show Tryd.prog.wantsStandIn t = false by simpa using List.all_eq_true.1 hall t hm)⟩)
    (by kernel_rfl)
#print axioms convExtends_proved
end Go.Proofs.YtmbnaejoiglckaaDoor
