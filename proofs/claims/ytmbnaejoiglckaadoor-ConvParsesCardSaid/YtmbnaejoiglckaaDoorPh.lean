/-
  Called with any number of bits and any string, grommetlaw06.ConvParses returns true, the tables and the sentinels strconv.ErrRange, strconv.ErrSyntax lying as the program's text lays them; no other condition.
-/
import Derived.Test.YtmbnaejoiglckaaDoorKl
import Derived.Test.YtmbnaejoiglckaaDoorCards
import Derived.Deep.RegionHeld3
import Derived.WalkKit
import Derived.ProofKit
import Derived.OpenShut
import Derived.ShutString
import Derived.ChangeOld
import Derived.Below
import Derived.ChangeMaps5
namespace Go.Proofs.YtmbnaejoiglckaaDoor
open Go.ChangeShapes Go.WideShapes Go.ChangeAt Go.RowKit
open Go.ChangeMaps (open_string shut_string)
set_option linter.unusedVariables false
set_option linter.unusedSimpArgs false

set_option maxHeartbeats 4000000 in
set_option maxRecDepth 100000 in
theorem convParses_walk (a0 : Int) (a1 : ByteArray) (w : World) (w0 : (Lit.int .i64 a0).wf = true) (w1 : a1.size ≤ maxLen) (hL : Lw w) :
    Calls Tryd.prog 9 #[.int .i64 a0, .string a1] w fun e w' => e = .returned (.bool true) ∧ Below w.heap.size w w' := by
  have HM9 : a1.size ≤ 9223372036854775807 := by unfold maxLen at w1; omega
  have AW : Hid (∀ W : World, Below w.heap.size w W → Calls Tryd.prog 20 #[] W fun e w' => e = .returned (.bool true) ∧ Below W.heap.size W w') := Lib.hid (fun W hb => awake6_any W (hL.below hb).pw)
  by_cases hbig : 100 < a1.size
  · have h1 : (100 : Int) < (a1.size : Int) := by omega
    have A := Lib.hid (AW.out w (Below.refl _ _))
    clear hL hbig w1
    go_enter Tryd.func9, Tryd.ntmps9
    go_wp2_with (go_at_call 20; refine A.out.mono ?_; rintro e w2 ⟨rfl, hb⟩; have HB := Lib.hid hb; clear hb)
    go_ret
    exact ⟨rfl, HB.out⟩
  · have h1 : ¬ (100 : Int) < (a1.size : Int) := by omega
    by_cases hok : Wd.ok a0
    · have hlen : a1.data.toList.length ≤ 100 := by
        have := bs_size a1.data.toList
        rw [bs_data] at this; omega
      rcases hok with rfl | rfl
      · have P := Lib.hid (ParseA_32 a1.data.toList hlen w hL)
        have D := Lib.hid (fun W : World => RParse_32 a1.data.toList hlen W)
        rw [bs_data] at P D
        generalize dz 4294967295 a1.data.toList = O at P D
        clear hlen hL hbig w1
        go_enter Tryd.func9, Tryd.ntmps9
        go_wp2_with fail
        refine P.out.mono ?_
        rintro e w2 ⟨rfl, hb⟩
        have HB := Lib.hid hb
        clear hb
        have A := Lib.hid (AW.out w2 HB.out)
        cases O
        all_goals
          go_wp2_with (first
            | (go_at_call 32; (with_reducible refine (D.out _).mono ?_); rintro e w3 ⟨rfl, rfl⟩)
            | (go_at_call 20; refine A.out.mono ?_; rintro e w4 ⟨rfl, hb⟩; have HB2 := Lib.hid (HB.out.trans (hb.mono HB.out.size)); clear hb))
          go_ret
          exact ⟨rfl, HB2.out⟩
      · have P := Lib.hid (ParseA_64 a1.data.toList hlen w hL)
        have D := Lib.hid (fun W : World => RParse_64 a1.data.toList hlen W)
        rw [bs_data] at P D
        generalize dz 18446744073709551615 a1.data.toList = O at P D
        clear hlen hL hbig w1
        go_enter Tryd.func9, Tryd.ntmps9
        go_wp2_with fail
        refine P.out.mono ?_
        rintro e w2 ⟨rfl, hb⟩
        have HB := Lib.hid hb
        clear hb
        have A := Lib.hid (AW.out w2 HB.out)
        cases O
        all_goals
          go_wp2_with (first
            | (go_at_call 32; (with_reducible refine (D.out _).mono ?_); rintro e w3 ⟨rfl, rfl⟩)
            | (go_at_call 20; refine A.out.mono ?_; rintro e w4 ⟨rfl, hb⟩; have HB2 := Lib.hid (HB.out.trans (hb.mono HB.out.size)); clear hb))
          go_ret
          exact ⟨rfl, HB2.out⟩
    · have P := Lib.hid (Parse_bad a0 hok a1 w)
      have e1 : (a0 != 32) = true := by simp; exact fun e => hok (.inl e)
      have e2 : (a0 != 64) = true := by simp; exact fun e => hok (.inr e)
      have A := Lib.hid (AW.out w (Below.refl _ _))
      clear hL hbig w1 hok
      go_enter Tryd.func9, Tryd.ntmps9
      go_wp2_with (first
        | (go_at_call 31; refine P.out.mono ?_; rintro e w2 ⟨rfl, rfl⟩)
        | (go_at_call 20; refine A.out.mono ?_; rintro e w4 ⟨rfl, hb⟩; have HB2 := Lib.hid hb; clear hb))
      go_ret
      exact ⟨rfl, HB2.out⟩

set_option maxRecDepth 100000 in
theorem convParses_lifted (os : Os) (started : os.Started) (H : Type) (enc : TypeId × Value → H) :
    ReturnsInHanded {} Tryd.checked os 9 .any (fun w args => (Rows.convParsesSpec.pre enc Tryd.prog Tryd.f9 [] false w args ∧ laidMetH Tryd.prog laidZ w) ∧ sizedMet enc Tryd.prog Tryd.f9 (OpenSpec.ofChange Rows.convParsesSpec) false w args) (Rows.convParsesSpec.post enc Tryd.prog Tryd.f9 false true false false) := by
  refine returnsInHanded_of_change_and_sh (C := Tryd.checked) (X := fun w _ => laidMetH Tryd.prog laidZ w) (fun _ _ _ hh h => h.of_heap hh) Tryd.own started (by kernel_rfl) Tryd.func9
    (ChangeSpec.witness_shaped (enc := enc) (C := Tryd.checked) (os := os) (X := fun w _ => laidMetH Tryd.prog laidZ w) false (World.laidAll Tryd.prog os laidZ) #[.int .i64 0, .string ⟨#[]⟩] 8 (World.laidAll_os _ _ _) (World.shaped_of_ZipB (by kernel_rfl) (by kernel_rfl)) (by kernel_rfl) (by kernel_rfl) (by kernel_rfl) (laidZ_met os _)) ?_
  intro W base args ds gs before hval0 hW _ _ hL hsh _
  have hval : ∀ (j : Nat) t v, Tryd.f9.params[j]? = some t → args[j]? = some v → Value.okWide Tryd.prog W .any base t v := hval0
  have hW' := hW
  obtain ⟨p, q, hA0, hV, rfl, hfz, hnd⟩ := hW
  have hA : DataW.TrodAll enc Tryd.prog W 0 (fun _ => true) true Tryd.f9.params.toList args.toList ds p := hA0
  rw [Tryd.params9] at hA hval
  obtain ⟨v0, vs0, d0, ds0, p0, q0, hargs, rfl, rfl, h0, r0⟩ := trodAll_cons hA
  obtain ⟨v1, vs1, d1, ds1, p1, q1, rfl, rfl, rfl, h1, r1⟩ := trodAll_cons r0
  obtain ⟨rfl, rfl, rfl⟩ := trodAll_nil r1
  obtain rfl : args = #[v0, v1] := by cases args; simp_all
  obtain ⟨rfl, rfl⟩ := trodVars_none hV
  obtain ⟨a0, rfl, rfl, rfl, w0⟩ := open_int Tryd.underlying3 (hval 0 3 v0 rfl rfl) h0
  obtain ⟨a1, rfl, rfl, rfl, w1⟩ := open_string Tryd.underlying9 (hval 1 9 v1 rfl rfl) h1
  clear hA0 hval0
  refine (convParses_walk a0 a1 W w0 w1 (lw_of hL)).mono fun e W' ⟨he, hg⟩ => ?_
  subst he
  exact ⟨_, rfl, _, _, _, [], _, [], hW', trodAll_mk1 (shut_bool Tryd.underlying4 _), (trodAll_cons_mk (shut_int Tryd.underlying3 w0) (trodAll_cons_mk (shut_string Tryd.underlying9 w1) trodAll_mk0)), rfl, hg.frame _, fun h => by cases h⟩

theorem convParses_over : Rows.convParsesRow.holds Tryd.pinned (OpenSpec.ofChange Rows.convParsesSpec) :=
  OpenClaim.holds_of_wide 9 Tryd.f9 rfl rfl rfl rfl rfl rfl rfl ⟨rfl, rfl, rfl, rfl, rfl⟩ rfl rfl rfl rfl rfl (by kernel_rfl) Tryd.func9 (by kernel_rfl)
    (of_decide_eq_true (by kernel_rfl)) (by unfold Func.isWrapper; first | (rw [if_pos (by decide +kernel)]; kernel_rfl) | (rw [if_neg (by decide +kernel)]; exact ⟨rfl, rfl⟩))
    (fun os started H enc _ => convParses_lifted os started H enc)

theorem convParses_proved : Rows.ConvParsesCardSaid :=
  Claim7.holds_tied_plain_at .later [] [.data, .data, .data, .sentinel, .sentinel] true (true, "397b09112119fa734b71d0dfbaa52ad10e3cfe198ad17a9f7798ec029590703f") true
    convParses_over (fun _ h => by cases h) (by kernel_rfl) (fun _ h => by cases h) convParses_row_tie rfl ⟨rfl, rfl⟩ (by kernel_rfl) rfl
    (fun f fn hf hfn => by
      obtain rfl : f = 9 := Option.some.inj ((show Tryd.prog.funcNamed "grommet/grommetlaw06.ConvParses" = some 9 by kernel_rfl).symm.trans hf) |>.symm
      obtain rfl : fn = Tryd.f9 := (Option.some.inj (Tryd.func9.symm.trans hfn)).symm
      exact ⟨by kernel_rfl, fun j t ht => by
        rw [Tryd.params9] at ht
        have hm : t ∈ [3, 9] := by simpa using Array.mem_of_getElem? ht
        have hall : ([3, 9].all fun u => !Tryd.prog.wantsStandIn u) = true := by kernel_rfl
        exact (show Tryd.prog.wantsStandIn t = false by simpa using List.all_eq_true.1 hall t hm)⟩)
    (by kernel_rfl)
#print axioms convParses_proved
end Go.Proofs.YtmbnaejoiglckaaDoor
