/-
  Called with any number of bits and any word, grommetlaw06.ConvPrints returns true, the tables and the sentinels strconv.ErrRange, strconv.ErrSyntax lying as the program's text lays them; no other condition.
-/
import Derived.Test.YtmbnaejoiglckaaDoorKl
import Derived.Test.YtmbnaejoiglckaaDoorCards
import Derived.Deep.RegionHeld3
import Derived.WalkKit
import Derived.ProofKit
import Derived.OpenShut
import Derived.ShutString
import Derived.ChangeOld
import Derived.Below
import Derived.ChangeMaps5
namespace Go.Proofs.YtmbnaejoiglckaaDoor
open Go.ChangeShapes Go.WideShapes Go.ChangeAt Go.RowKit
open Go.ChangeMaps (open_string shut_string)
set_option linter.unusedVariables false
set_option linter.unusedSimpArgs false

set_option maxHeartbeats 4000000 in
set_option maxRecDepth 100000 in
theorem convPrints_walk (a0 : Int) (a1 : Int) (w : World) (w0 : (Lit.int .i64 a0).wf = true) (w1 : (Lit.int .u64 a1).wf = true) (hL : Lw w) :
    Calls Tryd.prog 8 #[.int .i64 a0, .int .u64 a1] w fun e w' => e = .returned (.bool true) ∧ Below w.heap.size w w' := by
  obtain ⟨a, rfl, ha⟩ := u64_nat w1
  have AW : Hid (∀ W : World, Below w.heap.size w W → Calls Tryd.prog 20 #[] W fun e w' => e = .returned (.bool true) ∧ Below W.heap.size W w') := Lib.hid (fun W hb => awake6_any W (hL.below hb).pw)
  have PR := Lib.hid (Print_ok a0 a ha w hL)
  have HX : Hid (∀ W : World, Below w.heap.size w W → Calls Tryd.prog 28 #[.int .u64 a] W fun e w' => e = .returned (.string (bs (48 :: 120 :: hexDigits a))) ∧ Below W.heap.size W w') := Lib.hid (fun W hb => Hex_ok a ha W (hL.below hb))
  have RP_ := Lib.hid (fun W : World => RPrint_ok a0 a ha W)
  have DG := Lib.hid (fun W : World => Digits16 a ha W)
  have hl := hex_len 15 a (by omega)
  have f : Op.stringOp .add ⟨#[48, 120]⟩ (bs (hexDigits a)) = pure (.string (bs (48 :: 120 :: hexDigits a))) := cat_bs [48, 120] _ (by simp; omega)
  have PH0 : ∀ W : World, Below w.heap.size w W → Calls Tryd.prog 31 #[.int .i64 64, .string (bs (48 :: 120 :: hexDigits a))] W (PaP (some a) W) := fun W hb => by
    have := ParseA_64 (48 :: 120 :: hexDigits a) (by simp; omega) W (hL.below hb)
    rw [dz_hexD a ha] at this
    exact this
  have PH := Lib.hid PH0
  have hsf := sgn_fit a0 a ha
  have hil := itoa_len (Wd.sgn a0 a) (by omega) (by omega)
  by_cases hok : Wd.ok a0
  · have hw : ∃ z : Nat, (a0 = 32 ∧ z = a % 4294967296 ∨ a0 = 64 ∧ z = a) ∧ ∀ W : World, Below w.heap.size w W → Calls Tryd.prog 31 #[.int .i64 a0, .string (bs (Lib.itoa (Wd.sgn a0 a)))] W (PaP (some z) W) := by
      rcases hok with rfl | rfl
      · refine ⟨_, .inl ⟨rfl, rfl⟩, fun W hb => ?_⟩
        have := ParseA_32 (Lib.itoa (Wd.sgn 32 a)) hil W (hL.below hb)
        rw [dz_itoa32 a ha] at this
        exact this
      · refine ⟨_, .inr ⟨rfl, rfl⟩, fun W hb => ?_⟩
        have := ParseA_64 (Lib.itoa (Wd.sgn 64 a)) hil W (hL.below hb)
        rw [dz_itoa64 a ha] at this
        exact this
    obtain ⟨z, hz, PP0⟩ := hw
    have PP := Lib.hid PP0
    generalize bs (Lib.itoa (Wd.sgn a0 a)) = X at PR RP_ PP
    generalize bs (48 :: 120 :: hexDigits a) = H at HX f PH
    generalize bs (hexDigits a) = D at DG f
    have hxx : (X.toList == X.toList) = true := by simp
    have hhh : (H.toList == H.toList) = true := by simp
    have ha9 : (a : Int) < 18446744073709551616 := by omega
    clear hL PP0 PH0 hl hil hsf hok w0 w1
    have hzz : a0 = 32 ∧ (a : Int) % 4294967296 = (z : Int) ∧ (a : Int).tmod 4294967296 = (z : Int) ∧ (z : Int) < 4294967296 ∨ a0 = 64 ∧ z = a := by
      rcases hz with ⟨e, rfl⟩ | h
      · exact .inl ⟨e, by omega, by rw [Int.tmod_eq_emod_of_nonneg (by omega)]; omega, by omega⟩
      · exact .inr h
    clear hz
    rcases hzz with ⟨rfl, hm, hm', hz⟩ | ⟨rfl, rfl⟩
    all_goals
      go_enter Tryd.func8, Tryd.ntmps8
      go_wp2_with (first
        | (go_at_call 27; refine PR.out.mono ?_; rintro e v1 ⟨rfl, hb⟩; have B1 := Lib.hid hb; clear hb)
        | (go_at_call 28; refine (HX.out _ B1.out).mono ?_; rintro e v2 ⟨rfl, hb⟩; have B2 := Lib.hid (B1.out.trans (hb.mono B1.out.size)); clear hb)
        | (go_at_call 29; refine (RP_.out _).mono ?_; rintro e v3 ⟨rfl, hb⟩; have B3 := Lib.hid (B2.out.trans (hb.mono B2.out.size)); clear hb)
        | (go_at_call 30; refine (DG.out _).mono ?_; rintro e v4 ⟨rfl, hb⟩; have B4 := Lib.hid (B3.out.trans (hb.mono B3.out.size)); clear hb)
        | (go_at_call 31; (with_reducible refine (PP.out _ B4.out).mono ?_); rintro e v5 ⟨rfl, hb⟩; have B5 := Lib.hid (B4.out.trans (hb.mono B4.out.size)); clear hb)
        | (go_at_call 31; (with_reducible refine (PH.out _ B5.out).mono ?_); rintro e v6 ⟨rfl, hb⟩; have B6 := Lib.hid (B5.out.trans (hb.mono B5.out.size)); clear hb)
        | (go_at_call 20; refine (AW.out _ B6.out).mono ?_; rintro e v7 ⟨rfl, hb⟩; have B7 := Lib.hid (B6.out.trans (hb.mono B6.out.size)); clear hb))
      go_ret
      exact ⟨rfl, B7.out⟩
  · have PB := Lib.hid (fun W : World => Parse_bad a0 hok (bs (Lib.itoa (Wd.sgn a0 a))) W)
    have e1 : (a0 != 32) = true := by simp; exact fun e => hok (.inl e)
    have e2 : (a0 != 64) = true := by simp; exact fun e => hok (.inr e)
    generalize bs (Lib.itoa (Wd.sgn a0 a)) = X at PR RP_ PB
    generalize bs (48 :: 120 :: hexDigits a) = H at HX f PH
    generalize bs (hexDigits a) = D at DG f
    have hxx : (X.toList == X.toList) = true := by simp
    have hhh : (H.toList == H.toList) = true := by simp
    have ha9 : (a : Int) < 18446744073709551616 := by omega
    have hp := PH.out
    clear hL PH0 hl hil hsf hok w0 w1 hp
    go_enter Tryd.func8, Tryd.ntmps8
    go_wp2_with (first
      | (go_at_call 27; refine PR.out.mono ?_; rintro e v1 ⟨rfl, hb⟩; have B1 := Lib.hid hb; clear hb)
      | (go_at_call 28; refine (HX.out _ B1.out).mono ?_; rintro e v2 ⟨rfl, hb⟩; have B2 := Lib.hid (B1.out.trans (hb.mono B1.out.size)); clear hb)
      | (go_at_call 29; refine (RP_.out _).mono ?_; rintro e v3 ⟨rfl, hb⟩; have B3 := Lib.hid (B2.out.trans (hb.mono B2.out.size)); clear hb)
      | (go_at_call 30; refine (DG.out _).mono ?_; rintro e v4 ⟨rfl, hb⟩; have B4 := Lib.hid (B3.out.trans (hb.mono B3.out.size)); clear hb)
      | (go_at_call 31; (with_reducible refine (PB.out _).mono ?_); rintro e v5 ⟨rfl, rfl⟩)
      | (go_at_call 31; (with_reducible refine (PH.out _ B4.out).mono ?_); rintro e v6 ⟨rfl, hb⟩; have B6 := Lib.hid (B4.out.trans (hb.mono B4.out.size)); clear hb)
      | (go_at_call 20; refine (AW.out _ B6.out).mono ?_; rintro e v7 ⟨rfl, hb⟩; have B7 := Lib.hid (B6.out.trans (hb.mono B6.out.size)); clear hb))
    go_ret
    exact ⟨rfl, B7.out⟩

set_option maxRecDepth 100000 in
theorem convPrints_lifted (os : Os) (started : os.Started) (H : Type) (enc : TypeId × Value → H) :
    ReturnsInHanded {} Tryd.checked os 8 .any (fun w args => (Rows.convPrintsSpec.pre enc Tryd.prog Tryd.f8 [] false w args ∧ laidMetH Tryd.prog laidZ w) ∧ sizedMet enc Tryd.prog Tryd.f8 (OpenSpec.ofChange Rows.convPrintsSpec) false w args) (Rows.convPrintsSpec.post enc Tryd.prog Tryd.f8 false true false false) := by
  refine returnsInHanded_of_change_and_sh (C := Tryd.checked) (X := fun w _ => laidMetH Tryd.prog laidZ w) (fun _ _ _ hh h => h.of_heap hh) Tryd.own started (by kernel_rfl) Tryd.func8
    (ChangeSpec.witness_shaped (enc := enc) (C := Tryd.checked) (os := os) (X := fun w _ => laidMetH Tryd.prog laidZ w) false (World.laidAll Tryd.prog os laidZ) #[.int .i64 0, .int .u64 0] 8 (World.laidAll_os _ _ _) (World.shaped_of_ZipB (by kernel_rfl) (by kernel_rfl)) (by kernel_rfl) (by kernel_rfl) (by kernel_rfl) (laidZ_met os _)) ?_
  intro W base args ds gs before hval0 hW _ _ hL hsh _
  have hval : ∀ (j : Nat) t v, Tryd.f8.params[j]? = some t → args[j]? = some v → Value.okWide Tryd.prog W .any base t v := hval0
  have hW' := hW
  obtain ⟨p, q, hA0, hV, rfl, hfz, hnd⟩ := hW
  have hA : DataW.TrodAll enc Tryd.prog W 0 (fun _ => true) true Tryd.f8.params.toList args.toList ds p := hA0
  rw [Tryd.params8] at hA hval
  obtain ⟨v0, vs0, d0, ds0, p0, q0, hargs, rfl, rfl, h0, r0⟩ := trodAll_cons hA
  obtain ⟨v1, vs1, d1, ds1, p1, q1, rfl, rfl, rfl, h1, r1⟩ := trodAll_cons r0
  obtain ⟨rfl, rfl, rfl⟩ := trodAll_nil r1
  obtain rfl : args = #[v0, v1] := by cases args; simp_all
  obtain ⟨rfl, rfl⟩ := trodVars_none hV
  obtain ⟨a0, rfl, rfl, rfl, w0⟩ := open_int Tryd.underlying3 (hval 0 3 v0 rfl rfl) h0
  obtain ⟨a1, rfl, rfl, rfl, w1⟩ := open_int Tryd.underlying22 (hval 1 22 v1 rfl rfl) h1
  clear hA0 hval0
  refine (convPrints_walk a0 a1 W w0 w1 (lw_of hL)).mono fun e W' ⟨he, hg⟩ => ?_
  subst he
  exact ⟨_, rfl, _, _, _, [], _, [], hW', trodAll_mk1 (shut_bool Tryd.underlying4 _), (trodAll_cons_mk (shut_int Tryd.underlying3 w0) (trodAll_cons_mk (shut_int Tryd.underlying22 w1) trodAll_mk0)), rfl, hg.frame _, fun h => by cases h⟩

theorem convPrints_over : Rows.convPrintsRow.holds Tryd.pinned (OpenSpec.ofChange Rows.convPrintsSpec) :=
  OpenClaim.holds_of_wide 8 Tryd.f8 rfl rfl rfl rfl rfl rfl rfl ⟨rfl, rfl, rfl, rfl, rfl⟩ rfl rfl rfl rfl rfl (by kernel_rfl) Tryd.func8 (by kernel_rfl)
    (of_decide_eq_true (by kernel_rfl)) (by unfold Func.isWrapper; first | (rw [if_pos (by decide +kernel)]; kernel_rfl) | (rw [if_neg (by decide +kernel)]; exact ⟨rfl, rfl⟩))
    (fun os started H enc _ => convPrints_lifted os started H enc)

theorem convPrints_proved : Rows.ConvPrintsCardSaid :=
  Claim7.holds_tied_plain_at .later [] [.data, .data, .data, .sentinel, .sentinel] true (true, "397b09112119fa734b71d0dfbaa52ad10e3cfe198ad17a9f7798ec029590703f") true
    convPrints_over (fun _ h => by cases h) (by kernel_rfl) (fun _ h => by cases h) convPrints_row_tie rfl ⟨rfl, rfl⟩ (by kernel_rfl) rfl
    (fun f fn hf hfn => by
      obtain rfl : f = 8 := Option.some.inj ((show Tryd.prog.funcNamed "grommet/grommetlaw06.ConvPrints" = some 8 by kernel_rfl).symm.trans hf) |>.symm
      obtain rfl : fn = Tryd.f8 := (Option.some.inj (Tryd.func8.symm.trans hfn)).symm
      exact ⟨by kernel_rfl, fun j t ht => by
        rw [Tryd.params8] at ht
        have hm : t ∈ [3, 22] := by simpa using Array.mem_of_getElem? ht
        have hall : ([3, 22].all fun u => !Tryd.prog.wantsStandIn u) = true := by kernel_rfl
        exact (show Tryd.prog.wantsStandIn t = false by simpa using List.all_eq_true.1 hall t hm)⟩)
    (by kernel_rfl)
#print axioms convPrints_proved
end Go.Proofs.YtmbnaejoiglckaaDoor
