/-
  Called with any limits, any number and any string, grommetlaw09.TypesLimits returns true, the tables and the two errors of strconv that the row lists lying as the program's text lays them; no other condition.
-/
import Derived.Test.YtalpkdnnclghaaaDoorYe
import Derived.Test.YtalpkdnnclghaaaDoorCards
import Derived.Deep.RegionHeld3
import Derived.WalkKit
import Derived.ProofKit
import Derived.OpenShut
import Derived.ShutString
import Derived.ChangeOld
import Derived.Below
import Derived.ChangeMaps5
namespace Go.Proofs.YtalpkdnnclghaaaDoor
open Go.ChangeShapes Go.WideShapes Go.ChangeAt Go.RowKit
open Go.ChangeMaps (open_string shut_string)
set_option linter.unusedVariables false
set_option linter.unusedSimpArgs false

set_option maxHeartbeats 4000000 in
set_option maxRecDepth 100000 in
theorem lim_long (a b mo : Int) (wd : Bool) (S : ByteArray) (w : World) (hL : Lw w) (h : 100 < S.size) :
    Calls Tryd.prog 5 #[.agg #[.int .i64 a, .int .i64 b, .bool wd], .int .i64 mo, .string S] w fun e w' => e = .returned (.bool true) ∧ Below w.heap.size w w' := by
  have hb0 : Below w.heap.size w (w.alloc (.cells #[.int .i64 a, .int .i64 b, .bool wd] 40)) := (Below.refl _ _).alloc (Nat.le_refl _) _
  obtain ⟨m, h5, hm⟩ := (hL.below hb0).mx
  have HA := Lib.hid (awake9_any m _ h5 hm)
  have HB0 := Lib.hid hb0
  have k0' : (100 : Int) < (S.size : Int) := by omega
  clear hm h5 h hb0
  go_enter Tryd.func5, Tryd.ntmps5
  go_wp2_with (go_at_call 13; (with_reducible refine HA.out.mono ?_); rintro e w1 ⟨rfl, hb⟩; have HB := Lib.hid (HB0.out.trans (hb.mono HB0.out.size)); clear hb)
  go_ret
  exact ⟨rfl, HB.out⟩
theorem typesLimits_walk (a b : Int) (wd : Bool) (mo : Int) (S : ByteArray) (w : World) (wa : (Lit.int .i64 a).wf = true) (wb : (Lit.int .i64 b).wf = true) (wm : (Lit.int .i64 mo).wf = true) (wS : S.size ≤ maxLen) (hL : Lw w) :
    Calls Tryd.prog 5 #[.agg #[.int .i64 a, .int .i64 b, .bool wd], .int .i64 mo, .string S] w fun e w' => e = .returned (.bool true) ∧ Below w.heap.size w w' := by
  by_cases h : 100 < S.size
  · exact lim_long a b mo wd S w hL h
  · have e := bs_data S
    have hl : S.data.toList.length ≤ 100 := by
      have := bs_size S.data.toList
      rw [e] at this; omega
    obtain ⟨ha0, ha1⟩ := bounds_i64 wa
    obtain ⟨hb0, hb1⟩ := bounds_i64 wb
    obtain ⟨hm0, hm1⟩ := bounds_i64 wm
    by_cases hn : b < 0
    · cases wd
      · exact lim_nf a b mo hn _ S e w hL hl ha0 ha1 hb0 hb1 hm0 hm1
      · exact lim_nt a b mo hn _ S e w hL hl ha0 ha1 hb0 hb1 hm0 hm1
    · cases wd
      · exact lim_pf a b mo hn _ S e w hL hl ha0 ha1 hb0 hb1 hm0 hm1
      · exact lim_pt a b mo hn _ S e w hL hl ha0 ha1 hb0 hb1 hm0 hm1

set_option maxRecDepth 100000 in
theorem typesLimits_lifted (os : Os) (started : os.Started) (H : Type) (enc : TypeId × Value → H) :
    ReturnsInHanded {} Tryd.checked os 5 .any (fun w args => (Rows.typesLimitsSpec.pre enc Tryd.prog Tryd.f5 [] false w args ∧ laidMetH Tryd.prog laidZ w) ∧ sizedMet enc Tryd.prog Tryd.f5 (OpenSpec.ofChange Rows.typesLimitsSpec) false w args) (Rows.typesLimitsSpec.post enc Tryd.prog Tryd.f5 false true false false) := by
  refine returnsInHanded_of_change_and_sh (C := Tryd.checked) (X := fun w _ => laidMetH Tryd.prog laidZ w) (fun _ _ _ hh h => h.of_heap hh) Tryd.own started (by kernel_rfl) Tryd.func5
    (ChangeSpec.witness_shaped (enc := enc) (C := Tryd.checked) (os := os) (X := fun w _ => laidMetH Tryd.prog laidZ w) false (World.laidAll Tryd.prog os laidZ) #[.agg #[.int .i64 0, .int .i64 0, .bool false], .int .i64 0, .string ⟨#[]⟩] 8 (World.laidAll_os _ _ _) (World.shaped_of_ZipB (by kernel_rfl) (by kernel_rfl)) (by kernel_rfl) (by kernel_rfl) (by kernel_rfl) (laidZ_met os _)) ?_
  intro W base args ds gs before hval0 hW _ _ hL hsh _
  have hval : ∀ (j : Nat) t v, Tryd.f5.params[j]? = some t → args[j]? = some v → Value.okWide Tryd.prog W .any base t v := hval0
  have hW' := hW
  obtain ⟨p, q, hA0, hV, rfl, hfz, hnd⟩ := hW
  have hA : DataW.TrodAll enc Tryd.prog W 0 (fun _ => true) true Tryd.f5.params.toList args.toList ds p := hA0
  rw [Tryd.params5] at hA hval
  obtain ⟨v0, vs0, d0, ds0, p0, q0, hargs, rfl, rfl, h0, r0⟩ := trodAll_cons hA
  obtain ⟨v1, vs1, d1, ds1, p1, q1, rfl, rfl, rfl, h1, r1⟩ := trodAll_cons r0
  obtain ⟨v2, vs2, d2, ds2, p2, q2, rfl, rfl, rfl, h2, r2⟩ := trodAll_cons r1
  obtain ⟨rfl, rfl, rfl⟩ := trodAll_nil r2
  obtain rfl : args = #[v0, v1, v2] := by cases args; simp_all
  obtain ⟨rfl, rfl⟩ := trodVars_none hV
  obtain ⟨a0, a0b, a0c, rfl, rfl, rfl, w0, w0b⟩ := open_lim (hval 0 40 v0 rfl rfl) h0
  obtain ⟨a1, rfl, rfl, rfl, w1⟩ := open_int Tryd.underlying3 (hval 1 3 v1 rfl rfl) h1
  obtain ⟨a2, rfl, rfl, rfl, w2⟩ := open_string Tryd.underlying9 (hval 2 9 v2 rfl rfl) h2
  clear hA0 hval0
  refine (typesLimits_walk a0 a0b a0c a1 a2 W w0 w0b w1 w2 (lw_of hsh hL)).mono fun e W' ⟨he, hg⟩ => ?_
  subst he
  exact ⟨_, rfl, _, _, _, [], _, [], hW', trodAll_mk1 (shut_bool Tryd.underlying4 _), (trodAll_cons_mk (shut_lim w0 w0b) (trodAll_cons_mk (shut_int Tryd.underlying3 w1) (trodAll_cons_mk (shut_string Tryd.underlying9 w2) trodAll_mk0))), rfl, hg.frame _, fun h => by cases h⟩

theorem typesLimits_over : Rows.typesLimitsRow.holds Tryd.pinned (OpenSpec.ofChange Rows.typesLimitsSpec) :=
  OpenClaim.holds_of_wide 5 Tryd.f5 rfl rfl rfl rfl rfl rfl rfl ⟨rfl, rfl, rfl, rfl, rfl⟩ rfl rfl rfl rfl rfl (by kernel_rfl) Tryd.func5 (by kernel_rfl)
    (of_decide_eq_true (by kernel_rfl)) (by unfold Func.isWrapper; first | (rw [if_pos (by decide +kernel)]; kernel_rfl) | (rw [if_neg (by decide +kernel)]; exact ⟨rfl, rfl⟩))
    (fun os started H enc _ => typesLimits_lifted os started H enc)

theorem typesLimits_proved : Rows.TypesLimitsCardSaid :=
  Claim7.holds_tied_plain_at .later [] [.data, .data, .data, .data, .sentinel, .sentinel, .pinned] true (true, "4363a9f1bcaa13f3b457e37f1a1b0955e8ef81f2314578975e89844add95430d") true
    typesLimits_over (fun _ h => by cases h) (by kernel_rfl) (fun _ h => by cases h) typesLimits_row_tie rfl ⟨rfl, rfl⟩ (by kernel_rfl) rfl
    (fun f fn hf hfn => by
      obtain rfl : f = 5 := Option.some.inj ((show Tryd.prog.funcNamed "grommet/grommetlaw09.TypesLimits" = some 5 by kernel_rfl).symm.trans hf) |>.symm
      obtain rfl : fn = Tryd.f5 := (Option.some.inj (Tryd.func5.symm.trans hfn)).symm
      exact ⟨by kernel_rfl, fun j t ht => by
        rw [Tryd.params5] at ht
        have hm : t ∈ [40, 3, 9] := by simpa using Array.mem_of_getElem? ht
        have hall : ([40, 3, 9].all fun u => !Tryd.prog.wantsStandIn u) = true := by kernel_rfl
        exact (show Tryd.prog.wantsStandIn t = false by simpa using List.all_eq_true.1 hall t hm)⟩)
    (by kernel_rfl)
#print axioms typesLimits_proved
end Go.Proofs.YtalpkdnnclghaaaDoor
