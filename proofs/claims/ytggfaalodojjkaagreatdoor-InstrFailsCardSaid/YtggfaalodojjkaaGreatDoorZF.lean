/- closed facts of the row of instrFails, one by one -/
import Derived.Test.YtggfaalodojjkaaGreatDoorZD
import Derived.Test.YtggfaalodojjkaaGreatDoorZE
import Derived.WalkKit
import Derived.ProofKit
import Derived.OpenShut
import Derived.JoinedOf
import Derived.Test.YtggfaalodojjkaaGreatDoorZC
import Derived.Test.YtggfaalodojjkaaGreatDoorZ9
import Derived.Test.YtggfaalodojjkaaGreatDoorQLg
import Derived.Test.YtggfaalodojjkaaGreatDoorCards
import Derived.Deep.RegionHeld3
import Derived.ShutString
import Derived.ChangeOld
import Derived.Below
import Derived.ChangeMaps5
namespace Go.Proofs.YtggfaalodojjkaaGreatDoor
open Go.ChangeShapes Go.WideShapes Go.ChangeAt Go.RowKit
theorem and_mk {a b : Bool} (h : a = true) (k : b = true) : (a && b) = true := by rw [h, k]; rfl
set_option maxRecDepth 100000 in
theorem instrFails_joined : joinedFacts Tryz.pinned.checked.prog 6 Tryz.f6 Rows.instrFailsSpec Rows.instrFailsRow = true := by
  unfold joinedFacts
  refine and_mk ?_ instrFails_k31
  refine and_mk ?_ instrFails_k30
  refine and_mk ?_ instrFails_k29
  refine and_mk ?_ instrFails_k28
  refine and_mk ?_ instrFails_k27
  refine and_mk ?_ instrFails_k26
  refine and_mk ?_ instrFails_k25
  refine and_mk ?_ instrFails_k24
  refine and_mk ?_ instrFails_k23
  refine and_mk ?_ instrFails_k22
  refine and_mk ?_ instrFails_k21
  refine and_mk ?_ instrFails_k20
  refine and_mk ?_ instrFails_k19
  refine and_mk ?_ instrFails_k18
  refine and_mk ?_ instrFails_k17
  refine and_mk ?_ instrFails_k16
  refine and_mk ?_ instrFails_k15
  refine and_mk ?_ instrFails_k14
  refine and_mk ?_ instrFails_k13
  refine and_mk ?_ instrFails_k12
  refine and_mk ?_ instrFails_k11
  refine and_mk ?_ instrFails_k10
  refine and_mk ?_ instrFails_k9
  refine and_mk ?_ instrFails_k8
  refine and_mk ?_ instrFails_k7
  refine and_mk ?_ instrFails_k6
  refine and_mk ?_ instrFails_k5
  refine and_mk ?_ instrFails_k4
  refine and_mk ?_ instrFails_k3
  refine and_mk ?_ instrFails_k2
  refine and_mk ?_ instrFails_k1
  exact instrFails_k0
end Go.Proofs.YtggfaalodojjkaaGreatDoor
/-
  InstrFails: P11.1: called with any bytes and any read that fails, the law returns true: whatever they are, what Decode can't read leaves the cursor where it stood, a failed read is told where one failed, and all are read to their end (where the listed package-level variables stand as the program lays them).
-/
namespace Go.Proofs.YtggfaalodojjkaaGreatDoor
open Go.ChangeShapes Go.WideShapes Go.ChangeAt Go.RowKit
open Go.ChangeMaps (open_string shut_string)
set_option linter.unusedVariables false
set_option linter.unusedSimpArgs false

theorem Tryz.own : ownKnob Tryz.prog.godebug = none := by kernel_rfl
theorem Tryz.laidOut : laidOutB Tryz.prog = true := by kernel_rfl
theorem instrFails_walk (A : Option Addr) (n cap : Nat) (l : List Nat) (fl : Int) (w : World) (hb : Byt w A n cap l) (hfl : (Lit.int .u8 fl).wf = true) (h : Lw w ∧ Tab w 1 13 2 forL) : Calls Tryz.prog 6 #[.slice A n cap, .int .u8 fl] w fun e w' => e = .returned (.bool true) ∧ Below w.heap.size w w' :=
  fails_walk A n cap l fl (by have := wf_u8 hfl; omega) w hb h.1 h.2

set_option maxRecDepth 100000 in
theorem instrFails_lifted (os : Os) (started : os.Started) (H : Type) (enc : TypeId × Value → H) :
    ReturnsInHanded {} Tryz.checked os 6 .any (fun w args => (Rows.instrFailsSpec.pre enc Tryz.prog Tryz.f6 [] false w args ∧ laidMetH Tryz.prog laidG w) ∧ sizedMet enc Tryz.prog Tryz.f6 (OpenSpec.ofChange Rows.instrFailsSpec) false w args) (Rows.instrFailsSpec.post enc Tryz.prog Tryz.f6 false true false false) := by
  refine returnsInHanded_of_change_and_sh (C := Tryz.checked) (X := fun w _ => laidMetH Tryz.prog laidG w) (fun _ _ _ hh h => h.of_heap hh) Tryz.own started (by kernel_rfl) Tryz.func6
    (ChangeSpec.witness_shaped (enc := enc) (C := Tryz.checked) (os := os) (X := fun w _ => laidMetH Tryz.prog laidG w) false (World.laidAll Tryz.prog os laidG) #[.slice none 0 0, .int .u8 0] 8 (World.laidAll_os _ _ _) (World.shaped_of_ZipB (by kernel_rfl) (by kernel_rfl)) (by kernel_rfl) (by kernel_rfl) (by kernel_rfl) (laidG_met os _)) ?_
  intro W base args ds gs before hval0 hW _ _ hL hsh _
  have hval : ∀ (j : Nat) t v, Tryz.f6.params[j]? = some t → args[j]? = some v → Value.okWide Tryz.prog W .any base t v := hval0
  have hW' := hW
  obtain ⟨p, q, hA0, hV, rfl, hfz, hnd⟩ := hW
  have hA : DataW.TrodAll enc Tryz.prog W 0 (fun _ => true) true Tryz.f6.params.toList args.toList ds p := hA0
  rw [Tryz.params6] at hA hval
  obtain ⟨v0, vs0, d0, ds0, p0, q0, hargs, rfl, rfl, h0, r0⟩ := trodAll_cons hA
  obtain ⟨v1, vs1, d1, ds1, p1, q1, rfl, rfl, rfl, h1, r1⟩ := trodAll_cons r0
  obtain ⟨rfl, rfl, rfl⟩ := trodAll_nil r1
  obtain rfl : args = #[v0, v1] := by cases args; simp_all
  obtain ⟨rfl, rfl⟩ := trodVars_none hV
  obtain ⟨a0, len0, cap0, rfl⟩ := okWide_slice Tryz.underlying27 (hval 0 27 v0 rfl rfl)
  have k0 := h0
  have lt0 : ∀ x ∈ p0, x.block < W.heap.size := by obtain ⟨m, hm⟩ := k0; exact DataW.trod_lt m _ _ _ hm
  obtain ⟨z0, w0⟩ : ∃ zs, IsRow .u8 W a0 len0 cap0 zs := by
    obtain ⟨fuel, hf⟩ := h0
    rcases open_ints Tryz.underlying27 Tryz.underlying5 (by kernel_rfl) hf with ⟨hcs, _⟩ | ⟨x, l, c, zs, hcs, _, hl, hm, hz, _, hcell, hwz⟩
    · simp [Value.cells] at hcs
      obtain ⟨rfl, rfl, rfl⟩ := hcs
      exact ⟨[], .inl ⟨rfl, rfl, rfl, rfl⟩⟩
    · simp [Value.cells] at hcs
      obtain ⟨rfl, rfl, rfl⟩ := hcs
      exact ⟨zs, .inr ⟨_, rfl, hl, hm, by simpa using hz, hcell, hwz⟩⟩
  obtain ⟨b0, w0⟩ := byt_of_row w0
  obtain ⟨a1, rfl, rfl, rfl, w1⟩ := open_int Tryz.underlying5 (hval 1 5 v1 rfl rfl) h1
  clear hA0 hval0
  refine (instrFails_walk a0 len0 cap0 b0 a1 W w0 w1 (lwG_of hsh hL)).mono fun e W' ⟨he, hg⟩ => ?_
  subst he
  exact ⟨_, rfl, _, _, _, [], _, [], hW', trodAll_mk1 (shut_bool Tryz.underlying4 _), (trodAll_cons_mk (Below.trod Tryz.laidOut (by kernel_rfl) (of_decide_eq_true (by kernel_rfl)) k0 hg lt0) (trodAll_cons_mk (shut_int Tryz.underlying5 w1) trodAll_mk0)), rfl, hg.frame _, fun h => by cases h⟩

theorem instrFails_over : Rows.instrFailsRow.holds Tryz.pinned (OpenSpec.ofChange Rows.instrFailsSpec) :=
  OpenClaim.holds_of_wide 6 Tryz.f6 rfl rfl rfl rfl rfl rfl rfl ⟨rfl, rfl, rfl, rfl, rfl⟩ rfl rfl rfl rfl rfl (by kernel_rfl) Tryz.func6 instrFails_joined
    (of_decide_eq_true (by kernel_rfl)) (by unfold Func.isWrapper; first | (rw [if_pos (by decide +kernel)]; kernel_rfl) | (rw [if_neg (by decide +kernel)]; exact ⟨rfl, rfl⟩))
    (fun os started H enc _ => instrFails_lifted os started H enc)

theorem instrFails_proved : Rows.InstrFailsCardSaid :=
  Claim7.holds_tied_plain_at .later [] [.data, .data, .data, .data, .sentinel, .sentinel, .listed, .data, .data, .pinned] true (true, "9e84181ca5fe7e9a966fbe0f25dea79e93dc0767dbd2579a8a99642c00156c6c") true
    instrFails_over (fun _ h => by cases h) (by kernel_rfl) (fun _ h => by cases h) instrFails_row_tie rfl ⟨rfl, rfl⟩ (by kernel_rfl) rfl
    (fun f fn hf hfn => by
      obtain rfl : f = 6 := Option.some.inj ((show Tryz.prog.funcNamed "grommet/grommetlaw11.InstrFails" = some 6 by kernel_rfl).symm.trans hf) |>.symm
      obtain rfl : fn = Tryz.f6 := (Option.some.inj (Tryz.func6.symm.trans hfn)).symm
      exact ⟨by kernel_rfl, fun j t ht => by
        rw [Tryz.params6] at ht
        have hm : t ∈ [27, 5] := by simpa using Array.mem_of_getElem? ht
        have hall : ([27, 5].all fun u => !Tryz.prog.wantsStandIn u) = true := by kernel_rfl
        exact (show Tryz.prog.wantsStandIn t = false by simpa using List.all_eq_true.1 hall t hm)⟩)
    (by kernel_rfl)
#print axioms instrFails_proved
end Go.Proofs.YtggfaalodojjkaaGreatDoor
