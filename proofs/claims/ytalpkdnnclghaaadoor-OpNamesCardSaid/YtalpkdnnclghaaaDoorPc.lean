/-
  Called with any string and any whole number, grommetlaw10.OpNames returns true, the tables unicode.White_Space and strings.asciiSpace lying as the program's text lays them; no other condition.
-/
import Derived.Test.YtalpkdnnclghaaaDoorOs
import Derived.Test.YtalpkdnnclghaaaDoorCards
import Derived.Deep.RegionHeld3
import Derived.WalkKit
import Derived.ProofKit
import Derived.OpenShut
import Derived.ShutString
import Derived.ChangeOld
import Derived.Below
import Derived.ChangeMaps5
namespace Go.Proofs.YtalpkdnnclghaaaDoor
open Go.ChangeShapes Go.WideShapes Go.ChangeAt Go.RowKit
open Go.ChangeMaps (open_string shut_string)
set_option linter.unusedVariables false

set_option maxHeartbeats 8000000 in
set_option maxRecDepth 100000 in
theorem names_long (s : ByteArray) (hsz : 60 < s.size) (hm : s.size ≤ maxLen) (kk : Int) (w : World) (hT : Tb w) :
    Calls Tryd.prog 9 #[.string s, .int .i64 kk] w fun e w' => e = .returned (.bool true) ∧ Below w.heap.size w w' := by
  have HW := Lib.hid (awake_any w hT)
  have hd : decide ((60 : Int) < (s.size : Int)) = true := by simp; omega
  have hm2 : s.size ≤ 9223372036854775807 := hm
  clear hT
  go_enter Tryd.func9, Tryd.ntmps9
  go_wp2_with (go_at_call 37; (with_reducible refine HW.out.mono ?_); rintro e wc ⟨rfl, hb3⟩
               have HB3 := Lib.hid hb3
               clear hb3)
  go_ret
  exact ⟨rfl, HB3.out⟩
theorem opNames_walk (a0 : ByteArray) (a1 : Int) (w : World) (w0 : a0.size ≤ maxLen) (w1 : (Lit.int .i64 a1).wf = true) (hT : Tb w) :
    Calls Tryd.prog 9 #[.string a0, .int .i64 a1] w fun e w' => e = .returned (.bool true) ∧ Below w.heap.size w w' := by
  by_cases hsz : a0.size ≤ 60
  · obtain ⟨o1, h1, c1⟩ := Named_flat a0
    have hcw : (Lit.int .i64 o1.c).wf = true := by
      rcases h1 with ⟨c, r, i, ho, hn, e⟩ | ⟨_, e⟩
      · rw [e]
        have hg := good_in (mem_OPS.1 ho.1).1
        have h1 := hg.first
        have h2 := hg.words
        have h3 := (mem_OPS.1 ho.1).2
        show (Lit.int .i64 ((r.first : Int) + (i : Int))).wf = true
        exact wf_small9 _ (by omega) (by omega)
      · rw [e]; rfl
    obtain ⟨o2, h2, c2⟩ := Find_flat o1.c hcw
    obtain ⟨ok, ca, sa, fa, ta, ga⟩ := o1
    obtain ⟨is, cb, sb, fb, tb, gb⟩ := o2
    refine names_gen a0 hsz a1 w1 ok is ca cb sa sb fa fb ta ga tb gb w hT c1 c2 ?_ ?_ ?_
    · intro h
      rcases h1 with ⟨c, r, i, ho, hn, e⟩ | ⟨_, e⟩
      · simp only [opv, Opv.mk.injEq] at e
        have hca : ca = c := e.2.1.trans ho.2
        rcases h2 with ⟨r', i', ho', e'⟩ | ⟨hno, _⟩
        · simp only [opv, Opv.mk.injEq] at e'
          refine ⟨e'.1, ?_⟩
          rw [e'.2.2.1, ← hn]
          exact (names_apart ho' ho).2 hca
        · exact absurd (by rw [show (⟨ok, ca, sa, fa, ta, ga⟩ : Opv).c = c from hca]; exact ho) (hno r i)
      · simp only [opz, Opv.mk.injEq] at e; rw [e.1] at h; cases h
    · intro h
      rcases h1 with ⟨c, r, i, ho, hn, e⟩ | ⟨_, e⟩
      · simp only [opv, Opv.mk.injEq] at e; rw [e.1] at h; cases h
      · simp only [opz, Opv.mk.injEq] at e; exact e.2.2.1
    · intro f hf
      rcases h1 with ⟨c, r, i, ho, hn, e⟩ | ⟨hno, e⟩
      · simp only [opv, Opv.mk.injEq] at e
        have hca : ca = c := e.2.1.trans ho.2
        have := hf.yes ho hn
        exact .inl ⟨e.1, by rw [hca]; exact this.1, this.2⟩
      · simp only [opz, Opv.mk.injEq] at e
        exact .inr ⟨e.1, hf.no hno⟩
  · exact names_long a0 (by omega) w0 a1 w hT

set_option maxRecDepth 100000 in
theorem opNames_lifted (os : Os) (started : os.Started) (H : Type) (enc : TypeId × Value → H) :
    ReturnsInHanded {} Tryd.checked os 9 .any (fun w args => (Rows.opNamesSpec.pre enc Tryd.prog Tryd.f9 [] false w args ∧ laidMetH Tryd.prog laidS w) ∧ sizedMet enc Tryd.prog Tryd.f9 (OpenSpec.ofChange Rows.opNamesSpec) false w args) (Rows.opNamesSpec.post enc Tryd.prog Tryd.f9 false true false false) := by
  refine returnsInHanded_of_change_and (C := Tryd.checked) (X := fun w _ => laidMetH Tryd.prog laidS w) (fun _ _ _ hh h => h.of_heap hh) Tryd.own started (by kernel_rfl) Tryd.func9
    (ChangeSpec.witness_shaped (enc := enc) (C := Tryd.checked) (os := os) (X := fun w _ => laidMetH Tryd.prog laidS w) false (World.doorLaid Tryd.prog 2000 os) #[.string ⟨#[]⟩, .int .i64 0] 8 rfl (World.shaped_of_RefB (by kernel_rfl) (by kernel_rfl)) (by kernel_rfl) (by kernel_rfl) (by kernel_rfl) (doorS_met os _)) ?_
  intro W base args ds gs before hval0 hW _ _ hL _
  have hval : ∀ (j : Nat) t v, Tryd.f9.params[j]? = some t → args[j]? = some v → Value.okWide Tryd.prog W .any base t v := hval0
  have hW' := hW
  obtain ⟨p, q, hA0, hV, rfl, hfz, hnd⟩ := hW
  have hA : DataW.TrodAll enc Tryd.prog W 0 (fun _ => true) true Tryd.f9.params.toList args.toList ds p := hA0
  rw [Tryd.params9] at hA hval
  obtain ⟨v0, vs0, d0, ds0, p0, q0, hargs, rfl, rfl, h0, r0⟩ := trodAll_cons hA
  obtain ⟨v1, vs1, d1, ds1, p1, q1, rfl, rfl, rfl, h1, r1⟩ := trodAll_cons r0
  obtain ⟨rfl, rfl, rfl⟩ := trodAll_nil r1
  obtain rfl : args = #[v0, v1] := by cases args; simp_all
  obtain ⟨rfl, rfl⟩ := trodVars_none hV
  obtain ⟨a0, rfl, rfl, rfl, w0⟩ := open_string Tryd.underlying9 (hval 0 9 v0 rfl rfl) h0
  obtain ⟨a1, rfl, rfl, rfl, w1⟩ := open_int Tryd.underlying3 (hval 1 3 v1 rfl rfl) h1
  clear hA0 hval0
  refine (opNames_walk a0 a1 W w0 w1 (tb_S hL)).mono fun e W' ⟨he, hg⟩ => ?_
  subst he
  exact ⟨_, rfl, _, _, _, [], _, [], hW', trodAll_mk1 (shut_bool Tryd.underlying4 _), (trodAll_cons_mk (shut_string Tryd.underlying9 w0) (trodAll_cons_mk (shut_int Tryd.underlying3 w1) trodAll_mk0)), rfl, hg.frame _, fun h => by cases h⟩

theorem opNames_over : Rows.opNamesRow.holds Tryd.pinned (OpenSpec.ofChange Rows.opNamesSpec) :=
  OpenClaim.holds_of_wide 9 Tryd.f9 rfl rfl rfl rfl rfl rfl rfl ⟨rfl, rfl, rfl, rfl, rfl⟩ rfl rfl rfl rfl rfl (by kernel_rfl) Tryd.func9 (by kernel_rfl)
    (of_decide_eq_true (by kernel_rfl)) (by unfold Func.isWrapper; first | (rw [if_pos (by decide +kernel)]; kernel_rfl) | (rw [if_neg (by decide +kernel)]; exact ⟨rfl, rfl⟩))
    (fun os started H enc _ => opNames_lifted os started H enc)

theorem opNames_proved : Rows.OpNamesCardSaid :=
  Claim7.holds_tied_plain_at .later [] [.listed, .data] true (true, "4363a9f1bcaa13f3b457e37f1a1b0955e8ef81f2314578975e89844add95430d") true
    opNames_over (fun _ h => by cases h) (by kernel_rfl) (fun _ h => by cases h) opNames_row_tie rfl ⟨rfl, rfl⟩ (by kernel_rfl) rfl
    (fun f fn hf hfn => by
      obtain rfl : f = 9 := Option.some.inj ((show Tryd.prog.funcNamed "grommet/grommetlaw10.OpNames" = some 9 by kernel_rfl).symm.trans hf) |>.symm
      obtain rfl : fn = Tryd.f9 := (Option.some.inj (Tryd.func9.symm.trans hfn)).symm
      exact ⟨by kernel_rfl, fun j t ht => by
        rw [Tryd.params9] at ht
        have hm : t ∈ [9, 3] := by simpa using Array.mem_of_getElem? ht
        have hall : ([9, 3].all fun u => !Tryd.prog.wantsStandIn u) = true := by kernel_rfl
        exact (show Tryd.prog.wantsStandIn t = false by simpa using List.all_eq_true.1 hall t hm)⟩)
    (by kernel_rfl)
#print axioms opNames_proved
end Go.Proofs.YtalpkdnnclghaaaDoor
