/-
  Called with any whole number, grommetlaw10.OpOwn returns true, the tables unicode.White_Space and strings.asciiSpace lying as the program's text lays them; no other condition.
-/
import Derived.Test.YtalpkdnnclghaaaDoorOt
import Derived.Test.YtalpkdnnclghaaaDoorCards
import Derived.WalkKit
import Derived.ProofKit
import Derived.OpenShut
import Derived.ShutString
import Derived.ChangeOld
import Derived.Below
namespace Go.Proofs.YtalpkdnnclghaaaDoor
open Go.ChangeShapes Go.WideShapes Go.ChangeAt Go.RowKit
set_option linter.unusedVariables false      -- a opOwn_walk need not use every 'w<i>' (that an integer argument fits its kind)


theorem takesB : (OPS.all fun q => takesL ((q.1.first + q.2 : Nat) : Int) == (q.1.takes, q.1.gives)) = true := by kernel_rfl
theorem takes_of {c : Int} {r : Rw} {i : Nat} (h : OpAt c r i) : takesL c = (r.takes, r.gives) := by
  have h1 := List.all_eq_true.1 takesB _ h.1
  rw [beq_iff_eq] at h1
  rw [← h1, ← h.2]
  simp
theorem takes_any (c : Int) (hc : (Lit.int .i64 c).wf = true) (w : World) : Calls Tryd.prog 38 #[.int .i64 c] w (TkP (takesL c).1 (takesL c).2 w) := RTakes_any c (bounds_i64 hc) w
theorem opOwn_walk (a0 : Int) (w0 : (Lit.int .i64 a0).wf = true) (w : World) (hT : Tb w) :
    Calls Tryd.prog 11 #[.int .i64 a0] w fun e w' => e = .returned (.bool true) ∧ Below w.heap.size w w' := by
  obtain ⟨o, h, c⟩ := Find_flat a0 w0
  obtain ⟨ok, c1, s1, f1, tl, gl⟩ := o
  rcases h with ⟨r, i, ho, e⟩ | ⟨_, e⟩
  · simp only [opv, Opv.mk.injEq] at e
    obtain ⟨e1, e2, e3, e4, e5, e6⟩ := e
    have hg := good_in (mem_OPS.1 ho.1).1
    have ht := takes_of ho
    refine own_gen a0 ok c1 s1 f1 tl gl _ _ w hT (by rw [e5]; exact hg.t3) (by rw [e6]; exact hg.g3) (by rw [e5]; exact fun x hx => (hg.tx x hx).2) (by rw [e6]; exact fun x hx => (hg.gx x hx).2) c (fun W => takes_any a0 w0 W) (.inr ⟨?_, by rw [ht, e5], by rw [ht, e6]⟩)
    rw [e3, name_of ho]
    intro q
    have := congrArg (fun b : ByteArray => b.data.toList) q
    simp at this
    exact name_ne ho this
  · simp only [opz, Opv.mk.injEq] at e
    obtain ⟨e1, e2, e3, e4, e5, e6⟩ := e
    exact own_gen a0 ok c1 s1 f1 tl gl _ _ w hT (by rw [e5]; simp) (by rw [e6]; simp) (by rw [e5]; simp) (by rw [e6]; simp) c (fun W => takes_any a0 w0 W) (.inl e3)

set_option maxRecDepth 100000 in
theorem opOwn_lifted (os : Os) (started : os.Started) (H : Type) (enc : TypeId × Value → H) :
    ReturnsInHanded {} Tryd.checked os 11 .any (fun w args => (Rows.opOwnSpec.pre enc Tryd.prog Tryd.f11 [] false w args ∧ laidMetH Tryd.prog laidS w) ∧ sizedMet enc Tryd.prog Tryd.f11 (OpenSpec.ofChange Rows.opOwnSpec) false w args) (Rows.opOwnSpec.post enc Tryd.prog Tryd.f11 false true false false) := by
  refine returnsInHanded_of_change_and (C := Tryd.checked) (X := fun w _ => laidMetH Tryd.prog laidS w) (fun _ _ _ hh h => h.of_heap hh) Tryd.own started (by kernel_rfl) Tryd.func11
    (ChangeSpec.witness_shaped (enc := enc) (C := Tryd.checked) (os := os) (X := fun w _ => laidMetH Tryd.prog laidS w) false (World.doorLaid Tryd.prog 2000 os) #[.int .i64 0] 8 rfl (World.shaped_of_RefB (by kernel_rfl) (by kernel_rfl)) (by kernel_rfl) (by kernel_rfl) (by kernel_rfl) (doorS_met os _)) ?_
  intro W base args ds gs before hval0 hW _ _ hL _
  have hval : ∀ (j : Nat) t v, Tryd.f11.params[j]? = some t → args[j]? = some v → Value.okWide Tryd.prog W .any base t v := hval0
  have hW' := hW
  obtain ⟨p, q, hA0, hV, rfl, hfz, hnd⟩ := hW
  have hA : DataW.TrodAll enc Tryd.prog W 0 (fun _ => true) true Tryd.f11.params.toList args.toList ds p := hA0
  rw [Tryd.params11] at hA hval
  obtain ⟨v0, vs0, d0, ds0, p0, q0, hargs, rfl, rfl, h0, r0⟩ := trodAll_cons hA
  obtain ⟨rfl, rfl, rfl⟩ := trodAll_nil r0
  obtain rfl : args = #[v0] := by cases args; simp_all
  obtain ⟨rfl, rfl⟩ := trodVars_none hV
  obtain ⟨a0, rfl, rfl, rfl, w0⟩ := open_int Tryd.underlying3 (hval 0 3 v0 rfl rfl) h0
  clear hA0 hval0
  simp only [List.append_nil] at hW'
  refine (opOwn_walk a0 w0 W (tb_S hL)).mono fun e W' ⟨he, hg⟩ => ?_
  subst he
  exact ⟨_, rfl, _, _, _, [], [], [], hW', (trodAll_cons_mk (shut_bool Tryd.underlying4 _) trodAll_mk0), (trodAll_cons_mk (shut_int Tryd.underlying3 w0) trodAll_mk0), rfl, hg.frame _, fun h => by cases h⟩

theorem opOwn_over : Rows.opOwnRow.holds Tryd.pinned (OpenSpec.ofChange Rows.opOwnSpec) :=
  OpenClaim.holds_of_wide 11 Tryd.f11 rfl rfl rfl rfl rfl rfl rfl ⟨rfl, rfl, rfl, rfl, rfl⟩ rfl rfl rfl rfl rfl (by kernel_rfl) Tryd.func11 (by kernel_rfl)
    (of_decide_eq_true (by kernel_rfl)) (by unfold Func.isWrapper; first | (rw [if_pos (by decide +kernel)]; kernel_rfl) | (rw [if_neg (by decide +kernel)]; exact ⟨rfl, rfl⟩))
    (fun os started H enc _ => opOwn_lifted os started H enc)

theorem opOwn_proved : Rows.OpOwnCardSaid :=
  Claim7.holds_tied_plain_at .later [] [.listed, .data] true (true, "4363a9f1bcaa13f3b457e37f1a1b0955e8ef81f2314578975e89844add95430d") true
    opOwn_over (fun _ h => by cases h) (by kernel_rfl) (fun _ h => by cases h) opOwn_row_tie rfl ⟨rfl, rfl⟩ (by kernel_rfl) rfl
    (fun f fn hf hfn => by
      obtain rfl : f = 11 := Option.some.inj ((show Tryd.prog.funcNamed "grommet/grommetlaw10.OpOwn" = some 11 by kernel_rfl).symm.trans hf) |>.symm
      obtain rfl : fn = Tryd.f11 := (Option.some.inj (Tryd.func11.symm.trans hfn)).symm
      exact ⟨by kernel_rfl, fun j t ht => by
        rw [Tryd.params11] at ht
        have hm : t ∈ [3] := by simpa using Array.mem_of_getElem? ht
        have hall : ([3].all fun u => !Tryd.prog.wantsStandIn u) = true := by kernel_rfl
        exact (show Tryd.prog.wantsStandIn t = false by simpa using List.all_eq_true.1 hall t hm)⟩)
    (by kernel_rfl)
#print axioms opOwn_proved
end Go.Proofs.YtalpkdnnclghaaaDoor
