/-
  Called with any whole number, grommetlaw10.OpFinds returns true, the tables unicode.White_Space, strings.asciiSpace, op.foreign and op.widths lying as the program's text lays them; no other condition.
-/
import Derived.Test.YtalpkdnnclghaaaDoorUg
import Derived.Test.YtalpkdnnclghaaaDoorCards
import Derived.WalkKit
import Derived.ProofKit
import Derived.OpenShut
import Derived.ShutString
import Derived.ChangeOld
import Derived.Below
namespace Go.Proofs.YtalpkdnnclghaaaDoor
open Go.ChangeShapes Go.WideShapes Go.ChangeAt Go.RowKit
set_option linter.unusedVariables false      -- a opFinds_walk need not use every 'w<i>' (that an integer argument fits its kind)


theorem formB : (OPS.all fun q => formL ((q.1.first + q.2 : Nat) : Int) == (q.1.form : Int)) = true := by kernel_rfl
theorem form_of {c : Int} {r : Rw} {i : Nat} (h : OpAt c r i) : formL c = (r.form : Int) := by
  have h1 := List.all_eq_true.1 formB _ h.1
  rw [beq_iff_eq] at h1
  rw [← h1, ← h.2]
  simp
theorem foreignB : (OPS.all fun q => !(decide (ForP ((q.1.first + q.2 : Nat) : Int)))) = true := by kernel_rfl
theorem foreign_of {c : Int} {r : Rw} {i : Nat} (h : OpAt c r i) : decide (ForP c) = false := by
  have h1 := List.all_eq_true.1 foreignB _ h.1
  rw [Bool.not_eq_true'] at h1
  rw [← h1, ← h.2]
  simp
theorem widB : (widL.all fun z => decide (0 ≤ z)) = true := by kernel_rfl
theorem width_pos (c : Int) : 0 ≤ widthL c := by
  unfold widthL
  split
  · rw [List.getD_eq_getElem?_getD]
    by_cases hk : (c - 40).toNat < widL.length
    · rw [List.getElem?_eq_getElem hk]
      have := List.all_eq_true.1 widB _ (List.getElem_mem hk)
      simpa using this
    · rw [List.getElem?_eq_none (by omega)]; decide
  · omega
theorem takesB2 : (OPS.all fun q => takesL ((q.1.first + q.2 : Nat) : Int) == (q.1.takes, q.1.gives)) = true := by kernel_rfl
theorem takes_of2 {c : Int} {r : Rw} {i : Nat} (h : OpAt c r i) : takesL c = (r.takes, r.gives) := by
  have h1 := List.all_eq_true.1 takesB2 _ h.1
  rw [beq_iff_eq] at h1
  rw [← h1, ← h.2]
  simp
theorem takes_any2 (c : Int) (hc : (Lit.int .i64 c).wf = true) (w : World) : Calls Tryd.prog 38 #[.int .i64 c] w (TkP (takesL c).1 (takesL c).2 w) := RTakes_any c (bounds_i64 hc) w
theorem opFinds_walk (a0 : Int) (w0 : (Lit.int .i64 a0).wf = true) (w : World) (hT : Tb w ∧ Tab w 1 13 2 forL ∧ ∀ i, i < 23 → w.cell? ⟨0, i, none⟩ = some (.int .i64 (widL.getD i 0))) :
    Calls Tryd.prog 8 #[.int .i64 a0] w fun e w' => e = .returned (.bool true) ∧ Below w.heap.size w w' := by
  obtain ⟨hT, hF, hW⟩ := hT
  have hb := bounds_i64 w0
  have h3 : 3 < w.heap.size := hT.size
  obtain ⟨o, h, c⟩ := Find_flat a0 w0
  have hN : ∀ W, Calls Tryd.prog 32 #[.int .i64 a0] W fun e w' => e = .returned (.string (bsN (nameL a0))) ∧ Below W.heap.size W w' := fun W => RName_any a0 w0 W
  have hWd : ∀ B W, 3 < B → Below B w W → Calls Tryd.prog 33 #[.int .i64 a0] W fun e w' => e = .returned (.tuple #[.int .i64 (widthL a0), .bool (widthL a0 != 0)]) ∧ Below W.heap.size W w' := fun B W hB hbw => Width_any a0 hb W (fun i hi => (hbw.cell (p := ⟨0, i, none⟩) (by show 0 < B; omega)).trans (hW i hi))
  have hFo : ∀ B W, 3 < B → Below B w W → Calls Tryd.prog 35 #[.int .i64 a0] W fun e w' => e = .returned (.bool (decide (ForP a0))) ∧ Below W.heap.size W w' := fun B W hB hbw => Foreign_any a0 hb W (hF.below hbw (by omega))
  obtain ⟨ok, c1, s1, f1, tl, gl⟩ := o
  rcases h with ⟨r, i, ho, e⟩ | ⟨hno, e⟩
  · simp only [opv, Opv.mk.injEq] at e
    obtain ⟨e1, e2, e3, e4, e5, e6⟩ := e
    have hg := good_in (mem_OPS.1 ho.1).1
    have ht := takes_of2 ho
    have hn : s1 = bsN (nameL a0) := by rw [e3]; exact name_of ho
    have hK := fun W => takes_any2 a0 w0 W
    rw [ht, ← e5, ← e6] at hK
    have hFm : ∀ W, Calls Tryd.prog 39 #[.int .i64 a0] W fun e w' => e = .returned (.int .i64 f1) ∧ W = w' := fun W => by
      rw [e4, ← form_of ho]; exact RForm_any a0 hb W
    have hfo := foreign_of ho
    rw [← hn] at hN
    rw [e1] at c
    refine finds_yes a0 c1 (widthL a0) f1 s1 tl gl w hT h3 (width_pos a0) ?_ (e2.trans ho.2) (by rw [e5]; exact hg.t3) (by rw [e6]; exact hg.g3) (by rw [e5]; exact fun x hx => (hg.tx x hx).2) (by rw [e6]; exact fun x hx => (hg.gx x hx).2) c hN hWd (fun W => RWidth_any a0 hb W) ?_ ?_ hK hFm
    · rw [hn]; exact bsN_ne (name_ne ho)
    · rw [← hfo]; exact hFo
    · rw [← hfo]; exact fun W => RForeign_any a0 hb W
  · simp only [opz, Opv.mk.injEq] at e
    obtain ⟨e1, e2, e3, e4, e5, e6⟩ := e
    have hn : s1 = bsN (nameL a0) := by rw [e3, name_no hno]; rfl
    rw [← hn] at hN
    rw [e1] at c
    exact finds_no a0 c1 (widthL a0) f1 s1 (decide (ForP a0)) tl gl w hT h3 (width_pos a0) e3 e2 e5 c hN hWd (fun W => RWidth_any a0 hb W) hFo (fun W => RForeign_any a0 hb W)

set_option maxRecDepth 100000 in
theorem opFinds_lifted (os : Os) (started : os.Started) (H : Type) (enc : TypeId × Value → H) :
    ReturnsInHanded {} Tryd.checked os 8 .any (fun w args => (Rows.opFindsSpec.pre enc Tryd.prog Tryd.f8 [] false w args ∧ laidMetH Tryd.prog laidG w) ∧ sizedMet enc Tryd.prog Tryd.f8 (OpenSpec.ofChange Rows.opFindsSpec) false w args) (Rows.opFindsSpec.post enc Tryd.prog Tryd.f8 false true false false) := by
  refine returnsInHanded_of_change_and (C := Tryd.checked) (X := fun w _ => laidMetH Tryd.prog laidG w) (fun _ _ _ hh h => h.of_heap hh) Tryd.own started (by kernel_rfl) Tryd.func8
    (ChangeSpec.witness_shaped (enc := enc) (C := Tryd.checked) (os := os) (X := fun w _ => laidMetH Tryd.prog laidG w) false (World.doorLaid Tryd.prog 2000 os) #[.int .i64 0] 8 rfl (World.shaped_of_RefB (by kernel_rfl) (by kernel_rfl)) (by kernel_rfl) (by kernel_rfl) (by kernel_rfl) (doorG_met os _)) ?_
  intro W base args ds gs before hval0 hW _ _ hL _
  have hval : ∀ (j : Nat) t v, Tryd.f8.params[j]? = some t → args[j]? = some v → Value.okWide Tryd.prog W .any base t v := hval0
  have hW' := hW
  obtain ⟨p, q, hA0, hV, rfl, hfz, hnd⟩ := hW
  have hA : DataW.TrodAll enc Tryd.prog W 0 (fun _ => true) true Tryd.f8.params.toList args.toList ds p := hA0
  rw [Tryd.params8] at hA hval
  obtain ⟨v0, vs0, d0, ds0, p0, q0, hargs, rfl, rfl, h0, r0⟩ := trodAll_cons hA
  obtain ⟨rfl, rfl, rfl⟩ := trodAll_nil r0
  obtain rfl : args = #[v0] := by cases args; simp_all
  obtain ⟨rfl, rfl⟩ := trodVars_none hV
  obtain ⟨a0, rfl, rfl, rfl, w0⟩ := open_int Tryd.underlying3 (hval 0 3 v0 rfl rfl) h0
  clear hA0 hval0
  simp only [List.append_nil] at hW'
  refine (opFinds_walk a0 w0 W (tb_G hL)).mono fun e W' ⟨he, hg⟩ => ?_
  subst he
  exact ⟨_, rfl, _, _, _, [], [], [], hW', (trodAll_cons_mk (shut_bool Tryd.underlying4 _) trodAll_mk0), (trodAll_cons_mk (shut_int Tryd.underlying3 w0) trodAll_mk0), rfl, hg.frame _, fun h => by cases h⟩

theorem opFinds_over : Rows.opFindsRow.holds Tryd.pinned (OpenSpec.ofChange Rows.opFindsSpec) :=
  OpenClaim.holds_of_wide 8 Tryd.f8 rfl rfl rfl rfl rfl rfl rfl ⟨rfl, rfl, rfl, rfl, rfl⟩ rfl rfl rfl rfl rfl (by kernel_rfl) Tryd.func8 (by kernel_rfl)
    (of_decide_eq_true (by kernel_rfl)) (by unfold Func.isWrapper; first | (rw [if_pos (by decide +kernel)]; kernel_rfl) | (rw [if_neg (by decide +kernel)]; exact ⟨rfl, rfl⟩))
    (fun os started H enc _ => opFinds_lifted os started H enc)

theorem opFinds_proved : Rows.OpFindsCardSaid :=
  Claim7.holds_tied_plain_at .later [] [.listed, .data, .data, .data] true (true, "4363a9f1bcaa13f3b457e37f1a1b0955e8ef81f2314578975e89844add95430d") true
    opFinds_over (fun _ h => by cases h) (by kernel_rfl) (fun _ h => by cases h) opFinds_row_tie rfl ⟨rfl, rfl⟩ (by kernel_rfl) rfl
    (fun f fn hf hfn => by
      obtain rfl : f = 8 := Option.some.inj ((show Tryd.prog.funcNamed "grommet/grommetlaw10.OpFinds" = some 8 by kernel_rfl).symm.trans hf) |>.symm
      obtain rfl : fn = Tryd.f8 := (Option.some.inj (Tryd.func8.symm.trans hfn)).symm
      exact ⟨by kernel_rfl, fun j t ht => by
        rw [Tryd.params8] at ht
        have hm : t ∈ [3] := by simpa using Array.mem_of_getElem? ht
        have hall : ([3].all fun u => !Tryd.prog.wantsStandIn u) = true := by kernel_rfl
        exact (show Tryd.prog.wantsStandIn t = false by simpa using List.all_eq_true.1 hall t hm)⟩)
    (by kernel_rfl)
#print axioms opFinds_proved
end Go.Proofs.YtalpkdnnclghaaaDoor
