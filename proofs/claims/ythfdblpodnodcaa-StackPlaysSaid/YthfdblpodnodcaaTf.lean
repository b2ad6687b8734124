/-
  Arguments that are rows of words; of no stack nothing comes: the walk of StackNone.
-/
import Derived.Test.YthfdblpodnodcaaTe
import Derived.Deep.Slices
import Derived.Deep.Fields
import Derived.ChangeSame
import Derived.ChangeSlices
import Derived.ProofKit
import Derived.OpenShut
namespace Go.Proofs.Ythfdblpodnodcaa
open Go.RowKit Go.ChangeShapes Go.WideShapes Go.Deep
set_option linter.unusedVariables false
set_option linter.unusedSimpArgs false
theorem wrd_of_trod {H : Type} {enc : TypeId × Value → H} {w : World} {sp : Nat → Bool} {held : Bool} {base fuel : Nat} {v : Value} {y : DataW H × List MemPlace} (h : DataW.trod enc Try.prog w base sp held fuel 34 [v] = some y) :
    ∃ (B : Option Addr) (len cap : Nat) (f : Nat → Nat), v = .slice B len cap ∧ Wrd w B len cap f := by
  rcases open_ints Try.underlying34 Try.underlying38 (by kernel_rfl) h with ⟨hcs, _⟩ | ⟨x, l, c, zs, hcs, _, hl, hm, hz, hx, hcell, hwz⟩
  · injection hcs with hcs
    exact ⟨none, 0, 0, fun _ => 0, hcs, Nat.le_refl _, Nat.zero_le _, fun i hi => by omega, fun q => absurd q (Nat.lt_irrefl _)⟩
  · injection hcs with hcs
    have hlz : l ≤ zs.length := by rw [hz]; split <;> omega
    have hwf : ∀ i, i < l → 0 ≤ zs.getD i 0 ∧ zs.getD i 0 < 18446744073709551616 := fun i hi => by
      rw [List.getD_eq_getElem?_getD, List.getElem?_eq_getElem (by omega)]
      have := bounds_u64 (hwz _ (List.getElem_mem (show i < zs.length by omega)))
      simp only [Option.getD_some]
      omega
    refine ⟨some x, l, c, fun i => (zs.getD i 0).toNat, hcs, hl, hm, fun i hi => by have := hwf i hi; show (zs.getD i 0).toNat < _; omega, fun h0 => ?_⟩
    have hc0 := hcell 0 (by omega)
    have hspot := World.cell?_spot hc0
    have hlt := lt_of_cell hc0
    obtain ⟨b, off, spot⟩ := x
    have hs : spot = none := by simpa [Addr.add] using hspot
    subst hs
    rw [addr_add] at hlt
    refine ⟨b, off, rfl, hlt, fun i hi => ?_⟩
    have := hcell i (by omega)
    rw [addr_add] at this
    rw [this]
    have h1 := hwf i hi
    show some (Value.int .u64 _) = some (Value.int .u64 (((zs.getD i 0).toNat : Nat) : Int))
    congr 2
    omega
theorem wrd_of_arg {H : Type} {enc : TypeId × Value → H} {w : World} {sp : Nat → Bool} {held : Bool} {base : Nat} {a : Option Addr} {len cap : Nat} {d : DataW H} {p : List MemPlace} (h : DataW.Trod enc Try.prog w base sp held 34 (.slice a len cap) d p) :
    ∃ f, Wrd w a len cap f := by
  obtain ⟨fuel, hf⟩ := h
  obtain ⟨B, l, c, f, e, hW⟩ := wrd_of_trod hf
  injection e with e1 e2 e3
  subst e1 e2 e3
  exact ⟨f, hW⟩
set_option maxRecDepth 100000 in
theorem SkHeight_nil (w : World) : Calls Try.prog 23 #[.pointer none] w fun e w' => e = .returned (.int .i64 0) ∧ w = w' := by
  go_enter Try.func23, Try.ntmps23
  go_wp2
  go_ret
  exact ⟨rfl, rfl⟩
set_option maxRecDepth 100000 in
theorem SkRoom_nil (w : World) : Calls Try.prog 24 #[.pointer none] w fun e w' => e = .returned (.int .i64 0) ∧ w = w' := by
  go_enter Try.func24, Try.ntmps24
  go_wp2
  go_ret
  exact ⟨rfl, rfl⟩
set_option maxHeartbeats 1000000 in
set_option maxRecDepth 100000 in
theorem stackNone_walk (at_ v : Int) (w : World) (h1 : (Lit.int .i64 at_).wf = true) (h2 : (Lit.int .u64 v).wf = true) : Calls Try.prog 6 #[.int .i64 at_, .int .u64 v] w fun e w' => e = .returned (.bool true) ∧ Below w.heap.size w w' := by
  have HA := Lib.hid (awake19_any w)
  go_enter Try.func6, Try.ntmps6
  go_wp2_with (go_at_call 12; refine HA.out.mono ?_; rintro e w1 ⟨rfl, hb⟩; have HB := Lib.hid hb; clear hb)
  go_wp2_with (first
    | (go_at_call 18; refine (Pop_nil _).mono ?_; rintro e w' ⟨rfl, rfl⟩)
    | (go_at_call 19; refine (Take_nil _ _).mono ?_; rintro e w' ⟨rfl, rfl⟩)
    | (go_at_call 20; refine (SkGet_nil _ _).mono ?_; rintro e w' ⟨rfl, rfl⟩)
    | (go_at_call 14; refine (SkNew_nil _ _).mono ?_; rintro e w' ⟨rfl, rfl⟩)
    | (go_at_call 17; refine (Push_nil _ _ _ _).mono ?_; rintro e w' ⟨rfl, rfl⟩)
    | (go_at_call 21; refine (SkSet_nil _ _ _).mono ?_; rintro e w' ⟨rfl, rfl⟩)
    | (go_at_call 22; refine (Unwind_nil _ _ _).mono ?_; rintro e w' ⟨rfl, rfl⟩)
    | (go_at_call 25; refine (Close_nil _).mono ?_; rintro e w' ⟨rfl, rfl⟩)
    | (go_at_call 23; refine (SkHeight_nil _).mono ?_; rintro e w' ⟨rfl, rfl⟩)
    | (go_at_call 24; refine (SkRoom_nil _).mono ?_; rintro e w' ⟨rfl, rfl⟩))
  go_ret
  exact ⟨rfl, HB.out.trans ((below_alloc _ _).mono HB.out.size)⟩
end Go.Proofs.Ythfdblpodnodcaa
