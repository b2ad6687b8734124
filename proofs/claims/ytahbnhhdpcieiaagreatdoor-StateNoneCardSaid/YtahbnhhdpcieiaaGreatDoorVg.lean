/-
  A state's parts: closed, words, places, has; take.
-/
import Derived.Test.YtahbnhhdpcieiaaGreatDoorVf
import Derived.Test.YtahbnhhdpcieiaaGreatDoorVc
import Derived.Test.YtahbnhhdpcieiaaGreatDoorAi
namespace Go.Proofs.YtahbnhhdpcieiaaGreatDoor
open Go.RowKit
set_option linter.unusedVariables false
set_option linter.unusedSimpArgs false
def stC (g a p : Nat) (num gl tb : Int) : Array Value := #[.pointer (some ⟨g, 0, none⟩), .pointer (some ⟨a, 0, none⟩), .pointer (some ⟨p, 0, none⟩), .int .i64 num, .slice none 0 0, .int .i64 gl, .int .i64 tb]
/-- a state over a module of two globals -/
structure StI (w : World) (s g b a p : Nat) (num gl tb : Int) : Prop where
  blk : Blk w s 100 (stC g a p num gl tb)
  mod : Blk w g 92 (ZG (.slice (some ⟨b, 0, none⟩) 2 2))
  gls : Blk w b 60 G2
section
variable {w w' : World} {s g b a p : Nat} {num gl tb : Int}
theorem StI.fr {S : Nat → Prop} (H : StI w s g b a p num gl tb) (hf : Fr S w w') (h1 : ¬ S s) (h2 : ¬ S g) (h3 : ¬ S b) : StI w' s g b a p num gl tb := ⟨H.blk.fr hf h1, H.mod.fr hf h2, H.gls.fr hf h3⟩
theorem StI.drewN (H : StI w s g b a p num gl tb) (k : Nat) : StI (w.drewN k) s g b a p num gl tb := ⟨H.blk.drewN k, H.mod.drewN k, H.gls.drewN k⟩
set_option maxRecDepth 100000 in
theorem closed_nil (w : World) : Calls Tryz.prog 58 #[.pointer none] w fun e w' => e = .returned (.bool true) ∧ w = w' := by
  go_enter Tryz.func58, Tryz.ntmps58
  go_wp2
  go_ret
  exact ⟨rfl, rfl⟩
set_option maxRecDepth 100000 in
theorem closed_no (H : StI w s g b a p num gl tb) : Calls Tryz.prog 58 #[.pointer (some ⟨s, 0, none⟩)] w fun e w' => e = .returned (.bool false) ∧ w = w' := by
  have c0 : w.cell? ⟨s, 0, none⟩ = some (.pointer (some ⟨g, 0, none⟩)) := H.blk.cell 0
  clear H
  go_enter Tryz.func58, Tryz.ntmps58
  go_wp2
  go_ret
  exact ⟨rfl, rfl⟩
set_option maxRecDepth 100000 in
theorem words_ok (H : StI w s g b a p num gl tb) : Calls Tryz.prog 38 #[.pointer (some ⟨s, 0, none⟩)] w fun e w' => e = .returned (.int .i64 2) ∧ w = w' := by
  have c0 : w.cell? ⟨s, 0, none⟩ = some (.pointer (some ⟨g, 0, none⟩)) := H.blk.cell 0
  have c5 : w.cell? ⟨g, 5, none⟩ = some (.slice (some ⟨b, 0, none⟩) 2 2) := H.mod.cell 5
  clear H
  go_enter Tryz.func38, Tryz.ntmps38
  go_wp2
  go_ret
  exact ⟨rfl, rfl⟩
set_option maxRecDepth 100000 in
theorem places_ok (H : StI w s g b a p num gl tb) : Calls Tryz.prog 39 #[.pointer (some ⟨s, 0, none⟩)] w fun e w' => e = .returned (.int .i64 0) ∧ w = w' := by
  have c0 : w.cell? ⟨s, 0, none⟩ = some (.pointer (some ⟨g, 0, none⟩)) := H.blk.cell 0
  have c3 : w.cell? ⟨g, 3, none⟩ = some (.int .i64 (-1)) := H.mod.cell 3
  clear H
  go_enter Tryz.func39, Tryz.ntmps39
  go_wp2
  go_ret
  exact ⟨rfl, rfl⟩
set_option maxRecDepth 100000 in
theorem has_nil (i : Int) (F : Value) (w : World) : Calls Tryz.prog 52 #[.pointer none, .int .i64 i, F] w fun e w' => e = .returned (.int .i64 12) ∧ w = w' := by
  go_enter Tryz.func52, Tryz.ntmps52
  go_wp2_with (go_at_call 58; refine (closed_nil _).mono ?_; rintro e w1 ⟨rfl, rfl⟩)
  go_ret
  exact ⟨rfl, rfl⟩
set_option maxRecDepth 100000 in
theorem has_one (H : StI w s g b a p num gl tb) : Calls Tryz.prog 52 #[.pointer (some ⟨s, 0, none⟩), .int .i64 1, .func (.func 38) #[.pointer (some ⟨s, 0, none⟩)] #[]] w fun e w' => e = .returned (.int .i64 0) ∧ w = w' := by
  have HC := Lib.hid (closed_no H)
  have HW := Lib.hid (words_ok H)
  clear H
  go_enter Tryz.func52, Tryz.ntmps52
  go_wp2_with (first
    | (go_at_call 58; refine HC.out.mono ?_; rintro e w1 ⟨rfl, rfl⟩)
    | (go_at_call 38; refine HW.out.mono ?_; rintro e w1 ⟨rfl, rfl⟩))
  go_ret
  exact ⟨rfl, rfl⟩
set_option maxHeartbeats 1000000 in
set_option maxRecDepth 100000 in
theorem take_words {bb rm gm : Nat} {d : Ad} (H : StI w s g b a p num gl tb) (hA : Are w a bb rm gm d) (hG : d.G 16 = []) (hh : d.height + 16 ≤ d.sz) (ho : d.ops < 1000000) :
    Calls Tryz.prog 118 #[.pointer (some ⟨s, 0, none⟩), .int .i64 8, .func (.func 38) #[.pointer (some ⟨s, 0, none⟩)] #[]] w fun e w' => e = .returned (.int .i64 d.height) ∧ Are w' a bb rm gm ((d.cut 16).take d.height 16) ∧ Fr (arb a bb rm gm) w w' := by
  have c1 : w.cell? ⟨s, 1, none⟩ = some (.pointer (some ⟨a, 0, none⟩)) := H.blk.cell 1
  have HW := Lib.hid (fun k => words_ok (H.drewN k))
  have HT := Lib.hid (fun k => Take_cut a bb rm gm d 16 (w.drewN k) (hA.drewN k) (by omega) (by omega) hG hh ho)
  unfold TcPost at HT
  rw [show cl 16 = 16 by decide] at HT
  clear H hA
  go_enter Tryz.func118, Tryz.ntmps118
  go_wp2
  go_region_with (first
    | (go_at_call 38; refine (HW.out 1).mono ?_; rintro e w' ⟨rfl, rfl⟩)
    | (go_at_call 108; refine (HT.out 1).mono ?_; rintro e w' ⟨rfl, hA, hF⟩; have HA := Lib.hid hA; have HF := Lib.hid hF; clear hA hF))
  all_goals
    go_wp2
    go_ret
    exact ⟨rfl, HA.out, HF.out.undrewN⟩
set_option maxHeartbeats 1000000 in
set_option maxRecDepth 100000 in
theorem take_places {bb rm gm : Nat} {d : Ad} (H : StI w s g b a p num gl tb) (hA : Are w a bb rm gm d) (hG : d.G 16 = []) (hh : d.height + 16 ≤ d.sz) (ho : d.ops < 1000000) :
    Calls Tryz.prog 118 #[.pointer (some ⟨s, 0, none⟩), .int .i64 4, .func (.func 39) #[.pointer (some ⟨s, 0, none⟩)] #[]] w fun e w' => e = .returned (.int .i64 d.height) ∧ Are w' a bb rm gm ((d.cut 16).take d.height 16) ∧ Fr (arb a bb rm gm) w w' := by
  have c1 : w.cell? ⟨s, 1, none⟩ = some (.pointer (some ⟨a, 0, none⟩)) := H.blk.cell 1
  have HW := Lib.hid (fun k => places_ok (H.drewN k))
  have HT := Lib.hid (fun k => Take_cut a bb rm gm d 0 (w.drewN k) (hA.drewN k) (by omega) (by omega) hG hh ho)
  unfold TcPost at HT
  rw [show cl 0 = 16 by decide] at HT
  clear H hA
  go_enter Tryz.func118, Tryz.ntmps118
  go_wp2
  go_region_with (first
    | (go_at_call 39; refine (HW.out 1).mono ?_; rintro e w' ⟨rfl, rfl⟩)
    | (go_at_call 108; refine (HT.out 1).mono ?_; rintro e w' ⟨rfl, hA, hF⟩; have HA := Lib.hid hA; have HF := Lib.hid hF; clear hA hF))
  all_goals
    go_wp2
    go_ret
    exact ⟨rfl, HA.out, HF.out.undrewN⟩
end
end Go.Proofs.YtahbnhhdpcieiaaGreatDoor
