/-
  A state of the example: its memories (none), elements (none), data (none); rooms; fill.
-/
import Derived.Test.YtahbnhhdpcieiaaGreatDoorVg
namespace Go.Proofs.YtahbnhhdpcieiaaGreatDoor
open Go.RowKit
set_option linter.unusedVariables false
set_option linter.unusedSimpArgs false
section
variable {w w' : World} {s g b a p bb rm gm : Nat} {num gl tb : Int} {d : Ad}
set_option maxRecDepth 100000 in
theorem open_none (H : StI w s g b a p num gl tb) : Calls Tryz.prog 40 #[.pointer (some ⟨s, 0, none⟩)] w fun e w' => e = .returned (.int .i64 0) ∧ w = w' := by
  have c0 : w.cell? ⟨s, 0, none⟩ = some (.pointer (some ⟨g, 0, none⟩)) := H.blk.cell 0
  have c4 : w.cell? ⟨g, 4, none⟩ = some (.slice none 0 0) := H.mod.cell 4
  clear H
  go_enter Tryz.func40, Tryz.ntmps40
  go_wp2
  go_loopw [15] (fun v15 wr => v15 = .int .i64 0 ∧ Hid (w = wr)) (fun _ _ => 0)
  case atStart => exact ⟨rfl, Lib.hid rfl⟩
  case round =>
    obtain ⟨rfl, HW⟩ := hrel
    go_wp2
    go_ret
    exact ⟨rfl, HW.out⟩
set_option maxRecDepth 100000 in
theorem fitting_none (H : StI w s g b a p num gl tb) : Calls Tryz.prog 77 #[.pointer (some ⟨s, 0, none⟩)] w fun e w' => e = .returned (.tuple #[.slice none 0 0, .int .i64 0]) ∧ w = w' := by
  have c0 : w.cell? ⟨s, 0, none⟩ = some (.pointer (some ⟨g, 0, none⟩)) := H.blk.cell 0
  have c8 : w.cell? ⟨g, 8, none⟩ = some (.slice none 0 0) := H.mod.cell 8
  clear H
  go_enter Tryz.func77, Tryz.ntmps77
  go_wp2
  go_loopw [17] (fun v17 wr => v17 = .int .i64 0 ∧ Hid (w = wr)) (fun _ _ => 0)
  case atStart => exact ⟨rfl, Lib.hid rfl⟩
  case round =>
    obtain ⟨rfl, HW⟩ := hrel
    go_wp2
    go_ret2
    exact ⟨rfl, HW.out⟩
set_option maxRecDepth 100000 in
theorem load_none (H : StI w s g b a p num gl tb) : Calls Tryz.prog 78 #[.pointer (some ⟨s, 0, none⟩)] w fun e w' => e = .returned (.tuple #[.int .i64 0, .int .i64 0]) ∧ w = w' := by
  have c0 : w.cell? ⟨s, 0, none⟩ = some (.pointer (some ⟨g, 0, none⟩)) := H.blk.cell 0
  have c9 : w.cell? ⟨g, 9, none⟩ = some (.slice none 0 0) := H.mod.cell 9
  clear H
  go_enter Tryz.func78, Tryz.ntmps78
  go_wp2
  go_loopw [16] (fun v16 wr => v16 = .int .i64 0 ∧ Hid (w = wr)) (fun _ _ => 0)
  case atStart => exact ⟨rfl, Lib.hid rfl⟩
  case round =>
    obtain ⟨rfl, HW⟩ := hrel
    go_wp2
    go_ret2
    exact ⟨rfl, HW.out⟩
set_option maxHeartbeats 2000000 in
set_option maxRecDepth 100000 in
theorem rooms_ok (hA : Are w a bb rm gm d) (hh : d.height + 32 ≤ d.sz) : Calls Tryz.prog 37 #[.pointer (some ⟨a, 0, none⟩), .int .i64 16, .int .i64 0] w fun e w' => e = .returned (.bool true) ∧ w = w' := by
  have H1 := Lib.hid (fun W => Class_any 0 W (by decide))
  have H2 := Lib.hid (fun W => Class_any 16 W (by decide))
  rw [show cl 0 = 16 by decide] at H1
  rw [show cl 16 = 16 by decide] at H2
  have HS := Lib.hid (ASize_any hA)
  have HH := Lib.hid (Height_any hA)
  have hlim := hA.lim
  clear hA
  go_enter Tryz.func37, Tryz.ntmps37
  go_wp2_with (first
    | (go_at_call 24; with_reducible refine (H1.out _).mono ?_; rintro e w1 ⟨rfl, rfl⟩)
    | (go_at_call 24; with_reducible refine (H2.out _).mono ?_; rintro e w1 ⟨rfl, rfl⟩)
    | (go_at_call 69; with_reducible refine HS.out.mono ?_; rintro e w1 ⟨rfl, rfl⟩)
    | (go_at_call 70; with_reducible refine HH.out.mono ?_; rintro e w1 ⟨rfl, rfl⟩))
  go_ret
  exact ⟨rfl, rfl⟩
end
end Go.Proofs.YtahbnhhdpcieiaaGreatDoor
