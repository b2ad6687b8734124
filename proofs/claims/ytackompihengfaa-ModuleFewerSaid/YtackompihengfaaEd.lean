/-
  ModuleNone: the walk.
-/
import Derived.Test.YtackompihengfaaEc
import Derived.Test.YtackompihengfaaRows
import Derived.WalkKit
import Derived.ProofKit
import Derived.OpenShut
import Derived.ShutString
import Derived.ChangeOld
import Derived.Below
namespace Go.Proofs.Ytackompihengfaa
open Go.ChangeShapes Go.WideShapes Go.ChangeAt Go.RowKit
set_option linter.unusedVariables false
set_option linter.unusedSimpArgs false
theorem Try.own : ownKnob Try.prog.godebug = none := by kernel_rfl
theorem Try.laidOut : laidOutB Try.prog = true := by kernel_rfl
set_option maxHeartbeats 4000000 in
set_option maxRecDepth 100000 in
theorem moduleNone_walk (a0 : Int) (a1 : ByteArray) (w : World) (h0 : (Lit.int .i64 a0).wf = true) :
    Calls Try.prog 5 #[.int .i64 a0, .string a1] w fun e w' => e = .returned (.bool true) ∧ Below w.heap.size w w' := by
  clear h0
  by_cases hbig : 60 < a1.size
  · go_enter Try.func5, Try.ntmps5
    go_wp2_with (go_at_call 8; refine (awake13_any _).mono ?_; rintro e w1 ⟨rfl, hb1⟩; have HB1 := Lib.hid hb1; clear hb1)
    go_ret
    exact ⟨rfl, HB1.out⟩
  · have hl1 : a1.size ≤ 60 := by omega
    clear hbig
    go_enter Try.func5, Try.ntmps5
    go_wp2_with (first
      | (go_at_call 8; (with_reducible refine (awake13_any _).mono ?_); rintro e w1 ⟨rfl, hb1⟩; have HB1 := Lib.hid hb1; clear hb1)
      | (go_at_call 22; (with_reducible refine (nil_Fit _).mono ?_); rintro e w2 ⟨rfl, rfl⟩)
      | (go_at_call 14; (with_reducible refine (nil_Sig _ _).mono ?_); rintro e w3 ⟨rfl, hb3⟩; have HB3 := Lib.hid (HB1.out.trans (hb3.mono HB1.out.size)); clear hb3)
      | (go_at_call 19; (with_reducible refine (nil_Find _ _).mono ?_); rintro e w4 ⟨rfl, hb4⟩
         have HA3 := HB3.out.alloc HB3.out.size (.cells #[.slice none 0 0, .slice none 0 0] 42)
         have HB4 := Lib.hid (HA3.trans (hb4.mono HA3.size)); clear hb4 HA3)
      | (go_at_call 10; (with_reducible refine (nil_Count _).mono ?_); rintro e w5 ⟨rfl, rfl⟩)
      | (go_at_call 23; (with_reducible refine (Empty_any _).mono ?_); rintro e w6 ⟨rfl, rfl⟩)
      | (go_at_call 21; first
          | ((with_reducible refine (nil_Same _).mono ?_); rintro e w7 ⟨rfl, rfl⟩)
          | ((with_reducible refine (nil_Same2 _ _).mono ?_); rintro e w8 ⟨rfl, rfl⟩)))
    go_ret
    exact ⟨rfl, (HB4.out.alloc HB4.out.size _).alloc (by have := HB4.out.size; simp at *; omega) _⟩
end Go.Proofs.Ytackompihengfaa
