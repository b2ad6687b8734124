/-
  SpaceNone: the walk.
-/
import Derived.Test.YtlnffcledpccjaaUc
import Derived.BigQuiet
import Derived.OwnWalk
import Derived.WalkKit
import Derived.ProofKit
import Derived.OpenShut
import Derived.ShutString
import Derived.ChangeOld
import Derived.Below
namespace Go.Proofs.Ytlnffcledpccjaa
set_option linter.unusedVariables false
set_option linter.unusedSimpArgs false
open Go.ChangeShapes Go.WideShapes Go.ChangeAt
open Go.RowKit
set_option maxHeartbeats 4000000 in
set_option maxRecDepth 100000 in
theorem spaceNone_walk (a0 : Int) (a1 : Option Addr) (len1 cap1 : Nat) (l : List Nat) (a2 : Int) (w : World) (h0 : (Lit.int .u64 a0).wf = true) (hb1 : Byt w a1 len1 cap1 l) (h2 : (Lit.int .i64 a2).wf = true) :
    Calls Try.prog 9 #[.int .u64 a0, .slice a1 len1 cap1, .int .i64 a2] w fun e w' => e = .returned (.bool true) ∧ Below w.heap.size w w' := by
  have hlc1 : len1 ≤ cap1 := hb1.2.2.1
  have hcm : cap1 ≤ maxLen := hb1.2.2.2.1
  have hcap1 : cap1 ≤ 9223372036854775807 := hb1.2.2.2.1
  clear hb1 h0 h2
  by_cases hbig : 100 < len1
  · go_enter Try.func9, Try.ntmps9
    go_wp2_with (go_at_call 22; refine (awake8_any _).mono ?_; rintro e w1 ⟨rfl, hb1⟩; have HB1 := Lib.hid hb1; clear hb1)
    go_ret
    exact ⟨rfl, HB1.out⟩
  · have hl1 : len1 ≤ 100 := by omega
    clear hbig
    go_enter Try.func9, Try.ntmps9
    go_wp2_with fail
    refine (awake8_any _).mono ?_
    rintro e w1 ⟨rfl, hb1⟩
    have HW1 := Lib.hid hb1
    clear hb1
    go_wp2_with fail
    refine (SpNew_nil 0 0 0 false w1).mono ?_
    rintro e w2 ⟨rfl, rfl⟩
    go_wp2_with fail
    refine (Grow_nil a0 w1).mono ?_
    rintro e w2 ⟨rfl, k2, rfl⟩
    have HW2 : Hid (Below w.heap.size w (w1.drewN k2)) := Lib.hid (((Fr.refl (fun _ => False) w1).drewN k2).below HW1.out HW1.out.size (fun q h => h.elim))
    generalize w1.drewN k2 = w2 at HW2 ⊢
    go_wp2_with fail
    refine (Load_err none a0 0 a2 w2 0 12 (.inr ⟨rfl, by decide⟩) (fun p e => by rw [e]; exact asked_nil _ _ _ _)).mono ?_
    rintro e w3 ⟨rfl, rfl⟩
    go_wp2_with fail
    refine (Store_err none a0 0 a1 len1 cap1 hlc1 hcm w2 0 12 (.inr ⟨rfl, by decide⟩) (fun p e => by rw [e]; exact asked_nil _ _ _ _)).mono ?_
    rintro e w3 ⟨rfl, rfl⟩
    go_wp2_with fail
    refine (Fill_nil a0 a0 0 w2).mono ?_
    rintro e w3 ⟨rfl, hb3⟩
    have HW3 : Hid (Below w.heap.size w w3) := Lib.hid (HW2.out.trans (hb3.mono HW2.out.size))
    clear hb3
    go_wp2_with fail
    refine (Copy_nil none a0 a0 a0 w3).mono ?_
    rintro e w4 ⟨rfl, rfl⟩
    go_wp2_with fail
    refine (Pager_n 1 2 (by decide) w3).mono ?_
    rintro e w4 ⟨A, bb, rm, gm, rfl, hS⟩
    have HW4 : Hid (Below w.heap.size w w4) := Lib.hid (HW3.out.trans (hS.bel.mono HW3.out.size))
    clear hS
    go_wp2_with fail
    refine (SpNew_ok A.p 0 0 0 false w4 (by omega) (by omega) (by omega)).mono ?_
    rintro e w5 ⟨rfl, rfl⟩
    have HW5 : Hid (Below w.heap.size w (w4.alloc (.cells (mmC A.p 0 0 0 0 false) 117))) := Lib.hid (HW4.out.alloc HW4.out.size _)
    generalize (w4.alloc (.cells (mmC A.p 0 0 0 0 false) 117)) = w5 at HW5 ⊢
    generalize w4.heap.size = M at HW5 ⊢
    go_wp2_with fail
    refine (Copy_nil2 M 0 0 0 w5).mono ?_
    rintro e w6 ⟨rfl, rfl⟩
    go_wp2_with fail
    refine (Pages_nil w5).mono ?_
    rintro e w6 ⟨rfl, rfl⟩
    go_wp2_with fail
    refine (Wide_nil w5).mono ?_
    rintro e w6 ⟨rfl, k6, rfl⟩
    have HW6 : Hid (Below w.heap.size w (w5.drewN k6)) := Lib.hid (((Fr.refl (fun _ => False) w5).drewN k6).below HW5.out HW5.out.size (fun q h => h.elim))
    generalize w5.drewN k6 = w6 at HW6 ⊢
    go_wp2_with fail
    refine (Cap_nil a2 w6).mono ?_
    rintro e w7 ⟨rfl, rfl⟩
    go_wp2_with fail
    go_ret
    exact ⟨rfl, HW6.out⟩

end Go.Proofs.Ytlnffcledpccjaa
