/-
  SpaceMakes: the walks.
-/
import Derived.Test.YtlnffcledpccjaaUe
import Derived.BigQuiet
import Derived.OwnWalk
import Derived.WalkKit
import Derived.ProofKit
import Derived.OpenShut
import Derived.ShutString
import Derived.ChangeOld
import Derived.Below
namespace Go.Proofs.Ytlnffcledpccjaa
set_option linter.unusedVariables false
set_option linter.unusedSimpArgs false
open Go.ChangeShapes Go.WideShapes Go.ChangeAt
open Go.RowKit
set_option maxHeartbeats 4000000 in
set_option maxRecDepth 100000 in
theorem spaceMakes_g1 (num pages most n at_ : Nat) (w : World) (h1 : num ≤ 9223372036854775807) (h2 : pages ≤ most) (h3 : most ≤ 65536) (h4 : n ≤ 18446744073709551615) (h5 : at_ ≤ 18446744073709551615) (hg : pages + n ≤ most) (hc : (pages + n) * 65536 < 1048577) :
    Calls Try.prog 7 #[.int .i64 num, .int .i64 pages, .int .i64 most, .int .u64 n, .int .u64 at_] w fun e w' => e = .returned (.bool true) ∧ Below w.heap.size w w' := by
  go_enter Try.func7, Try.ntmps7
  go_wp2_with fail
  refine (awake8_any _).mono ?_
  rintro e w1 ⟨rfl, hb1⟩
  have HW1 := Lib.hid hb1
  clear hb1
  go_wp2_with fail
  refine (Pager_n 1 2 (by decide) w1).mono ?_
  rintro e w4 ⟨A, bb, rm, gm, rfl, hS⟩
  have HW4 : Hid (Below w.heap.size w w4) := Lib.hid (HW1.out.trans (hS.bel.mono HW1.out.size))
  clear hS
  go_wp2_with fail
  refine (SpNew_ok A.p num pages most false w4 h2 h3 h1).mono ?_
  rintro e w5 ⟨rfl, rfl⟩
  have HW5 : Hid (Below w.heap.size w (w4.alloc (.cells (mmC A.p num pages most most false) 117))) := Lib.hid (HW4.out.alloc HW4.out.size _)
  have HM5 := Lib.hid (Blk.new w4 117 (mmC A.p num pages most most false))
  have HMl : Hid (w.heap.size ≤ w4.heap.size) := Lib.hid HW4.out.size
  generalize (w4.alloc (.cells (mmC A.p num pages most most false) 117)) = w5 at HW5 HM5 ⊢
  generalize w4.heap.size = M at HW5 HM5 HMl ⊢
  go_wp2_with fail
  refine (Grow_ok M A.p num pages most most n false HM5.out (by omega) (by omega) (by omega)).mono ?_
  rintro e w6 ⟨rfl, hf6, hm6⟩
  have HW6 := Lib.hid (hf6.below HW5.out HW5.out.size (fun q e => by rw [e]; exact HMl.out))
  have HM6 := Lib.hid hm6
  clear hf6 hm6
  have HPg : Hid (Calls Try.prog 37 #[.pointer (some ⟨M, 0, none⟩)] w6 fun e w' => e = .returned (.int .i64 ((pages : Int) + n)) ∧ w6 = w') := Lib.hid (by rw [← Int.natCast_add]; exact Pages_ok M A.p num (pages + n) most most false HM6.out)
  go_wp2_with (go_at_call 37; refine HPg.out.mono ?_; rintro e w7 ⟨rfl, rfl⟩)
  refine (Load_err (some M) at_ 0 1048577 w6 0 15 (.inr ⟨rfl, by decide⟩) (fun p e => by rw [e]; exact asked_long M _ _ _ _ (by decide))).mono ?_
  rintro e w7 ⟨rfl, rfl⟩
  go_wp2_with fail
  refine (Load_err (some M) at_ 0 (-1) w6 0 1 (.inr ⟨rfl, by decide⟩) (fun p e => by rw [e]; exact asked_neg M _ _ _ _ (by decide))).mono ?_
  rintro e w7 ⟨rfl, rfl⟩
  go_wp2_with fail
  have hfe := Fill_end M A.p num (pages + n) most most at_ 1048577 1 false HM6.out (by omega) h5 (by decide) (.inr (by decide))
  rw [show bey (pages + n) at_ 0 1048577 = true from decide_eq_true (by omega), if_pos rfl] at hfe
  refine hfe.mono ?_
  rintro e w7 ⟨rfl, hf7⟩
  have HW7 := Lib.hid (hf7.below HW6.out HW6.out.size (fun q e => e.elim))
  have HPg7 : Hid (Calls Try.prog 37 #[.pointer (some ⟨M, 0, none⟩)] w7 fun e w' => e = .returned (.int .i64 ((pages : Int) + n)) ∧ w7 = w') := Lib.hid (by rw [← Int.natCast_add]; exact Pages_ok M A.p num (pages + n) most most false (HM6.out.fr hf7 (fun q => q)))
  clear hfe hf7
  go_wp2_with (go_at_call 37; refine HPg7.out.mono ?_; rintro e w8 ⟨rfl, rfl⟩)
  go_ret
  exact ⟨rfl, HW7.out⟩
set_option maxHeartbeats 4000000 in
set_option maxRecDepth 100000 in
theorem spaceMakes_g2 (num pages most n at_ : Nat) (w : World) (h1 : num ≤ 9223372036854775807) (h2 : pages ≤ most) (h3 : most ≤ 65536) (h4 : n ≤ 18446744073709551615) (h5 : at_ ≤ 18446744073709551615) (hg : pages + n ≤ most) (hc : 1048577 ≤ (pages + n) * 65536) (hc2 : (pages + n) * 65536 - 1048577 < at_) :
    Calls Try.prog 7 #[.int .i64 num, .int .i64 pages, .int .i64 most, .int .u64 n, .int .u64 at_] w fun e w' => e = .returned (.bool true) ∧ Below w.heap.size w w' := by
  go_enter Try.func7, Try.ntmps7
  go_wp2_with fail
  refine (awake8_any _).mono ?_
  rintro e w1 ⟨rfl, hb1⟩
  have HW1 := Lib.hid hb1
  clear hb1
  go_wp2_with fail
  refine (Pager_n 1 2 (by decide) w1).mono ?_
  rintro e w4 ⟨A, bb, rm, gm, rfl, hS⟩
  have HW4 : Hid (Below w.heap.size w w4) := Lib.hid (HW1.out.trans (hS.bel.mono HW1.out.size))
  clear hS
  go_wp2_with fail
  refine (SpNew_ok A.p num pages most false w4 h2 h3 h1).mono ?_
  rintro e w5 ⟨rfl, rfl⟩
  have HW5 : Hid (Below w.heap.size w (w4.alloc (.cells (mmC A.p num pages most most false) 117))) := Lib.hid (HW4.out.alloc HW4.out.size _)
  have HM5 := Lib.hid (Blk.new w4 117 (mmC A.p num pages most most false))
  have HMl : Hid (w.heap.size ≤ w4.heap.size) := Lib.hid HW4.out.size
  generalize (w4.alloc (.cells (mmC A.p num pages most most false) 117)) = w5 at HW5 HM5 ⊢
  generalize w4.heap.size = M at HW5 HM5 HMl ⊢
  go_wp2_with fail
  refine (Grow_ok M A.p num pages most most n false HM5.out (by omega) (by omega) (by omega)).mono ?_
  rintro e w6 ⟨rfl, hf6, hm6⟩
  have HW6 := Lib.hid (hf6.below HW5.out HW5.out.size (fun q e => by rw [e]; exact HMl.out))
  have HM6 := Lib.hid hm6
  clear hf6 hm6
  have HPg : Hid (Calls Try.prog 37 #[.pointer (some ⟨M, 0, none⟩)] w6 fun e w' => e = .returned (.int .i64 ((pages : Int) + n)) ∧ w6 = w') := Lib.hid (by rw [← Int.natCast_add]; exact Pages_ok M A.p num (pages + n) most most false HM6.out)
  go_wp2_with (go_at_call 37; refine HPg.out.mono ?_; rintro e w7 ⟨rfl, rfl⟩)
  refine (Load_err (some M) at_ 0 1048577 w6 0 15 (.inr ⟨rfl, by decide⟩) (fun p e => by rw [e]; exact asked_long M _ _ _ _ (by decide))).mono ?_
  rintro e w7 ⟨rfl, rfl⟩
  go_wp2_with fail
  refine (Load_err (some M) at_ 0 (-1) w6 0 1 (.inr ⟨rfl, by decide⟩) (fun p e => by rw [e]; exact asked_neg M _ _ _ _ (by decide))).mono ?_
  rintro e w7 ⟨rfl, rfl⟩
  go_wp2_with fail
  have hfe := Fill_end M A.p num (pages + n) most most at_ 1048577 1 false HM6.out (by omega) h5 (by decide) (.inr (by decide))
  rw [show bey (pages + n) at_ 0 1048577 = true from decide_eq_true (by omega), if_pos rfl] at hfe
  refine hfe.mono ?_
  rintro e w7 ⟨rfl, hf7⟩
  have HW7 := Lib.hid (hf7.below HW6.out HW6.out.size (fun q e => e.elim))
  have HPg7 : Hid (Calls Try.prog 37 #[.pointer (some ⟨M, 0, none⟩)] w7 fun e w' => e = .returned (.int .i64 ((pages : Int) + n)) ∧ w7 = w') := Lib.hid (by rw [← Int.natCast_add]; exact Pages_ok M A.p num (pages + n) most most false (HM6.out.fr hf7 (fun q => q)))
  clear hfe hf7
  go_wp2_with (go_at_call 37; refine HPg7.out.mono ?_; rintro e w8 ⟨rfl, rfl⟩)
  go_ret
  exact ⟨rfl, HW7.out⟩
set_option maxHeartbeats 4000000 in
set_option maxRecDepth 100000 in
theorem spaceMakes_g3 (num pages most n at_ : Nat) (w : World) (h1 : num ≤ 9223372036854775807) (h2 : pages ≤ most) (h3 : most ≤ 65536) (h4 : n ≤ 18446744073709551615) (h5 : at_ ≤ 18446744073709551615) (hg : pages + n ≤ most) (hc : 1048577 ≤ (pages + n) * 65536) (hc2 : at_ + 1048577 ≤ (pages + n) * 65536) :
    Calls Try.prog 7 #[.int .i64 num, .int .i64 pages, .int .i64 most, .int .u64 n, .int .u64 at_] w fun e w' => e = .returned (.bool true) ∧ Below w.heap.size w w' := by
  go_enter Try.func7, Try.ntmps7
  go_wp2_with fail
  refine (awake8_any _).mono ?_
  rintro e w1 ⟨rfl, hb1⟩
  have HW1 := Lib.hid hb1
  clear hb1
  go_wp2_with fail
  refine (Pager_n 1 2 (by decide) w1).mono ?_
  rintro e w4 ⟨A, bb, rm, gm, rfl, hS⟩
  have HW4 : Hid (Below w.heap.size w w4) := Lib.hid (HW1.out.trans (hS.bel.mono HW1.out.size))
  clear hS
  go_wp2_with fail
  refine (SpNew_ok A.p num pages most false w4 h2 h3 h1).mono ?_
  rintro e w5 ⟨rfl, rfl⟩
  have HW5 : Hid (Below w.heap.size w (w4.alloc (.cells (mmC A.p num pages most most false) 117))) := Lib.hid (HW4.out.alloc HW4.out.size _)
  have HM5 := Lib.hid (Blk.new w4 117 (mmC A.p num pages most most false))
  have HMl : Hid (w.heap.size ≤ w4.heap.size) := Lib.hid HW4.out.size
  generalize (w4.alloc (.cells (mmC A.p num pages most most false) 117)) = w5 at HW5 HM5 ⊢
  generalize w4.heap.size = M at HW5 HM5 HMl ⊢
  go_wp2_with fail
  refine (Grow_ok M A.p num pages most most n false HM5.out (by omega) (by omega) (by omega)).mono ?_
  rintro e w6 ⟨rfl, hf6, hm6⟩
  have HW6 := Lib.hid (hf6.below HW5.out HW5.out.size (fun q e => by rw [e]; exact HMl.out))
  have HM6 := Lib.hid hm6
  clear hf6 hm6
  have HPg : Hid (Calls Try.prog 37 #[.pointer (some ⟨M, 0, none⟩)] w6 fun e w' => e = .returned (.int .i64 ((pages : Int) + n)) ∧ w6 = w') := Lib.hid (by rw [← Int.natCast_add]; exact Pages_ok M A.p num (pages + n) most most false HM6.out)
  go_wp2_with (go_at_call 37; refine HPg.out.mono ?_; rintro e w7 ⟨rfl, rfl⟩)
  refine (Load_err (some M) at_ 0 1048577 w6 0 15 (.inr ⟨rfl, by decide⟩) (fun p e => by rw [e]; exact asked_long M _ _ _ _ (by decide))).mono ?_
  rintro e w7 ⟨rfl, rfl⟩
  go_wp2_with fail
  refine (Load_err (some M) at_ 0 (-1) w6 0 1 (.inr ⟨rfl, by decide⟩) (fun p e => by rw [e]; exact asked_neg M _ _ _ _ (by decide))).mono ?_
  rintro e w7 ⟨rfl, rfl⟩
  go_wp2_with fail
  have hfe := Fill_end M A.p num (pages + n) most most at_ 1048577 1 false HM6.out (by omega) h5 (by decide) (.inr (by decide))
  rw [show bey (pages + n) at_ 0 1048577 = false from decide_eq_false (by omega), if_neg (by decide)] at hfe
  refine hfe.mono ?_
  rintro e w7 ⟨rfl, hf7⟩
  have HW7 := Lib.hid (hf7.below HW6.out HW6.out.size (fun q e => e.elim))
  have HPg7 : Hid (Calls Try.prog 37 #[.pointer (some ⟨M, 0, none⟩)] w7 fun e w' => e = .returned (.int .i64 ((pages : Int) + n)) ∧ w7 = w') := Lib.hid (by rw [← Int.natCast_add]; exact Pages_ok M A.p num (pages + n) most most false (HM6.out.fr hf7 (fun q => q)))
  clear hfe hf7
  go_wp2_with (go_at_call 37; refine HPg7.out.mono ?_; rintro e w8 ⟨rfl, rfl⟩)
  go_ret
  exact ⟨rfl, HW7.out⟩
set_option maxHeartbeats 4000000 in
set_option maxRecDepth 100000 in
theorem spaceMakes_n1 (num pages most n at_ : Nat) (w : World) (h1 : num ≤ 9223372036854775807) (h2 : pages ≤ most) (h3 : most ≤ 65536) (h4 : n ≤ 18446744073709551615) (h5 : at_ ≤ 18446744073709551615) (hg : most < pages + n) (hc : (pages) * 65536 < 1048577) :
    Calls Try.prog 7 #[.int .i64 num, .int .i64 pages, .int .i64 most, .int .u64 n, .int .u64 at_] w fun e w' => e = .returned (.bool true) ∧ Below w.heap.size w w' := by
  go_enter Try.func7, Try.ntmps7
  go_wp2_with fail
  refine (awake8_any _).mono ?_
  rintro e w1 ⟨rfl, hb1⟩
  have HW1 := Lib.hid hb1
  clear hb1
  go_wp2_with fail
  refine (Pager_n 1 2 (by decide) w1).mono ?_
  rintro e w4 ⟨A, bb, rm, gm, rfl, hS⟩
  have HW4 : Hid (Below w.heap.size w w4) := Lib.hid (HW1.out.trans (hS.bel.mono HW1.out.size))
  clear hS
  go_wp2_with fail
  refine (SpNew_ok A.p num pages most false w4 h2 h3 h1).mono ?_
  rintro e w5 ⟨rfl, rfl⟩
  have HW5 : Hid (Below w.heap.size w (w4.alloc (.cells (mmC A.p num pages most most false) 117))) := Lib.hid (HW4.out.alloc HW4.out.size _)
  have HM5 := Lib.hid (Blk.new w4 117 (mmC A.p num pages most most false))
  have HMl : Hid (w.heap.size ≤ w4.heap.size) := Lib.hid HW4.out.size
  generalize (w4.alloc (.cells (mmC A.p num pages most most false) 117)) = w5 at HW5 HM5 ⊢
  generalize w4.heap.size = M at HW5 HM5 HMl ⊢
  go_wp2_with fail
  refine (Grow_no M A.p num pages most most n false HM5.out (by omega) (by omega) h2 (by omega) h4).mono ?_
  rintro e w6 ⟨rfl, k6, rfl⟩
  have HW6 := Lib.hid (((Fr.refl (fun q => False) w5).drewN k6).below HW5.out HW5.out.size (fun q e => e.elim))
  have HM6 := Lib.hid (HM5.out.drewN k6)
  generalize w5.drewN k6 = w6 at HW6 HM6 ⊢
  have HPg : Hid (Calls Try.prog 37 #[.pointer (some ⟨M, 0, none⟩)] w6 fun e w' => e = .returned (.int .i64 (pages : Int)) ∧ w6 = w') := Lib.hid (Pages_ok M A.p num pages most most false HM6.out)
  go_wp2_with (go_at_call 37; refine HPg.out.mono ?_; rintro e w7 ⟨rfl, rfl⟩)
  refine (Load_err (some M) at_ 0 1048577 w6 0 15 (.inr ⟨rfl, by decide⟩) (fun p e => by rw [e]; exact asked_long M _ _ _ _ (by decide))).mono ?_
  rintro e w7 ⟨rfl, rfl⟩
  go_wp2_with fail
  refine (Load_err (some M) at_ 0 (-1) w6 0 1 (.inr ⟨rfl, by decide⟩) (fun p e => by rw [e]; exact asked_neg M _ _ _ _ (by decide))).mono ?_
  rintro e w7 ⟨rfl, rfl⟩
  go_wp2_with fail
  have hfe := Fill_end M A.p num (pages) most most at_ 1048577 1 false HM6.out (by omega) h5 (by decide) (.inr (by decide))
  rw [show bey (pages) at_ 0 1048577 = true from decide_eq_true (by omega), if_pos rfl] at hfe
  refine hfe.mono ?_
  rintro e w7 ⟨rfl, hf7⟩
  have HW7 := Lib.hid (hf7.below HW6.out HW6.out.size (fun q e => e.elim))
  have HPg7 : Hid (Calls Try.prog 37 #[.pointer (some ⟨M, 0, none⟩)] w7 fun e w' => e = .returned (.int .i64 ((pages : Int))) ∧ w7 = w') := Lib.hid (by exact Pages_ok M A.p num pages most most false (HM6.out.fr hf7 (fun q => q)))
  clear hfe hf7
  go_wp2_with (go_at_call 37; refine HPg7.out.mono ?_; rintro e w8 ⟨rfl, rfl⟩)
  go_ret
  exact ⟨rfl, HW7.out⟩
set_option maxHeartbeats 4000000 in
set_option maxRecDepth 100000 in
theorem spaceMakes_n2 (num pages most n at_ : Nat) (w : World) (h1 : num ≤ 9223372036854775807) (h2 : pages ≤ most) (h3 : most ≤ 65536) (h4 : n ≤ 18446744073709551615) (h5 : at_ ≤ 18446744073709551615) (hg : most < pages + n) (hc : 1048577 ≤ (pages) * 65536) (hc2 : (pages) * 65536 - 1048577 < at_) :
    Calls Try.prog 7 #[.int .i64 num, .int .i64 pages, .int .i64 most, .int .u64 n, .int .u64 at_] w fun e w' => e = .returned (.bool true) ∧ Below w.heap.size w w' := by
  go_enter Try.func7, Try.ntmps7
  go_wp2_with fail
  refine (awake8_any _).mono ?_
  rintro e w1 ⟨rfl, hb1⟩
  have HW1 := Lib.hid hb1
  clear hb1
  go_wp2_with fail
  refine (Pager_n 1 2 (by decide) w1).mono ?_
  rintro e w4 ⟨A, bb, rm, gm, rfl, hS⟩
  have HW4 : Hid (Below w.heap.size w w4) := Lib.hid (HW1.out.trans (hS.bel.mono HW1.out.size))
  clear hS
  go_wp2_with fail
  refine (SpNew_ok A.p num pages most false w4 h2 h3 h1).mono ?_
  rintro e w5 ⟨rfl, rfl⟩
  have HW5 : Hid (Below w.heap.size w (w4.alloc (.cells (mmC A.p num pages most most false) 117))) := Lib.hid (HW4.out.alloc HW4.out.size _)
  have HM5 := Lib.hid (Blk.new w4 117 (mmC A.p num pages most most false))
  have HMl : Hid (w.heap.size ≤ w4.heap.size) := Lib.hid HW4.out.size
  generalize (w4.alloc (.cells (mmC A.p num pages most most false) 117)) = w5 at HW5 HM5 ⊢
  generalize w4.heap.size = M at HW5 HM5 HMl ⊢
  go_wp2_with fail
  refine (Grow_no M A.p num pages most most n false HM5.out (by omega) (by omega) h2 (by omega) h4).mono ?_
  rintro e w6 ⟨rfl, k6, rfl⟩
  have HW6 := Lib.hid (((Fr.refl (fun q => False) w5).drewN k6).below HW5.out HW5.out.size (fun q e => e.elim))
  have HM6 := Lib.hid (HM5.out.drewN k6)
  generalize w5.drewN k6 = w6 at HW6 HM6 ⊢
  have HPg : Hid (Calls Try.prog 37 #[.pointer (some ⟨M, 0, none⟩)] w6 fun e w' => e = .returned (.int .i64 (pages : Int)) ∧ w6 = w') := Lib.hid (Pages_ok M A.p num pages most most false HM6.out)
  go_wp2_with (go_at_call 37; refine HPg.out.mono ?_; rintro e w7 ⟨rfl, rfl⟩)
  refine (Load_err (some M) at_ 0 1048577 w6 0 15 (.inr ⟨rfl, by decide⟩) (fun p e => by rw [e]; exact asked_long M _ _ _ _ (by decide))).mono ?_
  rintro e w7 ⟨rfl, rfl⟩
  go_wp2_with fail
  refine (Load_err (some M) at_ 0 (-1) w6 0 1 (.inr ⟨rfl, by decide⟩) (fun p e => by rw [e]; exact asked_neg M _ _ _ _ (by decide))).mono ?_
  rintro e w7 ⟨rfl, rfl⟩
  go_wp2_with fail
  have hfe := Fill_end M A.p num (pages) most most at_ 1048577 1 false HM6.out (by omega) h5 (by decide) (.inr (by decide))
  rw [show bey (pages) at_ 0 1048577 = true from decide_eq_true (by omega), if_pos rfl] at hfe
  refine hfe.mono ?_
  rintro e w7 ⟨rfl, hf7⟩
  have HW7 := Lib.hid (hf7.below HW6.out HW6.out.size (fun q e => e.elim))
  have HPg7 : Hid (Calls Try.prog 37 #[.pointer (some ⟨M, 0, none⟩)] w7 fun e w' => e = .returned (.int .i64 ((pages : Int))) ∧ w7 = w') := Lib.hid (by exact Pages_ok M A.p num pages most most false (HM6.out.fr hf7 (fun q => q)))
  clear hfe hf7
  go_wp2_with (go_at_call 37; refine HPg7.out.mono ?_; rintro e w8 ⟨rfl, rfl⟩)
  go_ret
  exact ⟨rfl, HW7.out⟩
set_option maxHeartbeats 4000000 in
set_option maxRecDepth 100000 in
theorem spaceMakes_n3 (num pages most n at_ : Nat) (w : World) (h1 : num ≤ 9223372036854775807) (h2 : pages ≤ most) (h3 : most ≤ 65536) (h4 : n ≤ 18446744073709551615) (h5 : at_ ≤ 18446744073709551615) (hg : most < pages + n) (hc : 1048577 ≤ (pages) * 65536) (hc2 : at_ + 1048577 ≤ (pages) * 65536) :
    Calls Try.prog 7 #[.int .i64 num, .int .i64 pages, .int .i64 most, .int .u64 n, .int .u64 at_] w fun e w' => e = .returned (.bool true) ∧ Below w.heap.size w w' := by
  go_enter Try.func7, Try.ntmps7
  go_wp2_with fail
  refine (awake8_any _).mono ?_
  rintro e w1 ⟨rfl, hb1⟩
  have HW1 := Lib.hid hb1
  clear hb1
  go_wp2_with fail
  refine (Pager_n 1 2 (by decide) w1).mono ?_
  rintro e w4 ⟨A, bb, rm, gm, rfl, hS⟩
  have HW4 : Hid (Below w.heap.size w w4) := Lib.hid (HW1.out.trans (hS.bel.mono HW1.out.size))
  clear hS
  go_wp2_with fail
  refine (SpNew_ok A.p num pages most false w4 h2 h3 h1).mono ?_
  rintro e w5 ⟨rfl, rfl⟩
  have HW5 : Hid (Below w.heap.size w (w4.alloc (.cells (mmC A.p num pages most most false) 117))) := Lib.hid (HW4.out.alloc HW4.out.size _)
  have HM5 := Lib.hid (Blk.new w4 117 (mmC A.p num pages most most false))
  have HMl : Hid (w.heap.size ≤ w4.heap.size) := Lib.hid HW4.out.size
  generalize (w4.alloc (.cells (mmC A.p num pages most most false) 117)) = w5 at HW5 HM5 ⊢
  generalize w4.heap.size = M at HW5 HM5 HMl ⊢
  go_wp2_with fail
  refine (Grow_no M A.p num pages most most n false HM5.out (by omega) (by omega) h2 (by omega) h4).mono ?_
  rintro e w6 ⟨rfl, k6, rfl⟩
  have HW6 := Lib.hid (((Fr.refl (fun q => False) w5).drewN k6).below HW5.out HW5.out.size (fun q e => e.elim))
  have HM6 := Lib.hid (HM5.out.drewN k6)
  generalize w5.drewN k6 = w6 at HW6 HM6 ⊢
  have HPg : Hid (Calls Try.prog 37 #[.pointer (some ⟨M, 0, none⟩)] w6 fun e w' => e = .returned (.int .i64 (pages : Int)) ∧ w6 = w') := Lib.hid (Pages_ok M A.p num pages most most false HM6.out)
  go_wp2_with (go_at_call 37; refine HPg.out.mono ?_; rintro e w7 ⟨rfl, rfl⟩)
  refine (Load_err (some M) at_ 0 1048577 w6 0 15 (.inr ⟨rfl, by decide⟩) (fun p e => by rw [e]; exact asked_long M _ _ _ _ (by decide))).mono ?_
  rintro e w7 ⟨rfl, rfl⟩
  go_wp2_with fail
  refine (Load_err (some M) at_ 0 (-1) w6 0 1 (.inr ⟨rfl, by decide⟩) (fun p e => by rw [e]; exact asked_neg M _ _ _ _ (by decide))).mono ?_
  rintro e w7 ⟨rfl, rfl⟩
  go_wp2_with fail
  have hfe := Fill_end M A.p num (pages) most most at_ 1048577 1 false HM6.out (by omega) h5 (by decide) (.inr (by decide))
  rw [show bey (pages) at_ 0 1048577 = false from decide_eq_false (by omega), if_neg (by decide)] at hfe
  refine hfe.mono ?_
  rintro e w7 ⟨rfl, hf7⟩
  have HW7 := Lib.hid (hf7.below HW6.out HW6.out.size (fun q e => e.elim))
  have HPg7 : Hid (Calls Try.prog 37 #[.pointer (some ⟨M, 0, none⟩)] w7 fun e w' => e = .returned (.int .i64 ((pages : Int))) ∧ w7 = w') := Lib.hid (by exact Pages_ok M A.p num pages most most false (HM6.out.fr hf7 (fun q => q)))
  clear hfe hf7
  go_wp2_with (go_at_call 37; refine HPg7.out.mono ?_; rintro e w8 ⟨rfl, rfl⟩)
  go_ret
  exact ⟨rfl, HW7.out⟩
set_option maxHeartbeats 4000000 in
set_option maxRecDepth 100000 in
theorem spaceMakes_arg (a0 a1 a2 a3 a4 : Int) (w : World) (h : a0 < 0 ∨ (0 ≤ a0 ∧ a1 < 0) ∨ (0 ≤ a0 ∧ 0 ≤ a1 ∧ a2 < a1) ∨ (0 ≤ a0 ∧ 0 ≤ a1 ∧ a1 ≤ a2 ∧ 65536 < a2)) :
    Calls Try.prog 7 #[.int .i64 a0, .int .i64 a1, .int .i64 a2, .int .u64 a3, .int .u64 a4] w fun e w' => e = .returned (.bool true) ∧ Below w.heap.size w w' := by
  have HH := Lib.hid h
  clear h
  go_enter Try.func7, Try.ntmps7
  go_wp2_with fail
  refine (awake8_any _).mono ?_
  rintro e w1 ⟨rfl, hb1⟩
  have HW1 := Lib.hid hb1
  clear hb1
  go_wp2_with fail
  refine (Pager_n 1 2 (by decide) w1).mono ?_
  rintro e w4 ⟨A, bb, rm, gm, rfl, hS⟩
  have HW4 : Hid (Below w.heap.size w w4) := Lib.hid (HW1.out.trans (hS.bel.mono HW1.out.size))
  clear hS
  go_wp2_with fail
  refine (SpNew_arg A.p a0 a1 a2 false w4 HH.out).mono ?_
  rintro e w5 ⟨rfl, rfl⟩
  rcases HH.out with h | ⟨h1, h⟩ | ⟨h1, h2, h⟩ | ⟨h1, h2, h3, h⟩
  all_goals
    go_wp2_with fail
    go_ret
    exact ⟨rfl, HW4.out⟩
theorem spaceMakes_walk (a0 a1 a2 a3 a4 : Int) (w : World) (h0 : (Lit.int .i64 a0).wf = true) (h1 : (Lit.int .i64 a1).wf = true) (h2 : (Lit.int .i64 a2).wf = true) (h3 : (Lit.int .u64 a3).wf = true) (h4 : (Lit.int .u64 a4).wf = true) :
    Calls Try.prog 7 #[.int .i64 a0, .int .i64 a1, .int .i64 a2, .int .u64 a3, .int .u64 a4] w fun e w' => e = .returned (.bool true) ∧ Below w.heap.size w w' := by
  have b0 := bounds_i64 h0
  have b3 := bounds_u64 h3
  have b4 := bounds_u64 h4
  by_cases hbad : a0 < 0 ∨ (0 ≤ a0 ∧ a1 < 0) ∨ (0 ≤ a0 ∧ 0 ≤ a1 ∧ a2 < a1) ∨ (0 ≤ a0 ∧ 0 ≤ a1 ∧ a1 ≤ a2 ∧ 65536 < a2)
  · exact spaceMakes_arg a0 a1 a2 a3 a4 w hbad
  · obtain ⟨num, rfl⟩ := Int.eq_ofNat_of_zero_le (show 0 ≤ a0 by omega)
    obtain ⟨pages, rfl⟩ := Int.eq_ofNat_of_zero_le (show 0 ≤ a1 by omega)
    obtain ⟨most, rfl⟩ := Int.eq_ofNat_of_zero_le (show 0 ≤ a2 by omega)
    obtain ⟨n, rfl⟩ := Int.eq_ofNat_of_zero_le (show 0 ≤ a3 by omega)
    obtain ⟨at_, rfl⟩ := Int.eq_ofNat_of_zero_le (show 0 ≤ a4 by omega)
    have e1 : num ≤ 9223372036854775807 := by omega
    have e2 : pages ≤ most := by omega
    have e3 : most ≤ 65536 := by omega
    have e4 : n ≤ 18446744073709551615 := by omega
    have e5 : at_ ≤ 18446744073709551615 := by omega
    by_cases hg : pages + n ≤ most
    · by_cases hc : (pages + n) * 65536 < 1048577
      · exact spaceMakes_g1 num pages most n at_ w e1 e2 e3 e4 e5 hg hc
      · by_cases hc2 : (pages + n) * 65536 - 1048577 < at_
        · exact spaceMakes_g2 num pages most n at_ w e1 e2 e3 e4 e5 hg (by omega) hc2
        · exact spaceMakes_g3 num pages most n at_ w e1 e2 e3 e4 e5 hg (by omega) (by omega)
    · by_cases hc : pages * 65536 < 1048577
      · exact spaceMakes_n1 num pages most n at_ w e1 e2 e3 e4 e5 (by omega) hc
      · by_cases hc2 : pages * 65536 - 1048577 < at_
        · exact spaceMakes_n2 num pages most n at_ w e1 e2 e3 e4 e5 (by omega) (by omega) hc2
        · exact spaceMakes_n3 num pages most n at_ w e1 e2 e3 e4 e5 (by omega) (by omega) (by omega)

end Go.Proofs.Ytlnffcledpccjaa
