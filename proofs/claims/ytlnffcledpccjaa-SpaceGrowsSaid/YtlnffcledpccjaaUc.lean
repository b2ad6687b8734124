/-
  The document's example of a memory.
-/
import Derived.Test.YtlnffcledpccjaaUb
import Derived.BigQuiet
import Derived.OwnWalk
import Derived.WalkKit
import Derived.ProofKit
import Derived.OpenShut
import Derived.ShutString
import Derived.ChangeOld
import Derived.Below
namespace Go.Proofs.Ytlnffcledpccjaa
set_option linter.unusedVariables false
set_option linter.unusedSimpArgs false
open Go.ChangeShapes Go.WideShapes Go.ChangeAt
open Go.RowKit
set_option maxHeartbeats 4000000 in
set_option maxRecDepth 100000 in
theorem awake8_any (w : World) : Calls Try.prog 22 #[] w fun e w' => e = .returned (.bool true) ∧ Below w.heap.size w w' := by
  go_enter Try.func22, Try.ntmps22
  go_wp2_with fail
  refine (Pager_n 2 3 (by decide) w).mono ?_
  rintro e w1 ⟨A, bb, rm, gm, rfl, hS⟩
  have HS1 := Lib.hid hS
  clear hS
  go_wp2_with fail
  refine (SpNew_ok A.p 0 1 2 false w1 (by omega) (by omega) (by omega)).mono ?_
  rintro e w2 ⟨rfl, rfl⟩
  have HS2 := Lib.hid (HS1.out.alloc (.cells (mmC A.p 0 1 2 2 false) 117))
  have HM2 := Lib.hid (Blk.new w1 117 (mmC A.p 0 1 2 2 false))
  generalize (w1.alloc (.cells (mmC A.p 0 1 2 2 false) 117)) = w2 at HS2 HM2 ⊢
  generalize w1.heap.size = M at HS2 HM2 ⊢
  go_wp2_with fail
  have hf3 := (Fr.refl (fun _ => False) w2).alloc (Obj.cells #[Value.int IntKind.u8 1, Value.int IntKind.u8 2, Value.int IntKind.u8 3, Value.int IntKind.u8 4] 5)
  have hS3 := HS2.out.alloc (Obj.cells #[Value.int IntKind.u8 1, Value.int IntKind.u8 2, Value.int IntKind.u8 3, Value.int IntKind.u8 4] 5)
  have hM3 := HM2.out.fr hf3 (fun q => q)
  have hby : Byt (w2.alloc (Obj.cells #[Value.int IntKind.u8 1, Value.int IntKind.u8 2, Value.int IntKind.u8 3, Value.int IntKind.u8 4] 5)) (some ⟨w2.heap.size, 0, none⟩) 4 4 [1, 2, 3, 4] := byt_of_blk (l := [1, 2, 3, 4]) (Blk.new w2 5 _) rfl (by decide) (by unfold maxLen; omega)
  refine (Store_ok hS3 M 0 1 2 2 65532 0 4 4 false _ _ hM3 (.inl (.inr rfl)) hby (fun g e _ => .inl (.inr (by simpa using e.symm))) (by omega) (by omega) (by omega) (by omega) (by omega) (by omega) (by omega) (by omega)).mono ?_
  rintro e w4 h4
  unfold StP at h4
  obtain ⟨rfl, hS4, hK4⟩ := h4
  have hM4 : Blk w4 M 117 (mmC A.p 0 1 2 2 false) := ((KX.fr hK4).block M hM3.lt (fun h => h.2 (.inl (.inr rfl)))).trans hM3
  have HS4 := Lib.hid hS4
  have HM4 := Lib.hid hM4
  clear hf3 hS3 hM3 hby hS4 hK4 hM4
  go_wp2_with fail
  have ha := asked_ok M A.p 0 1 2 2 65534 0 4 false HM4.out (by omega) (by omega) (by omega) (by omega)
  rw [show bey 1 65534 0 4 = true from by decide, if_pos rfl] at ha
  refine (Load_err (some M) 65534 0 4 w4 4 0 (.inl (by decide)) (fun p e => by rw [e]; exact ha)).mono ?_
  rintro e w5 ⟨rfl, rfl⟩
  clear ha
  go_wp2_with fail
  refine (Load_ok HS4.out M 0 1 2 2 0 65534 2 false HM4.out (.inl (.inr rfl)) (by omega) (by omega) (by omega) (by omega) (by omega) (by omega) (by omega) (by omega)).mono ?_
  rintro e w6 hP
  unfold LdP at hP
  obtain ⟨g, rfl, _, hy, hS6, _⟩ := hP
  have hcv := conv_byt hy
  rw [show str (mbs (wrm (fun _ => zs 64) 0 64 (65532 + 0) [1, 2, 3, 4] 4) 0 64 (0 + 65534) 2) = ⟨#[3, 4]⟩ from by decide +kernel] at hcv
  have hB := Lib.hid hS6.bel
  clear hS6 hy
  go_wp2_with fail
  go_ret
  exact ⟨rfl, hB.out⟩

end Go.Proofs.Ytlnffcledpccjaa
