/-
  A pager of a number of frames; no memory; Fill of none.
-/
import Derived.Test.YtlnffcledpccjaaUa
import Derived.BigQuiet
import Derived.OwnWalk
import Derived.WalkKit
import Derived.ProofKit
import Derived.OpenShut
import Derived.ShutString
import Derived.ChangeOld
import Derived.Below
namespace Go.Proofs.Ytlnffcledpccjaa
set_option linter.unusedVariables false
set_option linter.unusedSimpArgs false
open Go.ChangeShapes Go.WideShapes Go.ChangeAt
open Go.RowKit
set_option maxHeartbeats 1000000 in
set_option maxRecDepth 100000 in
theorem Pager_n (f : Int) (n : Nat) (hn : (n : Int) = 1 + (if f ≤ 0 then 0 else if 63 ≤ f then 63 else f)) (w : World) :
    Calls Try.prog 23 #[.int .i64 f] w fun e w' => ∃ A bb rm gm, e = .returned (.pointer (some ⟨A.p, 0, none⟩)) ∧ S1 w A bb rm gm n 64 4096 (fun _ => zs 64) 0 0 (fun _ => False) w' := by
  have hn1 : 1 ≤ n := by omega
  have hn64 : n ≤ 64 := by omega
  have HN0 := Lib.hid hn
  clear hn
  go_enter Try.func23, Try.ntmps23
  go_wp2_with fail
  refine (ANew_ok 65536 _ (by omega)).mono ?_
  rintro e w2 ⟨a, bb, rm, gm, rfl, h2, b2, ha2, hbb, hr, hg⟩
  have H2 := Lib.hid h2
  have B2 := Lib.hid b2
  have HA := Lib.hid (show w.heap.size ≤ a ∧ w.heap.size ≤ bb ∧ w.heap.size ≤ rm ∧ w.heap.size ≤ gm from by omega)
  clear h2 b2 ha2 hbb hr hg
  go_wp2_with fail
  refine (SNew_ok 64 4096 w2 (by omega) (by omega) (by omega)).mono ?_
  unfold NuPost
  rintro e w3 ⟨s, m, rfl, h3, b3, hs, hm⟩
  have HN := Lib.hid (fun (x : Int) (e : x = n) => (show Calls Try.prog 14 #[.pointer (some ⟨a, 0, none⟩), .pointer (some ⟨s, 0, none⟩), .int .i64 x] w3 _ from e ▸ (S1.new (k := n) H2.out B2.out HA.out h3 b3 hs hm (by decide) hn1 hn64 (by omega))))
  clear h3 b3 hs hm
  go_wp2_with fail
  all_goals
    refine (HN.out _ (by have e := HN0.out; omega)).mono ?_
    rintro e w4 ⟨A, _, rfl, hS⟩
    have HS := Lib.hid hS
    clear hS
    go_wp2_with fail
    go_ret
    exact ⟨A, bb, rm, gm, rfl, HS.out⟩
set_option maxRecDepth 100000 in
theorem Copy_nil (B : Option Nat) (a b c : Int) (w : World) :
    Calls Try.prog 33 #[.pointer none, .pointer (B.map (⟨·, 0, none⟩)), .int .u64 a, .int .u64 b, .int .u64 c] w fun e w' => e = .returned (.tuple #[.int .i64 0, .int .i64 12]) ∧ w = w' := by
  go_enter Try.func33, Try.ntmps33
  go_wp2_with fail
  go_ret2
  exact ⟨rfl, rfl⟩
set_option maxRecDepth 100000 in
theorem Copy_nil2 (M : Nat) (a b c : Int) (w : World) :
    Calls Try.prog 33 #[.pointer (some ⟨M, 0, none⟩), .pointer none, .int .u64 a, .int .u64 b, .int .u64 c] w fun e w' => e = .returned (.tuple #[.int .i64 0, .int .i64 12]) ∧ w = w' := by
  go_enter Try.func33, Try.ntmps33
  go_wp2_with fail
  go_ret2
  exact ⟨rfl, rfl⟩
theorem Pages_nil (w : World) : Calls Try.prog 37 #[.pointer none] w fun e w' => e = .returned (.int .i64 0) ∧ w = w' := by
  go_enter Try.func37, Try.ntmps37
  go_wp2_with fail
  go_ret
  exact ⟨rfl, rfl⟩
theorem Wide_nil (w : World) : Calls Try.prog 25 #[.pointer none] w fun e w' => e = .returned (.bool false) ∧ ∃ k, w' = w.drewN k := by
  go_enter Try.func25, Try.ntmps25
  go_wp2_with fail
  first
    | (go_ret; exact ⟨rfl, 0, rfl⟩)
    | (go_quiet (fail); go_wp2; go_ret; exact ⟨rfl, _, rfl⟩)
theorem Cap_nil (n : Int) (w : World) : Calls Try.prog 36 #[.pointer none, .int .i64 n] w fun e w' => e = .returned (.bool false) ∧ w = w' := by
  go_enter Try.func36, Try.ntmps36
  go_wp2_with fail
  go_ret
  exact ⟨rfl, rfl⟩
set_option maxRecDepth 100000 in
theorem Fill_nil (a c : Int) (b : Int) (w : World) :
    Calls Try.prog 31 #[.pointer none, .int .u64 a, .int .u8 b, .int .u64 c] w fun e w' => e = .returned (.tuple #[.int .i64 0, .int .i64 12]) ∧ Below w.heap.size w w' := by
  go_enter Try.func31, Try.ntmps31
  go_wp2_with fail
  have hres : Try.f31.results = #[.cell 8 59, .cell 9 25] := rfl
  obtain ⟨w1, hw1⟩ : ∃ w1, w1 = w.alloc (Obj.cells #[.pointer none] 48) := ⟨_, rfl⟩
  have hs1 : w1.heap.size = w.heap.size + 1 := by rw [hw1, World.size_alloc]
  have hf1 : Fr (fun _ => False) w w1 := by rw [hw1]; exact (Fr.refl _ w).alloc _
  obtain ⟨w2, hw2⟩ : ∃ w2, w2 = w1.alloc (Obj.cells #[.int .i64 0] 59) := ⟨_, rfl⟩
  have hs2 : w2.heap.size = w.heap.size + 2 := by rw [hw2, World.size_alloc, hs1]
  have hb2 : Blk w2 (w.heap.size + 1) 59 #[.int .i64 0] := by rw [hw2, ← hs1]; exact Blk.new w1 59 _
  have hf2 : Fr (fun _ => False) w1 w2 := by rw [hw2]; exact (Fr.refl _ w1).alloc _
  obtain ⟨w3, hw3⟩ : ∃ w3, w3 = w2.alloc (Obj.cells #[.int .i64 12] 25) := ⟨_, rfl⟩
  have hb3 : Blk w3 (w.heap.size + 2) 25 #[.int .i64 12] := by rw [hw3, ← hs2]; exact Blk.new w2 25 _
  have hf3 : Fr (fun _ => False) w2 w3 := by rw [hw3]; exact (Fr.refl _ w2).alloc _
  have hb2' := hb2.fr hf3 (fun q => q)
  rw [← hw1, ← hw2, ← hw3]
  have c8 : w3.cell? ⟨w.heap.size + 1, 0, none⟩ = some (.int .i64 0) := hb2'.cell 0
  have c9 : w3.cell? ⟨w.heap.size + 1 + 1, 0, none⟩ = some (.int .i64 12) := hb3.cell 0
  refine bodyPost_ret (v := .tuple #[.int .i64 0, .int .i64 12]) ?_ rfl ⟨rfl, ?_⟩
  · simp [results, hres, go_sem, c8, c9]
  · exact (((hf1.trans hf2).trans hf3).below (Below.refl _ _) (Nat.le_refl _) (fun q h => h.elim))

end Go.Proofs.Ytlnffcledpccjaa
