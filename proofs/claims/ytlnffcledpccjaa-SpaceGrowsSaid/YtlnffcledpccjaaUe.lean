/-
  Grow, Pages, and the early ends of Fill.
-/
import Derived.Test.YtlnffcledpccjaaUc
import Derived.BigQuiet
import Derived.OwnWalk
import Derived.WalkKit
import Derived.ProofKit
import Derived.OpenShut
import Derived.ShutString
import Derived.ChangeOld
import Derived.Below
namespace Go.Proofs.Ytlnffcledpccjaa
set_option linter.unusedVariables false
set_option linter.unusedSimpArgs false
open Go.ChangeShapes Go.WideShapes Go.ChangeAt
open Go.RowKit
set_option maxRecDepth 100000 in
theorem Grow_ok {w : World} (M pg num pages most capped n : Nat) (wide : Bool) (hM : Blk w M 117 (mmC pg num pages most capped wide)) (hp : pages ≤ 65536) (hc : capped ≤ 65536) (hn : pages + n ≤ capped) :
    Calls Try.prog 34 #[.pointer (some ⟨M, 0, none⟩), .int .u64 n] w fun e w' => e = .returned (.tuple #[.int .i64 pages, .bool true]) ∧ Fr (fun q => q = M) w w' ∧ Blk w' M 117 (mmC pg num (pages + n) most capped wide) := by
  have c2 : w.cell? ⟨M, 2, none⟩ = some (.int .i64 pages) := hM.cell 2
  have c4 : w.cell? ⟨M, 4, none⟩ = some (.int .i64 capped) := hM.cell 4
  have z2 := hM.frozen 2
  have HM := Lib.hid hM
  clear hM
  go_enter Try.func34, Try.ntmps34
  go_wp2_with fail
  go_quiet (fail)
  go_wp2_with fail
  all_goals
    go_ret2
    refine ⟨rfl, ((Fr.refl (fun q => q = M) w).drewN nq).set_ (p := ⟨M, 2, none⟩) rfl _, ?_⟩
    have hh := (HM.out.drewN nq).set_ 2 (.int .i64 ((pages : Int) + n))
    rw [show mmC pg num (pages + n) most capped wide = #[.pointer (some ⟨pg, 0, none⟩), .int .i64 num, .int .i64 ((pages : Int) + n), .int .i64 most, .int .i64 capped, .bool wide] from by unfold mmC; rw [Int.natCast_add]]
    exact hh
set_option maxRecDepth 100000 in
theorem Grow_no {w : World} (M pg num pages most capped n : Nat) (wide : Bool) (hM : Blk w M 117 (mmC pg num pages most capped wide)) (hp : pages ≤ 65536) (hc : capped ≤ 65536) (hpc : pages ≤ capped) (hn : capped < pages + n) (hn2 : n ≤ 18446744073709551615) :
    Calls Try.prog 34 #[.pointer (some ⟨M, 0, none⟩), .int .u64 n] w fun e w' => e = .returned (.tuple #[.int .i64 0, .bool false]) ∧ ∃ k, w' = w.drewN k := by
  have c2 : w.cell? ⟨M, 2, none⟩ = some (.int .i64 pages) := hM.cell 2
  have c4 : w.cell? ⟨M, 4, none⟩ = some (.int .i64 capped) := hM.cell 4
  clear hM
  go_enter Try.func34, Try.ntmps34
  go_wp2_with fail
  go_quiet (fail)
  go_wp2_with fail
  all_goals
    go_ret2
    exact ⟨rfl, _, rfl⟩
theorem Pages_ok {w : World} (M pg num pages most capped : Nat) (wide : Bool) (hM : Blk w M 117 (mmC pg num pages most capped wide)) :
    Calls Try.prog 37 #[.pointer (some ⟨M, 0, none⟩)] w fun e w' => e = .returned (.int .i64 pages) ∧ w = w' := by
  have c2 : w.cell? ⟨M, 2, none⟩ = some (.int .i64 pages) := hM.cell 2
  clear hM
  go_enter Try.func37, Try.ntmps37
  go_wp2_with fail
  go_ret
  exact ⟨rfl, rfl⟩
set_option maxRecDepth 100000 in
theorem Fill_end {w : World} (M pg num pages most capped at_ n : Nat) (v : Int) (wide : Bool) (hM : Blk w M 117 (mmC pg num pages most capped wide)) (hp : pages ≤ 65536) (h1 : at_ ≤ 18446744073709551615) (hn : n ≤ 18446744073709551615) (hte : bey pages at_ 0 n = true ∨ 1048576 < n) :
    Calls Try.prog 31 #[.pointer (some ⟨M, 0, none⟩), .int .u64 at_, .int .u8 v, .int .u64 n] w fun e' w' => e' = .returned (if bey pages at_ 0 n = true then .tuple #[.int .i64 4, .int .i64 0] else .tuple #[.int .i64 0, .int .i64 15]) ∧ Fr (fun _ => False) w w' := by
  have hres : Try.f31.results = #[.cell 8 59, .cell 9 25] := rfl
  have HM := Lib.hid hM
  clear hM
  go_enter Try.func31, Try.ntmps31
  go_wp2_with fail
  obtain ⟨w1, hw1⟩ : ∃ w1, w1 = w.alloc (Obj.cells #[.pointer (some ⟨M, 0, none⟩)] 48) := ⟨_, rfl⟩
  have hs1 : w1.heap.size = w.heap.size + 1 := by rw [hw1, World.size_alloc]
  have hf1 : Fr (fun _ => False) w w1 := by rw [hw1]; exact (Fr.refl _ w).alloc _
  obtain ⟨w2, hw2⟩ : ∃ w2, w2 = w1.alloc (Obj.cells #[.int .i64 0] 59) := ⟨_, rfl⟩
  have hs2 : w2.heap.size = w.heap.size + 2 := by rw [hw2, World.size_alloc, hs1]
  have hb2 : Blk w2 (w.heap.size + 1) 59 #[.int .i64 0] := by rw [hw2, ← hs1]; exact Blk.new w1 59 _
  have hf2 : Fr (fun _ => False) w1 w2 := by rw [hw2]; exact (Fr.refl _ w1).alloc _
  obtain ⟨w3, hw3⟩ : ∃ w3, w3 = w2.alloc (Obj.cells #[.int .i64 0] 25) := ⟨_, rfl⟩
  have hb3 : Blk w3 (w.heap.size + 2) 25 #[.int .i64 0] := by rw [hw3, ← hs2]; exact Blk.new w2 25 _
  have hf3 : Fr (fun _ => False) w2 w3 := by rw [hw3]; exact (Fr.refl _ w2).alloc _
  have HB2 := Lib.hid (hb2.fr hf3 (fun q => q))
  have HB3 := Lib.hid hb3
  have HF := Lib.hid ((hf1.trans hf2).trans hf3)
  rw [← hw1, ← hw2, ← hw3]
  clear hw1 hw2 hw3 hs1 hs2 hf1 hf2 hf3 hb2 hb3
  have HM3 := Lib.hid (HM.out.fr HF.out (fun q => q))
  refine (beyond_ok M pg num pages most capped at_ 0 n wide HM3.out hp h1 (by omega) hn).mono ?_
  rintro e w4 ⟨rfl, rfl⟩
  cases hb : bey pages at_ 0 n with
  | true =>
    have hF1 := (Fr.refl (fun q => q = w.heap.size + 1) w3).set_ (p := ⟨w.heap.size + 1, 0, none⟩) rfl (.int .i64 4)
    have hB2 : Blk (w3.setCell ⟨w.heap.size + 1, 0, none⟩ (.int .i64 4)) (w.heap.size + 1) 59 #[.int .i64 4] := HB2.out.set_ 0 _
    have hB3 := HB3.out.fr hF1 (by omega)
    have hF2 := (Fr.refl (fun q => q = w.heap.size + 2) (w3.setCell ⟨w.heap.size + 1, 0, none⟩ (.int .i64 4))).set_ (p := ⟨w.heap.size + 1 + 1, 0, none⟩) rfl (.int .i64 0)
    have hB3' : Blk ((w3.setCell ⟨w.heap.size + 1, 0, none⟩ (.int .i64 4)).setCell ⟨w.heap.size + 1 + 1, 0, none⟩ (.int .i64 0)) (w.heap.size + 2) 25 #[.int .i64 0] := hB3.set_ 0 _
    have hB2' := hB2.fr hF2 (by omega)
    have z8 : w3.frozen? ⟨w.heap.size + 1, 0, none⟩ = false := HB2.out.frozen 0
    have c8 : w3.cell? ⟨w.heap.size + 1, 0, none⟩ = some (.int .i64 0) := HB2.out.cell 0
    have z9 : (w3.setCell ⟨w.heap.size + 1, 0, none⟩ (.int .i64 4)).frozen? ⟨w.heap.size + 1 + 1, 0, none⟩ = false := hB3.frozen 0
    have c9 : (w3.setCell ⟨w.heap.size + 1, 0, none⟩ (.int .i64 4)).cell? ⟨w.heap.size + 1 + 1, 0, none⟩ = some (.int .i64 0) := hB3.cell 0
    have r8 : ((w3.setCell ⟨w.heap.size + 1, 0, none⟩ (.int .i64 4)).setCell ⟨w.heap.size + 1 + 1, 0, none⟩ (.int .i64 0)).cell? ⟨w.heap.size + 1, 0, none⟩ = some (.int .i64 4) := hB2'.cell 0
    have r9 : ((w3.setCell ⟨w.heap.size + 1, 0, none⟩ (.int .i64 4)).setCell ⟨w.heap.size + 1 + 1, 0, none⟩ (.int .i64 0)).cell? ⟨w.heap.size + 1 + 1, 0, none⟩ = some (.int .i64 0) := hB3'.cell 0
    have HR := Lib.hid (And.intro r8 r9)
    have HFF := Lib.hid (And.intro hF1 hF2)
    clear hF1 hB2 hB3 hF2 hB3' hB2' r8 r9
    go_wp2_with fail
    have r8 := HR.out.1
    have r9 := HR.out.2
    refine bodyPost_ret (v := .tuple #[.int .i64 4, .int .i64 0]) ?_ rfl ⟨rfl, ?_⟩
    · simp [results, hres, go_sem, r8, r9]
    · exact (HF.out.trans_new HFF.out.1 (fun i h => .inr (by omega))).trans_new HFF.out.2 (fun i h => .inr (by omega))
  | false =>
    rw [hb] at hte
    have hn2 : 1048576 < n := hte.resolve_left (by decide)
    have hF1 := (Fr.refl (fun q => q = w.heap.size + 1) w3).set_ (p := ⟨w.heap.size + 1, 0, none⟩) rfl (.int .i64 0)
    have hB2 : Blk (w3.setCell ⟨w.heap.size + 1, 0, none⟩ (.int .i64 0)) (w.heap.size + 1) 59 #[.int .i64 0] := HB2.out.set_ 0 _
    have hB3 := HB3.out.fr hF1 (by omega)
    have hF2 := (Fr.refl (fun q => q = w.heap.size + 2) (w3.setCell ⟨w.heap.size + 1, 0, none⟩ (.int .i64 0))).set_ (p := ⟨w.heap.size + 1 + 1, 0, none⟩) rfl (.int .i64 15)
    have hB3' : Blk ((w3.setCell ⟨w.heap.size + 1, 0, none⟩ (.int .i64 0)).setCell ⟨w.heap.size + 1 + 1, 0, none⟩ (.int .i64 15)) (w.heap.size + 2) 25 #[.int .i64 15] := hB3.set_ 0 _
    have hB2' := hB2.fr hF2 (by omega)
    have z8 : w3.frozen? ⟨w.heap.size + 1, 0, none⟩ = false := HB2.out.frozen 0
    have c8 : w3.cell? ⟨w.heap.size + 1, 0, none⟩ = some (.int .i64 0) := HB2.out.cell 0
    have z9 : (w3.setCell ⟨w.heap.size + 1, 0, none⟩ (.int .i64 0)).frozen? ⟨w.heap.size + 1 + 1, 0, none⟩ = false := hB3.frozen 0
    have c9 : (w3.setCell ⟨w.heap.size + 1, 0, none⟩ (.int .i64 0)).cell? ⟨w.heap.size + 1 + 1, 0, none⟩ = some (.int .i64 0) := hB3.cell 0
    have r8 : ((w3.setCell ⟨w.heap.size + 1, 0, none⟩ (.int .i64 0)).setCell ⟨w.heap.size + 1 + 1, 0, none⟩ (.int .i64 15)).cell? ⟨w.heap.size + 1, 0, none⟩ = some (.int .i64 0) := hB2'.cell 0
    have r9 : ((w3.setCell ⟨w.heap.size + 1, 0, none⟩ (.int .i64 0)).setCell ⟨w.heap.size + 1 + 1, 0, none⟩ (.int .i64 15)).cell? ⟨w.heap.size + 1 + 1, 0, none⟩ = some (.int .i64 15) := hB3'.cell 0
    have HR := Lib.hid (And.intro r8 r9)
    have HFF := Lib.hid (And.intro hF1 hF2)
    clear hF1 hB2 hB3 hF2 hB3' hB2' r8 r9
    go_wp2_with fail
    all_goals
      have r8 := HR.out.1
      have r9 := HR.out.2
      refine bodyPost_ret (v := .tuple #[.int .i64 0, .int .i64 15]) ?_ rfl ⟨rfl, ?_⟩
      · simp [results, hres, go_sem, r8, r9]
      · exact (HF.out.trans_new HFF.out.1 (fun i h => .inr (by omega))).trans_new HFF.out.2 (fun i h => .inr (by omega))

end Go.Proofs.Ytlnffcledpccjaa
