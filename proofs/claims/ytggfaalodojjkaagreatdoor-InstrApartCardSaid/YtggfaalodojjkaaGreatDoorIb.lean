/-
  instr: bound.
-/
import Derived.Test.YtggfaalodojjkaaGreatDoorIa
import Derived.BigGuard
namespace Go.Proofs.YtggfaalodojjkaaGreatDoor
open Go.RowKit
set_option linter.unusedVariables false
set_option linter.unusedSimpArgs false
structure Bn where
  a : Int
  b : Int
  al : Int
  lb : Int
def Bn.v (m : Bn) : Value := .agg #[.int .u64 m.a, .int .u64 m.b, .int .i64 m.al, .int .i64 m.lb]
/-- the bounds of a form; y: what a constant gives -/
def bn (f : Int) (y : Nat) : Bn := if f = 0 then ⟨0, 0, 0, 0⟩ else if f = 3 then ⟨4294967295, 0, 0, 100⟩ else if f = 5 ∨ f = 10 then ⟨4294967295, 4294967295, 0, 0⟩ else if f = 8 then ⟨4294967295, 18446744073709551615, 31, 0⟩ else if f = 11 then (if y = 127 then ⟨4294967295, 0, 0, 0⟩ else ⟨18446744073709551615, 0, 0, 0⟩) else ⟨4294967295, 0, 0, 0⟩
theorem results55 : Tryz.f55.results = #[.cell 2 107] := by kernel_rfl
theorem heap2 (w : World) (a b : Obj) : ((w.alloc a).alloc b).heap[w.heap.size + 1]? = some b := by
  have h := heap_alloc_new (w.alloc a) b
  rwa [show (w.alloc a).heap.size = w.heap.size + 1 by simp] at h
set_option maxHeartbeats 4000000 in
set_option maxRecDepth 100000 in
theorem bound0_ok (cd : Int) (nm : ByteArray) (At Ag : Option Addr) (nt ct ng cg : Nat) (w : World) :
    Calls Tryz.prog 55 #[.agg #[.int .i64 cd, .string nm, .int .i64 0, .slice At nt ct, .slice Ag ng cg]] w fun e w' => e = .returned (.agg #[.int .u64 0, .int .u64 0, .int .i64 0, .int .i64 0]) ∧ Below w.heap.size w w' := by
  have HB := Lib.hid ((Below.refl w.heap.size w).alloc (Nat.le_refl _) (.cells #[.int .i64 cd, .string nm, .int .i64 0, .slice At nt ct, .slice Ag ng cg] 61))
  go_enter Tryz.func55, Tryz.ntmps55
  go_wp2
  refine bodyPost_ret (v := .agg #[.int .u64 0, .int .u64 0, .int .i64 0, .int .i64 0]) (results_cell_row results55 _ _ (w.heap.size + 1) 107 _ (0, 0) _ rfl (heap2 w _ _) Tryz.underlying107 rfl (by kernel_rfl)) rfl ?_
  exact ⟨rfl, HB.out.alloc HB.out.size _⟩
set_option maxHeartbeats 4000000 in
set_option maxRecDepth 100000 in
theorem bound3_ok (cd : Int) (nm : ByteArray) (At Ag : Option Addr) (nt ct ng cg : Nat) (w : World) :
    Calls Tryz.prog 55 #[.agg #[.int .i64 cd, .string nm, .int .i64 3, .slice At nt ct, .slice Ag ng cg]] w fun e w' => e = .returned (.agg #[.int .u64 4294967295, .int .u64 0, .int .i64 0, .int .i64 100]) ∧ Below w.heap.size w w' := by
  have HB := Lib.hid ((Below.refl w.heap.size w).alloc (Nat.le_refl _) (.cells #[.int .i64 cd, .string nm, .int .i64 3, .slice At nt ct, .slice Ag ng cg] 61))
  go_enter Tryz.func55, Tryz.ntmps55
  go_wp2
  refine bodyPost_ret (v := .agg #[.int .u64 4294967295, .int .u64 0, .int .i64 0, .int .i64 100]) (results_cell_row results55 _ _ (w.heap.size + 1) 107 _ (0, 0) _ rfl (heap2 w _ _) Tryz.underlying107 rfl (by kernel_rfl)) rfl ?_
  exact ⟨rfl, HB.out.alloc HB.out.size _⟩
set_option maxHeartbeats 4000000 in
set_option maxRecDepth 100000 in
theorem bound5_ok (cd : Int) (nm : ByteArray) (At Ag : Option Addr) (nt ct ng cg : Nat) (w : World) :
    Calls Tryz.prog 55 #[.agg #[.int .i64 cd, .string nm, .int .i64 5, .slice At nt ct, .slice Ag ng cg]] w fun e w' => e = .returned (.agg #[.int .u64 4294967295, .int .u64 4294967295, .int .i64 0, .int .i64 0]) ∧ Below w.heap.size w w' := by
  have HB := Lib.hid ((Below.refl w.heap.size w).alloc (Nat.le_refl _) (.cells #[.int .i64 cd, .string nm, .int .i64 5, .slice At nt ct, .slice Ag ng cg] 61))
  go_enter Tryz.func55, Tryz.ntmps55
  go_wp2
  refine bodyPost_ret (v := .agg #[.int .u64 4294967295, .int .u64 4294967295, .int .i64 0, .int .i64 0]) (results_cell_row results55 _ _ (w.heap.size + 1) 107 _ (0, 0) _ rfl (heap2 w _ _) Tryz.underlying107 rfl (by kernel_rfl)) rfl ?_
  exact ⟨rfl, HB.out.alloc HB.out.size _⟩
set_option maxHeartbeats 4000000 in
set_option maxRecDepth 100000 in
theorem bound10_ok (cd : Int) (nm : ByteArray) (At Ag : Option Addr) (nt ct ng cg : Nat) (w : World) :
    Calls Tryz.prog 55 #[.agg #[.int .i64 cd, .string nm, .int .i64 10, .slice At nt ct, .slice Ag ng cg]] w fun e w' => e = .returned (.agg #[.int .u64 4294967295, .int .u64 4294967295, .int .i64 0, .int .i64 0]) ∧ Below w.heap.size w w' := by
  have HB := Lib.hid ((Below.refl w.heap.size w).alloc (Nat.le_refl _) (.cells #[.int .i64 cd, .string nm, .int .i64 10, .slice At nt ct, .slice Ag ng cg] 61))
  go_enter Tryz.func55, Tryz.ntmps55
  go_wp2
  refine bodyPost_ret (v := .agg #[.int .u64 4294967295, .int .u64 4294967295, .int .i64 0, .int .i64 0]) (results_cell_row results55 _ _ (w.heap.size + 1) 107 _ (0, 0) _ rfl (heap2 w _ _) Tryz.underlying107 rfl (by kernel_rfl)) rfl ?_
  exact ⟨rfl, HB.out.alloc HB.out.size _⟩
set_option maxHeartbeats 4000000 in
set_option maxRecDepth 100000 in
theorem bound8_ok (cd : Int) (nm : ByteArray) (At Ag : Option Addr) (nt ct ng cg : Nat) (w : World) :
    Calls Tryz.prog 55 #[.agg #[.int .i64 cd, .string nm, .int .i64 8, .slice At nt ct, .slice Ag ng cg]] w fun e w' => e = .returned (.agg #[.int .u64 4294967295, .int .u64 18446744073709551615, .int .i64 31, .int .i64 0]) ∧ Below w.heap.size w w' := by
  have HB := Lib.hid ((Below.refl w.heap.size w).alloc (Nat.le_refl _) (.cells #[.int .i64 cd, .string nm, .int .i64 8, .slice At nt ct, .slice Ag ng cg] 61))
  go_enter Tryz.func55, Tryz.ntmps55
  go_wp2
  refine bodyPost_ret (v := .agg #[.int .u64 4294967295, .int .u64 18446744073709551615, .int .i64 31, .int .i64 0]) (results_cell_row results55 _ _ (w.heap.size + 1) 107 _ (0, 0) _ rfl (heap2 w _ _) Tryz.underlying107 rfl (by kernel_rfl)) rfl ?_
  exact ⟨rfl, HB.out.alloc HB.out.size _⟩
set_option maxHeartbeats 4000000 in
set_option maxRecDepth 100000 in
theorem boundX_ok (f : Int) (h0 : f ≠ 0) (h3 : f ≠ 3) (h5 : f ≠ 5) (h10 : f ≠ 10) (h8 : f ≠ 8) (h11 : f ≠ 11) (cd : Int) (nm : ByteArray) (At Ag : Option Addr) (nt ct ng cg : Nat) (w : World) :
    Calls Tryz.prog 55 #[.agg #[.int .i64 cd, .string nm, .int .i64 f, .slice At nt ct, .slice Ag ng cg]] w fun e w' => e = .returned (.agg #[.int .u64 4294967295, .int .u64 0, .int .i64 0, .int .i64 0]) ∧ Below w.heap.size w w' := by
  have HB := Lib.hid ((Below.refl w.heap.size w).alloc (Nat.le_refl _) (.cells #[.int .i64 cd, .string nm, .int .i64 f, .slice At nt ct, .slice Ag ng cg] 61))
  have e0 : (f == 0) = false := by simpa using h0
  have e3 : (f == 3) = false := by simpa using h3
  have e5 : (f == 5) = false := by simpa using h5
  have e10 : (f == 10) = false := by simpa using h10
  have e8 : (f == 8) = false := by simpa using h8
  have e11 : (f == 11) = false := by simpa using h11
  clear h0 h3 h5 h10 h8 h11
  go_enter Tryz.func55, Tryz.ntmps55
  go_wp2
  refine bodyPost_ret (v := .agg #[.int .u64 4294967295, .int .u64 0, .int .i64 0, .int .i64 0]) (results_cell_row results55 _ _ (w.heap.size + 1) 107 _ (0, 0) _ rfl (heap2 w _ _) Tryz.underlying107 rfl (by kernel_rfl)) rfl ?_
  exact ⟨rfl, HB.out.alloc HB.out.size _⟩
set_option maxHeartbeats 4000000 in
set_option maxRecDepth 100000 in
theorem bound11_127 (cd : Int) (nm : ByteArray) (At : Option Addr) (nt ct g ng cg : Nat) (w : World) (hng : 0 < ng) (hcg : ng ≤ cg) (hcm : cg ≤ 9223372036854775807) (hgl : g < w.heap.size) (hc : w.cell? ⟨g, 0, none⟩ = some (.int .u8 127)) (hnt : nt ≤ ct) (hct : ct ≤ 9223372036854775807) :
    Calls Tryz.prog 55 #[.agg #[.int .i64 cd, .string nm, .int .i64 11, .slice At nt ct, .slice (some ⟨g, 0, none⟩) ng cg]] w fun e w' => e = .returned (.agg #[.int .u64 4294967295, .int .u64 0, .int .i64 0, .int .i64 0]) ∧ Below w.heap.size w w' := by
  have hb0 : Below w.heap.size w ((w.alloc (.cells #[.int .i64 cd, .string nm, .int .i64 11, .slice At nt ct, .slice (some ⟨g, 0, none⟩) ng cg] 61)).alloc (.cells #[.int .u64 0, .int .u64 0, .int .i64 0, .int .i64 0] 107)) := ((Below.refl w.heap.size w).alloc (Nat.le_refl _) _).alloc (Nat.le_of_lt (by simp)) _
  have HZ : Hid (Blk ((w.alloc (.cells #[.int .i64 cd, .string nm, .int .i64 11, .slice At nt ct, .slice (some ⟨g, 0, none⟩) ng cg] 61)).alloc (.cells #[.int .u64 0, .int .u64 0, .int .i64 0, .int .i64 0] 107)) (w.heap.size + 1) 107 #[.int .u64 0, .int .u64 0, .int .i64 0, .int .i64 0]) := Lib.hid (heap2 w _ _)
  have HC := Lib.hid (bits33_ok cd 11 nm At nt ct g ng cg 127 (by decide) ((w.alloc (.cells #[.int .i64 cd, .string nm, .int .i64 11, .slice At nt ct, .slice (some ⟨g, 0, none⟩) ng cg] 61)).alloc (.cells #[.int .u64 0, .int .u64 0, .int .i64 0, .int .i64 0] 107)) hng hcg hcm (Nat.lt_of_lt_of_le hgl hb0.size) ((hb0.cell (p := ⟨g, 0, none⟩) hgl).trans hc) hnt hct)
  have HB := Lib.hid hb0
  have hbt : btT 127 = 32 := by decide
  rw [hbt] at HC
  clear hb0 hbt hc hgl
  go_enter Tryz.func55, Tryz.ntmps55
  go_wp2_with (go_at_call 33; (with_reducible refine HC.out.mono ?_); rintro e w1 ⟨rfl, hb⟩
               have HB1 := Lib.hid (HB.out.trans (hb.mono HB.out.size))
               have HZ1 := Lib.hid (HZ.out.below hb HZ.out.lt)
               have z0 := HZ1.out.cell 0
               have z1 := HZ1.out.cell 1
               have z2 := HZ1.out.cell 2
               have z3 := HZ1.out.cell 3
               have f0 := HZ1.out.frozen 0
               have f1 := HZ1.out.frozen 1
               have f2 := HZ1.out.frozen 2
               have f3 := HZ1.out.frozen 3
               clear hb)
  have hz : Blk ((((w1.setCell ⟨w.heap.size + 1, 0, none⟩ (.int .u64 4294967295)).setCell ⟨w.heap.size + 1, 1, none⟩ (.int .u64 0)).setCell ⟨w.heap.size + 1, 2, none⟩ (.int .i64 0)).setCell ⟨w.heap.size + 1, 3, none⟩ (.int .i64 0)) (w.heap.size + 1) 107 #[.int .u64 4294967295, .int .u64 0, .int .i64 0, .int .i64 0] := (((HZ1.out.set_ 0 _).set_ 1 _).set_ 2 _).set_ 3 _
  have hfr := ((((Fr.refl (fun k => k = w.heap.size + 1) w1).set_ (p := ⟨w.heap.size + 1, 0, none⟩) rfl (.int .u64 4294967295)).set_ (p := ⟨w.heap.size + 1, 1, none⟩) rfl (.int .u64 0)).set_ (p := ⟨w.heap.size + 1, 2, none⟩) rfl (.int .i64 0)).set_ (p := ⟨w.heap.size + 1, 3, none⟩) rfl (.int .i64 0)
  refine bodyPost_ret (v := .agg #[.int .u64 4294967295, .int .u64 0, .int .i64 0, .int .i64 0]) (results_cell_row results55 _ _ (w.heap.size + 1) 107 _ (0, 0) _ rfl hz Tryz.underlying107 rfl (by kernel_rfl)) rfl ?_
  exact ⟨rfl, hfr.below HB1.out HB1.out.size (fun k hk => by omega)⟩
set_option maxHeartbeats 4000000 in
set_option maxRecDepth 100000 in
theorem bound11_126 (cd : Int) (nm : ByteArray) (At : Option Addr) (nt ct g ng cg : Nat) (w : World) (hng : 0 < ng) (hcg : ng ≤ cg) (hcm : cg ≤ 9223372036854775807) (hgl : g < w.heap.size) (hc : w.cell? ⟨g, 0, none⟩ = some (.int .u8 126)) (hnt : nt ≤ ct) (hct : ct ≤ 9223372036854775807) :
    Calls Tryz.prog 55 #[.agg #[.int .i64 cd, .string nm, .int .i64 11, .slice At nt ct, .slice (some ⟨g, 0, none⟩) ng cg]] w fun e w' => e = .returned (.agg #[.int .u64 18446744073709551615, .int .u64 0, .int .i64 0, .int .i64 0]) ∧ Below w.heap.size w w' := by
  have hb0 : Below w.heap.size w ((w.alloc (.cells #[.int .i64 cd, .string nm, .int .i64 11, .slice At nt ct, .slice (some ⟨g, 0, none⟩) ng cg] 61)).alloc (.cells #[.int .u64 0, .int .u64 0, .int .i64 0, .int .i64 0] 107)) := ((Below.refl w.heap.size w).alloc (Nat.le_refl _) _).alloc (Nat.le_of_lt (by simp)) _
  have HZ : Hid (Blk ((w.alloc (.cells #[.int .i64 cd, .string nm, .int .i64 11, .slice At nt ct, .slice (some ⟨g, 0, none⟩) ng cg] 61)).alloc (.cells #[.int .u64 0, .int .u64 0, .int .i64 0, .int .i64 0] 107)) (w.heap.size + 1) 107 #[.int .u64 0, .int .u64 0, .int .i64 0, .int .i64 0]) := Lib.hid (heap2 w _ _)
  have HC := Lib.hid (bits33_ok cd 11 nm At nt ct g ng cg 126 (by decide) ((w.alloc (.cells #[.int .i64 cd, .string nm, .int .i64 11, .slice At nt ct, .slice (some ⟨g, 0, none⟩) ng cg] 61)).alloc (.cells #[.int .u64 0, .int .u64 0, .int .i64 0, .int .i64 0] 107)) hng hcg hcm (Nat.lt_of_lt_of_le hgl hb0.size) ((hb0.cell (p := ⟨g, 0, none⟩) hgl).trans hc) hnt hct)
  have HB := Lib.hid hb0
  have hbt : btT 126 = 64 := by decide
  rw [hbt] at HC
  clear hb0 hbt hc hgl
  go_enter Tryz.func55, Tryz.ntmps55
  go_wp2_with (go_at_call 33; (with_reducible refine HC.out.mono ?_); rintro e w1 ⟨rfl, hb⟩
               have HB1 := Lib.hid (HB.out.trans (hb.mono HB.out.size))
               have HZ1 := Lib.hid (HZ.out.below hb HZ.out.lt)
               have z0 := HZ1.out.cell 0
               have z1 := HZ1.out.cell 1
               have z2 := HZ1.out.cell 2
               have z3 := HZ1.out.cell 3
               have f0 := HZ1.out.frozen 0
               have f1 := HZ1.out.frozen 1
               have f2 := HZ1.out.frozen 2
               have f3 := HZ1.out.frozen 3
               clear hb)
  have hz : Blk ((((w1.setCell ⟨w.heap.size + 1, 0, none⟩ (.int .u64 18446744073709551615)).setCell ⟨w.heap.size + 1, 1, none⟩ (.int .u64 0)).setCell ⟨w.heap.size + 1, 2, none⟩ (.int .i64 0)).setCell ⟨w.heap.size + 1, 3, none⟩ (.int .i64 0)) (w.heap.size + 1) 107 #[.int .u64 18446744073709551615, .int .u64 0, .int .i64 0, .int .i64 0] := (((HZ1.out.set_ 0 _).set_ 1 _).set_ 2 _).set_ 3 _
  have hfr := ((((Fr.refl (fun k => k = w.heap.size + 1) w1).set_ (p := ⟨w.heap.size + 1, 0, none⟩) rfl (.int .u64 18446744073709551615)).set_ (p := ⟨w.heap.size + 1, 1, none⟩) rfl (.int .u64 0)).set_ (p := ⟨w.heap.size + 1, 2, none⟩) rfl (.int .i64 0)).set_ (p := ⟨w.heap.size + 1, 3, none⟩) rfl (.int .i64 0)
  refine bodyPost_ret (v := .agg #[.int .u64 18446744073709551615, .int .u64 0, .int .i64 0, .int .i64 0]) (results_cell_row results55 _ _ (w.heap.size + 1) 107 _ (0, 0) _ rfl hz Tryz.underlying107 rfl (by kernel_rfl)) rfl ?_
  exact ⟨rfl, hfr.below HB1.out HB1.out.size (fun k hk => by omega)⟩
end Go.Proofs.YtggfaalodojjkaaGreatDoor
