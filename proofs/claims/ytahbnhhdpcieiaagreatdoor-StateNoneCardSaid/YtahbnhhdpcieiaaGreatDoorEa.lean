/-
  Fit of an empty module, part by part.
-/
import Derived.Test.YtahbnhhdpcieiaaGreatDoorAe
import Derived.Deep.RegionWith
import Derived.OwnWalk
import Derived.StillTailTactics
import Derived.Deep.RegionLaw
import Derived.WalkSmall
import Derived.Deep.RegionHeld3
import Derived.Deep.DeepCutAuto
import Derived.Laws.EntriesVeiled
import Derived.Carry
namespace Go.Proofs.YtahbnhhdpcieiaaGreatDoor
open Go.RowKit
set_option linter.unusedVariables false
set_option linter.unusedSimpArgs false
def ZM : Array Value := #[.slice none 0 0, .slice none 0 0, .slice none 0 0, .int .i64 (-1), .slice none 0 0, .slice none 0 0, .slice none 0 0, .int .i64 (-1), .slice none 0 0, .slice none 0 0]
theorem below_drew {B : Nat} {w w1 : World} (h : Below B w w1) : Below B w w1.drew := ⟨h.os, h.tape, h.output, h.size, h.block⟩

set_option maxRecDepth 100000 in
theorem each62_nil (m : Int) (hm : 0 ≤ m) (F : Value) (w : World) : Calls Tryz.prog 177 #[.slice none 0 0, .int .i64 m, F] w fun e w' => e = .returned (.int .i64 0) ∧ w = w' := by
  go_enter Tryz.func177, Tryz.ntmps177
  go_wp2
  go_loop [16] (fun v16 => v16 = .int .i64 0) (fun _ => 0)
  case atStart => rfl
  case round =>
    obtain rfl := hrel
    go_wp2
    go_ret
    exact ⟨rfl, rfl⟩

set_option maxRecDepth 100000 in
theorem each66_nil (m : Int) (hm : 0 ≤ m) (F : Value) (w : World) : Calls Tryz.prog 181 #[.slice none 0 0, .int .i64 m, F] w fun e w' => e = .returned (.int .i64 0) ∧ w = w' := by
  go_enter Tryz.func181, Tryz.ntmps181
  go_wp2
  go_loop [16] (fun v16 => v16 = .int .i64 0) (fun _ => 0)
  case atStart => rfl
  case round =>
    obtain rfl := hrel
    go_wp2
    go_ret
    exact ⟨rfl, rfl⟩

set_option maxRecDepth 100000 in
theorem each68_nil (m : Int) (hm : 0 ≤ m) (F : Value) (w : World) : Calls Tryz.prog 185 #[.slice none 0 0, .int .i64 m, F] w fun e w' => e = .returned (.int .i64 0) ∧ w = w' := by
  go_enter Tryz.func185, Tryz.ntmps185
  go_wp2
  go_loop [16] (fun v16 => v16 = .int .i64 0) (fun _ => 0)
  case atStart => rfl
  case round =>
    obtain rfl := hrel
    go_wp2
    go_ret
    exact ⟨rfl, rfl⟩

set_option maxRecDepth 100000 in
theorem each70_nil (m : Int) (hm : 0 ≤ m) (F : Value) (w : World) : Calls Tryz.prog 187 #[.slice none 0 0, .int .i64 m, F] w fun e w' => e = .returned (.int .i64 0) ∧ w = w' := by
  go_enter Tryz.func187, Tryz.ntmps187
  go_wp2
  go_loop [16] (fun v16 => v16 = .int .i64 0) (fun _ => 0)
  case atStart => rfl
  case round =>
    obtain rfl := hrel
    go_wp2
    go_ret
    exact ⟨rfl, rfl⟩

set_option maxRecDepth 100000 in
theorem each73_nil (m : Int) (hm : 0 ≤ m) (F : Value) (w : World) : Calls Tryz.prog 190 #[.slice none 0 0, .int .i64 m, F] w fun e w' => e = .returned (.int .i64 0) ∧ w = w' := by
  go_enter Tryz.func190, Tryz.ntmps190
  go_wp2
  go_loop [16] (fun v16 => v16 = .int .i64 0) (fun _ => 0)
  case atStart => rfl
  case round =>
    obtain rfl := hrel
    go_wp2
    go_ret
    exact ⟨rfl, rfl⟩

set_option maxRecDepth 100000 in
theorem each75_nil (m : Int) (hm : 0 ≤ m) (F : Value) (w : World) : Calls Tryz.prog 192 #[.slice none 0 0, .int .i64 m, F] w fun e w' => e = .returned (.int .i64 0) ∧ w = w' := by
  go_enter Tryz.func192, Tryz.ntmps192
  go_wp2
  go_loop [16] (fun v16 => v16 = .int .i64 0) (fun _ => 0)
  case atStart => rfl
  case round =>
    obtain rfl := hrel
    go_wp2
    go_ret
    exact ⟨rfl, rfl⟩

set_option maxRecDepth 100000 in
theorem each79_nil (m : Int) (hm : 0 ≤ m) (F : Value) (w : World) : Calls Tryz.prog 198 #[.slice none 0 0, .int .i64 m, F] w fun e w' => e = .returned (.int .i64 0) ∧ w = w' := by
  go_enter Tryz.func198, Tryz.ntmps198
  go_wp2
  go_loop [16] (fun v16 => v16 = .int .i64 0) (fun _ => 0)
  case atStart => rfl
  case round =>
    obtain rfl := hrel
    go_wp2
    go_ret
    exact ⟨rfl, rfl⟩

set_option maxRecDepth 100000 in
theorem each82_nil (m : Int) (hm : 0 ≤ m) (F : Value) (w : World) : Calls Tryz.prog 201 #[.slice none 0 0, .int .i64 m, F] w fun e w' => e = .returned (.int .i64 0) ∧ w = w' := by
  go_enter Tryz.func201, Tryz.ntmps201
  go_wp2
  go_loop [16] (fun v16 => v16 = .int .i64 0) (fun _ => 0)
  case atStart => rfl
  case round =>
    obtain rfl := hrel
    go_wp2
    go_ret
    exact ⟨rfl, rfl⟩

set_option maxRecDepth 100000 in
theorem unless_yes (e : Int) (w : World) : Calls Tryz.prog 179 #[.bool true, .int .i64 e] w fun e w' => e = .returned (.int .i64 0) ∧ w = w' := by
  go_enter Tryz.func179, Tryz.ntmps179
  go_wp2
  go_ret
  exact ⟨rfl, rfl⟩

set_option maxRecDepth 100000 in
theorem part38_nil (g : Nat) (w : World) (hm : Blk w g 92 ZM) : Calls Tryz.prog 156 #[.pointer (some ⟨g, 0, none⟩)] w fun e w' => e = .returned (.int .i64 0) ∧ Below w.heap.size w w' := by
  have x0 := hm.cell 0
  have x1 := hm.cell 1
  have x2 := hm.cell 2
  have x3 := hm.cell 3
  have x4 := hm.cell 4
  have x5 := hm.cell 5
  have x6 := hm.cell 6
  have x7 := hm.cell 7
  have x8 := hm.cell 8
  have x9 := hm.cell 9
  clear hm
  unfold ZM at *
  go_enter Tryz.func156, Tryz.ntmps156
  go_wp2_with (go_at_call 177; (refine (each62_nil _ (by decide) _ _).mono ?_); rintro e w1 ⟨rfl, rfl⟩)
  go_ret
  exact ⟨rfl, Below.refl _ _⟩

set_option maxRecDepth 100000 in
theorem part42_nil (g : Nat) (w : World) (hm : Blk w g 92 ZM) : Calls Tryz.prog 160 #[.pointer (some ⟨g, 0, none⟩)] w fun e w' => e = .returned (.int .i64 0) ∧ Below w.heap.size w w' := by
  have x0 := hm.cell 0
  have x1 := hm.cell 1
  have x2 := hm.cell 2
  have x3 := hm.cell 3
  have x4 := hm.cell 4
  have x5 := hm.cell 5
  have x6 := hm.cell 6
  have x7 := hm.cell 7
  have x8 := hm.cell 8
  have x9 := hm.cell 9
  clear hm
  unfold ZM at *
  go_enter Tryz.func160, Tryz.ntmps160
  go_wp2_with (go_at_call 187; (refine (each70_nil _ (by decide) _ _).mono ?_); rintro e w1 ⟨rfl, rfl⟩)
  go_ret
  exact ⟨rfl, Below.refl _ _⟩

set_option maxRecDepth 100000 in
theorem part43_nil (g : Nat) (w : World) (hm : Blk w g 92 ZM) : Calls Tryz.prog 161 #[.pointer (some ⟨g, 0, none⟩)] w fun e w' => e = .returned (.int .i64 0) ∧ Below w.heap.size w w' := by
  have x0 := hm.cell 0
  have x1 := hm.cell 1
  have x2 := hm.cell 2
  have x3 := hm.cell 3
  have x4 := hm.cell 4
  have x5 := hm.cell 5
  have x6 := hm.cell 6
  have x7 := hm.cell 7
  have x8 := hm.cell 8
  have x9 := hm.cell 9
  clear hm
  unfold ZM at *
  go_enter Tryz.func161, Tryz.ntmps161
  go_wp2_with (go_at_call 190; (refine (each73_nil _ (by decide) _ _).mono ?_); rintro e w1 ⟨rfl, rfl⟩)
  go_ret
  exact ⟨rfl, Below.refl _ _⟩

set_option maxRecDepth 100000 in
theorem part39_nil (g : Nat) (w : World) (hm : Blk w g 92 ZM) : Calls Tryz.prog 157 #[.pointer (some ⟨g, 0, none⟩)] w fun e w' => e = .returned (.int .i64 0) ∧ Below w.heap.size w w' := by
  have hm : Blk (w.alloc (.cells #[.pointer (some ⟨g, 0, none⟩)] 43)) g 92 ZM := hm.alloc _
  have x0 := hm.cell 0
  have x1 := hm.cell 1
  have x2 := hm.cell 2
  have x3 := hm.cell 3
  have x4 := hm.cell 4
  have x5 := hm.cell 5
  have x6 := hm.cell 6
  have x7 := hm.cell 7
  have x8 := hm.cell 8
  have x9 := hm.cell 9
  clear hm
  unfold ZM at *
  go_enter Tryz.func157, Tryz.ntmps157
  go_wp2_with (go_at_call 181; (refine (each66_nil _ (by decide) _ _).mono ?_); rintro e w1 ⟨rfl, rfl⟩)
  go_ret
  exact ⟨rfl, (Below.refl _ _).alloc (Nat.le_refl _) _⟩

set_option maxRecDepth 100000 in
theorem part47_nil (g : Nat) (w : World) (hm : Blk w g 92 ZM) : Calls Tryz.prog 165 #[.pointer (some ⟨g, 0, none⟩)] w fun e w' => e = .returned (.int .i64 0) ∧ Below w.heap.size w w' := by
  have hm : Blk (w.alloc (.cells #[.pointer (some ⟨g, 0, none⟩)] 43)) g 92 ZM := hm.alloc _
  have x0 := hm.cell 0
  have x1 := hm.cell 1
  have x2 := hm.cell 2
  have x3 := hm.cell 3
  have x4 := hm.cell 4
  have x5 := hm.cell 5
  have x6 := hm.cell 6
  have x7 := hm.cell 7
  have x8 := hm.cell 8
  have x9 := hm.cell 9
  clear hm
  unfold ZM at *
  go_enter Tryz.func165, Tryz.ntmps165
  go_wp2_with (go_at_call 201; (refine (each82_nil _ (by decide) _ _).mono ?_); rintro e w1 ⟨rfl, rfl⟩)
  go_ret
  exact ⟨rfl, (Below.refl _ _).alloc (Nat.le_refl _) _⟩

set_option maxRecDepth 100000 in
theorem part41_nil (g : Nat) (w : World) (hm : Blk w g 92 ZM) : Calls Tryz.prog 159 #[.pointer (some ⟨g, 0, none⟩)] w fun e w' => e = .returned (.int .i64 0) ∧ Below w.heap.size w w' := by
  have x0 := hm.cell 0
  have x1 := hm.cell 1
  have x2 := hm.cell 2
  have x3 := hm.cell 3
  have x4 := hm.cell 4
  have x5 := hm.cell 5
  have x6 := hm.cell 6
  have x7 := hm.cell 7
  have x8 := hm.cell 8
  have x9 := hm.cell 9
  clear hm
  unfold ZM at *
  go_enter Tryz.func159, Tryz.ntmps159
  go_wp2_with (go_at_call 179; (refine (unless_yes _ _).mono ?_); rintro e w1 ⟨rfl, rfl⟩)
  go_ret
  exact ⟨rfl, Below.refl _ _⟩
set_option maxRecDepth 100000 in
theorem part45_nil (g : Nat) (w : World) (hm : Blk w g 92 ZM) : Calls Tryz.prog 163 #[.pointer (some ⟨g, 0, none⟩)] w fun e w' => e = .returned (.int .i64 0) ∧ Below w.heap.size w w' := by
  have x0 := hm.cell 0
  have x1 := hm.cell 1
  have x2 := hm.cell 2
  have x3 := hm.cell 3
  have x4 := hm.cell 4
  have x5 := hm.cell 5
  have x6 := hm.cell 6
  have x7 := hm.cell 7
  have x8 := hm.cell 8
  have x9 := hm.cell 9
  clear hm
  unfold ZM at *
  go_enter Tryz.func163, Tryz.ntmps163
  go_wp2
  go_ret
  exact ⟨rfl, Below.refl _ _⟩
set_option maxRecDepth 100000 in
theorem part46_nil (g : Nat) (w : World) (hm : Blk w g 92 ZM) : Calls Tryz.prog 164 #[.pointer (some ⟨g, 0, none⟩)] w fun e w' => e = .returned (.int .i64 0) ∧ Below w.heap.size w w' := by
  have hm : Blk (w.alloc (.cells #[.pointer (some ⟨g, 0, none⟩)] 43)) g 92 ZM := hm.alloc _
  have x0 := hm.cell 0
  have x1 := hm.cell 1
  have x2 := hm.cell 2
  have x3 := hm.cell 3
  have x4 := hm.cell 4
  have x5 := hm.cell 5
  have x6 := hm.cell 6
  have x7 := hm.cell 7
  have x8 := hm.cell 8
  have x9 := hm.cell 9
  have x8' := fun o => (hm.alloc o).cell 8
  clear hm
  unfold ZM at *
  go_enter Tryz.func164, Tryz.ntmps164
  go_wp2_with (go_at_call 198; (refine (each79_nil _ (by decide) _ _).mono ?_); rintro e w1 ⟨rfl, rfl⟩)
  go_ret
  exact ⟨rfl, ((Below.refl _ _).alloc (Nat.le_refl _) _).alloc (by simp) _⟩
set_option maxRecDepth 100000 in
theorem part44_nil (g : Nat) (w : World) (hm : Blk w g 92 ZM) : Calls Tryz.prog 162 #[.pointer (some ⟨g, 0, none⟩)] w fun e w' => e = .returned (.int .i64 0) ∧ Below w.heap.size w w' := by
  have hm : Blk (w.alloc (.cells #[.pointer (some ⟨g, 0, none⟩)] 43)) g 92 ZM := hm.alloc _
  have x0 := hm.cell 0
  have x1 := hm.cell 1
  have x2 := hm.cell 2
  have x3 := hm.cell 3
  have x4 := hm.cell 4
  have x5 := hm.cell 5
  have x6 := hm.cell 6
  have x7 := hm.cell 7
  have x8 := hm.cell 8
  have x9 := hm.cell 9
  have x6' := fun o o' => ((hm.alloc o).alloc o').cell 6
  have hmm := @run_makeMap Tryz.prog
  clear hm
  unfold ZM at *
  go_enter Tryz.func162, Tryz.ntmps162
  go_wp2_with (go_at_call 192; (refine (each75_nil _ (by decide) _ _).mono ?_); rintro e w1 ⟨rfl, rfl⟩)
  go_ret
  exact ⟨rfl, (((Below.refl _ _).alloc (Nat.le_refl _) _).alloc (by simp) _).alloc (by simp; omega) _⟩

set_option maxHeartbeats 4000000 in
set_option maxRecDepth 100000 in
/-- funcs, whatever 'each' answers of them -/
theorem part40_gen (g : Nat) (A1 A2 : Option Addr) (n1 c1 n2 c2 : Nat) (h1 : n1 ≤ 1000) (cs : Array Value) (hc1 : cs[1]? = some (.slice A1 n1 c1)) (hc2 : cs[2]? = some (.slice A2 n2 c2)) (w : World) (hm : Blk w g 92 cs)
    (hE : ∀ W, Calls Tryz.prog 185 #[.slice A2 n2 c2, .int .i64 (IntKind.i64.wrap (100 - (n1 : Int))), .func (.func 186) #[] #[.pointer (some ⟨w.heap.size, 0, none⟩)]] W fun e w' => e = .returned (.int .i64 0) ∧ W = w') :
    Calls Tryz.prog 158 #[.pointer (some ⟨g, 0, none⟩)] w fun e w' => e = .returned (.int .i64 0) ∧ Below w.heap.size w w' := by
  have HE := Lib.hid hE
  have hm : Blk (w.alloc (.cells #[.pointer (some ⟨g, 0, none⟩)] 43)) g 92 cs := hm.alloc _
  have y0 : (w.alloc (.cells #[.pointer (some ⟨g, 0, none⟩)] 43)).cell? ⟨w.heap.size, 0, none⟩ = some (.pointer (some ⟨g, 0, none⟩)) := (Blk.new w 43 _).cell 0
  have y1 := (hm.cell 1).trans hc1
  have y2 := (hm.cell 2).trans hc2
  clear hm hE hc1 hc2
  go_enter Tryz.func158, Tryz.ntmps158
  go_upto_region 1 with fail
  refine wp_region_held_drew (S := (fun W => W.cell? ⟨w.heap.size, 0, none⟩ = some (.pointer (some ⟨g, 0, none⟩)) ∧ W.cell? ⟨g, 2, none⟩ = some (.slice A2 n2 c2) ∧ W.cell? ⟨g, 1, none⟩ = some (.slice A1 n1 c1))) (by kernel_rfl) ⟨y0, y2, y1⟩ (fun hHeld => ?_)
  refine wpAnyH_take (i := 0) (oi := ?oi_1) (v := ?_) ?hi_1 (by kernel_rfl) ?hf_1 (by kernel_rfl) ?hQ_1 ?hy_1 (by assumption) ?_
  case hi_1 => simp only [List.getElem?_toArray, List.getElem?_cons_zero, List.getElem?_cons_succ]; rfl
  case hf_1 => kernel_rfl
  case hQ_1 => exact fun _ _ _ h => h
  case hy_1 =>
    refine Or.inl ⟨by rfl, ?_⟩
    intro W hSw
    obtain ⟨q0, q1, q2⟩ := hSw
    go_simp
    try with_reducible rfl
  try simp only [Act.put, List.setIfInBounds_toArray, List.set_cons_zero, List.set_cons_succ]
  refine wpAnyH_take (i := 1) (oi := ?oi_2) (v := ?_) ?hi_2 (by kernel_rfl) ?hf_2 (by kernel_rfl) ?hQ_2 ?hy_2 (by assumption) ?_
  case hi_2 => simp only [List.getElem?_toArray, List.getElem?_cons_zero, List.getElem?_cons_succ]; rfl
  case hf_2 => kernel_rfl
  case hQ_2 => exact fun _ _ _ h => h
  case hy_2 =>
    refine Or.inl ⟨by rfl, ?_⟩
    intro W hSw
    obtain ⟨q0, q1, q2⟩ := hSw
    go_simp
    try with_reducible rfl
  try simp only [Act.put, List.setIfInBounds_toArray, List.set_cons_zero, List.set_cons_succ]
  refine wpAnyH_take (i := 2) (oi := ?oi_3) (v := ?_) ?hi_3 (by kernel_rfl) ?hf_3 (by kernel_rfl) ?hQ_3 ?hy_3 (by assumption) ?_
  case hi_3 => simp only [List.getElem?_toArray, List.getElem?_cons_zero, List.getElem?_cons_succ]; rfl
  case hf_3 => kernel_rfl
  case hQ_3 => exact fun _ _ _ h => h
  case hy_3 =>
    refine Or.inl ⟨by rfl, ?_⟩
    intro W hSw
    obtain ⟨q0, q1, q2⟩ := hSw
    go_simp
    try with_reducible rfl
  try simp only [Act.put, List.setIfInBounds_toArray, List.set_cons_zero, List.set_cons_succ]
  refine wpAnyH_take (i := 3) (oi := ?oi_4) (v := ?_) ?hi_4 (by kernel_rfl) ?hf_4 (by kernel_rfl) ?hQ_4 ?hy_4 (by assumption) ?_
  case hi_4 => simp only [List.getElem?_toArray, List.getElem?_cons_zero, List.getElem?_cons_succ]; rfl
  case hf_4 => kernel_rfl
  case hQ_4 => exact fun _ _ _ h => h
  case hy_4 =>
    refine Or.inl ⟨by rfl, ?_⟩
    intro W hSw
    obtain ⟨q0, q1, q2⟩ := hSw
    go_simp
    try with_reducible rfl
  try simp only [Act.put, List.setIfInBounds_toArray, List.set_cons_zero, List.set_cons_succ]
  refine wpAnyH_take (i := 4) (oi := ?oi_5) (v := ?_) ?hi_5 (by kernel_rfl) ?hf_5 (by kernel_rfl) ?hQ_5 ?hy_5 (by assumption) ?_
  case hi_5 => simp only [List.getElem?_toArray, List.getElem?_cons_zero, List.getElem?_cons_succ]; rfl
  case hf_5 => kernel_rfl
  case hQ_5 => exact fun _ _ _ h => h
  case hy_5 =>
    refine Or.inl ⟨by rfl, ?_⟩
    intro W hSw
    obtain ⟨q0, q1, q2⟩ := hSw
    go_simp
    try with_reducible rfl
  try simp only [Act.put, List.setIfInBounds_toArray, List.set_cons_zero, List.set_cons_succ]
  refine wpAnyH_take (i := 5) (oi := ?oi_6) (v := ?_) ?hi_6 (by kernel_rfl) ?hf_6 (by kernel_rfl) ?hQ_6 ?hy_6 (by assumption) ?_
  case hi_6 => simp only [List.getElem?_toArray, List.getElem?_cons_zero, List.getElem?_cons_succ]; rfl
  case hf_6 => kernel_rfl
  case hQ_6 => exact fun _ _ _ h => h
  case hy_6 =>
    refine Or.inl ⟨by rfl, ?_⟩
    intro W hSw
    obtain ⟨q0, q1, q2⟩ := hSw
    go_simp
    try with_reducible rfl
  try simp only [Act.put, List.setIfInBounds_toArray, List.set_cons_zero, List.set_cons_succ]
  refine wpAnyH_take (i := 6) (oi := ?oi_7) (v := ?_) ?hi_7 (by kernel_rfl) ?hf_7 (by kernel_rfl) ?hQ_7 ?hy_7 (by assumption) ?_
  case hi_7 => simp only [List.getElem?_toArray, List.getElem?_cons_zero, List.getElem?_cons_succ]; rfl
  case hf_7 => kernel_rfl
  case hQ_7 => exact fun _ _ _ h => h
  case hy_7 =>
    refine Or.inl ⟨by rfl, ?_⟩
    intro W hSw
    obtain ⟨q0, q1, q2⟩ := hSw
    go_simp
    try with_reducible rfl
  try simp only [Act.put, List.setIfInBounds_toArray, List.set_cons_zero, List.set_cons_succ]
  refine wpAnyH_take (i := 7) (oi := ?oi_8) (v := ?_) ?hi_8 (by kernel_rfl) ?hf_8 (by kernel_rfl) ?hQ_8 ?hy_8 (by assumption) ?_
  case hi_8 => simp only [List.getElem?_toArray, List.getElem?_cons_zero, List.getElem?_cons_succ]; rfl
  case hf_8 => kernel_rfl
  case hQ_8 => exact fun _ _ _ h => h
  case hy_8 =>
    refine Or.inl ⟨by rfl, ?_⟩
    intro W hSw
    obtain ⟨q0, q1, q2⟩ := hSw
    go_simp
    try with_reducible rfl
  try simp only [Act.put, List.setIfInBounds_toArray, List.set_cons_zero, List.set_cons_succ]
  refine wpAnyH_take (i := 8) (oi := ?oi_9) (v := ?_) ?hi_9 (by kernel_rfl) ?hf_9 (by kernel_rfl) ?hQ_9 ?hy_9 (by assumption) ?_
  case hi_9 => simp only [List.getElem?_toArray, List.getElem?_cons_zero, List.getElem?_cons_succ]; rfl
  case hf_9 => kernel_rfl
  case hQ_9 => exact fun _ _ _ h => h
  case hy_9 =>
    refine Or.inl ⟨by rfl, ?_⟩
    intro W hSw
    obtain ⟨q0, q1, q2⟩ := hSw
    go_simp
    try with_reducible rfl
  try simp only [Act.put, List.setIfInBounds_toArray, List.set_cons_zero, List.set_cons_succ]
  refine wpAnyH_take (i := 9) (oi := ?oi_10) (v := ?_) ?hi_10 (by kernel_rfl) ?hf_10 (by kernel_rfl) ?hQ_10 ?hy_10 (by assumption) ?_
  case hi_10 => simp only [List.getElem?_toArray, List.getElem?_cons_zero, List.getElem?_cons_succ]; rfl
  case hf_10 => kernel_rfl
  case hQ_10 => exact fun _ _ _ h => h
  case hy_10 =>
    refine Or.inl ⟨by rfl, ?_⟩
    intro W hSw
    obtain ⟨q0, q1, q2⟩ := hSw
    go_simp
    try with_reducible rfl
  try simp only [Act.put, List.setIfInBounds_toArray, List.set_cons_zero, List.set_cons_succ]
  refine wpAnyH_take (i := 10) (oi := ?oi_11) (v := ?_) ?hi_11 (by kernel_rfl) ?hf_11 (by kernel_rfl) ?hQ_11 ?hy_11 (by assumption) ?_
  case hi_11 => simp only [List.getElem?_toArray, List.getElem?_cons_zero, List.getElem?_cons_succ]; rfl
  case hf_11 => kernel_rfl
  case hQ_11 => exact fun _ _ _ h => h
  case hy_11 =>
    refine Or.inl ⟨by rfl, ?_⟩
    intro W hSw
    obtain ⟨q0, q1, q2⟩ := hSw
    go_simp
    try with_reducible rfl
  try simp only [Act.put, List.setIfInBounds_toArray, List.set_cons_zero, List.set_cons_succ]
  refine wpAnyH_ready (rs := [11]) (by kernel_rfl) (by simp) ?_
  refine AllReadyH.cons (o := ?oi_12) ?hi_12 (fun K hK => ?_) AllReadyH.nil
  case hi_12 => simp only [List.getElem?_toArray, List.getElem?_cons_zero, List.getElem?_cons_succ]; rfl
  go_simp
  (go_at_call 185
   with_reducible refine (HE.out _).mono ?_
   rintro e wA ⟨rfl, rfl⟩)
  refine hK.out _ _ ⟨y0, y2, y1⟩ (fun hHeld => ?_)
  clear hK K
  try simp only [Act.put, List.setIfInBounds_toArray, List.set_cons_zero, List.set_cons_succ]
  refine wpAnyH_take (i := 12) (oi := ?oi_13) (v := ?_) ?hi_13 (by kernel_rfl) ?hf_13 (by kernel_rfl) ?hQ_13 ?hy_13 (by assumption) ?_
  case hi_13 => simp only [List.getElem?_toArray, List.getElem?_cons_zero, List.getElem?_cons_succ]; rfl
  case hf_13 => kernel_rfl
  case hQ_13 => exact fun _ _ _ h => h
  case hy_13 =>
    refine Or.inl ⟨by rfl, ?_⟩
    intro W hSw
    obtain ⟨q0, q1, q2⟩ := hSw
    go_simp
    try with_reducible rfl
  try simp only [Act.put, List.setIfInBounds_toArray, List.set_cons_zero, List.set_cons_succ]
  refine wpAnyH_done (by kernel_rfl) ?_ _
  clear hHeld
  go_wp2
  go_ret
  exact ⟨rfl, below_drew ((Below.refl _ _).alloc (Nat.le_refl _) _)⟩

theorem part40_nil (g : Nat) (w : World) (hm : Blk w g 92 ZM) : Calls Tryz.prog 158 #[.pointer (some ⟨g, 0, none⟩)] w fun e w' => e = .returned (.int .i64 0) ∧ Below w.heap.size w w' :=
  part40_gen g none none 0 0 0 0 (by decide) ZM rfl rfl w hm (fun W => each68_nil _ (by decide) _ W)

end Go.Proofs.YtahbnhhdpcieiaaGreatDoor