/-
  Fit of a module of nothing but two globals; valid.Is of it.
-/
import Derived.Test.YtahbnhhdpcieiaaGreatDoorVa
namespace Go.Proofs.YtahbnhhdpcieiaaGreatDoor
open Go.RowKit
set_option linter.unusedVariables false
set_option linter.unusedSimpArgs false
def ZG (v5 : Value) : Array Value := #[.slice none 0 0, .slice none 0 0, .slice none 0 0, .int .i64 (-1), .slice none 0 0, v5, .slice none 0 0, .int .i64 (-1), .slice none 0 0, .slice none 0 0]
theorem part38_gl (g : Nat) (v5 : Value) (w : World) (hm : Blk w g 92 (ZG v5)) : Calls Tryz.prog 156 #[.pointer (some ⟨g, 0, none⟩)] w fun e w' => e = .returned (.int .i64 0) ∧ Below w.heap.size w w' := by
  have x0 := hm.cell 0
  have x1 := hm.cell 1
  have x2 := hm.cell 2
  have x3 := hm.cell 3
  have x4 := hm.cell 4
  have x5 := hm.cell 5
  have x6 := hm.cell 6
  have x7 := hm.cell 7
  have x8 := hm.cell 8
  have x9 := hm.cell 9
  clear hm
  unfold ZG at *
  go_enter Tryz.func156, Tryz.ntmps156
  go_wp2_with (go_at_call 177; (refine (each62_nil _ (by decide) _ _).mono ?_); rintro e w1 ⟨rfl, rfl⟩)
  go_ret
  exact ⟨rfl, Below.refl _ _⟩
theorem part42_gl (g : Nat) (v5 : Value) (w : World) (hm : Blk w g 92 (ZG v5)) : Calls Tryz.prog 160 #[.pointer (some ⟨g, 0, none⟩)] w fun e w' => e = .returned (.int .i64 0) ∧ Below w.heap.size w w' := by
  have x0 := hm.cell 0
  have x1 := hm.cell 1
  have x2 := hm.cell 2
  have x3 := hm.cell 3
  have x4 := hm.cell 4
  have x5 := hm.cell 5
  have x6 := hm.cell 6
  have x7 := hm.cell 7
  have x8 := hm.cell 8
  have x9 := hm.cell 9
  clear hm
  unfold ZG at *
  go_enter Tryz.func160, Tryz.ntmps160
  go_wp2_with (go_at_call 187; (refine (each70_nil _ (by decide) _ _).mono ?_); rintro e w1 ⟨rfl, rfl⟩)
  go_ret
  exact ⟨rfl, Below.refl _ _⟩
theorem part39_gl (g : Nat) (v5 : Value) (w : World) (hm : Blk w g 92 (ZG v5)) : Calls Tryz.prog 157 #[.pointer (some ⟨g, 0, none⟩)] w fun e w' => e = .returned (.int .i64 0) ∧ Below w.heap.size w w' := by
  have hm : Blk (w.alloc (.cells #[.pointer (some ⟨g, 0, none⟩)] 43)) g 92 (ZG v5) := hm.alloc _
  have x0 := hm.cell 0
  have x1 := hm.cell 1
  have x2 := hm.cell 2
  have x3 := hm.cell 3
  have x4 := hm.cell 4
  have x5 := hm.cell 5
  have x6 := hm.cell 6
  have x7 := hm.cell 7
  have x8 := hm.cell 8
  have x9 := hm.cell 9
  clear hm
  unfold ZG at *
  go_enter Tryz.func157, Tryz.ntmps157
  go_wp2_with (go_at_call 181; (refine (each66_nil _ (by decide) _ _).mono ?_); rintro e w1 ⟨rfl, rfl⟩)
  go_ret
  exact ⟨rfl, (Below.refl _ _).alloc (Nat.le_refl _) _⟩
theorem part47_gl (g : Nat) (v5 : Value) (w : World) (hm : Blk w g 92 (ZG v5)) : Calls Tryz.prog 165 #[.pointer (some ⟨g, 0, none⟩)] w fun e w' => e = .returned (.int .i64 0) ∧ Below w.heap.size w w' := by
  have hm : Blk (w.alloc (.cells #[.pointer (some ⟨g, 0, none⟩)] 43)) g 92 (ZG v5) := hm.alloc _
  have x0 := hm.cell 0
  have x1 := hm.cell 1
  have x2 := hm.cell 2
  have x3 := hm.cell 3
  have x4 := hm.cell 4
  have x5 := hm.cell 5
  have x6 := hm.cell 6
  have x7 := hm.cell 7
  have x8 := hm.cell 8
  have x9 := hm.cell 9
  clear hm
  unfold ZG at *
  go_enter Tryz.func165, Tryz.ntmps165
  go_wp2_with (go_at_call 201; (refine (each82_nil _ (by decide) _ _).mono ?_); rintro e w1 ⟨rfl, rfl⟩)
  go_ret
  exact ⟨rfl, (Below.refl _ _).alloc (Nat.le_refl _) _⟩
theorem part41_gl (g : Nat) (v5 : Value) (w : World) (hm : Blk w g 92 (ZG v5)) : Calls Tryz.prog 159 #[.pointer (some ⟨g, 0, none⟩)] w fun e w' => e = .returned (.int .i64 0) ∧ Below w.heap.size w w' := by
  have x0 := hm.cell 0
  have x1 := hm.cell 1
  have x2 := hm.cell 2
  have x3 := hm.cell 3
  have x4 := hm.cell 4
  have x5 := hm.cell 5
  have x6 := hm.cell 6
  have x7 := hm.cell 7
  have x8 := hm.cell 8
  have x9 := hm.cell 9
  clear hm
  unfold ZG at *
  go_enter Tryz.func159, Tryz.ntmps159
  go_wp2_with (go_at_call 179; (refine (unless_yes _ _).mono ?_); rintro e w1 ⟨rfl, rfl⟩)
  go_ret
  exact ⟨rfl, Below.refl _ _⟩
theorem part45_gl (g : Nat) (v5 : Value) (w : World) (hm : Blk w g 92 (ZG v5)) : Calls Tryz.prog 163 #[.pointer (some ⟨g, 0, none⟩)] w fun e w' => e = .returned (.int .i64 0) ∧ Below w.heap.size w w' := by
  have x0 := hm.cell 0
  have x1 := hm.cell 1
  have x2 := hm.cell 2
  have x3 := hm.cell 3
  have x4 := hm.cell 4
  have x5 := hm.cell 5
  have x6 := hm.cell 6
  have x7 := hm.cell 7
  have x8 := hm.cell 8
  have x9 := hm.cell 9
  clear hm
  unfold ZG at *
  go_enter Tryz.func163, Tryz.ntmps163
  go_wp2
  go_ret
  exact ⟨rfl, Below.refl _ _⟩
theorem part46_gl (g : Nat) (v5 : Value) (w : World) (hm : Blk w g 92 (ZG v5)) : Calls Tryz.prog 164 #[.pointer (some ⟨g, 0, none⟩)] w fun e w' => e = .returned (.int .i64 0) ∧ Below w.heap.size w w' := by
  have hm : Blk (w.alloc (.cells #[.pointer (some ⟨g, 0, none⟩)] 43)) g 92 (ZG v5) := hm.alloc _
  have x0 := hm.cell 0
  have x1 := hm.cell 1
  have x2 := hm.cell 2
  have x3 := hm.cell 3
  have x4 := hm.cell 4
  have x5 := hm.cell 5
  have x6 := hm.cell 6
  have x7 := hm.cell 7
  have x8 := hm.cell 8
  have x9 := hm.cell 9
  have x8' := fun o => (hm.alloc o).cell 8
  clear hm
  unfold ZG at *
  go_enter Tryz.func164, Tryz.ntmps164
  go_wp2_with (go_at_call 198; (refine (each79_nil _ (by decide) _ _).mono ?_); rintro e w1 ⟨rfl, rfl⟩)
  go_ret
  exact ⟨rfl, ((Below.refl _ _).alloc (Nat.le_refl _) _).alloc (by simp) _⟩
theorem part44_gl (g : Nat) (v5 : Value) (w : World) (hm : Blk w g 92 (ZG v5)) : Calls Tryz.prog 162 #[.pointer (some ⟨g, 0, none⟩)] w fun e w' => e = .returned (.int .i64 0) ∧ Below w.heap.size w w' := by
  have hm : Blk (w.alloc (.cells #[.pointer (some ⟨g, 0, none⟩)] 43)) g 92 (ZG v5) := hm.alloc _
  have x0 := hm.cell 0
  have x1 := hm.cell 1
  have x2 := hm.cell 2
  have x3 := hm.cell 3
  have x4 := hm.cell 4
  have x5 := hm.cell 5
  have x6 := hm.cell 6
  have x7 := hm.cell 7
  have x8 := hm.cell 8
  have x9 := hm.cell 9
  have x6' := fun o o' => ((hm.alloc o).alloc o').cell 6
  have hmm := @run_makeMap Tryz.prog
  clear hm
  unfold ZG at *
  go_enter Tryz.func162, Tryz.ntmps162
  go_wp2_with (go_at_call 192; (refine (each75_nil _ (by decide) _ _).mono ?_); rintro e w1 ⟨rfl, rfl⟩)
  go_ret
  exact ⟨rfl, (((Below.refl _ _).alloc (Nat.le_refl _) _).alloc (by simp) _).alloc (by simp; omega) _⟩
theorem part40_gl (g : Nat) (v5 : Value) (w : World) (hm : Blk w g 92 (ZG v5)) : Calls Tryz.prog 158 #[.pointer (some ⟨g, 0, none⟩)] w fun e w' => e = .returned (.int .i64 0) ∧ Below w.heap.size w w' :=
  part40_gen g none none 0 0 0 0 (by decide) (ZG v5) rfl rfl w hm (fun W => each68_nil _ (by decide) _ W)
def G2 : Array Value := #[.int .u8 127, .bool false, .int .u64 5, .int .u8 126, .bool false, .int .u64 6]
set_option maxRecDepth 100000 in
theorem glook_ok (t : Int) (v : Int) (ht : t = 126 ∨ t = 127) (hv : v < 4294967296) (w : World) : Calls Tryz.prog 191 #[.agg #[.int .u8 t, .bool false, .int .u64 v]] w fun e w' => e = .returned (.int .i64 0) ∧ Below w.heap.size w w' := by
  rcases ht with rfl | rfl
  all_goals
    go_enter Tryz.func191, Tryz.ntmps191
    go_wp2_with (go_at_call 179; (refine (unless_yes _ _).mono ?_); rintro e w1 ⟨rfl, rfl⟩)
    go_ret
    exact ⟨rfl, (Below.refl _ _).alloc (Nat.le_refl _) _⟩
set_option maxRecDepth 100000 in
theorem geach_ok (g : Nat) (w : World) (hb : Blk w g 60 G2) : Calls Tryz.prog 190 #[.slice (some ⟨g, 0, none⟩) 2 2, .int .i64 50, .func (.func 191) #[] #[]] w fun e w' => e = .returned (.int .i64 0) ∧ Below w.heap.size w w' := by
  have HB := Lib.hid hb
  have HW : Hid (Below w.heap.size w w) := Lib.hid (Below.refl _ _)
  clear hb
  go_enter Tryz.func190, Tryz.ntmps190
  go_wp2
  go_loopw [8, 9, 16] (fun v8 v9 v16 wr => ∃ k : Nat, k ≤ 2 ∧ v16 = .int .i64 k ∧ Hid (Below w.heap.size w wr)) (fun _ _ v16 _ => 2 - (intOf v16).toNat)
  case atStart => exact ⟨0, by omega, rfl, HW⟩
  case round =>
    obtain ⟨k, hk, rfl, HBl⟩ := hrel
    have hbr := HB.out.below HBl.out HB.out.lt
    have c0 : wr.cell? ⟨g, 0, none⟩ = some (.int .u8 127) := hbr.cell 0
    have c1 : wr.cell? ⟨g, 1, none⟩ = some (.bool false) := hbr.cell 1
    have c2 : wr.cell? ⟨g, 2, none⟩ = some (.int .u64 5) := hbr.cell 2
    have c3 : wr.cell? ⟨g, 3, none⟩ = some (.int .u8 126) := hbr.cell 3
    have c4 : wr.cell? ⟨g, 4, none⟩ = some (.bool false) := hbr.cell 4
    have c5 : wr.cell? ⟨g, 5, none⟩ = some (.int .u64 6) := hbr.cell 5
    clear hbr
    have hk2 : k = 2 ∨ k = 0 ∨ k = 1 := by omega
    rcases hk2 with rfl | rfl | rfl
    · go_wp2
      go_ret
      exact ⟨rfl, HBl.out⟩
    · go_wp2_with (go_at_call 191; (refine (glook_ok _ _ (.inr rfl) (by decide) _).mono ?_); rintro e w1 ⟨rfl, hb1⟩; have HB1 : Hid (Below w.heap.size w w1) := Lib.hid ((HBl.out.alloc HBl.out.size _).trans (hb1.mono (HBl.out.alloc HBl.out.size _).size)); clear hb1)
      go_round
      case rel => exact ⟨1, by omega, rfl, HB1⟩
      case measure => simp [intOf]
    · go_wp2_with (go_at_call 191; (refine (glook_ok _ _ (.inl rfl) (by decide) _).mono ?_); rintro e w1 ⟨rfl, hb1⟩; have HB1 : Hid (Below w.heap.size w w1) := Lib.hid ((HBl.out.alloc HBl.out.size _).trans (hb1.mono (HBl.out.alloc HBl.out.size _).size)); clear hb1)
      go_round
      case rel => exact ⟨2, by omega, rfl, HB1⟩
      case measure => simp [intOf]
set_option maxRecDepth 100000 in
theorem part43_gl (g b : Nat) (w : World) (hm : Blk w g 92 (ZG (.slice (some ⟨b, 0, none⟩) 2 2))) (hb : Blk w b 60 G2) : Calls Tryz.prog 161 #[.pointer (some ⟨g, 0, none⟩)] w fun e w' => e = .returned (.int .i64 0) ∧ Below w.heap.size w w' := by
  have x5 : w.cell? ⟨g, 5, none⟩ = some (.slice (some ⟨b, 0, none⟩) 2 2) := hm.cell 5
  have HE := Lib.hid (geach_ok b w hb)
  clear hm hb
  go_enter Tryz.func161, Tryz.ntmps161
  go_wp2_with (go_at_call 190; (refine HE.out.mono ?_); rintro e w1 ⟨rfl, hb1⟩; have HB1 := Lib.hid hb1; clear hb1)
  go_ret
  exact ⟨rfl, HB1.out⟩
/-- Fit of a module of two globals -/
theorem Fit_two (g b : Nat) (w : World) (hm : Blk w g 92 (ZG (.slice (some ⟨b, 0, none⟩) 2 2))) (hb : Blk w b 60 G2) : Calls Tryz.prog 139 #[.pointer (some ⟨g, 0, none⟩)] w fun e w' => e = .returned (.tuple #[.string ⟨#[]⟩, .int .i64 0]) ∧ Below w.heap.size w w' := by
  refine Fit_ok g w (fun f h1 h2 W hW => ?_)
  have hm2 := hm.below hW hm.lt
  have hb2 := hb.below hW hb.lt
  have hf : f = 156 ∨ f = 157 ∨ f = 158 ∨ f = 159 ∨ f = 160 ∨ f = 161 ∨ f = 162 ∨ f = 163 ∨ f = 164 ∨ f = 165 := by omega
  rcases hf with rfl | rfl | rfl | rfl | rfl | rfl | rfl | rfl | rfl | rfl
  · exact part38_gl g _ W hm2
  · exact part39_gl g _ W hm2
  · exact part40_gl g _ W hm2
  · exact part41_gl g _ W hm2
  · exact part42_gl g _ W hm2
  · exact part43_gl g b W hm2 hb2
  · exact part44_gl g _ W hm2
  · exact part45_gl g _ W hm2
  · exact part46_gl g _ W hm2
  · exact part47_gl g _ W hm2
end Go.Proofs.YtahbnhhdpcieiaaGreatDoor
