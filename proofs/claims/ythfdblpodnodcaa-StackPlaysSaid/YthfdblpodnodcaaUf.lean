/-
  frame.Frames.Go.
-/
import Derived.Test.YthfdblpodnodcaaUe
namespace Go.Proofs.Ythfdblpodnodcaa
open Go.RowKit
set_option linter.unusedVariables false
set_option linter.unusedSimpArgs false
section
variable {w : World} {a bb rm gm : Nat} {d : Ad} {s at_ most h : Nat}
def GoPost (a bb rm gm : Nat) (d : Ad) (s at_ most h : Nat) (x : Nat × Nat × Nat) (w : World) (e : Ending) (w' : World) : Prop :=
  e = .returned (.int .i64 0) ∧ FkI w' a bb rm gm (d.fpk (at_ + 12 * h) x 3) s at_ most (h + 1) ∧ Fr (· = bb) w w'
set_option maxHeartbeats 1000000 in
set_option maxRecDepth 100000 in
theorem FGo_ok (H : FkI w a bb rm gm d s at_ most (h + 1)) (p : Nat) (hp : p < 4294967296) : Calls Try.prog 32 #[.pointer (some ⟨s, 0, none⟩), .int .i64 p] w (GoPost a bb rm gm d s at_ most h ((fr3 d (at_ + 12 * h)).1, p, (fr3 d (at_ + 12 * h)).2.2) w) := by
  have h1 := H.hc
  have h2 := H.hh
  have HT := Top_ok H
  unfold AtPost at HT
  have hx : Rt ((fr3 d (at_ + 12 * h)).1, p, (fr3 d (at_ + 12 * h)).2.2) := ⟨wdN_lt4 H.are.all _, hp, wdN_lt4 H.are.all _⟩
  obtain ⟨x, ex⟩ : ∃ x, x = fr3 d (at_ + 12 * h) := ⟨_, rfl⟩
  rw [← ex] at HT hx ⊢
  unfold Tri at HT
  have HT := Lib.hid HT
  have HR := fun w' => right_yes (x.1, p, x.2.2) w' hx
  unfold Tri at HR
  have HR := Lib.hid HR
  have HRt := Lib.hid hx
  have HS := Lib.hid H
  clear H ex hx
  go_enter Try.func32, Try.ntmps32
  go_wp2_with (first
    | (go_at_call 31
       refine HT.out.mono ?_
       rintro e w1 ⟨rfl, hb⟩
       have HB1 := Lib.hid hb
       have HS1 := Lib.hid (HS.out.below hb)
       clear hb)
    | (go_at_call 47
       refine (HR.out _).mono ?_
       rintro e w2 ⟨rfl, hb⟩
       have HB2 := Lib.hid hb
       clear hb))
  have hX2 : Blk w2 w1.heap.size 58 #[.int .i64 x.1, .int .i64 p, .int .i64 x.2.2] := (Blk.new w1 58 #[.int .i64 x.1, .int .i64 p, .int .i64 x.2.2]).below HB2.out (Blk.new w1 58 #[.int .i64 x.1, .int .i64 p, .int .i64 x.2.2]).lt
  have hS2 := (HS1.out.below (below_alloc w1 (.cells #[.int .i64 x.1, .int .i64 p, .int .i64 x.2.2] 58))).below HB2.out
  have HX := Lib.hid hX2
  have HS2 := Lib.hid hS2
  have HXb : Hid (¬ w1.heap.size = bb) := Lib.hid (hX2.ne_ hS2.are.byt (by decide))
  have k0 : w2.drew.cell? ⟨w1.heap.size, 0, none⟩ = some (.int .i64 x.1) := hX2.cell 0
  have k1 : w2.drew.cell? ⟨w1.heap.size, 1, none⟩ = some (.int .i64 p) := hX2.cell 1
  have k2 : w2.drew.cell? ⟨w1.heap.size, 2, none⟩ = some (.int .i64 x.2.2) := hX2.cell 2
  have k3 : w2.drew.cell? ⟨s, 3, none⟩ = some (.int .i64 ((h : Int) + 1)) := hS2.blk.cell 3
  have HP := fput_ok (hS2.drewN 1) h (by omega) (x.1, p, x.2.2) HRt.out
  unfold FpPost at HP
  unfold Tri at HP
  have e1 : IntKind.i64.wrap (h : Int) = (h : Int) := IntWalk.i64_in _ (by omega)
  have HP := Lib.hid HP
  clear hX2 hS2
  refine wp_region_held_drew (S := (fun W => W.cell? ⟨s, 3, none⟩ = some (.int .i64 ((h : Int) + 1)) ∧ W.cell? ⟨w1.heap.size, 0, none⟩ = some (.int .i64 x.1) ∧ W.cell? ⟨w1.heap.size, 1, none⟩ = some (.int .i64 p) ∧ W.cell? ⟨w1.heap.size, 2, none⟩ = some (.int .i64 x.2.2))) (by kernel_rfl) ⟨k3, k0, k1, k2⟩ (fun hHeld => ?_)
  refine wpAnyH_take (i := 0) (oi := ?oi_1) (v := ?_) ?hi_1 (by kernel_rfl) ?hf_1 (by kernel_rfl) ?hQ_1 ?hy_1 (by assumption) ?_
  case hi_1 => simp only [List.getElem?_toArray, List.getElem?_cons_zero, List.getElem?_cons_succ]; rfl
  case hf_1 => kernel_rfl
  case hQ_1 => exact fun _ _ _ h => h
  case hy_1 =>
    refine Or.inl ⟨by rfl, ?_⟩
    intro W hSw
    obtain ⟨q3, q0, q1, q2⟩ := hSw
    go_simp
    try with_reducible rfl
  try simp only [Act.put, List.setIfInBounds_toArray, List.set_cons_zero, List.set_cons_succ]
  refine wpAnyH_take (i := 1) (oi := ?oi_2) (v := ?_) ?hi_2 (by kernel_rfl) ?hf_2 (by kernel_rfl) ?hQ_2 ?hy_2 (by assumption) ?_
  case hi_2 => simp only [List.getElem?_toArray, List.getElem?_cons_zero, List.getElem?_cons_succ]; rfl
  case hf_2 => kernel_rfl
  case hQ_2 => exact fun _ _ _ h => h
  case hy_2 =>
    refine Or.inl ⟨by rfl, ?_⟩
    intro W hSw
    obtain ⟨q3, q0, q1, q2⟩ := hSw
    go_simp
    try with_reducible rfl
  try simp only [Act.put, List.setIfInBounds_toArray, List.set_cons_zero, List.set_cons_succ]
  refine wpAnyH_take (i := 2) (oi := ?oi_3) (v := ?_) ?hi_3 (by kernel_rfl) ?hf_3 (by kernel_rfl) ?hQ_3 ?hy_3 (by assumption) ?_
  case hi_3 => simp only [List.getElem?_toArray, List.getElem?_cons_zero, List.getElem?_cons_succ]; rfl
  case hf_3 => kernel_rfl
  case hQ_3 => exact fun _ _ _ h => h
  case hy_3 =>
    refine Or.inl ⟨by rfl, ?_⟩
    intro W hSw
    obtain ⟨q3, q0, q1, q2⟩ := hSw
    go_simp
    try with_reducible rfl
  try simp only [Act.put, List.setIfInBounds_toArray, List.set_cons_zero, List.set_cons_succ]
  refine wpAnyH_take (i := 3) (oi := ?oi_4) (v := ?_) ?hi_4 (by kernel_rfl) ?hf_4 (by kernel_rfl) ?hQ_4 ?hy_4 (by assumption) ?_
  case hi_4 => simp only [List.getElem?_toArray, List.getElem?_cons_zero, List.getElem?_cons_succ]; rfl
  case hf_4 => kernel_rfl
  case hQ_4 => exact fun _ _ _ h => h
  case hy_4 =>
    refine Or.inl ⟨by rfl, ?_⟩
    intro W hSw
    obtain ⟨q3, q0, q1, q2⟩ := hSw
    go_simp
    try with_reducible rfl
  try simp only [Act.put, List.setIfInBounds_toArray, List.set_cons_zero, List.set_cons_succ]
  refine wpAnyH_take (i := 4) (oi := ?oi_5) (v := ?_) ?hi_5 (by kernel_rfl) ?hf_5 (by kernel_rfl) ?hQ_5 ?hy_5 (by assumption) ?_
  case hi_5 => simp only [List.getElem?_toArray, List.getElem?_cons_zero, List.getElem?_cons_succ]; rfl
  case hf_5 => kernel_rfl
  case hQ_5 => exact fun _ _ _ h => h
  case hy_5 =>
    refine Or.inl ⟨by rfl, ?_⟩
    intro W hSw
    obtain ⟨q3, q0, q1, q2⟩ := hSw
    go_simp
    try with_reducible rfl
  try simp only [Act.put, List.setIfInBounds_toArray, List.set_cons_zero, List.set_cons_succ]
  refine wpAnyH_take (i := 5) (oi := ?oi_6) (v := ?_) ?hi_6 (by kernel_rfl) ?hf_6 (by kernel_rfl) ?hQ_6 ?hy_6 (by assumption) ?_
  case hi_6 => simp only [List.getElem?_toArray, List.getElem?_cons_zero, List.getElem?_cons_succ]; rfl
  case hf_6 => kernel_rfl
  case hQ_6 => exact fun _ _ _ h => h
  case hy_6 =>
    refine Or.inl ⟨by rfl, ?_⟩
    intro W hSw
    obtain ⟨q3, q0, q1, q2⟩ := hSw
    go_simp
    try with_reducible rfl
  try simp only [Act.put, List.setIfInBounds_toArray, List.set_cons_zero, List.set_cons_succ]
  refine wpAnyH_take (i := 6) (oi := ?oi_7) (v := ?_) ?hi_7 (by kernel_rfl) ?hf_7 (by kernel_rfl) ?hQ_7 ?hy_7 (by assumption) ?_
  case hi_7 => simp only [List.getElem?_toArray, List.getElem?_cons_zero, List.getElem?_cons_succ]; rfl
  case hf_7 => kernel_rfl
  case hQ_7 => exact fun _ _ _ h => h
  case hy_7 =>
    refine Or.inl ⟨by rfl, ?_⟩
    intro W hSw
    obtain ⟨q3, q0, q1, q2⟩ := hSw
    go_simp
    try with_reducible rfl
  try simp only [Act.put, List.setIfInBounds_toArray, List.set_cons_zero, List.set_cons_succ]
  refine wpAnyH_ready (rs := [7]) (by kernel_rfl) (by simp) ?_
  refine AllReadyH.cons (o := ?oi_8) ?hi_8 (fun K hK => ?_) AllReadyH.nil
  case hi_8 => simp only [List.getElem?_toArray, List.getElem?_cons_zero, List.getElem?_cons_succ]; rfl
  go_simp
  (go_at_call 48
   refine HP.out.mono ?_
   rintro e w4 ⟨rfl, hS, hF⟩
   have HS4 := Lib.hid hS
   have HF4 := Lib.hid hF
   have g3 : w4.cell? ⟨s, 3, none⟩ = some (.int .i64 ((h : Int) + 1)) := hS.blk.cell 3
   have hx4 := (HX.out.drewN 1).fr hF (HXb.out)
   have g0 : w4.cell? ⟨w1.heap.size, 0, none⟩ = some (.int .i64 x.1) := hx4.cell 0
   have g1 : w4.cell? ⟨w1.heap.size, 1, none⟩ = some (.int .i64 p) := hx4.cell 1
   have g2 : w4.cell? ⟨w1.heap.size, 2, none⟩ = some (.int .i64 x.2.2) := hx4.cell 2
   clear hS hF hx4)
  refine hK.out _ _ ⟨g3, g0, g1, g2⟩ (fun hHeld => ?_)
  clear hK K
  try simp only [Act.put, List.setIfInBounds_toArray, List.set_cons_zero, List.set_cons_succ]
  refine wpAnyH_done (by kernel_rfl) ?_ _
  clear hHeld
  simp only [Exit.inBlock, Exit.then]
  go_wp2
  go_ret
  refine ⟨rfl, HS4.out, ?_⟩
  have hf : Fr (· = bb) w w2 := Fr.of_below ((HB1.out.alloc HB1.out.size _).trans (HB2.out.mono (HB1.out.alloc HB1.out.size _).size))
  exact hf.trans (HF4.out.undrewN (k := 1))
set_option maxHeartbeats 1000000 in
set_option maxRecDepth 100000 in
theorem FGo_arg (H : FkI w a bb rm gm d s at_ most (h + 1)) (p : Int) (hp : ¬ (0 ≤ p ∧ p < 4294967296)) : Calls Try.prog 32 #[.pointer (some ⟨s, 0, none⟩), .int .i64 p] w (EnPost 1 w) := by
  have HT := Top_ok H
  unfold AtPost at HT
  obtain ⟨x, ex⟩ : ∃ x, x = fr3 d (at_ + 12 * h) := ⟨_, rfl⟩
  rw [← ex] at HT
  unfold Tri at HT
  have HT := Lib.hid HT
  have HR := Lib.hid (fun w' => right_no x.1 p x.2.2 w' (.inr (.inl hp)))
  clear H ex hp
  go_enter Try.func32, Try.ntmps32
  go_wp2_with (first
    | (go_at_call 31
       refine HT.out.mono ?_
       rintro e w1 ⟨rfl, hb⟩
       have HB1 := Lib.hid hb
       clear hb)
    | (go_at_call 47
       refine (HR.out _).mono ?_
       rintro e w2 ⟨rfl, hb⟩
       have HB2 := Lib.hid hb
       clear hb))
  go_ret
  exact ⟨rfl, (HB1.out.alloc HB1.out.size _).trans (HB2.out.mono (HB1.out.alloc HB1.out.size _).size)⟩
set_option maxHeartbeats 1000000 in
set_option maxRecDepth 100000 in
theorem FGo_err (P : Value) (p : Int) (c : Int) (hc : c = 2 ∨ c = 12) (hT : Calls Try.prog 31 #[P] w (AtPost (0, 0, 0) c w)) : Calls Try.prog 32 #[P, .int .i64 p] w (EnPost c w) := by
  unfold AtPost at hT
  unfold Tri at hT
  have HT := Lib.hid hT
  have hc0 : (c != 0) = true := by rcases hc with rfl | rfl <;> rfl
  clear hT hc
  go_enter Try.func32, Try.ntmps32
  go_wp2_with (go_at_call 31
               refine HT.out.mono ?_
               rintro e w1 ⟨rfl, hb⟩
               have HB1 := Lib.hid hb
               clear hb)
  go_ret
  exact ⟨rfl, HB1.out.alloc HB1.out.size _⟩
end
end Go.Proofs.Ythfdblpodnodcaa
