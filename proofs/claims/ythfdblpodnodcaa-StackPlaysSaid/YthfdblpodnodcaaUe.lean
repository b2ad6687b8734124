/-
  frame.Frames.Push.
-/
import Derived.Test.YthfdblpodnodcaaUd
namespace Go.Proofs.Ythfdblpodnodcaa
open Go.RowKit
set_option linter.unusedVariables false
set_option linter.unusedSimpArgs false
section
variable {w : World} {a bb rm gm : Nat} {d : Ad} {s at_ most h : Nat}
def FsPost (a bb rm gm : Nat) (d : Ad) (s at_ most h : Nat) (x : Nat × Nat × Nat) (w : World) (e : Ending) (w' : World) : Prop :=
  e = .returned (.int .i64 0) ∧ FkI w' a bb rm gm (d.fpk (at_ + 12 * h) x 3) s at_ most (h + 1) ∧ Fr (fun k => k = bb ∨ k = s) w w'
set_option maxHeartbeats 1000000 in
set_option maxRecDepth 100000 in
theorem FPush_ok (H : FkI w a bb rm gm d s at_ most h) (x : Nat × Nat × Nat) (hx : Rt x) (hn : h < most) : Calls Try.prog 28 #[.pointer (some ⟨s, 0, none⟩), .agg (Tri x)] w (FsPost a bb rm gm d s at_ most h x w) := by
  have h1 := H.hc
  have hS := H.below (below_alloc w (.cells #[.int .i64 x.1, .int .i64 x.2.1, .int .i64 x.2.2] 58))
  have hX : Blk (w.alloc (.cells #[.int .i64 x.1, .int .i64 x.2.1, .int .i64 x.2.2] 58)) w.heap.size 58 #[.int .i64 x.1, .int .i64 x.2.1, .int .i64 x.2.2] := Blk.new w 58 _
  have HC := Lib.hid (fclosed_no hS.blk)
  have HR : Hid (∀ w', Calls Try.prog 47 #[.agg #[.int .i64 x.1, .int .i64 x.2.1, .int .i64 x.2.2]] w' fun e w'' => e = .returned (.bool true) ∧ Below w'.heap.size w' w'') := Lib.hid (fun w' => right_yes x w' hx)
  have b0 : (w.alloc (.cells #[.int .i64 x.1, .int .i64 x.2.1, .int .i64 x.2.2] 58)).cell? ⟨w.heap.size, 0, none⟩ = some (.int .i64 x.1) := hX.cell 0
  have b1 : (w.alloc (.cells #[.int .i64 x.1, .int .i64 x.2.1, .int .i64 x.2.2] 58)).cell? ⟨w.heap.size, 1, none⟩ = some (.int .i64 x.2.1) := hX.cell 1
  have b2 : (w.alloc (.cells #[.int .i64 x.1, .int .i64 x.2.1, .int .i64 x.2.2] 58)).cell? ⟨w.heap.size, 2, none⟩ = some (.int .i64 x.2.2) := hX.cell 2
  have HS := Lib.hid hS
  have HX0 := Lib.hid hX
  have HRt := Lib.hid hx
  have hlt : (h : Int) ≠ (most : Int) := by omega
  have hd : ((h : Int) == (most : Int)) = false := by simpa using hlt
  clear H hS hX hx
  unfold Tri
  go_enter Try.func28, Try.ntmps28
  go_wp2_with (first
    | (go_at_call 46; refine HC.out.mono ?_; rintro e w' ⟨rfl, rfl⟩)
    | (go_at_call 47
       refine (HR.out _).mono ?_
       rintro e w2 ⟨rfl, hb⟩
       have HB2 := Lib.hid hb
       have hS2 := HS.out.below hb
       have HS2 := Lib.hid hS2
       have c3 : w2.cell? ⟨s, 3, none⟩ = some (.int .i64 h) := hS2.blk.cell 3
       have c2 : w2.cell? ⟨s, 2, none⟩ = some (.int .i64 most) := hS2.blk.cell 2
       have HX2 := Lib.hid (HX0.out.below hb HX0.out.lt)
       clear hb hS2))
  go_quiet (fail)
  go_wp2
  have HX : Hid (Blk (w2.drewN nq) w.heap.size 58 #[.int .i64 x.1, .int .i64 x.2.1, .int .i64 x.2.2]) := Lib.hid HX2.out
  have HS3 := Lib.hid (HS2.out.drewN nq)
  have HXb : Hid (¬ w.heap.size = bb) := Lib.hid (HX2.out.ne_ HS2.out.are.byt (by decide))
  have k0 : (w2.drewN nq).drew.cell? ⟨w.heap.size, 0, none⟩ = some (.int .i64 x.1) := HX2.out.cell 0
  have k1 : (w2.drewN nq).drew.cell? ⟨w.heap.size, 1, none⟩ = some (.int .i64 x.2.1) := HX2.out.cell 1
  have k2 : (w2.drewN nq).drew.cell? ⟨w.heap.size, 2, none⟩ = some (.int .i64 x.2.2) := HX2.out.cell 2
  have k3 : (w2.drewN nq).drew.cell? ⟨s, 3, none⟩ = some (.int .i64 h) := HS2.out.blk.cell 3
  have HP := fput_ok (HS3.out.drewN 1) h hn x HRt.out
  unfold FpPost at HP
  unfold Tri at HP
  have HP := Lib.hid HP
  refine wp_region_held_drew (S := (fun W => W.cell? ⟨s, 3, none⟩ = some (.int .i64 h) ∧ W.cell? ⟨w.heap.size, 0, none⟩ = some (.int .i64 x.1) ∧ W.cell? ⟨w.heap.size, 1, none⟩ = some (.int .i64 x.2.1) ∧ W.cell? ⟨w.heap.size, 2, none⟩ = some (.int .i64 x.2.2))) (by kernel_rfl) ⟨k3, k0, k1, k2⟩ (fun hHeld => ?_)
  refine wpAnyH_take (i := 0) (oi := ?oi_1) (v := ?_) ?hi_1 (by kernel_rfl) ?hf_1 (by kernel_rfl) ?hQ_1 ?hy_1 (by assumption) ?_
  case hi_1 => simp only [List.getElem?_toArray, List.getElem?_cons_zero, List.getElem?_cons_succ]; rfl
  case hf_1 => kernel_rfl
  case hQ_1 => exact fun _ _ _ h => h
  case hy_1 =>
    refine Or.inl ⟨by rfl, ?_⟩
    intro W hSw
    obtain ⟨q3, q0, q1, q2⟩ := hSw
    go_simp
    try with_reducible rfl
  try simp only [Act.put, List.setIfInBounds_toArray, List.set_cons_zero, List.set_cons_succ]
  refine wpAnyH_take (i := 1) (oi := ?oi_2) (v := ?_) ?hi_2 (by kernel_rfl) ?hf_2 (by kernel_rfl) ?hQ_2 ?hy_2 (by assumption) ?_
  case hi_2 => simp only [List.getElem?_toArray, List.getElem?_cons_zero, List.getElem?_cons_succ]; rfl
  case hf_2 => kernel_rfl
  case hQ_2 => exact fun _ _ _ h => h
  case hy_2 =>
    refine Or.inl ⟨by rfl, ?_⟩
    intro W hSw
    obtain ⟨q3, q0, q1, q2⟩ := hSw
    go_simp
    try with_reducible rfl
  try simp only [Act.put, List.setIfInBounds_toArray, List.set_cons_zero, List.set_cons_succ]
  refine wpAnyH_take (i := 2) (oi := ?oi_3) (v := ?_) ?hi_3 (by kernel_rfl) ?hf_3 (by kernel_rfl) ?hQ_3 ?hy_3 (by assumption) ?_
  case hi_3 => simp only [List.getElem?_toArray, List.getElem?_cons_zero, List.getElem?_cons_succ]; rfl
  case hf_3 => kernel_rfl
  case hQ_3 => exact fun _ _ _ h => h
  case hy_3 =>
    refine Or.inl ⟨by rfl, ?_⟩
    intro W hSw
    obtain ⟨q3, q0, q1, q2⟩ := hSw
    go_simp
    try with_reducible rfl
  try simp only [Act.put, List.setIfInBounds_toArray, List.set_cons_zero, List.set_cons_succ]
  refine wpAnyH_take (i := 3) (oi := ?oi_4) (v := ?_) ?hi_4 (by kernel_rfl) ?hf_4 (by kernel_rfl) ?hQ_4 ?hy_4 (by assumption) ?_
  case hi_4 => simp only [List.getElem?_toArray, List.getElem?_cons_zero, List.getElem?_cons_succ]; rfl
  case hf_4 => kernel_rfl
  case hQ_4 => exact fun _ _ _ h => h
  case hy_4 =>
    refine Or.inl ⟨by rfl, ?_⟩
    intro W hSw
    obtain ⟨q3, q0, q1, q2⟩ := hSw
    go_simp
    try with_reducible rfl
  try simp only [Act.put, List.setIfInBounds_toArray, List.set_cons_zero, List.set_cons_succ]
  refine wpAnyH_take (i := 4) (oi := ?oi_5) (v := ?_) ?hi_5 (by kernel_rfl) ?hf_5 (by kernel_rfl) ?hQ_5 ?hy_5 (by assumption) ?_
  case hi_5 => simp only [List.getElem?_toArray, List.getElem?_cons_zero, List.getElem?_cons_succ]; rfl
  case hf_5 => kernel_rfl
  case hQ_5 => exact fun _ _ _ h => h
  case hy_5 =>
    refine Or.inl ⟨by rfl, ?_⟩
    intro W hSw
    obtain ⟨q3, q0, q1, q2⟩ := hSw
    go_simp
    try with_reducible rfl
  try simp only [Act.put, List.setIfInBounds_toArray, List.set_cons_zero, List.set_cons_succ]
  refine wpAnyH_take (i := 5) (oi := ?oi_6) (v := ?_) ?hi_6 (by kernel_rfl) ?hf_6 (by kernel_rfl) ?hQ_6 ?hy_6 (by assumption) ?_
  case hi_6 => simp only [List.getElem?_toArray, List.getElem?_cons_zero, List.getElem?_cons_succ]; rfl
  case hf_6 => kernel_rfl
  case hQ_6 => exact fun _ _ _ h => h
  case hy_6 =>
    refine Or.inl ⟨by rfl, ?_⟩
    intro W hSw
    obtain ⟨q3, q0, q1, q2⟩ := hSw
    go_simp
    try with_reducible rfl
  try simp only [Act.put, List.setIfInBounds_toArray, List.set_cons_zero, List.set_cons_succ]
  refine wpAnyH_ready (rs := [6]) (by kernel_rfl) (by simp) ?_
  refine AllReadyH.cons (o := ?oi_7) ?hi_7 (fun K hK => ?_) AllReadyH.nil
  case hi_7 => simp only [List.getElem?_toArray, List.getElem?_cons_zero, List.getElem?_cons_succ]; rfl
  go_simp
  (go_at_call 48
   refine HP.out.mono ?_
   rintro e w4 ⟨rfl, hS, hF⟩
   have HS4 := Lib.hid hS
   have HF4 := Lib.hid hF
   have g3 : w4.cell? ⟨s, 3, none⟩ = some (.int .i64 h) := hS.blk.cell 3
   have z3 : w4.frozen? ⟨s, 3, none⟩ = false := hS.blk.frozen 3
   have hx4 := (HX.out.drewN 1).fr hF (HXb.out)
   have g0 : w4.cell? ⟨w.heap.size, 0, none⟩ = some (.int .i64 x.1) := hx4.cell 0
   have g1 : w4.cell? ⟨w.heap.size, 1, none⟩ = some (.int .i64 x.2.1) := hx4.cell 1
   have g2 : w4.cell? ⟨w.heap.size, 2, none⟩ = some (.int .i64 x.2.2) := hx4.cell 2
   clear hS hF hx4)
  refine hK.out _ _ ⟨g3, g0, g1, g2⟩ (fun hHeld => ?_)
  clear hK K
  try simp only [Act.put, List.setIfInBounds_toArray, List.set_cons_zero, List.set_cons_succ]
  refine wpAnyH_done (by kernel_rfl) ?_ _
  clear hHeld
  simp only [Exit.inBlock, Exit.then]
  go_wp2
  go_ret
  refine ⟨rfl, HS4.out.high (by omega) _ (by rw [Int.natCast_add]; rfl) rfl, ?_⟩
  have hf : Fr (fun k => k = bb ∨ k = s) w w2 := Fr.of_below ((below_alloc w _).trans (HB2.out.mono (below_alloc w _).size))
  exact ((hf.drewN nq).trans ((HF4.out.undrewN (k := 1)).more (fun k q => .inl q))).set_ (p := ⟨s, 3, none⟩) (.inr rfl) _
def EnPost (c : Int) (w : World) (e : Ending) (w' : World) : Prop := e = .returned (.int .i64 c) ∧ Below w.heap.size w w'
set_option maxHeartbeats 1000000 in
set_option maxRecDepth 100000 in
theorem FPush_deep (H : FkI w a bb rm gm d s at_ most most) (x : Nat × Nat × Nat) (hx : Rt x) : Calls Try.prog 28 #[.pointer (some ⟨s, 0, none⟩), .agg (Tri x)] w (EnPost 11 w) := by
  have h1 := H.hc
  have hS := H.below (below_alloc w (.cells #[.int .i64 x.1, .int .i64 x.2.1, .int .i64 x.2.2] 58))
  have hX : Blk (w.alloc (.cells #[.int .i64 x.1, .int .i64 x.2.1, .int .i64 x.2.2] 58)) w.heap.size 58 #[.int .i64 x.1, .int .i64 x.2.1, .int .i64 x.2.2] := Blk.new w 58 _
  have HC := Lib.hid (fclosed_no hS.blk)
  have HR : Hid (∀ w', Calls Try.prog 47 #[.agg #[.int .i64 x.1, .int .i64 x.2.1, .int .i64 x.2.2]] w' fun e w'' => e = .returned (.bool true) ∧ Below w'.heap.size w' w'') := Lib.hid (fun w' => right_yes x w' hx)
  have b0 : (w.alloc (.cells #[.int .i64 x.1, .int .i64 x.2.1, .int .i64 x.2.2] 58)).cell? ⟨w.heap.size, 0, none⟩ = some (.int .i64 x.1) := hX.cell 0
  have b1 : (w.alloc (.cells #[.int .i64 x.1, .int .i64 x.2.1, .int .i64 x.2.2] 58)).cell? ⟨w.heap.size, 1, none⟩ = some (.int .i64 x.2.1) := hX.cell 1
  have b2 : (w.alloc (.cells #[.int .i64 x.1, .int .i64 x.2.1, .int .i64 x.2.2] 58)).cell? ⟨w.heap.size, 2, none⟩ = some (.int .i64 x.2.2) := hX.cell 2
  have HS := Lib.hid hS
  clear H hS hX hx
  unfold Tri
  go_enter Try.func28, Try.ntmps28
  go_wp2_with (first
    | (go_at_call 46; refine HC.out.mono ?_; rintro e w' ⟨rfl, rfl⟩)
    | (go_at_call 47
       refine (HR.out _).mono ?_
       rintro e w2 ⟨rfl, hb⟩
       have HB2 := Lib.hid hb
       have hS2 := HS.out.below hb
       have c3 : w2.cell? ⟨s, 3, none⟩ = some (.int .i64 most) := hS2.blk.cell 3
       have c2 : w2.cell? ⟨s, 2, none⟩ = some (.int .i64 most) := hS2.blk.cell 2
       clear hb hS2))
  go_quiet (fail)
  go_wp2
  go_ret
  exact ⟨rfl, below_drewN ((below_alloc w _).trans (HB2.out.mono (below_alloc w _).size)) _⟩
set_option maxHeartbeats 1000000 in
set_option maxRecDepth 100000 in
theorem FPush_arg (H : FkI w a bb rm gm d s at_ most h) (x y z : Int) (hx : ¬ (0 ≤ x ∧ x < 4294967296) ∨ ¬ (0 ≤ y ∧ y < 4294967296) ∨ ¬ (0 ≤ z ∧ z < 4294967296)) : Calls Try.prog 28 #[.pointer (some ⟨s, 0, none⟩), .agg #[.int .i64 x, .int .i64 y, .int .i64 z]] w (EnPost 1 w) := by
  have hS := H.below (below_alloc w (.cells #[.int .i64 x, .int .i64 y, .int .i64 z] 58))
  have hX : Blk (w.alloc (.cells #[.int .i64 x, .int .i64 y, .int .i64 z] 58)) w.heap.size 58 #[.int .i64 x, .int .i64 y, .int .i64 z] := Blk.new w 58 _
  have HC := Lib.hid (fclosed_no hS.blk)
  have HR := Lib.hid (fun w' => right_no x y z w' hx)
  have b0 : (w.alloc (.cells #[.int .i64 x, .int .i64 y, .int .i64 z] 58)).cell? ⟨w.heap.size, 0, none⟩ = some (.int .i64 x) := hX.cell 0
  have b1 : (w.alloc (.cells #[.int .i64 x, .int .i64 y, .int .i64 z] 58)).cell? ⟨w.heap.size, 1, none⟩ = some (.int .i64 y) := hX.cell 1
  have b2 : (w.alloc (.cells #[.int .i64 x, .int .i64 y, .int .i64 z] 58)).cell? ⟨w.heap.size, 2, none⟩ = some (.int .i64 z) := hX.cell 2
  clear H hS hX hx
  go_enter Try.func28, Try.ntmps28
  go_wp2_with (first
    | (go_at_call 46; refine HC.out.mono ?_; rintro e w' ⟨rfl, rfl⟩)
    | (go_at_call 47
       refine (HR.out _).mono ?_
       rintro e w2 ⟨rfl, hb⟩
       have HB2 := Lib.hid hb
       clear hb))
  go_ret
  exact ⟨rfl, (below_alloc w _).trans (HB2.out.mono (below_alloc w _).size)⟩
set_option maxHeartbeats 1000000 in
set_option maxRecDepth 100000 in
theorem FPush_nil (w : World) (x y z : Int) : Calls Try.prog 28 #[.pointer none, .agg #[.int .i64 x, .int .i64 y, .int .i64 z]] w (EnPost 12 w) := by
  have HC := Lib.hid (fun w => fclosed_nil w)
  go_enter Try.func28, Try.ntmps28
  go_wp2_with (go_at_call 46; refine (HC.out _).mono ?_; rintro e w' ⟨rfl, rfl⟩)
  go_ret
  exact ⟨rfl, below_alloc w _⟩
end
end Go.Proofs.Ythfdblpodnodcaa
