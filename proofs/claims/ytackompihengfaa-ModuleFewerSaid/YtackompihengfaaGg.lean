/-
  The law's Sig: a function's signature, of the module as it was told.
-/
import Derived.Test.YtackompihengfaaGf
namespace Go.Proofs.Ytackompihengfaa
open Go.RowKit Go.PlainAid
set_option linter.unusedVariables false
set_option linter.unusedSimpArgs false
theorem results16 : Try.f16.results = #[.cell 4 48] := by kernel_rfl
set_option maxHeartbeats 4000000 in
set_option maxRecDepth 100000 in
theorem lsig_imp (b0 off0 n0 c0 b1 off1 n1 c1 n2 c2 n4 c4 n5 c5 n6 c6 n8 c8 n9 c9 f j p p1 r r1 : Nat) (A2 A4 A5 A6 A8 A9 P1 R1 : Option Addr) (tab start : Int) (w : World)
    (h0 : j < n0) (h01 : n0 ≤ c0) (h02 : c0 ≤ maxLen) (hb0 : b0 < w.heap.size) (z0 : w.cell? ⟨b0, off0 + j * 2, none⟩ = some (.slice P1 p p1)) (z1 : w.cell? ⟨b0, off0 + j * 2 + 1, none⟩ = some (.slice R1 r r1))
    (hf : f < n1) (h1 : n1 ≤ c1) (h2 : c1 ≤ maxLen) (hb1 : b1 < w.heap.size) (z2 : w.cell? ⟨b1, off1 + f * 3 + 2, none⟩ = some (.int .i64 (j : Int))) :
    Calls Try.prog 16 #[.agg #[.slice (some ⟨b0, off0, none⟩) n0 c0, .slice (some ⟨b1, off1, none⟩) n1 c1, .slice A2 n2 c2, .int .i64 tab, .slice A4 n4 c4, .slice A5 n5 c5, .slice A6 n6 c6, .int .i64 start, .slice A8 n8 c8, .slice A9 n9 c9], .int .i64 (f : Nat)] w fun e w' => e = .returned (.agg #[.slice P1 p p1, .slice R1 r r1]) ∧ Below w.heap.size w w' := by
  unfold maxLen at *
  obtain ⟨W1, hW1⟩ : ∃ W, W = (w.alloc (.cells #[.slice (some ⟨b0, off0, none⟩) n0 c0, .slice (some ⟨b1, off1, none⟩) n1 c1, .slice A2 n2 c2, .int .i64 tab, .slice A4 n4 c4, .slice A5 n5 c5, .slice A6 n6 c6, .int .i64 start, .slice A8 n8 c8, .slice A9 n9 c9] 31)).alloc (.cells #[.slice none 0 0, .slice none 0 0] 48) := ⟨_, rfl⟩
  have hb : Below w.heap.size w W1.drew := by rw [hW1]; exact below_drew (((Below.refl w.heap.size w).alloc (Nat.le_refl _) _).alloc (by simp) _)
  have hp : Blk W1 w.heap.size 31 #[.slice (some ⟨b0, off0, none⟩) n0 c0, .slice (some ⟨b1, off1, none⟩) n1 c1, .slice A2 n2 c2, .int .i64 tab, .slice A4 n4 c4, .slice A5 n5 c5, .slice A6 n6 c6, .int .i64 start, .slice A8 n8 c8, .slice A9 n9 c9] := by rw [hW1]; exact (Blk.new w 31 #[.slice (some ⟨b0, off0, none⟩) n0 c0, .slice (some ⟨b1, off1, none⟩) n1 c1, .slice A2 n2 c2, .int .i64 tab, .slice A4 n4 c4, .slice A5 n5 c5, .slice A6 n6 c6, .int .i64 start, .slice A8 n8 c8, .slice A9 n9 c9]).alloc _
  have hr : Blk W1 (w.heap.size + 1) 48 #[.slice none 0 0, .slice none 0 0] := by
    rw [hW1]
    have := Blk.new (w.alloc (.cells #[.slice (some ⟨b0, off0, none⟩) n0 c0, .slice (some ⟨b1, off1, none⟩) n1 c1, .slice A2 n2 c2, .int .i64 tab, .slice A4 n4 c4, .slice A5 n5 c5, .slice A6 n6 c6, .int .i64 start, .slice A8 n8 c8, .slice A9 n9 c9] 31)) 48 #[.slice none 0 0, .slice none 0 0]
    rw [World.size_alloc] at this
    exact this
  have hpd : Blk W1.drew w.heap.size 31 _ := hp
  have hrd : Blk W1.drew (w.heap.size + 1) 48 _ := hr
  have hp2 := (setRow_other W1.drew (w.heap.size + 1) w.heap.size #[.slice P1 p p1, .slice R1 r r1] (by omega)).trans hpd
  have hbs := below_setRow hb (by omega : w.heap.size ≤ w.heap.size + 1) #[.slice P1 p p1, .slice R1 r r1]
  have k0 : (fun W : World => W.cell? ⟨w.heap.size, 0, none⟩ = some (.slice (some ⟨b0, off0, none⟩) n0 c0) ∧ W.cell? ⟨w.heap.size, 1, none⟩ = some (.slice (some ⟨b1, off1, none⟩) n1 c1) ∧ W.cell? ⟨b1, off1 + f * 3 + 2, none⟩ = some (.int .i64 (j : Int)) ∧ W.cell? ⟨b0, off0 + j * 2, none⟩ = some (.slice P1 p p1) ∧ W.cell? ⟨b0, off0 + j * 2 + 1, none⟩ = some (.slice R1 r r1)) W1.drew := ⟨(hpd).cell 0, (hpd).cell 1, (hb.cell (p := ⟨_, _, none⟩) hb1).trans z2, (hb.cell (p := ⟨_, _, none⟩) hb0).trans z0, (hb.cell (p := ⟨_, _, none⟩) hb0).trans z1⟩
  have k1 : (fun W : World => W.cell? ⟨w.heap.size, 0, none⟩ = some (.slice (some ⟨b0, off0, none⟩) n0 c0) ∧ W.cell? ⟨w.heap.size, 1, none⟩ = some (.slice (some ⟨b1, off1, none⟩) n1 c1) ∧ W.cell? ⟨b1, off1 + f * 3 + 2, none⟩ = some (.int .i64 (j : Int)) ∧ W.cell? ⟨b0, off0 + j * 2, none⟩ = some (.slice P1 p p1) ∧ W.cell? ⟨b0, off0 + j * 2 + 1, none⟩ = some (.slice R1 r r1)) (W1.drew.setRow (w.heap.size + 1) #[.slice P1 p p1, .slice R1 r r1]) := ⟨((show Blk _ w.heap.size 31 _ from hp2)).cell 0, ((show Blk _ w.heap.size 31 _ from hp2)).cell 1, (hbs.cell (p := ⟨_, _, none⟩) hb1).trans z2, (hbs.cell (p := ⟨_, _, none⟩) hb0).trans z0, (hbs.cell (p := ⟨_, _, none⟩) hb0).trans z1⟩
  have K0 := Lib.hid k0
  have K1 := Lib.hid k1
  have HW1 := Lib.hid hW1
  have HR := Lib.hid hrd
  have HBS := Lib.hid hbs
  clear k0 k1 hW1 hp hr hpd hrd hp2 hbs hb z0 z1 z2
  go_enter Try.func16, Try.ntmps16
  go_upto_region 2 with fail
  rw [← HW1.out]
  refine wp_region_held_drew (S := (fun W : World => W.cell? ⟨w.heap.size, 0, none⟩ = some (.slice (some ⟨b0, off0, none⟩) n0 c0) ∧ W.cell? ⟨w.heap.size, 1, none⟩ = some (.slice (some ⟨b1, off1, none⟩) n1 c1) ∧ W.cell? ⟨b1, off1 + f * 3 + 2, none⟩ = some (.int .i64 (j : Int)) ∧ W.cell? ⟨b0, off0 + j * 2, none⟩ = some (.slice P1 p p1) ∧ W.cell? ⟨b0, off0 + j * 2 + 1, none⟩ = some (.slice R1 r r1))) (by kernel_rfl) K0.out (fun hHeld => ?_)
  refine wpAnyH_take (i := 0) (oi := ?oi_1) (v := ?_) ?hi_1 (by kernel_rfl) ?hf_1 (by kernel_rfl) ?hQ_1 ?hy_1 (by assumption) ?_
  case hi_1 => simp only [List.getElem?_toArray, List.getElem?_cons_zero, List.getElem?_cons_succ]; rfl
  case hf_1 => kernel_rfl
  case hQ_1 => exact fun _ _ _ h => h
  case hy_1 =>
    refine Or.inl ⟨by rfl, ?_⟩
    intro W hSw
    obtain ⟨q0, q1, q2, q3, q4⟩ := hSw
    go_simp
    try with_reducible rfl
  try simp only [Act.put, List.setIfInBounds_toArray, List.set_cons_zero, List.set_cons_succ]
  refine wpAnyH_take (i := 1) (oi := ?oi_2) (v := ?_) ?hi_2 (by kernel_rfl) ?hf_2 (by kernel_rfl) ?hQ_2 ?hy_2 (by assumption) ?_
  case hi_2 => simp only [List.getElem?_toArray, List.getElem?_cons_zero, List.getElem?_cons_succ]; rfl
  case hf_2 => kernel_rfl
  case hQ_2 => exact fun _ _ _ h => h
  case hy_2 =>
    refine Or.inl ⟨by rfl, ?_⟩
    intro W hSw
    obtain ⟨q0, q1, q2, q3, q4⟩ := hSw
    go_simp
    try with_reducible rfl
  try simp only [Act.put, List.setIfInBounds_toArray, List.set_cons_zero, List.set_cons_succ]
  refine wpAnyH_take (i := 2) (oi := ?oi_3) (v := ?_) ?hi_3 (by kernel_rfl) ?hf_3 (by kernel_rfl) ?hQ_3 ?hy_3 (by assumption) ?_
  case hi_3 => simp only [List.getElem?_toArray, List.getElem?_cons_zero, List.getElem?_cons_succ]; rfl
  case hf_3 => kernel_rfl
  case hQ_3 => exact fun _ _ _ h => h
  case hy_3 =>
    refine Or.inl ⟨by rfl, ?_⟩
    intro W hSw
    obtain ⟨q0, q1, q2, q3, q4⟩ := hSw
    go_simp
    try with_reducible rfl
  try simp only [Act.put, List.setIfInBounds_toArray, List.set_cons_zero, List.set_cons_succ]
  refine wpAnyH_take (i := 3) (oi := ?oi_4) (v := ?_) ?hi_4 (by kernel_rfl) ?hf_4 (by kernel_rfl) ?hQ_4 ?hy_4 (by assumption) ?_
  case hi_4 => simp only [List.getElem?_toArray, List.getElem?_cons_zero, List.getElem?_cons_succ]; rfl
  case hf_4 => kernel_rfl
  case hQ_4 => exact fun _ _ _ h => h
  case hy_4 =>
    refine Or.inl ⟨by rfl, ?_⟩
    intro W hSw
    obtain ⟨q0, q1, q2, q3, q4⟩ := hSw
    go_simp
    try with_reducible rfl
  try simp only [Act.put, List.setIfInBounds_toArray, List.set_cons_zero, List.set_cons_succ]
  refine wpAnyH_take (i := 4) (oi := ?oi_5) (v := ?_) ?hi_5 (by kernel_rfl) ?hf_5 (by kernel_rfl) ?hQ_5 ?hy_5 (by assumption) ?_
  case hi_5 => simp only [List.getElem?_toArray, List.getElem?_cons_zero, List.getElem?_cons_succ]; rfl
  case hf_5 => kernel_rfl
  case hQ_5 => exact fun _ _ _ h => h
  case hy_5 =>
    refine Or.inl ⟨by rfl, ?_⟩
    intro W hSw
    obtain ⟨q0, q1, q2, q3, q4⟩ := hSw
    go_simp
    try with_reducible rfl
  try simp only [Act.put, List.setIfInBounds_toArray, List.set_cons_zero, List.set_cons_succ]
  refine wpAnyH_take (i := 5) (oi := ?oi_6) (v := ?_) ?hi_6 (by kernel_rfl) ?hf_6 (by kernel_rfl) ?hQ_6 ?hy_6 (by assumption) ?_
  case hi_6 => simp only [List.getElem?_toArray, List.getElem?_cons_zero, List.getElem?_cons_succ]; rfl
  case hf_6 => kernel_rfl
  case hQ_6 => exact fun _ _ _ h => h
  case hy_6 =>
    refine Or.inl ⟨by rfl, ?_⟩
    intro W hSw
    obtain ⟨q0, q1, q2, q3, q4⟩ := hSw
    go_simp
    try with_reducible rfl
  try simp only [Act.put, List.setIfInBounds_toArray, List.set_cons_zero, List.set_cons_succ]
  refine wpAnyH_take (i := 6) (oi := ?oi_7) (v := ?_) ?hi_7 (by kernel_rfl) ?hf_7 (by kernel_rfl) ?hQ_7 ?hy_7 (by assumption) ?_
  case hi_7 => simp only [List.getElem?_toArray, List.getElem?_cons_zero, List.getElem?_cons_succ]; rfl
  case hf_7 => kernel_rfl
  case hQ_7 => exact fun _ _ _ h => h
  case hy_7 =>
    refine Or.inl ⟨by rfl, ?_⟩
    intro W hSw
    obtain ⟨q0, q1, q2, q3, q4⟩ := hSw
    go_simp
    try with_reducible rfl
  try simp only [Act.put, List.setIfInBounds_toArray, List.set_cons_zero, List.set_cons_succ]
  refine wpAnyH_take (i := 7) (oi := ?oi_8) (v := ?_) ?hi_8 (by kernel_rfl) ?hf_8 (by kernel_rfl) ?hQ_8 ?hy_8 (by assumption) ?_
  case hi_8 => simp only [List.getElem?_toArray, List.getElem?_cons_zero, List.getElem?_cons_succ]; rfl
  case hf_8 => kernel_rfl
  case hQ_8 => exact fun _ _ _ h => h
  case hy_8 =>
    refine Or.inl ⟨by rfl, ?_⟩
    intro W hSw
    obtain ⟨q0, q1, q2, q3, q4⟩ := hSw
    go_simp
    try with_reducible rfl
  try simp only [Act.put, List.setIfInBounds_toArray, List.set_cons_zero, List.set_cons_succ]
  refine wpAnyH_take (i := 8) (oi := ?oi_9) (v := ?_) ?hi_9 (by kernel_rfl) ?hf_9 (by kernel_rfl) ?hQ_9 ?hy_9 (by assumption) ?_
  case hi_9 => simp only [List.getElem?_toArray, List.getElem?_cons_zero, List.getElem?_cons_succ]; rfl
  case hf_9 => kernel_rfl
  case hQ_9 => exact fun _ _ _ h => h
  case hy_9 =>
    refine Or.inl ⟨by rfl, ?_⟩
    intro W hSw
    obtain ⟨q0, q1, q2, q3, q4⟩ := hSw
    go_simp
    try with_reducible rfl
  try simp only [Act.put, List.setIfInBounds_toArray, List.set_cons_zero, List.set_cons_succ]
  refine wpAnyH_take (i := 9) (oi := ?oi_10) (v := ?_) ?hi_10 (by kernel_rfl) ?hf_10 (by kernel_rfl) ?hQ_10 ?hy_10 (by assumption) ?_
  case hi_10 => simp only [List.getElem?_toArray, List.getElem?_cons_zero, List.getElem?_cons_succ]; rfl
  case hf_10 => kernel_rfl
  case hQ_10 => exact fun _ _ _ h => h
  case hy_10 =>
    refine Or.inl ⟨by rfl, ?_⟩
    intro W hSw
    obtain ⟨q0, q1, q2, q3, q4⟩ := hSw
    go_simp
    try with_reducible rfl
  try simp only [Act.put, List.setIfInBounds_toArray, List.set_cons_zero, List.set_cons_succ]
  refine wpAnyH_ready (rs := [10]) (by kernel_rfl) (by simp) ?_
  refine AllReadyH.cons (o := ?oi_11) ?hi_11 (fun K hK => ?_) AllReadyH.nil
  case hi_11 => simp only [List.getElem?_toArray, List.getElem?_cons_zero, List.getElem?_cons_succ]; rfl
  refine step_store_row rfl 48 (.tmp 4) (.tmp 19) rfl (w.heap.size + 1) #[.slice P1 p p1, .slice R1 r r1] rfl rfl 48 _ HR.out (by kernel_rfl) rfl (by simp [Value.oneCell']) ?_
  refine hK.out _ _ K1.out (fun hHeld => ?_)
  clear hK K
  try simp only [Act.put, List.setIfInBounds_toArray, List.set_cons_zero, List.set_cons_succ]
  refine wpAnyH_done (by kernel_rfl) ?_ _
  clear hHeld
  go_wp2
  refine bodyPost_ret (v := .agg #[.slice P1 p p1, .slice R1 r r1]) (results_cell_row results16 _ _ (w.heap.size + 1) 48 _ (0, 0) _ rfl (setRow_heap W1.drew (w.heap.size + 1) _ _ 48 (0, 0) HR.out) Try.underlying48 rfl (by kernel_rfl)) rfl ?_
  exact ⟨rfl, HBS.out⟩
set_option maxHeartbeats 4000000 in
set_option maxRecDepth 100000 in
theorem lsig_fun (b0 off0 n0 c0 b2 off2 n1 c1 n2 c2 n4 c4 n5 c5 n6 c6 n8 c8 n9 c9 f j p p1 r r1 : Nat) (A1 A4 A5 A6 A8 A9 P1 R1 : Option Addr) (tab start : Int) (w : World)
    (h0 : j < n0) (h01 : n0 ≤ c0) (h02 : c0 ≤ maxLen) (hb0 : b0 < w.heap.size) (z0 : w.cell? ⟨b0, off0 + j * 2, none⟩ = some (.slice P1 p p1)) (z1 : w.cell? ⟨b0, off0 + j * 2 + 1, none⟩ = some (.slice R1 r r1))
    (hf : ¬ f < n1) (hk : f - n1 < n2) (h1 : n1 ≤ 1000) (h2 : n2 ≤ c2) (h3 : c2 ≤ maxLen) (hfb : f ≤ 100000) (hb2 : b2 < w.heap.size) (z2 : w.cell? ⟨b2, off2 + (f - n1) * 3, none⟩ = some (.int .i64 (j : Int))) :
    Calls Try.prog 16 #[.agg #[.slice (some ⟨b0, off0, none⟩) n0 c0, .slice A1 n1 c1, .slice (some ⟨b2, off2, none⟩) n2 c2, .int .i64 tab, .slice A4 n4 c4, .slice A5 n5 c5, .slice A6 n6 c6, .int .i64 start, .slice A8 n8 c8, .slice A9 n9 c9], .int .i64 (f : Nat)] w fun e w' => e = .returned (.agg #[.slice P1 p p1, .slice R1 r r1]) ∧ Below w.heap.size w w' := by
  unfold maxLen at *
  obtain ⟨k, hke⟩ : ∃ k, k = f - n1 := ⟨_, rfl⟩
  rw [← hke] at hk z2
  have hke2 : (f : Int) - (n1 : Int) = (k : Int) := by omega
  have hk9 : k ≤ 100000 := by omega
  have hwr : IntKind.i64.wrap (k : Int) = (k : Int) := by rw [IntKind.wrap_i64]; omega
  clear hke
  obtain ⟨W1, hW1⟩ : ∃ W, W = (w.alloc (.cells #[.slice (some ⟨b0, off0, none⟩) n0 c0, .slice A1 n1 c1, .slice (some ⟨b2, off2, none⟩) n2 c2, .int .i64 tab, .slice A4 n4 c4, .slice A5 n5 c5, .slice A6 n6 c6, .int .i64 start, .slice A8 n8 c8, .slice A9 n9 c9] 31)).alloc (.cells #[.slice none 0 0, .slice none 0 0] 48) := ⟨_, rfl⟩
  have hb : Below w.heap.size w W1.drew := by rw [hW1]; exact below_drew (((Below.refl w.heap.size w).alloc (Nat.le_refl _) _).alloc (by simp) _)
  have hp : Blk W1 w.heap.size 31 #[.slice (some ⟨b0, off0, none⟩) n0 c0, .slice A1 n1 c1, .slice (some ⟨b2, off2, none⟩) n2 c2, .int .i64 tab, .slice A4 n4 c4, .slice A5 n5 c5, .slice A6 n6 c6, .int .i64 start, .slice A8 n8 c8, .slice A9 n9 c9] := by rw [hW1]; exact (Blk.new w 31 #[.slice (some ⟨b0, off0, none⟩) n0 c0, .slice A1 n1 c1, .slice (some ⟨b2, off2, none⟩) n2 c2, .int .i64 tab, .slice A4 n4 c4, .slice A5 n5 c5, .slice A6 n6 c6, .int .i64 start, .slice A8 n8 c8, .slice A9 n9 c9]).alloc _
  have hr : Blk W1 (w.heap.size + 1) 48 #[.slice none 0 0, .slice none 0 0] := by
    rw [hW1]
    have := Blk.new (w.alloc (.cells #[.slice (some ⟨b0, off0, none⟩) n0 c0, .slice A1 n1 c1, .slice (some ⟨b2, off2, none⟩) n2 c2, .int .i64 tab, .slice A4 n4 c4, .slice A5 n5 c5, .slice A6 n6 c6, .int .i64 start, .slice A8 n8 c8, .slice A9 n9 c9] 31)) 48 #[.slice none 0 0, .slice none 0 0]
    rw [World.size_alloc] at this
    exact this
  have hpd : Blk W1.drew w.heap.size 31 _ := hp
  have hrd : Blk W1.drew (w.heap.size + 1) 48 _ := hr
  have hp2 := (setRow_other W1.drew (w.heap.size + 1) w.heap.size #[.slice P1 p p1, .slice R1 r r1] (by omega)).trans hpd
  have hbs := below_setRow hb (by omega : w.heap.size ≤ w.heap.size + 1) #[.slice P1 p p1, .slice R1 r r1]
  have k0 : (fun W : World => W.cell? ⟨w.heap.size, 0, none⟩ = some (.slice (some ⟨b0, off0, none⟩) n0 c0) ∧ W.cell? ⟨w.heap.size, 1, none⟩ = some (.slice A1 n1 c1) ∧ W.cell? ⟨w.heap.size, 2, none⟩ = some (.slice (some ⟨b2, off2, none⟩) n2 c2) ∧ W.cell? ⟨b2, off2 + k * 3, none⟩ = some (.int .i64 (j : Int)) ∧ W.cell? ⟨b0, off0 + j * 2, none⟩ = some (.slice P1 p p1) ∧ W.cell? ⟨b0, off0 + j * 2 + 1, none⟩ = some (.slice R1 r r1)) W1.drew := ⟨(hpd).cell 0, (hpd).cell 1, (hpd).cell 2, (hb.cell (p := ⟨_, _, none⟩) hb2).trans z2, (hb.cell (p := ⟨_, _, none⟩) hb0).trans z0, (hb.cell (p := ⟨_, _, none⟩) hb0).trans z1⟩
  have k1 : (fun W : World => W.cell? ⟨w.heap.size, 0, none⟩ = some (.slice (some ⟨b0, off0, none⟩) n0 c0) ∧ W.cell? ⟨w.heap.size, 1, none⟩ = some (.slice A1 n1 c1) ∧ W.cell? ⟨w.heap.size, 2, none⟩ = some (.slice (some ⟨b2, off2, none⟩) n2 c2) ∧ W.cell? ⟨b2, off2 + k * 3, none⟩ = some (.int .i64 (j : Int)) ∧ W.cell? ⟨b0, off0 + j * 2, none⟩ = some (.slice P1 p p1) ∧ W.cell? ⟨b0, off0 + j * 2 + 1, none⟩ = some (.slice R1 r r1)) (W1.drew.setRow (w.heap.size + 1) #[.slice P1 p p1, .slice R1 r r1]) := ⟨((show Blk _ w.heap.size 31 _ from hp2)).cell 0, ((show Blk _ w.heap.size 31 _ from hp2)).cell 1, ((show Blk _ w.heap.size 31 _ from hp2)).cell 2, (hbs.cell (p := ⟨_, _, none⟩) hb2).trans z2, (hbs.cell (p := ⟨_, _, none⟩) hb0).trans z0, (hbs.cell (p := ⟨_, _, none⟩) hb0).trans z1⟩
  have K0 := Lib.hid k0
  have K1 := Lib.hid k1
  have HW1 := Lib.hid hW1
  have HR := Lib.hid hrd
  have HBS := Lib.hid hbs
  clear k0 k1 hW1 hp hr hpd hrd hp2 hbs hb z0 z1 z2
  go_enter Try.func16, Try.ntmps16
  go_upto_region 3 with fail
  rw [← HW1.out]
  refine wp_region_held_drew (S := (fun W : World => W.cell? ⟨w.heap.size, 0, none⟩ = some (.slice (some ⟨b0, off0, none⟩) n0 c0) ∧ W.cell? ⟨w.heap.size, 1, none⟩ = some (.slice A1 n1 c1) ∧ W.cell? ⟨w.heap.size, 2, none⟩ = some (.slice (some ⟨b2, off2, none⟩) n2 c2) ∧ W.cell? ⟨b2, off2 + k * 3, none⟩ = some (.int .i64 (j : Int)) ∧ W.cell? ⟨b0, off0 + j * 2, none⟩ = some (.slice P1 p p1) ∧ W.cell? ⟨b0, off0 + j * 2 + 1, none⟩ = some (.slice R1 r r1))) (by kernel_rfl) K0.out (fun hHeld => ?_)
  refine wpAnyH_take (i := 0) (oi := ?oi_12) (v := ?_) ?hi_12 (by kernel_rfl) ?hf_12 (by kernel_rfl) ?hQ_12 ?hy_12 (by assumption) ?_
  case hi_12 => simp only [List.getElem?_toArray, List.getElem?_cons_zero, List.getElem?_cons_succ]; rfl
  case hf_12 => kernel_rfl
  case hQ_12 => exact fun _ _ _ h => h
  case hy_12 =>
    refine Or.inl ⟨by rfl, ?_⟩
    intro W hSw
    obtain ⟨q0, q1, q5, q2, q3, q4⟩ := hSw
    go_simp
    try with_reducible rfl
  try simp only [Act.put, List.setIfInBounds_toArray, List.set_cons_zero, List.set_cons_succ]
  refine wpAnyH_take (i := 1) (oi := ?oi_13) (v := ?_) ?hi_13 (by kernel_rfl) ?hf_13 (by kernel_rfl) ?hQ_13 ?hy_13 (by assumption) ?_
  case hi_13 => simp only [List.getElem?_toArray, List.getElem?_cons_zero, List.getElem?_cons_succ]; rfl
  case hf_13 => kernel_rfl
  case hQ_13 => exact fun _ _ _ h => h
  case hy_13 =>
    refine Or.inl ⟨by rfl, ?_⟩
    intro W hSw
    obtain ⟨q0, q1, q5, q2, q3, q4⟩ := hSw
    go_simp
    try with_reducible rfl
  try simp only [Act.put, List.setIfInBounds_toArray, List.set_cons_zero, List.set_cons_succ]
  refine wpAnyH_take (i := 2) (oi := ?oi_14) (v := ?_) ?hi_14 (by kernel_rfl) ?hf_14 (by kernel_rfl) ?hQ_14 ?hy_14 (by assumption) ?_
  case hi_14 => simp only [List.getElem?_toArray, List.getElem?_cons_zero, List.getElem?_cons_succ]; rfl
  case hf_14 => kernel_rfl
  case hQ_14 => exact fun _ _ _ h => h
  case hy_14 =>
    refine Or.inl ⟨by rfl, ?_⟩
    intro W hSw
    obtain ⟨q0, q1, q5, q2, q3, q4⟩ := hSw
    go_simp
    try with_reducible rfl
  try simp only [Act.put, List.setIfInBounds_toArray, List.set_cons_zero, List.set_cons_succ]
  refine wpAnyH_take (i := 3) (oi := ?oi_15) (v := ?_) ?hi_15 (by kernel_rfl) ?hf_15 (by kernel_rfl) ?hQ_15 ?hy_15 (by assumption) ?_
  case hi_15 => simp only [List.getElem?_toArray, List.getElem?_cons_zero, List.getElem?_cons_succ]; rfl
  case hf_15 => kernel_rfl
  case hQ_15 => exact fun _ _ _ h => h
  case hy_15 =>
    refine Or.inl ⟨by rfl, ?_⟩
    intro W hSw
    obtain ⟨q0, q1, q5, q2, q3, q4⟩ := hSw
    go_simp
    try with_reducible rfl
  try simp only [Act.put, List.setIfInBounds_toArray, List.set_cons_zero, List.set_cons_succ]
  refine wpAnyH_take (i := 4) (oi := ?oi_16) (v := ?_) ?hi_16 (by kernel_rfl) ?hf_16 (by kernel_rfl) ?hQ_16 ?hy_16 (by assumption) ?_
  case hi_16 => simp only [List.getElem?_toArray, List.getElem?_cons_zero, List.getElem?_cons_succ]; rfl
  case hf_16 => kernel_rfl
  case hQ_16 => exact fun _ _ _ h => h
  case hy_16 =>
    refine Or.inl ⟨by rfl, ?_⟩
    intro W hSw
    obtain ⟨q0, q1, q5, q2, q3, q4⟩ := hSw
    go_simp
    try with_reducible rfl
  try simp only [Act.put, List.setIfInBounds_toArray, List.set_cons_zero, List.set_cons_succ]
  refine wpAnyH_take (i := 5) (oi := ?oi_17) (v := ?_) ?hi_17 (by kernel_rfl) ?hf_17 (by kernel_rfl) ?hQ_17 ?hy_17 (by assumption) ?_
  case hi_17 => simp only [List.getElem?_toArray, List.getElem?_cons_zero, List.getElem?_cons_succ]; rfl
  case hf_17 => kernel_rfl
  case hQ_17 => exact fun _ _ _ h => h
  case hy_17 =>
    refine Or.inl ⟨by rfl, ?_⟩
    intro W hSw
    obtain ⟨q0, q1, q5, q2, q3, q4⟩ := hSw
    go_simp
    try with_reducible rfl
  try simp only [Act.put, List.setIfInBounds_toArray, List.set_cons_zero, List.set_cons_succ]
  refine wpAnyH_take (i := 6) (oi := ?oi_18) (v := ?_) ?hi_18 (by kernel_rfl) ?hf_18 (by kernel_rfl) ?hQ_18 ?hy_18 (by assumption) ?_
  case hi_18 => simp only [List.getElem?_toArray, List.getElem?_cons_zero, List.getElem?_cons_succ]; rfl
  case hf_18 => kernel_rfl
  case hQ_18 => exact fun _ _ _ h => h
  case hy_18 =>
    refine Or.inl ⟨by rfl, ?_⟩
    intro W hSw
    obtain ⟨q0, q1, q5, q2, q3, q4⟩ := hSw
    go_simp
    try with_reducible rfl
  try simp only [Act.put, List.setIfInBounds_toArray, List.set_cons_zero, List.set_cons_succ]
  refine wpAnyH_take (i := 7) (oi := ?oi_19) (v := ?_) ?hi_19 (by kernel_rfl) ?hf_19 (by kernel_rfl) ?hQ_19 ?hy_19 (by assumption) ?_
  case hi_19 => simp only [List.getElem?_toArray, List.getElem?_cons_zero, List.getElem?_cons_succ]; rfl
  case hf_19 => kernel_rfl
  case hQ_19 => exact fun _ _ _ h => h
  case hy_19 =>
    refine Or.inl ⟨by rfl, ?_⟩
    intro W hSw
    obtain ⟨q0, q1, q5, q2, q3, q4⟩ := hSw
    go_simp
    try with_reducible rfl
  try simp only [Act.put, List.setIfInBounds_toArray, List.set_cons_zero, List.set_cons_succ]
  refine wpAnyH_take (i := 8) (oi := ?oi_20) (v := ?_) ?hi_20 (by kernel_rfl) ?hf_20 (by kernel_rfl) ?hQ_20 ?hy_20 (by assumption) ?_
  case hi_20 => simp only [List.getElem?_toArray, List.getElem?_cons_zero, List.getElem?_cons_succ]; rfl
  case hf_20 => kernel_rfl
  case hQ_20 => exact fun _ _ _ h => h
  case hy_20 =>
    refine Or.inl ⟨by rfl, ?_⟩
    intro W hSw
    obtain ⟨q0, q1, q5, q2, q3, q4⟩ := hSw
    go_simp
    try with_reducible rfl
  try simp only [Act.put, List.setIfInBounds_toArray, List.set_cons_zero, List.set_cons_succ]
  refine wpAnyH_take (i := 9) (oi := ?oi_21) (v := ?_) ?hi_21 (by kernel_rfl) ?hf_21 (by kernel_rfl) ?hQ_21 ?hy_21 (by assumption) ?_
  case hi_21 => simp only [List.getElem?_toArray, List.getElem?_cons_zero, List.getElem?_cons_succ]; rfl
  case hf_21 => kernel_rfl
  case hQ_21 => exact fun _ _ _ h => h
  case hy_21 =>
    refine Or.inl ⟨by rfl, ?_⟩
    intro W hSw
    obtain ⟨q0, q1, q5, q2, q3, q4⟩ := hSw
    go_simp
    try with_reducible rfl
  try simp only [Act.put, List.setIfInBounds_toArray, List.set_cons_zero, List.set_cons_succ]
  refine wpAnyH_take (i := 10) (oi := ?oi_22) (v := ?_) ?hi_22 (by kernel_rfl) ?hf_22 (by kernel_rfl) ?hQ_22 ?hy_22 (by assumption) ?_
  case hi_22 => simp only [List.getElem?_toArray, List.getElem?_cons_zero, List.getElem?_cons_succ]; rfl
  case hf_22 => kernel_rfl
  case hQ_22 => exact fun _ _ _ h => h
  case hy_22 =>
    refine Or.inl ⟨by rfl, ?_⟩
    intro W hSw
    obtain ⟨q0, q1, q5, q2, q3, q4⟩ := hSw
    go_simp
    try with_reducible rfl
  try simp only [Act.put, List.setIfInBounds_toArray, List.set_cons_zero, List.set_cons_succ]
  refine wpAnyH_take (i := 11) (oi := ?oi_23) (v := ?_) ?hi_23 (by kernel_rfl) ?hf_23 (by kernel_rfl) ?hQ_23 ?hy_23 (by assumption) ?_
  case hi_23 => simp only [List.getElem?_toArray, List.getElem?_cons_zero, List.getElem?_cons_succ]; rfl
  case hf_23 => kernel_rfl
  case hQ_23 => exact fun _ _ _ h => h
  case hy_23 =>
    refine Or.inl ⟨by rfl, ?_⟩
    intro W hSw
    obtain ⟨q0, q1, q5, q2, q3, q4⟩ := hSw
    go_simp
    try with_reducible rfl
  try simp only [Act.put, List.setIfInBounds_toArray, List.set_cons_zero, List.set_cons_succ]
  refine wpAnyH_take (i := 12) (oi := ?oi_24) (v := ?_) ?hi_24 (by kernel_rfl) ?hf_24 (by kernel_rfl) ?hQ_24 ?hy_24 (by assumption) ?_
  case hi_24 => simp only [List.getElem?_toArray, List.getElem?_cons_zero, List.getElem?_cons_succ]; rfl
  case hf_24 => kernel_rfl
  case hQ_24 => exact fun _ _ _ h => h
  case hy_24 =>
    refine Or.inl ⟨by rfl, ?_⟩
    intro W hSw
    obtain ⟨q0, q1, q5, q2, q3, q4⟩ := hSw
    go_simp
    try with_reducible rfl
  try simp only [Act.put, List.setIfInBounds_toArray, List.set_cons_zero, List.set_cons_succ]
  refine wpAnyH_take (i := 13) (oi := ?oi_25) (v := ?_) ?hi_25 (by kernel_rfl) ?hf_25 (by kernel_rfl) ?hQ_25 ?hy_25 (by assumption) ?_
  case hi_25 => simp only [List.getElem?_toArray, List.getElem?_cons_zero, List.getElem?_cons_succ]; rfl
  case hf_25 => kernel_rfl
  case hQ_25 => exact fun _ _ _ h => h
  case hy_25 =>
    refine Or.inl ⟨by rfl, ?_⟩
    intro W hSw
    obtain ⟨q0, q1, q5, q2, q3, q4⟩ := hSw
    go_simp
    try with_reducible rfl
  try simp only [Act.put, List.setIfInBounds_toArray, List.set_cons_zero, List.set_cons_succ]
  refine wpAnyH_ready (rs := [14]) (by kernel_rfl) (by simp) ?_
  refine AllReadyH.cons (o := ?oi_26) ?hi_26 (fun K hK => ?_) AllReadyH.nil
  case hi_26 => simp only [List.getElem?_toArray, List.getElem?_cons_zero, List.getElem?_cons_succ]; rfl
  refine step_store_row rfl 48 (.tmp 4) (.tmp 33) rfl (w.heap.size + 1) #[.slice P1 p p1, .slice R1 r r1] rfl rfl 48 _ HR.out (by kernel_rfl) rfl (by simp [Value.oneCell']) ?_
  refine hK.out _ _ K1.out (fun hHeld => ?_)
  clear hK K
  try simp only [Act.put, List.setIfInBounds_toArray, List.set_cons_zero, List.set_cons_succ]
  refine wpAnyH_done (by kernel_rfl) ?_ _
  clear hHeld
  go_wp2
  refine bodyPost_ret (v := .agg #[.slice P1 p p1, .slice R1 r r1]) (results_cell_row results16 _ _ (w.heap.size + 1) 48 _ (0, 0) _ rfl (setRow_heap W1.drew (w.heap.size + 1) _ _ 48 (0, 0) HR.out) Try.underlying48 rfl (by kernel_rfl)) rfl ?_
  exact ⟨rfl, HBS.out⟩
/-- what the law's Sig answers -/
def LSiP (y : SigT) (w : World) (e : Ending) (w' : World) : Prop := Below w.heap.size w w' ∧ ∃ (A : Option Addr) (c : Nat) (B : Option Addr) (d : Nat), e = .returned (.agg #[.slice A y.P.length c, .slice B y.R.length d]) ∧ Byt w' A y.P.length c y.P ∧ Byt w' B y.R.length d y.R
theorem LSig_ok (x : Mt) (f j : Nat) (w : World) (hx : MtAt w x) (hf : f < x.s1.n + x.s2.n) (h1 : x.s1.n ≤ 1000) (h2 : x.s2.n ≤ 1000) (hj : sgOf x f = (j : Int)) (hj0 : j < x.s0.n) :
    Calls Try.prog 16 #[.agg x.cells, .int .i64 (f : Nat)] w (LSiP (x.X0 j) w) := by
  obtain ⟨⟨A0, n0, c0⟩, X0, ⟨A1, n1, c1⟩, X1, ⟨A2, n2, c2⟩, X2, tab, ⟨A4, n4, c4⟩, X4, ⟨A5, n5, c5⟩, X5, ⟨A6, n6, c6⟩, X6, start, ⟨A8, n8, c8⟩, X8, ⟨A9, n9, c9⟩, X9⟩ := x
  unfold sgOf at hj
  dsimp only at hf h1 h2 hj hj0 ⊢
  obtain ⟨b0, off0, hA0, hb0, hat0⟩ := hx.r0.2.2 (show 0 < n0 by omega)
  dsimp only at hA0
  subst hA0
  obtain ⟨P1, p1, R1, r1, z0, z1, hP, hR⟩ := hat0 j hj0
  have key : ∀ {Q : Ending → World → Prop}, (∀ e w', e = .returned (.agg #[.slice P1 (X0 j).P.length p1, .slice R1 (X0 j).R.length r1]) ∧ Below w.heap.size w w' → Q e w') → Calls Try.prog 16 #[.agg #[.slice (some ⟨b0, off0, none⟩) n0 c0, .slice A1 n1 c1, .slice A2 n2 c2, .int .i64 tab, .slice A4 n4 c4, .slice A5 n5 c5, .slice A6 n6 c6, .int .i64 start, .slice A8 n8 c8, .slice A9 n9 c9], .int .i64 (f : Nat)] w Q := by
    intro Q hQ
    by_cases hlt : f < n1
    · rw [if_pos hlt] at hj
      obtain ⟨b1, off1, hA1, hb1, hat1⟩ := hx.r1.2.2 (show 0 < n1 by omega)
      dsimp only at hA1
      subst hA1
      have z2 := (hat1 f hlt).2.2
      dsimp only at z2
      rw [hj] at z2
      exact (lsig_imp b0 off0 n0 c0 b1 off1 n1 c1 n2 c2 n4 c4 n5 c5 n6 c6 n8 c8 n9 c9 f j _ p1 _ r1 A2 A4 A5 A6 A8 A9 P1 R1 tab start w hj0 hx.r0.1 hx.r0.2.1 hb0 z0 z1 hlt hx.r1.1 hx.r1.2.1 hb1 z2).mono hQ
    · rw [if_neg hlt] at hj
      obtain ⟨b2, off2, hA2, hb2, hat2⟩ := hx.r2.2.2 (show 0 < n2 by omega)
      dsimp only at hA2
      subst hA2
      obtain ⟨_, _, _, _, z2, _⟩ := hat2 (f - n1) (show f - n1 < n2 by omega)
      dsimp only at z2
      rw [hj] at z2
      exact (lsig_fun b0 off0 n0 c0 b2 off2 n1 c1 n2 c2 n4 c4 n5 c5 n6 c6 n8 c8 n9 c9 f j _ p1 _ r1 A1 A4 A5 A6 A8 A9 P1 R1 tab start w hj0 hx.r0.1 hx.r0.2.1 hb0 z0 z1 hlt (by omega) h1 hx.r2.1 hx.r2.2.1 (by omega) hb2 z2).mono hQ
  exact key (fun e w' ⟨he, hb⟩ => ⟨hb, P1, p1, R1, r1, he, hP.below hb, hR.below hb⟩)
end Go.Proofs.Ytackompihengfaa
