/-
  code's nest: end of the body; part.
-/
import Derived.Test.YtggfaalodojjkaaDoorNd
namespace Go.Proofs.YtggfaalodojjkaaDoor
open Go.RowKit
set_option linter.unusedVariables false
set_option linter.unusedSimpArgs false
set_option maxHeartbeats 4000000 in
set_option maxRecDepth 100000 in
theorem end_last (B b : Nat) (n : Ne) (sv ov : Value) (w : World) (h : Nst B w b n sv ov) (hop : n.op = []) :
    Calls Tryd.prog 59 #[.pointer (some ⟨b, 0, none⟩)] w (NeP B b { n with cl := true } w) := by
  obtain ⟨A, c, rfl⟩ := own_slice h.orr
  have x2 := h.blk.cell 2
  have x4 := h.blk.cell 4
  have z4 := h.blk.frozen 4
  have hl : n.op.length = 0 := by rw [hop]; rfl
  have H := Lib.hid h
  clear h hop
  have e1 : decide ((n.op.length : Int) - 1 < 0) = true := by simp; omega
  have e2 : (n.op.length : Int) - 1 < 0 := by omega
  go_enter Tryd.func59, Tryd.ntmps59
  go_wp2
  go_end0
  have h := H.out
  have hs : Fr (fun k => k = b) w (w.setCell ⟨b, 4, none⟩ (.bool true)) := (Fr.refl (fun k => k = b) w).set_ (p := ⟨b, 4, none⟩) rfl _
  exact ⟨rfl, _, _, ⟨h.blk.set_ 4 _, h.hb, own_fr h.sr hs (fun k hk e => (h.ne_s k hk).1 e), own_fr h.orr hs (fun k hk e => (h.ne_o k hk).1 e), h.pl, h.sl, h.ol, h.dl⟩, hs.more (fun k hk => by rw [hk]; exact h.hb)⟩
set_option maxHeartbeats 4000000 in
set_option maxRecDepth 100000 in
theorem part_empty (B b : Nat) (n : Ne) (sv ov : Value) (w : World) (h : Nst B w b n sv ov) (hop : n.op = []) :
    Calls Tryd.prog 58 #[.pointer (some ⟨b, 0, none⟩)] w fun e w' => e = .returned (.int .i64 4) ∧ w = w' := by
  obtain ⟨A, c, rfl⟩ := own_slice h.orr
  have x2 := h.blk.cell 2
  have hl : n.op.length = 0 := by rw [hop]; rfl
  clear h hop
  have e2 : (n.op.length : Int) - 1 < 0 := by omega
  go_enter Tryd.func58, Tryd.ntmps58
  go_wp2
  go_ret
  exact ⟨rfl, rfl⟩
set_option maxHeartbeats 4000000 in
set_option maxRecDepth 100000 in
theorem part_twice (B b : Nat) (n : Ne) (sv ov : Value) (op : List (Nat × Bool)) (j : Nat) (w : World) (h : Nst B w b n sv ov) (hop : n.op = op ++ [(j, false)]) :
    Calls Tryd.prog 58 #[.pointer (some ⟨b, 0, none⟩)] w fun e w' => e = .returned (.int .i64 4) ∧ w = w' := by
  have hl : n.op.length = op.length + 1 := by rw [hop]; simp
  obtain ⟨g, c, rfl, hc1, hc2⟩ := own_some h.orr (by omega)
  unfold maxLen at hc2
  have x2 := h.blk.cell 2
  have hat := (opC_at op j false).2
  rw [← hop] at hat
  have x3 : w.cell? ⟨g, op.length * 2 + 1, none⟩ = some (.bool false) := (h.orr.cellAt (op.length * 2 + 1) (by omega)).trans hat
  have hol := h.ol
  have hi0 : (0 : Int) ≤ (op.length : Int) := by omega
  have hi1 : (op.length : Int) < (n.op.length : Int) := by omega
  have hi2 : (n.op.length : Int) - 1 = (op.length : Int) := by omega
  clear h hop hat hl
  go_enter Tryd.func58, Tryd.ntmps58
  go_wp2
  go_ret
  exact ⟨rfl, rfl⟩
/-- an open one's cell turned -/
theorem Nst.cell_o {B b g c : Nat} {w : World} {n : Ne} {sv : Value} {op : List (Nat × Bool)} (h : Nst B w b n sv (.slice (some ⟨g, 0, none⟩) n.op.length c)) (k : Nat) (u : Value) (hop : (opC n.op).set k u = opC op) (hl : op.length = n.op.length) :
    Nst B (w.setCell ⟨g, k, none⟩ u) b { n with op := op } sv (.slice (some ⟨g, 0, none⟩) n.op.length c) ∧ Fr (fun k => B ≤ k) w (w.setCell ⟨g, k, none⟩ u) := by
  have hs : Fr (fun k => k = g) w (w.setCell ⟨g, k, none⟩ u) := (Fr.refl (fun k => k = g) w).set_ (p := ⟨g, k, none⟩) rfl _
  have hgb := h.ne_o g rfl
  refine ⟨⟨h.blk.fr hs (fun e => hgb.1 e.symm), h.hb, own_fr h.sr hs (fun k hk e => h.ne_so k hk (by rw [e]; rfl)), ?_, h.pl, h.sl, by show op.length ≤ 64; rw [hl]; exact h.ol, h.dl⟩, hs.more (fun k hk => by rw [hk]; exact hgb.2)⟩
  show (w.setCell ⟨g, k, none⟩ u).ownsRow B 158 2 _ op.length (opC op)
  rw [hl, ← hop]
  exact (h.orr.stored k u).1
set_option maxHeartbeats 4000000 in
set_option maxRecDepth 100000 in
theorem part_one (B b : Nat) (n : Ne) (sv ov : Value) (op : List (Nat × Bool)) (j : Nat) (w : World) (h : Nst B w b n sv ov) (hop : n.op = op ++ [(j, true)]) (hj : j < n.sp.length) :
    Calls Tryd.prog 58 #[.pointer (some ⟨b, 0, none⟩)] w (NsP B b { n with op := op ++ [(j, false)], sp := setE n.sp j n.pos } 0 w) := by
  have hl : n.op.length = op.length + 1 := by rw [hop]; simp
  obtain ⟨g, c, rfl, hc1, hc2⟩ := own_some h.orr (by omega)
  obtain ⟨g2, c2, rfl, hd1, hd2⟩ := own_some h.sr (by omega)
  have hsl := h.sl
  have hol := h.ol
  unfold maxLen at hc2 hd2
  have hat := (opC_at op j true).2
  rw [← hop] at hat
  have x9 : w.cell? ⟨g, op.length * 2 + 1, none⟩ = some (.bool true) := (h.orr.cellAt (op.length * 2 + 1) (by omega)).trans hat
  have z9 := h.orr.frozenAt (op.length * 2 + 1)
  have x2' := h.blk.cell 2
  obtain ⟨hN1, hF1⟩ := h.cell_o (op.length * 2 + 1) (.bool false) (op := op ++ [(j, false)]) (by rw [hop]; exact opC_last _ _ _ _) (by rw [hl]; simp)
  obtain ⟨w1, hw1⟩ : ∃ w1, w1 = w.setCell ⟨g, op.length * 2 + 1, none⟩ (.bool false) := ⟨_, rfl⟩
  rw [← hw1] at hN1 hF1
  have HW1 := Lib.hid hw1
  have HF1 := Lib.hid hF1
  have hbk : Blk w1 b 58 #[.int .i64 n.pos, .slice (some ⟨g2, 0, none⟩) n.sp.length c2, .slice (some ⟨g, 0, none⟩) n.op.length c, .int .i64 n.dp, .bool n.cl] := hN1.blk
  have x0 : w1.cell? ⟨b, 0, none⟩ = some (.int .i64 n.pos) := hbk.cell 0
  have x1 : w1.cell? ⟨b, 1, none⟩ = some (.slice (some ⟨g2, 0, none⟩) n.sp.length c2) := hbk.cell 1
  have x2 : w1.cell? ⟨b, 2, none⟩ = some (.slice (some ⟨g, 0, none⟩) n.op.length c) := hbk.cell 2
  have hat2 := (opC_at op j false).1
  have x3 : w1.cell? ⟨g, op.length * 2, none⟩ = some (.int .i64 j) := by
    have ho : w1.ownsRow B 158 2 (.slice (some ⟨g, 0, none⟩) n.op.length c) n.op.length (opC (op ++ [(j, false)])) := by
      have := hN1.orr
      have e : (op ++ [(j, false)]).length = n.op.length := by rw [hl]; simp
      rwa [show ({ n with op := op ++ [(j, false)] } : Ne).op.length = n.op.length from e] at this
    exact (ho.cellAt (op.length * 2) (by omega)).trans hat2
  have hsz : (spC n.sp).length = n.sp.length * 3 := spC_len _
  obtain ⟨u, hu⟩ : ∃ u, (spC n.sp)[j * 3 + 1]? = some u := ⟨_, List.getElem?_eq_getElem (by omega)⟩
  have hsr : w1.ownsRow B 48 3 (.slice (some ⟨g2, 0, none⟩) n.sp.length c2) n.sp.length (spC n.sp) := hN1.sr
  have x4 : w1.cell? ⟨g2, j * 3 + 1, none⟩ = some u := (hsr.cellAt (j * 3 + 1) (by omega)).trans hu
  have z4 := hsr.frozenAt (j * 3 + 1)
  have hg2b := (hN1.ne_s g2 rfl).1
  have hgg : g ≠ g2 := fun e => h.ne_so g2 rfl (by rw [← e]; rfl)
  have H := Lib.hid hN1
  have hi0 : (0 : Int) ≤ (op.length : Int) := by omega
  have hi1 : (op.length : Int) < (n.op.length : Int) := by omega
  have hi2 : (n.op.length : Int) - 1 = (op.length : Int) := by omega
  have hj0 : (0 : Int) ≤ (j : Int) := by omega
  have hj1 : (j : Int) < (n.sp.length : Int) := by omega
  have HJ := Lib.hid hj
  have hS0 : (fun W : World => W.cell? ⟨b, 0, none⟩ = some (.int .i64 n.pos) ∧ W.cell? ⟨b, 1, none⟩ = some (.slice (some ⟨g2, 0, none⟩) n.sp.length c2) ∧ W.cell? ⟨b, 2, none⟩ = some (.slice (some ⟨g, 0, none⟩) n.op.length c) ∧ W.cell? ⟨g, op.length * 2, none⟩ = some (.int .i64 j)) w1.drew := ⟨x0, x1, x2, x3⟩
  have HS0 := Lib.hid hS0
  have hS1 : Hid (∀ v, (w1.drew.setCell ⟨g2, j * 3 + 1, none⟩ v).cell? ⟨b, 0, none⟩ = some (.int .i64 n.pos) ∧ (w1.drew.setCell ⟨g2, j * 3 + 1, none⟩ v).cell? ⟨b, 1, none⟩ = some (.slice (some ⟨g2, 0, none⟩) n.sp.length c2) ∧ (w1.drew.setCell ⟨g2, j * 3 + 1, none⟩ v).cell? ⟨b, 2, none⟩ = some (.slice (some ⟨g, 0, none⟩) n.op.length c) ∧ (w1.drew.setCell ⟨g2, j * 3 + 1, none⟩ v).cell? ⟨g, op.length * 2, none⟩ = some (.int .i64 j)) := Lib.hid (fun v =>
    ⟨(World.cell?_setCell_far _ _ _ _ hg2b).trans x0, (World.cell?_setCell_far _ _ _ _ hg2b).trans x1, (World.cell?_setCell_far _ _ _ _ hg2b).trans x2, (World.cell?_setCell_far _ _ _ _ (Ne.symm hgg)).trans x3⟩)
  clear h hop hat hN1 hF1 hw1 hbk hat2 hu hsz hsr hl hS0 x0 x1 x2 x3
  go_enter Tryd.func58, Tryd.ntmps58
  go_wp2_with fail
  rw [← HW1.out]
  refine wp_region_held_drew (S := (fun W : World => W.cell? ⟨b, 0, none⟩ = some (.int .i64 n.pos) ∧ W.cell? ⟨b, 1, none⟩ = some (.slice (some ⟨g2, 0, none⟩) n.sp.length c2) ∧ W.cell? ⟨b, 2, none⟩ = some (.slice (some ⟨g, 0, none⟩) n.op.length c) ∧ W.cell? ⟨g, op.length * 2, none⟩ = some (.int .i64 j))) (by kernel_rfl) HS0.out (fun hHeld => ?_)
  refine wpAnyH_take (i := 0) (oi := ?oi_1) (v := ?_) ?hi_1 (by kernel_rfl) ?hf_1 (by kernel_rfl) ?hQ_1 ?hy_1 (by assumption) ?_
  case hi_1 => simp only [List.getElem?_toArray, List.getElem?_cons_zero, List.getElem?_cons_succ]; rfl
  case hf_1 => kernel_rfl
  case hQ_1 => exact fun _ _ _ h => h
  case hy_1 =>
    refine Or.inl ⟨by rfl, ?_⟩
    intro W hSw
    go_simp
    try with_reducible rfl
  try simp only [Act.put, List.setIfInBounds_toArray, List.set_cons_zero, List.set_cons_succ]
  refine wpAnyH_take (i := 1) (oi := ?oi_2) (v := ?_) ?hi_2 (by kernel_rfl) ?hf_2 (by kernel_rfl) ?hQ_2 ?hy_2 (by assumption) ?_
  case hi_2 => simp only [List.getElem?_toArray, List.getElem?_cons_zero, List.getElem?_cons_succ]; rfl
  case hf_2 => kernel_rfl
  case hQ_2 => exact fun _ _ _ h => h
  case hy_2 =>
    refine Or.inl ⟨by rfl, ?_⟩
    intro W hSw
    go_simp
    try with_reducible rfl
  try simp only [Act.put, List.setIfInBounds_toArray, List.set_cons_zero, List.set_cons_succ]
  refine wpAnyH_take (i := 2) (oi := ?oi_3) (v := ?_) ?hi_3 (by kernel_rfl) ?hf_3 (by kernel_rfl) ?hQ_3 ?hy_3 (by assumption) ?_
  case hi_3 => simp only [List.getElem?_toArray, List.getElem?_cons_zero, List.getElem?_cons_succ]; rfl
  case hf_3 => kernel_rfl
  case hQ_3 => exact fun _ _ _ h => h
  case hy_3 =>
    refine Or.inl ⟨by rfl, ?_⟩
    intro W hSw
    go_simp
    try with_reducible rfl
  try simp only [Act.put, List.setIfInBounds_toArray, List.set_cons_zero, List.set_cons_succ]
  refine wpAnyH_take (i := 3) (oi := ?oi_4) (v := ?_) ?hi_4 (by kernel_rfl) ?hf_4 (by kernel_rfl) ?hQ_4 ?hy_4 (by assumption) ?_
  case hi_4 => simp only [List.getElem?_toArray, List.getElem?_cons_zero, List.getElem?_cons_succ]; rfl
  case hf_4 => kernel_rfl
  case hQ_4 => exact fun _ _ _ h => h
  case hy_4 =>
    refine Or.inl ⟨by rfl, ?_⟩
    intro W hSw
    have y0 := hSw.1
    have y1 := hSw.2.1
    have y2 := hSw.2.2.1
    have y3 := hSw.2.2.2
    go_simp
    try with_reducible rfl
  try simp only [Act.put, List.setIfInBounds_toArray, List.set_cons_zero, List.set_cons_succ]
  refine wpAnyH_take (i := 4) (oi := ?oi_5) (v := ?_) ?hi_5 (by kernel_rfl) ?hf_5 (by kernel_rfl) ?hQ_5 ?hy_5 (by assumption) ?_
  case hi_5 => simp only [List.getElem?_toArray, List.getElem?_cons_zero, List.getElem?_cons_succ]; rfl
  case hf_5 => kernel_rfl
  case hQ_5 => exact fun _ _ _ h => h
  case hy_5 =>
    refine Or.inl ⟨by rfl, ?_⟩
    intro W hSw
    go_simp
    try with_reducible rfl
  try simp only [Act.put, List.setIfInBounds_toArray, List.set_cons_zero, List.set_cons_succ]
  refine wpAnyH_take (i := 5) (oi := ?oi_6) (v := ?_) ?hi_6 (by kernel_rfl) ?hf_6 (by kernel_rfl) ?hQ_6 ?hy_6 (by assumption) ?_
  case hi_6 => simp only [List.getElem?_toArray, List.getElem?_cons_zero, List.getElem?_cons_succ]; rfl
  case hf_6 => kernel_rfl
  case hQ_6 => exact fun _ _ _ h => h
  case hy_6 =>
    refine Or.inl ⟨by rfl, ?_⟩
    intro W hSw
    go_simp
    try with_reducible rfl
  try simp only [Act.put, List.setIfInBounds_toArray, List.set_cons_zero, List.set_cons_succ]
  refine wpAnyH_take (i := 6) (oi := ?oi_7) (v := ?_) ?hi_7 (by kernel_rfl) ?hf_7 (by kernel_rfl) ?hQ_7 ?hy_7 (by assumption) ?_
  case hi_7 => simp only [List.getElem?_toArray, List.getElem?_cons_zero, List.getElem?_cons_succ]; rfl
  case hf_7 => kernel_rfl
  case hQ_7 => exact fun _ _ _ h => h
  case hy_7 =>
    refine Or.inl ⟨by rfl, ?_⟩
    intro W hSw
    go_simp
    try with_reducible rfl
  try simp only [Act.put, List.setIfInBounds_toArray, List.set_cons_zero, List.set_cons_succ]
  refine wpAnyH_take (i := 7) (oi := ?oi_8) (v := ?_) ?hi_8 (by kernel_rfl) ?hf_8 (by kernel_rfl) ?hQ_8 ?hy_8 (by assumption) ?_
  case hi_8 => simp only [List.getElem?_toArray, List.getElem?_cons_zero, List.getElem?_cons_succ]; rfl
  case hf_8 => kernel_rfl
  case hQ_8 => exact fun _ _ _ h => h
  case hy_8 =>
    refine Or.inl ⟨by rfl, ?_⟩
    intro W hSw
    have y0 := hSw.1
    have y1 := hSw.2.1
    have y2 := hSw.2.2.1
    have y3 := hSw.2.2.2
    go_simp
    try with_reducible rfl
  try simp only [Act.put, List.setIfInBounds_toArray, List.set_cons_zero, List.set_cons_succ]
  refine wpAnyH_take (i := 8) (oi := ?oi_9) (v := ?_) ?hi_9 (by kernel_rfl) ?hf_9 (by kernel_rfl) ?hQ_9 ?hy_9 (by assumption) ?_
  case hi_9 => simp only [List.getElem?_toArray, List.getElem?_cons_zero, List.getElem?_cons_succ]; rfl
  case hf_9 => kernel_rfl
  case hQ_9 => exact fun _ _ _ h => h
  case hy_9 =>
    refine Or.inl ⟨by rfl, ?_⟩
    intro W hSw
    go_simp
    try with_reducible rfl
  try simp only [Act.put, List.setIfInBounds_toArray, List.set_cons_zero, List.set_cons_succ]
  refine wpAnyH_take (i := 9) (oi := ?oi_10) (v := ?_) ?hi_10 (by kernel_rfl) ?hf_10 (by kernel_rfl) ?hQ_10 ?hy_10 (by assumption) ?_
  case hi_10 => simp only [List.getElem?_toArray, List.getElem?_cons_zero, List.getElem?_cons_succ]; rfl
  case hf_10 => kernel_rfl
  case hQ_10 => exact fun _ _ _ h => h
  case hy_10 =>
    refine Or.inl ⟨by rfl, ?_⟩
    intro W hSw
    have y0 := hSw.1
    have y1 := hSw.2.1
    have y2 := hSw.2.2.1
    have y3 := hSw.2.2.2
    go_simp
    try with_reducible rfl
  try simp only [Act.put, List.setIfInBounds_toArray, List.set_cons_zero, List.set_cons_succ]
  refine wpAnyH_take (i := 10) (oi := ?oi_11) (v := ?_) ?hi_11 (by kernel_rfl) ?hf_11 (by kernel_rfl) ?hQ_11 ?hy_11 (by assumption) ?_
  case hi_11 => simp only [List.getElem?_toArray, List.getElem?_cons_zero, List.getElem?_cons_succ]; rfl
  case hf_11 => kernel_rfl
  case hQ_11 => exact fun _ _ _ h => h
  case hy_11 =>
    refine Or.inl ⟨by rfl, ?_⟩
    intro W hSw
    go_simp
    try with_reducible rfl
  try simp only [Act.put, List.setIfInBounds_toArray, List.set_cons_zero, List.set_cons_succ]
  refine wpAnyH_take (i := 11) (oi := ?oi_12) (v := ?_) ?hi_12 (by kernel_rfl) ?hf_12 (by kernel_rfl) ?hQ_12 ?hy_12 (by assumption) ?_
  case hi_12 => simp only [List.getElem?_toArray, List.getElem?_cons_zero, List.getElem?_cons_succ]; rfl
  case hf_12 => kernel_rfl
  case hQ_12 => exact fun _ _ _ h => h
  case hy_12 =>
    refine Or.inl ⟨by rfl, ?_⟩
    intro W hSw
    have y0 := hSw.1
    have y1 := hSw.2.1
    have y2 := hSw.2.2.1
    have y3 := hSw.2.2.2
    go_simp
    try with_reducible rfl
  try simp only [Act.put, List.setIfInBounds_toArray, List.set_cons_zero, List.set_cons_succ]
  refine wpAnyH_take (i := 12) (oi := ?oi_13) (v := ?_) ?hi_13 (by kernel_rfl) ?hf_13 (by kernel_rfl) ?hQ_13 ?hy_13 (by assumption) ?_
  case hi_13 => simp only [List.getElem?_toArray, List.getElem?_cons_zero, List.getElem?_cons_succ]; rfl
  case hf_13 => kernel_rfl
  case hQ_13 => exact fun _ _ _ h => h
  case hy_13 =>
    refine Or.inl ⟨by rfl, ?_⟩
    intro W hSw
    go_simp
    try with_reducible rfl
  try simp only [Act.put, List.setIfInBounds_toArray, List.set_cons_zero, List.set_cons_succ]
  refine wpAnyH_take (i := 13) (oi := ?oi_14) (v := ?_) ?hi_14 (by kernel_rfl) ?hf_14 (by kernel_rfl) ?hQ_14 ?hy_14 (by assumption) ?_
  case hi_14 => simp only [List.getElem?_toArray, List.getElem?_cons_zero, List.getElem?_cons_succ]; rfl
  case hf_14 => kernel_rfl
  case hQ_14 => exact fun _ _ _ h => h
  case hy_14 =>
    refine Or.inl ⟨by rfl, ?_⟩
    intro W hSw
    go_simp
    try with_reducible rfl
  try simp only [Act.put, List.setIfInBounds_toArray, List.set_cons_zero, List.set_cons_succ]
  refine wpAnyH_take (i := 14) (oi := ?oi_15) (v := ?_) ?hi_15 (by kernel_rfl) ?hf_15 (by kernel_rfl) ?hQ_15 ?hy_15 (by assumption) ?_
  case hi_15 => simp only [List.getElem?_toArray, List.getElem?_cons_zero, List.getElem?_cons_succ]; rfl
  case hf_15 => kernel_rfl
  case hQ_15 => exact fun _ _ _ h => h
  case hy_15 =>
    refine Or.inl ⟨by rfl, ?_⟩
    intro W hSw
    go_simp
    try with_reducible rfl
  try simp only [Act.put, List.setIfInBounds_toArray, List.set_cons_zero, List.set_cons_succ]
  refine wpAnyH_take (i := 15) (oi := ?oi_16) (v := ?_) ?hi_16 (by kernel_rfl) ?hf_16 (by kernel_rfl) ?hQ_16 ?hy_16 (by assumption) ?_
  case hi_16 => simp only [List.getElem?_toArray, List.getElem?_cons_zero, List.getElem?_cons_succ]; rfl
  case hf_16 => kernel_rfl
  case hQ_16 => exact fun _ _ _ h => h
  case hy_16 =>
    refine Or.inl ⟨by rfl, ?_⟩
    intro W hSw
    have y0 := hSw.1
    have y1 := hSw.2.1
    have y2 := hSw.2.2.1
    have y3 := hSw.2.2.2
    go_simp
    try with_reducible rfl
  try simp only [Act.put, List.setIfInBounds_toArray, List.set_cons_zero, List.set_cons_succ]
  refine wpAnyH_take (i := 16) (oi := ?oi_17) (v := ?_) ?hi_17 (by kernel_rfl) ?hf_17 (by kernel_rfl) ?hQ_17 ?hy_17 (by assumption) ?_
  case hi_17 => simp only [List.getElem?_toArray, List.getElem?_cons_zero, List.getElem?_cons_succ]; rfl
  case hf_17 => kernel_rfl
  case hQ_17 => exact fun _ _ _ h => h
  case hy_17 =>
    refine Or.inl ⟨by rfl, ?_⟩
    intro W hSw
    have y0 := hSw.1
    have y1 := hSw.2.1
    have y2 := hSw.2.2.1
    have y3 := hSw.2.2.2
    go_simp
    try with_reducible rfl
  try simp only [Act.put, List.setIfInBounds_toArray, List.set_cons_zero, List.set_cons_succ]
  refine wpAnyH_take (i := 17) (oi := ?oi_18) (v := ?_) ?hi_18 (by kernel_rfl) ?hf_18 (by kernel_rfl) ?hQ_18 ?hy_18 (by assumption) ?_
  case hi_18 => simp only [List.getElem?_toArray, List.getElem?_cons_zero, List.getElem?_cons_succ]; rfl
  case hf_18 => kernel_rfl
  case hQ_18 => exact fun _ _ _ h => h
  case hy_18 =>
    refine Or.inl ⟨by rfl, ?_⟩
    intro W hSw
    go_simp
    try with_reducible rfl
  try simp only [Act.put, List.setIfInBounds_toArray, List.set_cons_zero, List.set_cons_succ]
  refine wpAnyH_ready (rs := [18]) (by kernel_rfl) (by simp) ?_
  refine AllReadyH.cons (o := ?oi_19) ?hi_19 (fun K hK => ?_) AllReadyH.nil
  case hi_19 => simp only [List.getElem?_toArray, List.getElem?_cons_zero, List.getElem?_cons_succ]; rfl
  go_simp
  refine hK.out _ _ (hS1.out _) (fun hHeld => ?_)
  clear hK K
  try simp only [Act.put, List.setIfInBounds_toArray, List.set_cons_zero, List.set_cons_succ]
  refine wpAnyH_done (by kernel_rfl) ?_ _
  clear hHeld
  obtain ⟨hN, hF⟩ := H.out.cell_s (j * 3 + 1) (.int .i64 n.pos) (spC_setE n.sp n.pos j HJ.out) (by unfold setE; rw [List.length_modify])
  have HN := Lib.hid hN.drew
  have HF := Lib.hid (HF1.out.trans hF.drew)
  clear hN hF
  go_wp2
  go_ret
  exact ⟨rfl, _, _, HN.out, HF.out⟩
end Go.Proofs.YtggfaalodojjkaaDoor
