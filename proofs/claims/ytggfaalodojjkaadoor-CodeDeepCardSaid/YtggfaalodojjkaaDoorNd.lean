/-
  code's nest: end.
-/
import Derived.Test.YtggfaalodojjkaaDoorNc
import Derived.Test.YtggfaalodojjkaaDoorNb
namespace Go.Proofs.YtggfaalodojjkaaDoor
open Go.RowKit
set_option linter.unusedVariables false
set_option linter.unusedSimpArgs false
theorem own_some {base E size : Nat} {w : World} {v : Value} {n : Nat} {xs : List Value} (h : w.ownsRow base E size v n xs) (hn : 0 < n) : ∃ g cp, v = .slice (some ⟨g, 0, none⟩) n cp ∧ n ≤ cp ∧ cp ≤ maxLen := by
  rcases h.2 with ⟨e, h0⟩ | ⟨g, cap, cur, e, _, _, hc, hm, _⟩
  · omega
  · exact ⟨g, cap, e, hc, hm⟩
theorem own_cut {base E size g n c m : Nat} {w : World} {xs : List Value} (h : w.ownsRow base E size (.slice (some ⟨g, 0, none⟩) n c) n xs) (hm : m ≤ n) : w.ownsRow base E size (.slice (some ⟨g, 0, none⟩) m c) m (xs.take (m * size)) := by
  rcases h.2 with ⟨e, _⟩ | ⟨g', cap, cur, e, hB, hg, hnc, hcm, hcs, htk⟩
  · cases e
  · cases e
    refine ⟨?_, .inr ⟨g, c, cur, rfl, hB, hg, by omega, hcm, hcs, ?_⟩⟩
    · rw [List.length_take, h.1]; exact Nat.min_eq_left (Nat.mul_le_mul_right _ hm)
    · rw [← htk, List.take_take, Nat.min_eq_left (Nat.mul_le_mul_right _ hm)]
/-- a span's cell turned -/
theorem Nst.cell_s {B b g c : Nat} {w : World} {n : Ne} {ov : Value} {sp : List (Nat × Int × Nat)} (h : Nst B w b n (.slice (some ⟨g, 0, none⟩) n.sp.length c) ov) (k : Nat) (u : Value) (hsp : (spC n.sp).set k u = spC sp) (hl : sp.length = n.sp.length) :
    Nst B (w.setCell ⟨g, k, none⟩ u) b { n with sp := sp } (.slice (some ⟨g, 0, none⟩) n.sp.length c) ov ∧ Fr (fun k => B ≤ k) w (w.setCell ⟨g, k, none⟩ u) := by
  have hs : Fr (fun k => k = g) w (w.setCell ⟨g, k, none⟩ u) := (Fr.refl (fun k => k = g) w).set_ (p := ⟨g, k, none⟩) rfl _
  have hgb := h.ne_s g rfl
  refine ⟨⟨h.blk.fr hs (fun e => hgb.1 e.symm), h.hb, ?_, own_fr h.orr hs (fun k hk e => h.ne_so g rfl (by rw [← e]; exact hk)), h.pl, by show sp.length ≤ 100001; rw [hl]; exact h.sl, h.ol, h.dl⟩, hs.more (fun k hk => by rw [hk]; exact hgb.2)⟩
  show (w.setCell ⟨g, k, none⟩ u).ownsRow B 48 3 _ sp.length (spC sp)
  rw [hl, ← hsp]
  exact (h.sr.stored k u).1
def NeP (B b : Nat) (n : Ne) (w : World) (e : Ending) (w' : World) : Prop := e = .returned (.tuple #[]) ∧ ∃ sv ov, Nst B w' b n sv ov ∧ Fr (fun k => B ≤ k) w w'
set_option maxHeartbeats 4000000 in
set_option maxRecDepth 100000 in
theorem end_one (B b : Nat) (n : Ne) (sv ov : Value) (op : List (Nat × Bool)) (j : Nat) (p : Bool) (w : World) (h : Nst B w b n sv ov) (hop : n.op = op ++ [(j, p)]) (hj : j < n.sp.length) :
    Calls Tryd.prog 59 #[.pointer (some ⟨b, 0, none⟩)] w (NeP B b { n with op := op, sp := setF n.sp j n.pos } w) := by
  have hl : n.op.length = op.length + 1 := by rw [hop]; simp
  obtain ⟨g, c, rfl, hc1, hc2⟩ := own_some h.orr (by omega)
  obtain ⟨g2, c2, rfl, hd1, hd2⟩ := own_some h.sr (by omega)
  have hsl := h.sl
  have hol := h.ol
  unfold maxLen at hc2 hd2
  have c0 : ∀ W, Blk W b 58 #[.int .i64 n.pos, .slice (some ⟨g2, 0, none⟩) n.sp.length c2, .slice (some ⟨g, 0, none⟩) n.op.length c, .int .i64 n.dp, .bool n.cl] → W.cell? ⟨b, 0, none⟩ = some (.int .i64 n.pos) ∧ W.cell? ⟨b, 1, none⟩ = some (.slice (some ⟨g2, 0, none⟩) n.sp.length c2) ∧ W.cell? ⟨b, 2, none⟩ = some (.slice (some ⟨g, 0, none⟩) n.op.length c) := fun W h => ⟨h.cell 0, h.cell 1, h.cell 2⟩
  obtain ⟨x0, x1, x2⟩ := c0 w h.blk
  have hat := (opC_at op j p).1
  rw [← hop] at hat
  have x3 : w.cell? ⟨g, op.length * 2, none⟩ = some (.int .i64 j) := (h.orr.cellAt (op.length * 2) (by omega)).trans hat
  have hsz : (spC n.sp).length = n.sp.length * 3 := spC_len _
  obtain ⟨u, hu⟩ : ∃ u, (spC n.sp)[j * 3 + 2]? = some u := ⟨_, List.getElem?_eq_getElem (by omega)⟩
  have x4 : w.cell? ⟨g2, j * 3 + 2, none⟩ = some u := (h.sr.cellAt (j * 3 + 2) (by omega)).trans hu
  have z4 := h.sr.frozenAt (j * 3 + 2)
  have H := Lib.hid h
  have hg2b := (h.ne_s g2 rfl).1
  have hgg : g ≠ g2 := fun e => h.ne_so g2 rfl (by rw [← e]; rfl)
  have hgb := (h.ne_o g rfl).1
  have hi0 : (0 : Int) ≤ (op.length : Int) := by omega
  have hi1 : (op.length : Int) < (n.op.length : Int) := by omega
  have hi2 : (n.op.length : Int) - 1 = (op.length : Int) := by omega
  have hj0 : (0 : Int) ≤ (j : Int) := by omega
  have hj1 : (j : Int) < (n.sp.length : Int) := by omega
  have HE : Hid (n.op.length = op.length + 1) := Lib.hid hl
  have HOP := Lib.hid hop
  have HJ := Lib.hid hj
  clear h hop c0 hu hat hsz hl
  go_enter Tryd.func59, Tryd.ntmps59
  go_wp2_with fail
  have hS0 : (fun W : World => W.cell? ⟨b, 0, none⟩ = some (.int .i64 n.pos) ∧ W.cell? ⟨b, 1, none⟩ = some (.slice (some ⟨g2, 0, none⟩) n.sp.length c2) ∧ W.cell? ⟨b, 2, none⟩ = some (.slice (some ⟨g, 0, none⟩) n.op.length c) ∧ W.cell? ⟨g, op.length * 2, none⟩ = some (.int .i64 j)) w.drew := ⟨x0, x1, x2, x3⟩
  have hS1 : Hid (∀ v, (w.drew.setCell ⟨g2, j * 3 + 2, none⟩ v).cell? ⟨b, 0, none⟩ = some (.int .i64 n.pos) ∧ (w.drew.setCell ⟨g2, j * 3 + 2, none⟩ v).cell? ⟨b, 1, none⟩ = some (.slice (some ⟨g2, 0, none⟩) n.sp.length c2) ∧ (w.drew.setCell ⟨g2, j * 3 + 2, none⟩ v).cell? ⟨b, 2, none⟩ = some (.slice (some ⟨g, 0, none⟩) n.op.length c) ∧ (w.drew.setCell ⟨g2, j * 3 + 2, none⟩ v).cell? ⟨g, op.length * 2, none⟩ = some (.int .i64 j)) := Lib.hid (fun v =>
    ⟨(World.cell?_setCell_far _ _ _ _ hg2b).trans x0, (World.cell?_setCell_far _ _ _ _ hg2b).trans x1, (World.cell?_setCell_far _ _ _ _ hg2b).trans x2, (World.cell?_setCell_far _ _ _ _ (Ne.symm hgg)).trans x3⟩)
  refine wp_region_held_drew (S := (fun W : World => W.cell? ⟨b, 0, none⟩ = some (.int .i64 n.pos) ∧ W.cell? ⟨b, 1, none⟩ = some (.slice (some ⟨g2, 0, none⟩) n.sp.length c2) ∧ W.cell? ⟨b, 2, none⟩ = some (.slice (some ⟨g, 0, none⟩) n.op.length c) ∧ W.cell? ⟨g, op.length * 2, none⟩ = some (.int .i64 j))) (by kernel_rfl) hS0 (fun hHeld => ?_)
  refine wpAnyH_take (i := 0) (oi := ?oi_1) (v := ?_) ?hi_1 (by kernel_rfl) ?hf_1 (by kernel_rfl) ?hQ_1 ?hy_1 (by assumption) ?_
  case hi_1 => simp only [List.getElem?_toArray, List.getElem?_cons_zero, List.getElem?_cons_succ]; rfl
  case hf_1 => kernel_rfl
  case hQ_1 => exact fun _ _ _ h => h
  case hy_1 =>
    refine Or.inl ⟨by rfl, ?_⟩
    intro W hSw
    go_simp
    try with_reducible rfl
  try simp only [Act.put, List.setIfInBounds_toArray, List.set_cons_zero, List.set_cons_succ]
  refine wpAnyH_take (i := 1) (oi := ?oi_2) (v := ?_) ?hi_2 (by kernel_rfl) ?hf_2 (by kernel_rfl) ?hQ_2 ?hy_2 (by assumption) ?_
  case hi_2 => simp only [List.getElem?_toArray, List.getElem?_cons_zero, List.getElem?_cons_succ]; rfl
  case hf_2 => kernel_rfl
  case hQ_2 => exact fun _ _ _ h => h
  case hy_2 =>
    refine Or.inl ⟨by rfl, ?_⟩
    intro W hSw
    go_simp
    try with_reducible rfl
  try simp only [Act.put, List.setIfInBounds_toArray, List.set_cons_zero, List.set_cons_succ]
  refine wpAnyH_take (i := 2) (oi := ?oi_3) (v := ?_) ?hi_3 (by kernel_rfl) ?hf_3 (by kernel_rfl) ?hQ_3 ?hy_3 (by assumption) ?_
  case hi_3 => simp only [List.getElem?_toArray, List.getElem?_cons_zero, List.getElem?_cons_succ]; rfl
  case hf_3 => kernel_rfl
  case hQ_3 => exact fun _ _ _ h => h
  case hy_3 =>
    refine Or.inl ⟨by rfl, ?_⟩
    intro W hSw
    go_simp
    try with_reducible rfl
  try simp only [Act.put, List.setIfInBounds_toArray, List.set_cons_zero, List.set_cons_succ]
  refine wpAnyH_take (i := 3) (oi := ?oi_4) (v := ?_) ?hi_4 (by kernel_rfl) ?hf_4 (by kernel_rfl) ?hQ_4 ?hy_4 (by assumption) ?_
  case hi_4 => simp only [List.getElem?_toArray, List.getElem?_cons_zero, List.getElem?_cons_succ]; rfl
  case hf_4 => kernel_rfl
  case hQ_4 => exact fun _ _ _ h => h
  case hy_4 =>
    refine Or.inl ⟨by rfl, ?_⟩
    intro W hSw
    have y0 := hSw.1
    have y1 := hSw.2.1
    have y2 := hSw.2.2.1
    have y3 := hSw.2.2.2
    go_simp
    try with_reducible rfl
  try simp only [Act.put, List.setIfInBounds_toArray, List.set_cons_zero, List.set_cons_succ]
  refine wpAnyH_take (i := 4) (oi := ?oi_5) (v := ?_) ?hi_5 (by kernel_rfl) ?hf_5 (by kernel_rfl) ?hQ_5 ?hy_5 (by assumption) ?_
  case hi_5 => simp only [List.getElem?_toArray, List.getElem?_cons_zero, List.getElem?_cons_succ]; rfl
  case hf_5 => kernel_rfl
  case hQ_5 => exact fun _ _ _ h => h
  case hy_5 =>
    refine Or.inl ⟨by rfl, ?_⟩
    intro W hSw
    go_simp
    try with_reducible rfl
  try simp only [Act.put, List.setIfInBounds_toArray, List.set_cons_zero, List.set_cons_succ]
  refine wpAnyH_take (i := 5) (oi := ?oi_6) (v := ?_) ?hi_6 (by kernel_rfl) ?hf_6 (by kernel_rfl) ?hQ_6 ?hy_6 (by assumption) ?_
  case hi_6 => simp only [List.getElem?_toArray, List.getElem?_cons_zero, List.getElem?_cons_succ]; rfl
  case hf_6 => kernel_rfl
  case hQ_6 => exact fun _ _ _ h => h
  case hy_6 =>
    refine Or.inl ⟨by rfl, ?_⟩
    intro W hSw
    go_simp
    try with_reducible rfl
  try simp only [Act.put, List.setIfInBounds_toArray, List.set_cons_zero, List.set_cons_succ]
  refine wpAnyH_take (i := 6) (oi := ?oi_7) (v := ?_) ?hi_7 (by kernel_rfl) ?hf_7 (by kernel_rfl) ?hQ_7 ?hy_7 (by assumption) ?_
  case hi_7 => simp only [List.getElem?_toArray, List.getElem?_cons_zero, List.getElem?_cons_succ]; rfl
  case hf_7 => kernel_rfl
  case hQ_7 => exact fun _ _ _ h => h
  case hy_7 =>
    refine Or.inl ⟨by rfl, ?_⟩
    intro W hSw
    go_simp
    try with_reducible rfl
  try simp only [Act.put, List.setIfInBounds_toArray, List.set_cons_zero, List.set_cons_succ]
  refine wpAnyH_take (i := 7) (oi := ?oi_8) (v := ?_) ?hi_8 (by kernel_rfl) ?hf_8 (by kernel_rfl) ?hQ_8 ?hy_8 (by assumption) ?_
  case hi_8 => simp only [List.getElem?_toArray, List.getElem?_cons_zero, List.getElem?_cons_succ]; rfl
  case hf_8 => kernel_rfl
  case hQ_8 => exact fun _ _ _ h => h
  case hy_8 =>
    refine Or.inl ⟨by rfl, ?_⟩
    intro W hSw
    have y0 := hSw.1
    have y1 := hSw.2.1
    have y2 := hSw.2.2.1
    have y3 := hSw.2.2.2
    go_simp
    try with_reducible rfl
  try simp only [Act.put, List.setIfInBounds_toArray, List.set_cons_zero, List.set_cons_succ]
  refine wpAnyH_take (i := 8) (oi := ?oi_9) (v := ?_) ?hi_9 (by kernel_rfl) ?hf_9 (by kernel_rfl) ?hQ_9 ?hy_9 (by assumption) ?_
  case hi_9 => simp only [List.getElem?_toArray, List.getElem?_cons_zero, List.getElem?_cons_succ]; rfl
  case hf_9 => kernel_rfl
  case hQ_9 => exact fun _ _ _ h => h
  case hy_9 =>
    refine Or.inl ⟨by rfl, ?_⟩
    intro W hSw
    go_simp
    try with_reducible rfl
  try simp only [Act.put, List.setIfInBounds_toArray, List.set_cons_zero, List.set_cons_succ]
  refine wpAnyH_take (i := 9) (oi := ?oi_10) (v := ?_) ?hi_10 (by kernel_rfl) ?hf_10 (by kernel_rfl) ?hQ_10 ?hy_10 (by assumption) ?_
  case hi_10 => simp only [List.getElem?_toArray, List.getElem?_cons_zero, List.getElem?_cons_succ]; rfl
  case hf_10 => kernel_rfl
  case hQ_10 => exact fun _ _ _ h => h
  case hy_10 =>
    refine Or.inl ⟨by rfl, ?_⟩
    intro W hSw
    have y0 := hSw.1
    have y1 := hSw.2.1
    have y2 := hSw.2.2.1
    have y3 := hSw.2.2.2
    go_simp
    try with_reducible rfl
  try simp only [Act.put, List.setIfInBounds_toArray, List.set_cons_zero, List.set_cons_succ]
  refine wpAnyH_take (i := 10) (oi := ?oi_11) (v := ?_) ?hi_11 (by kernel_rfl) ?hf_11 (by kernel_rfl) ?hQ_11 ?hy_11 (by assumption) ?_
  case hi_11 => simp only [List.getElem?_toArray, List.getElem?_cons_zero, List.getElem?_cons_succ]; rfl
  case hf_11 => kernel_rfl
  case hQ_11 => exact fun _ _ _ h => h
  case hy_11 =>
    refine Or.inl ⟨by rfl, ?_⟩
    intro W hSw
    go_simp
    try with_reducible rfl
  try simp only [Act.put, List.setIfInBounds_toArray, List.set_cons_zero, List.set_cons_succ]
  refine wpAnyH_take (i := 11) (oi := ?oi_12) (v := ?_) ?hi_12 (by kernel_rfl) ?hf_12 (by kernel_rfl) ?hQ_12 ?hy_12 (by assumption) ?_
  case hi_12 => simp only [List.getElem?_toArray, List.getElem?_cons_zero, List.getElem?_cons_succ]; rfl
  case hf_12 => kernel_rfl
  case hQ_12 => exact fun _ _ _ h => h
  case hy_12 =>
    refine Or.inl ⟨by rfl, ?_⟩
    intro W hSw
    have y0 := hSw.1
    have y1 := hSw.2.1
    have y2 := hSw.2.2.1
    have y3 := hSw.2.2.2
    go_simp
    try with_reducible rfl
  try simp only [Act.put, List.setIfInBounds_toArray, List.set_cons_zero, List.set_cons_succ]
  refine wpAnyH_take (i := 12) (oi := ?oi_13) (v := ?_) ?hi_13 (by kernel_rfl) ?hf_13 (by kernel_rfl) ?hQ_13 ?hy_13 (by assumption) ?_
  case hi_13 => simp only [List.getElem?_toArray, List.getElem?_cons_zero, List.getElem?_cons_succ]; rfl
  case hf_13 => kernel_rfl
  case hQ_13 => exact fun _ _ _ h => h
  case hy_13 =>
    refine Or.inl ⟨by rfl, ?_⟩
    intro W hSw
    go_simp
    try with_reducible rfl
  try simp only [Act.put, List.setIfInBounds_toArray, List.set_cons_zero, List.set_cons_succ]
  refine wpAnyH_take (i := 13) (oi := ?oi_14) (v := ?_) ?hi_14 (by kernel_rfl) ?hf_14 (by kernel_rfl) ?hQ_14 ?hy_14 (by assumption) ?_
  case hi_14 => simp only [List.getElem?_toArray, List.getElem?_cons_zero, List.getElem?_cons_succ]; rfl
  case hf_14 => kernel_rfl
  case hQ_14 => exact fun _ _ _ h => h
  case hy_14 =>
    refine Or.inl ⟨by rfl, ?_⟩
    intro W hSw
    go_simp
    try with_reducible rfl
  try simp only [Act.put, List.setIfInBounds_toArray, List.set_cons_zero, List.set_cons_succ]
  refine wpAnyH_take (i := 14) (oi := ?oi_15) (v := ?_) ?hi_15 (by kernel_rfl) ?hf_15 (by kernel_rfl) ?hQ_15 ?hy_15 (by assumption) ?_
  case hi_15 => simp only [List.getElem?_toArray, List.getElem?_cons_zero, List.getElem?_cons_succ]; rfl
  case hf_15 => kernel_rfl
  case hQ_15 => exact fun _ _ _ h => h
  case hy_15 =>
    refine Or.inl ⟨by rfl, ?_⟩
    intro W hSw
    go_simp
    try with_reducible rfl
  try simp only [Act.put, List.setIfInBounds_toArray, List.set_cons_zero, List.set_cons_succ]
  refine wpAnyH_take (i := 15) (oi := ?oi_16) (v := ?_) ?hi_16 (by kernel_rfl) ?hf_16 (by kernel_rfl) ?hQ_16 ?hy_16 (by assumption) ?_
  case hi_16 => simp only [List.getElem?_toArray, List.getElem?_cons_zero, List.getElem?_cons_succ]; rfl
  case hf_16 => kernel_rfl
  case hQ_16 => exact fun _ _ _ h => h
  case hy_16 =>
    refine Or.inl ⟨by rfl, ?_⟩
    intro W hSw
    have y0 := hSw.1
    have y1 := hSw.2.1
    have y2 := hSw.2.2.1
    have y3 := hSw.2.2.2
    go_simp
    try with_reducible rfl
  try simp only [Act.put, List.setIfInBounds_toArray, List.set_cons_zero, List.set_cons_succ]
  refine wpAnyH_take (i := 16) (oi := ?oi_17) (v := ?_) ?hi_17 (by kernel_rfl) ?hf_17 (by kernel_rfl) ?hQ_17 ?hy_17 (by assumption) ?_
  case hi_17 => simp only [List.getElem?_toArray, List.getElem?_cons_zero, List.getElem?_cons_succ]; rfl
  case hf_17 => kernel_rfl
  case hQ_17 => exact fun _ _ _ h => h
  case hy_17 =>
    refine Or.inl ⟨by rfl, ?_⟩
    intro W hSw
    have y0 := hSw.1
    have y1 := hSw.2.1
    have y2 := hSw.2.2.1
    have y3 := hSw.2.2.2
    go_simp
    try with_reducible rfl
  try simp only [Act.put, List.setIfInBounds_toArray, List.set_cons_zero, List.set_cons_succ]
  refine wpAnyH_take (i := 17) (oi := ?oi_18) (v := ?_) ?hi_18 (by kernel_rfl) ?hf_18 (by kernel_rfl) ?hQ_18 ?hy_18 (by assumption) ?_
  case hi_18 => simp only [List.getElem?_toArray, List.getElem?_cons_zero, List.getElem?_cons_succ]; rfl
  case hf_18 => kernel_rfl
  case hQ_18 => exact fun _ _ _ h => h
  case hy_18 =>
    refine Or.inl ⟨by rfl, ?_⟩
    intro W hSw
    go_simp
    try with_reducible rfl
  try simp only [Act.put, List.setIfInBounds_toArray, List.set_cons_zero, List.set_cons_succ]
  refine wpAnyH_ready (rs := [18]) (by kernel_rfl) (by simp) ?_
  refine AllReadyH.cons (o := ?oi_19) ?hi_19 (fun K hK => ?_) AllReadyH.nil
  case hi_19 => simp only [List.getElem?_toArray, List.getElem?_cons_zero, List.getElem?_cons_succ]; rfl
  go_simp
  refine hK.out _ _ (hS1.out _) (fun hHeld => ?_)
  clear hK K
  try simp only [Act.put, List.setIfInBounds_toArray, List.set_cons_zero, List.set_cons_succ]
  refine wpAnyH_done (by kernel_rfl) ?_ _
  clear hHeld
  obtain ⟨hN, hF⟩ := H.out.cell_s (j * 3 + 2) (.int .i64 n.pos) (spC_setF n.sp n.pos j HJ.out) (by unfold setF; rw [List.length_modify])
  have hNd := hN.drew
  obtain ⟨w5, hw5⟩ : ∃ w5, w5 = (w.setCell ⟨g2, j * 3 + 2, none⟩ (.int .i64 n.pos)).drew := ⟨_, rfl⟩
  rw [← hw5] at hNd ⊢
  have hF5 : Fr (fun k => B ≤ k) w w5 := by rw [hw5]; exact hF.drew
  have y2 := hNd.blk.cell 2
  have z2 := hNd.blk.frozen 2
  have hcut := own_cut hNd.orr (m := op.length) (by show op.length ≤ n.op.length; omega)
  have HN := Lib.hid hNd
  have HF := Lib.hid hF5
  have HCt := Lib.hid hcut
  clear hN hF hNd hw5 hF5 hcut x0 x1 x2 x3 x4 z4
  go_wp2
  go_end0
  have hs : Fr (fun k => k = b) w5 (w5.setCell ⟨b, 2, none⟩ (.slice (some ⟨g, 0, none⟩) op.length c)) := (Fr.refl (fun k => k = b) w5).set_ (p := ⟨b, 2, none⟩) rfl _
  have h5 := HN.out
  refine ⟨rfl, _, _, ⟨h5.blk.set_ 2 _, h5.hb, own_fr h5.sr hs (fun k hk e => (h5.ne_s k hk).1 e), own_fr ?_ hs (fun k hk e => by cases hk; exact hgb e), h5.pl, h5.sl, by show op.length ≤ 64; have := h5.ol; have h9 : n.op.length ≤ 64 := this; omega, h5.dl⟩, HF.out.trans (hs.more (fun k hk => by rw [hk]; exact h5.hb))⟩
  have e := HCt.out
  show w5.ownsRow B 158 2 _ op.length (opC op)
  have e2 : (opC n.op).take (op.length * 2) = opC op := by rw [HOP.out]; exact opC_take _ _ _
  rw [← e2]
  exact e
end Go.Proofs.YtggfaalodojjkaaDoor
