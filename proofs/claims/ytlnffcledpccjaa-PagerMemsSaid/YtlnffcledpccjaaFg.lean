/-
  arena.Bytes, Copy of no bytes; pager.Read of any number of bytes, Write of none; what reach answers where numbers may not be.
-/
import Derived.Test.YtlnffcledpccjaaGm
namespace Go.Proofs.Ytlnffcledpccjaa
open Go.RowKit
set_option linter.unusedVariables false
set_option linter.unusedSimpArgs false
set_option maxHeartbeats 1000000 in
set_option maxRecDepth 100000 in
theorem Bytes_zero (a bb rm gm : Nat) (d : Ad) (p : Nat) (w : World) (h : Are w a bb rm gm d) (hp : p ≤ d.sz) :
    Calls Try.prog 41 #[.pointer (some ⟨a, 0, none⟩), .int .i64 p, .int .i64 0] w (BnPost d p 0 w) := by
  obtain ⟨i0, hi, hz0, hz1, hz2⟩ := info_parts info5
  have HH := Lib.hid (Ahas_ok a bb rm gm d p 0 w h hp)
  have hlim := h.lim
  have H := Lib.hid h
  clear h
  rcases Nat.lt_or_eq_of_le hp with hlt | heq
  · go_enter Try.func41, Try.ntmps41
    go_wp2_with (first
      | (go_at_call 63; refine HH.out.mono ?_; rintro e w' ⟨rfl, rfl⟩)
      | (at_make
         refine wpList_make_lc _ rfl (.tmp 17) (.tmp 17) 34 rfl 5 i0 _ Try.underlying34 hi hz0 hz1 .i64 .i64 _ _ 0 0 rfl rfl rfl rfl (Nat.le_refl _) (by rw [hz2]; omega) (by unfold maxLen; omega) ?_
         intro w2 hg2 hbel2
         have HB2 := Lib.hid hbel2
         have HS2 : Hid (Are w2 a bb rm gm d) := Lib.hid (H.out.below hbel2 (Nat.le_refl _))
         have c2 : w2.cell? ⟨a, 0, none⟩ = some (.slice (some ⟨bb, 0, none⟩) d.sz d.sz) := HS2.out.blk.cell 0
         clear hg2 hbel2)
      | (with_reducible refine wpList_copy_nothing rfl (.tmp 19) (.tmp 25) 34 34 rfl 5 Try.underlying34 info5size (some ⟨w.heap.size, 0, none⟩) (some ⟨bb, p, none⟩) 0 0 (d.sz - p) (d.sz - p) rfl rfl (Nat.min_eq_right (Nat.zero_le _)) ?_))
    go_ret2
    exact ⟨_, rfl, Nat.le_refl _, ⟨by simp, by simp, Nat.le_refl _, Nat.zero_le _, fun q => absurd q (Nat.lt_irrefl _)⟩, HB2.out⟩
  · subst heq
    go_enter Try.func41, Try.ntmps41
    go_wp2_with (first
      | (go_at_call 63; refine HH.out.mono ?_; rintro e w' ⟨rfl, rfl⟩)
      | (at_make
         refine wpList_make_lc _ rfl (.tmp 17) (.tmp 17) 34 rfl 5 i0 _ Try.underlying34 hi hz0 hz1 .i64 .i64 _ _ 0 0 rfl rfl rfl rfl (Nat.le_refl _) (by rw [hz2]; omega) (by unfold maxLen; omega) ?_
         intro w2 hg2 hbel2
         have HB2 := Lib.hid hbel2
         have HS2 : Hid (Are w2 a bb rm gm d) := Lib.hid (H.out.below hbel2 (Nat.le_refl _))
         have c2 : w2.cell? ⟨a, 0, none⟩ = some (.slice (some ⟨bb, 0, none⟩) d.sz d.sz) := HS2.out.blk.cell 0
         clear hg2 hbel2)
      | (with_reducible refine wpList_copy_nothing rfl (.tmp 19) (.tmp 25) 34 34 rfl 5 Try.underlying34 info5size (some ⟨w.heap.size, 0, none⟩) (some ⟨bb, 0, none⟩) 0 0 0 0 rfl rfl (Nat.min_eq_right (Nat.zero_le _)) ?_))
    go_ret2
    exact ⟨_, rfl, Nat.le_refl _, ⟨by simp, by simp, Nat.le_refl _, Nat.zero_le _, fun q => absurd q (Nat.lt_irrefl _)⟩, HB2.out⟩
theorem Bytes_all (a bb rm gm : Nat) (d : Ad) (p n : Nat) (w : World) (h : Are w a bb rm gm d) (hp : p + n ≤ d.sz) :
    Calls Try.prog 41 #[.pointer (some ⟨a, 0, none⟩), .int .i64 p, .int .i64 n] w (BnPost d p n w) := by
  rcases Nat.eq_zero_or_pos n with rfl | h0
  · exact Bytes_zero a bb rm gm d p w h hp
  · exact Bytes_new a bb rm gm d p n w h h0 hp
set_option maxHeartbeats 1000000 in
set_option maxRecDepth 100000 in
theorem Copy_zero (a bb rm gm : Nat) (d : Ad) (p cap : Nat) (A : Option Addr) (w : World) (h : Are w a bb rm gm d) (hp : p ≤ d.sz) (hc : cap ≤ maxLen) :
    Calls Try.prog 42 #[.pointer (some ⟨a, 0, none⟩), .int .i64 p, .slice A 0 cap] w fun e w' => e = .returned (.int .i64 0) ∧ w = w' := by
  have HH := Lib.hid (Ahas_ok a bb rm gm d p 0 w h hp)
  have c0 : w.cell? ⟨a, 0, none⟩ = some (.slice (some ⟨bb, 0, none⟩) d.sz d.sz) := h.blk.cell 0
  have hlim := h.lim
  have hc9 : cap ≤ 9223372036854775807 := by unfold maxLen at hc; omega
  clear h
  rcases Nat.lt_or_eq_of_le hp with hlt | heq
  · go_enter Try.func42, Try.ntmps42
    go_wp2_with (first
      | (go_at_call 63; refine HH.out.mono ?_; rintro e w' ⟨rfl, rfl⟩)
      | (with_reducible refine wpList_copy_nothing rfl (.tmp 21) (.tmp 22) 34 34 rfl 5 Try.underlying34 info5size (some ⟨bb, p, none⟩) A (d.sz - p) (d.sz - p) 0 cap rfl rfl (Nat.min_eq_left (Nat.zero_le _)) ?_))
    go_ret
    exact ⟨rfl, rfl⟩
  · subst heq
    go_enter Try.func42, Try.ntmps42
    go_wp2_with (first
      | (go_at_call 63; refine HH.out.mono ?_; rintro e w' ⟨rfl, rfl⟩)
      | (with_reducible refine wpList_copy_nothing rfl (.tmp 21) (.tmp 22) 34 34 rfl 5 Try.underlying34 info5size (some ⟨bb, 0, none⟩) A 0 0 0 cap rfl rfl (Nat.min_eq_left (Nat.zero_le _)) ?_))
    go_ret
    exact ⟨rfl, rfl⟩
set_option maxHeartbeats 2000000 in
set_option maxRecDepth 100000 in
theorem PRead_all {w : World} {A : Pa} {d : Pd} {C : Nat × Nat → List Nat} {W : List (Nat × Nat)} {bb rm gm : Nat} {ad : Ad} (h : Lay w A d) (ha : Are w A.a bb rm gm ad) (hdis : ∀ k, ad.mine A.a bb rm gm k → ¬ foot A d k) (hp : PI d ad.mem C W (fun _ => False)) (ho : d.sd.ops < 900000) (hW : W.length ≤ d.sd.cap)
    (a b o n : Nat) (hx : small (a, b)) (hon : o + n ≤ d.sd.size) :
    Calls Try.prog 15 #[.pointer (some ⟨A.p, 0, none⟩), .int .i64 a, .int .i64 b, .int .i64 o, .int .i64 n] w (RrPost A d bb rm gm ad C W (a, b) o n w) := by
  have HB := Lib.hid (reach_ok h ha hdis hp ho hW a b o n hx hon)
  unfold WtPost at HB
  have hrin := hp.rin
  have hlim := ha.lim
  have hml := ha.len
  have HRI := Lib.hid hrin
  clear h ha hdis hp hx hrin
  go_enter Try.func15, Try.ntmps15
  go_wp2_with (go_at_call 40
               refine HB.out.mono ?_
               rintro e w1 ⟨j, d1, m1, hj, rfl, hm, ht, hpg, hch⟩
               have HM := Lib.hid hm
               have HT := Lib.hid ht
               have HPG := Lib.hid hpg; have HCHG := Lib.hid hch
               clear hm ht hpg hch)
  have hr := HRI.out j hj
  have hR : d1.room j = d.room j := by rw [HM.out.room]
  have c0 : w1.drew.cell? ⟨A.p, 0, none⟩ = some (.pointer (some ⟨A.a, 0, none⟩)) := HM.out.lay.blk.cell 0
  have f0 : w1.drew.cell? ⟨A.fb, j * 6, none⟩ = some (.int .i64 (d.room j)) := by rw [← hR]; exact (HM.out.lay.drewN 1).fcell (by rw [HM.out.n]; exact hj) 0 rfl
  have hBy := Bytes_all A.a bb rm gm { ad with mem := m1 } (d.room j + o) n w1.drew (HM.out.are.drewN 1) (by show d.room j + o + n ≤ ad.sz; omega)
  unfold BnPost at hBy
  have hwr : (d.room j : Int) + (o : Int) = IntKind.i64.wrap ((d.room j : Int) + (o : Int)) := by rw [IntKind.wrap_i64]; omega
  rw [Int.natCast_add, hwr] at hBy
  clear hwr
  have HBy := Lib.hid hBy
  have HRM := Lib.hid hR
  clear hBy hR
  refine wp_region_held_drew (S := (fun W => W.cell? ⟨A.p, 0, none⟩ = some (.pointer (some ⟨A.a, 0, none⟩)) ∧ W.cell? ⟨A.fb, j * 6, none⟩ = some (.int .i64 (d.room j)))) (by kernel_rfl) ⟨c0, f0⟩ (fun hHeld => ?_)
  refine wpAnyH_take (i := 0) (oi := ?oi_1) (v := ?_) ?hi_1 (by kernel_rfl) ?hf_1 (by kernel_rfl) ?hQ_1 ?hy_1 (by assumption) ?_
  case hi_1 => simp only [List.getElem?_toArray, List.getElem?_cons_zero, List.getElem?_cons_succ]; rfl
  case hf_1 => kernel_rfl
  case hQ_1 => exact fun _ _ _ h => h
  case hy_1 =>
    refine Or.inl ⟨by rfl, ?_⟩
    intro W hSw
    obtain ⟨q0, q1⟩ := hSw
    go_simp
    try with_reducible rfl
  try simp only [Act.put, List.setIfInBounds_toArray, List.set_cons_zero, List.set_cons_succ]
  refine wpAnyH_take (i := 1) (oi := ?oi_2) (v := ?_) ?hi_2 (by kernel_rfl) ?hf_2 (by kernel_rfl) ?hQ_2 ?hy_2 (by assumption) ?_
  case hi_2 => simp only [List.getElem?_toArray, List.getElem?_cons_zero, List.getElem?_cons_succ]; rfl
  case hf_2 => kernel_rfl
  case hQ_2 => exact fun _ _ _ h => h
  case hy_2 =>
    refine Or.inl ⟨by rfl, ?_⟩
    intro W hSw
    obtain ⟨q0, q1⟩ := hSw
    go_simp
    try with_reducible rfl
  try simp only [Act.put, List.setIfInBounds_toArray, List.set_cons_zero, List.set_cons_succ]
  refine wpAnyH_take (i := 2) (oi := ?oi_3) (v := ?_) ?hi_3 (by kernel_rfl) ?hf_3 (by kernel_rfl) ?hQ_3 ?hy_3 (by assumption) ?_
  case hi_3 => simp only [List.getElem?_toArray, List.getElem?_cons_zero, List.getElem?_cons_succ]; rfl
  case hf_3 => kernel_rfl
  case hQ_3 => exact fun _ _ _ h => h
  case hy_3 =>
    refine Or.inl ⟨by rfl, ?_⟩
    intro W hSw
    obtain ⟨q0, q1⟩ := hSw
    go_simp
    try with_reducible rfl
  try simp only [Act.put, List.setIfInBounds_toArray, List.set_cons_zero, List.set_cons_succ]
  refine wpAnyH_take (i := 3) (oi := ?oi_4) (v := ?_) ?hi_4 (by kernel_rfl) ?hf_4 (by kernel_rfl) ?hQ_4 ?hy_4 (by assumption) ?_
  case hi_4 => simp only [List.getElem?_toArray, List.getElem?_cons_zero, List.getElem?_cons_succ]; rfl
  case hf_4 => kernel_rfl
  case hQ_4 => exact fun _ _ _ h => h
  case hy_4 =>
    refine Or.inl ⟨by rfl, ?_⟩
    intro W hSw
    obtain ⟨q0, q1⟩ := hSw
    go_simp
    try with_reducible rfl
  try simp only [Act.put, List.setIfInBounds_toArray, List.set_cons_zero, List.set_cons_succ]
  refine wpAnyH_take (i := 4) (oi := ?oi_5) (v := ?_) ?hi_5 (by kernel_rfl) ?hf_5 (by kernel_rfl) ?hQ_5 ?hy_5 (by assumption) ?_
  case hi_5 => simp only [List.getElem?_toArray, List.getElem?_cons_zero, List.getElem?_cons_succ]; rfl
  case hf_5 => kernel_rfl
  case hQ_5 => exact fun _ _ _ h => h
  case hy_5 =>
    refine Or.inl ⟨by rfl, ?_⟩
    intro W hSw
    obtain ⟨q0, q1⟩ := hSw
    go_simp
    try with_reducible rfl
  try simp only [Act.put, List.setIfInBounds_toArray, List.set_cons_zero, List.set_cons_succ]
  refine wpAnyH_take (i := 5) (oi := ?oi_6) (v := ?_) ?hi_6 (by kernel_rfl) ?hf_6 (by kernel_rfl) ?hQ_6 ?hy_6 (by assumption) ?_
  case hi_6 => simp only [List.getElem?_toArray, List.getElem?_cons_zero, List.getElem?_cons_succ]; rfl
  case hf_6 => kernel_rfl
  case hQ_6 => exact fun _ _ _ h => h
  case hy_6 =>
    refine Or.inl ⟨by rfl, ?_⟩
    intro W hSw
    obtain ⟨q0, q1⟩ := hSw
    go_simp
    try with_reducible rfl
  try simp only [Act.put, List.setIfInBounds_toArray, List.set_cons_zero, List.set_cons_succ]
  refine wpAnyH_take (i := 6) (oi := ?oi_7) (v := ?_) ?hi_7 (by kernel_rfl) ?hf_7 (by kernel_rfl) ?hQ_7 ?hy_7 (by assumption) ?_
  case hi_7 => simp only [List.getElem?_toArray, List.getElem?_cons_zero, List.getElem?_cons_succ]; rfl
  case hf_7 => kernel_rfl
  case hQ_7 => exact fun _ _ _ h => h
  case hy_7 =>
    refine Or.inl ⟨by rfl, ?_⟩
    intro W hSw
    obtain ⟨q0, q1⟩ := hSw
    go_simp
    try with_reducible rfl
  try simp only [Act.put, List.setIfInBounds_toArray, List.set_cons_zero, List.set_cons_succ]
  refine wpAnyH_take (i := 7) (oi := ?oi_8) (v := ?_) ?hi_8 (by kernel_rfl) ?hf_8 (by kernel_rfl) ?hQ_8 ?hy_8 (by assumption) ?_
  case hi_8 => simp only [List.getElem?_toArray, List.getElem?_cons_zero, List.getElem?_cons_succ]; rfl
  case hf_8 => kernel_rfl
  case hQ_8 => exact fun _ _ _ h => h
  case hy_8 =>
    refine Or.inl ⟨by rfl, ?_⟩
    intro W hSw
    obtain ⟨q0, q1⟩ := hSw
    go_simp
    try with_reducible rfl
  try simp only [Act.put, List.setIfInBounds_toArray, List.set_cons_zero, List.set_cons_succ]
  refine wpAnyH_take (i := 8) (oi := ?oi_9) (v := ?_) ?hi_9 (by kernel_rfl) ?hf_9 (by kernel_rfl) ?hQ_9 ?hy_9 (by assumption) ?_
  case hi_9 => simp only [List.getElem?_toArray, List.getElem?_cons_zero, List.getElem?_cons_succ]; rfl
  case hf_9 => kernel_rfl
  case hQ_9 => exact fun _ _ _ h => h
  case hy_9 =>
    refine Or.inl ⟨by rfl, ?_⟩
    intro W hSw
    obtain ⟨q0, q1⟩ := hSw
    go_simp
    try with_reducible rfl
  try simp only [Act.put, List.setIfInBounds_toArray, List.set_cons_zero, List.set_cons_succ]
  refine wpAnyH_take (i := 9) (oi := ?oi_10) (v := ?_) ?hi_10 (by kernel_rfl) ?hf_10 (by kernel_rfl) ?hQ_10 ?hy_10 (by assumption) ?_
  case hi_10 => simp only [List.getElem?_toArray, List.getElem?_cons_zero, List.getElem?_cons_succ]; rfl
  case hf_10 => kernel_rfl
  case hQ_10 => exact fun _ _ _ h => h
  case hy_10 =>
    refine Or.inl ⟨by rfl, ?_⟩
    intro W hSw
    obtain ⟨q0, q1⟩ := hSw
    go_simp
    try with_reducible rfl
  try simp only [Act.put, List.setIfInBounds_toArray, List.set_cons_zero, List.set_cons_succ]
  refine wpAnyH_take (i := 10) (oi := ?oi_11) (v := ?_) ?hi_11 (by kernel_rfl) ?hf_11 (by kernel_rfl) ?hQ_11 ?hy_11 (by assumption) ?_
  case hi_11 => simp only [List.getElem?_toArray, List.getElem?_cons_zero, List.getElem?_cons_succ]; rfl
  case hf_11 => kernel_rfl
  case hQ_11 => exact fun _ _ _ h => h
  case hy_11 =>
    refine Or.inl ⟨by rfl, ?_⟩
    intro W hSw
    obtain ⟨q0, q1⟩ := hSw
    go_simp
    try with_reducible rfl
  try simp only [Act.put, List.setIfInBounds_toArray, List.set_cons_zero, List.set_cons_succ]
  refine wpAnyH_ready (rs := [11]) (by kernel_rfl) (by simp) ?_
  refine AllReadyH.cons (o := ?oi_12) ?hi_12 (fun K hK => ?_) AllReadyH.nil
  case hi_12 => simp only [List.getElem?_toArray, List.getElem?_cons_zero, List.getElem?_cons_succ]; rfl
  go_simp
  (go_at_call 41
   refine HBy.out.mono ?_
   rintro e w3 ⟨g, rfl, hg3, hy3, hb3⟩
   have HY3 := Lib.hid hy3
   have hF3 := Fr.of_below (S := fun _ => False) hb3
   have HF3 : Hid (Fr (fun _ => False) w1 w3) := Lib.hid hF3.undrew
   have HL3 := Lib.hid (HM.out.lay.fr hF3.undrew (fun _ _ q => q))
   have hK2 : w3.cell? ⟨A.p, 0, none⟩ = some (.pointer (some ⟨A.a, 0, none⟩)) ∧ w3.cell? ⟨A.fb, j * 6, none⟩ = some (.int .i64 (d.room j)) := ⟨HL3.out.blk.cell 0, by rw [← HRM.out]; exact HL3.out.fcell (by rw [HM.out.n]; exact hj) 0 rfl⟩
   have HG3 : Hid (w1.heap.size ≤ g) := Lib.hid hg3
   clear hg3 hy3 hb3 hF3)
  refine hK.out _ _ hK2 (fun hHeld => ?_)
  clear hK K
  try simp only [Act.put, List.setIfInBounds_toArray, List.set_cons_zero, List.set_cons_succ]
  refine wpAnyH_take (i := 12) (oi := ?oi_13) (v := ?_) ?hi_13 (by kernel_rfl) ?hf_13 (by kernel_rfl) ?hQ_13 ?hy_13 (by assumption) ?_
  case hi_13 => simp only [List.getElem?_toArray, List.getElem?_cons_zero, List.getElem?_cons_succ]; rfl
  case hf_13 => kernel_rfl
  case hQ_13 => exact fun _ _ _ h => h
  case hy_13 =>
    refine Or.inl ⟨by rfl, ?_⟩
    intro W hSw
    obtain ⟨q0, q1⟩ := hSw
    go_simp
    try with_reducible rfl
  try simp only [Act.put, List.setIfInBounds_toArray, List.set_cons_zero, List.set_cons_succ]
  refine wpAnyH_take (i := 13) (oi := ?oi_14) (v := ?_) ?hi_14 (by kernel_rfl) ?hf_14 (by kernel_rfl) ?hQ_14 ?hy_14 (by assumption) ?_
  case hi_14 => simp only [List.getElem?_toArray, List.getElem?_cons_zero, List.getElem?_cons_succ]; rfl
  case hf_14 => kernel_rfl
  case hQ_14 => exact fun _ _ _ h => h
  case hy_14 =>
    refine Or.inl ⟨by rfl, ?_⟩
    intro W hSw
    obtain ⟨q0, q1⟩ := hSw
    go_simp
    try with_reducible rfl
  try simp only [Act.put, List.setIfInBounds_toArray, List.set_cons_zero, List.set_cons_succ]
  refine wpAnyH_take (i := 14) (oi := ?oi_15) (v := ?_) ?hi_15 (by kernel_rfl) ?hf_15 (by kernel_rfl) ?hQ_15 ?hy_15 (by assumption) ?_
  case hi_15 => simp only [List.getElem?_toArray, List.getElem?_cons_zero, List.getElem?_cons_succ]; rfl
  case hf_15 => kernel_rfl
  case hQ_15 => exact fun _ _ _ h => h
  case hy_15 =>
    refine Or.inl ⟨by rfl, ?_⟩
    intro W hSw
    obtain ⟨q0, q1⟩ := hSw
    go_simp
    try with_reducible rfl
  try simp only [Act.put, List.setIfInBounds_toArray, List.set_cons_zero, List.set_cons_succ]
  refine wpAnyH_take (i := 15) (oi := ?oi_16) (v := ?_) ?hi_16 (by kernel_rfl) ?hf_16 (by kernel_rfl) ?hQ_16 ?hy_16 (by assumption) ?_
  case hi_16 => simp only [List.getElem?_toArray, List.getElem?_cons_zero, List.getElem?_cons_succ]; rfl
  case hf_16 => kernel_rfl
  case hQ_16 => exact fun _ _ _ h => h
  case hy_16 =>
    refine Or.inl ⟨by rfl, ?_⟩
    intro W hSw
    obtain ⟨q0, q1⟩ := hSw
    go_simp
    try with_reducible rfl
  try simp only [Act.put, List.setIfInBounds_toArray, List.set_cons_zero, List.set_cons_succ]
  refine wpAnyH_done (by kernel_rfl) ?_ _
  clear hHeld hK2 c0 f0
  go_wp2
  go_ret2
  refine ⟨g, j, d1, m1, rfl, ?_, HM.out.on HF3.out, hj, HT.out, HPG.out, HCHG.out, Nat.le_trans HM.out.fr.size HG3.out, fun q => Nat.lt_irrefl _ (Nat.lt_of_lt_of_le (HM.out.lay.flt q) HG3.out)⟩
  have hc := HM.out.pi.cont j (by rw [HM.out.n]; exact hj) HT.out (fun q => q)
  rw [HRM.out, HM.out.size, HPG.out] at hc
  have := HY3.out
  rw [← sub_read hc hon]
  exact this
def WzPost (A : Pa) (d : Pd) (bb rm gm : Nat) (ad : Ad) (C : Nat × Nat → List Nat) (W : List (Nat × Nat)) (w : World) (e : Ending) (w' : World) : Prop :=
  ∃ (d' : Pd) (m' : List Nat), e = .returned (.int .i64 0) ∧ Mx A d d' bb rm gm ad m' C W 3 w w'
set_option maxHeartbeats 2000000 in
set_option maxRecDepth 100000 in
theorem PWrite_zero {w : World} {A : Pa} {d : Pd} {C : Nat × Nat → List Nat} {W : List (Nat × Nat)} {bb rm gm : Nat} {ad : Ad} (h : Lay w A d) (ha : Are w A.a bb rm gm ad) (hdis : ∀ k, ad.mine A.a bb rm gm k → ¬ foot A d k) (hp : PI d ad.mem C W (fun _ => False)) (ho : d.sd.ops < 900000) (hW : W.length ≤ d.sd.cap)
    (a b o cp : Nat) (B : Option Addr) (hx : small (a, b)) (hon : o ≤ d.sd.size) (hcp : cp ≤ maxLen) :
    Calls Try.prog 16 #[.pointer (some ⟨A.p, 0, none⟩), .int .i64 a, .int .i64 b, .int .i64 o, .slice B 0 cp] w (WzPost A d bb rm gm ad C W w) := by
  have HB := Lib.hid (reach_ok h ha hdis hp ho hW a b o 0 hx hon)
  unfold WtPost at HB
  have hlim := ha.lim
  have hml := ha.len
  have HRI := Lib.hid hp.rin
  have HD := Lib.hid hdis
  have hcp9 : cp ≤ 9223372036854775807 := by unfold maxLen at hcp; omega
  clear h ha hdis hp hx
  go_enter Try.func16, Try.ntmps16
  go_wp2_with fail
  have HB' : Hid (Calls Try.prog 40 #[.pointer (some ⟨A.p, 0, none⟩), .int .i64 a, .int .i64 b, .int .i64 o, .int .i64 0] w _) := HB
  refine HB'.out.mono ?_
  rintro e w1 ⟨j, d1, m1, hj, rfl, hm, ht, hpg⟩
  have HM := Lib.hid hm
  have zz : ∀ i, w1.frozen? ⟨A.fb, i, none⟩ = false := fun i => hm.lay.ffrozen i
  have g5 : w1.cell? ⟨A.fb, j * 6 + 5, none⟩ = some (.bool (d1.ch j)) := hm.lay.fcell (by rw [hm.n]; exact hj) 5 rfl
  clear hm ht hpg HB HB'
  cases hch : d1.ch j with
  | true =>
    rw [hch] at g5
    have HB5 : Hid (d1.ch j = true) := Lib.hid hch
    clear hch
    go_wp2_with fail
    have hr := HRI.out j hj
    have hR : d1.room j = d.room j := by rw [HM.out.room]
    have hFY : Fr (· = A.fb) w1 (w1.setCell ⟨A.fb, j * 6 + 5, none⟩ (.bool true)) := (Fr.refl (· = A.fb) w1).set_ (p := ⟨A.fb, j * 6 + 5, none⟩) rfl _
    have hLY : Lay (w1.setCell ⟨A.fb, j * 6 + 5, none⟩ (.bool true)) A { d1 with ch := setB d1.ch j true } := HM.out.lay.setch (by rw [HM.out.n]; exact hj) true
    have hdd : { d1 with ch := setB d1.ch j true } = d1 := by
      have : setB d1.ch j true = d1.ch := by
        funext q
        unfold setB
        split
        · rename_i e; rw [e, HB5.out]
        · rfl
      rw [this]
    rw [hdd] at hLY
    obtain ⟨Y, eY⟩ : ∃ Y, Y = w1.setCell ⟨A.fb, j * 6 + 5, none⟩ (.bool true) := ⟨_, rfl⟩
    rw [← eY] at hFY hLY ⊢
    clear eY zz hdd
    have c0 : Y.drew.cell? ⟨A.p, 0, none⟩ = some (.pointer (some ⟨A.a, 0, none⟩)) := hLY.blk.cell 0
    have f0 : Y.drew.cell? ⟨A.fb, j * 6, none⟩ = some (.int .i64 (d.room j)) := by rw [← hR]; exact (hLY.drewN 1).fcell (by show j < d1.n; rw [HM.out.n]; exact hj) 0 rfl
    have hAY : Are Y A.a bb rm gm { ad with mem := m1 } := HM.out.are.fr hFY (fun k hk e => HD.out k hk (.inr (.inl e)))
    have hCp := Copy_zero A.a bb rm gm { ad with mem := m1 } (d.room j + o) cp B Y.drew (hAY.drewN 1) (by show d.room j + o ≤ ad.sz; omega) hcp
    have hwr : (d.room j : Int) + (o : Int) = IntKind.i64.wrap ((d.room j : Int) + (o : Int)) := by rw [IntKind.wrap_i64]; omega
    rw [Int.natCast_add, hwr] at hCp
    clear hwr
    have HCp := Lib.hid hCp
    have HLY := Lib.hid hLY
    have HFY := Lib.hid hFY
    have HAY := Lib.hid hAY
    have HRM := Lib.hid hR
    clear hCp hR hLY hFY hAY
    refine wp_region_held_drew (S := (fun W => W.cell? ⟨A.p, 0, none⟩ = some (.pointer (some ⟨A.a, 0, none⟩)) ∧ W.cell? ⟨A.fb, j * 6, none⟩ = some (.int .i64 (d.room j)))) (by kernel_rfl) ⟨c0, f0⟩ (fun hHeld => ?_)
    refine wpAnyH_take (i := 0) (oi := ?oi_1) (v := ?_) ?hi_1 (by kernel_rfl) ?hf_1 (by kernel_rfl) ?hQ_1 ?hy_1 (by assumption) ?_
    case hi_1 => simp only [List.getElem?_toArray, List.getElem?_cons_zero, List.getElem?_cons_succ]; rfl
    case hf_1 => kernel_rfl
    case hQ_1 => exact fun _ _ _ h => h
    case hy_1 =>
      refine Or.inl ⟨by rfl, ?_⟩
      intro W hSw
      obtain ⟨q0, q1⟩ := hSw
      go_simp
      try with_reducible rfl
    try simp only [Act.put, List.setIfInBounds_toArray, List.set_cons_zero, List.set_cons_succ]
    refine wpAnyH_take (i := 1) (oi := ?oi_2) (v := ?_) ?hi_2 (by kernel_rfl) ?hf_2 (by kernel_rfl) ?hQ_2 ?hy_2 (by assumption) ?_
    case hi_2 => simp only [List.getElem?_toArray, List.getElem?_cons_zero, List.getElem?_cons_succ]; rfl
    case hf_2 => kernel_rfl
    case hQ_2 => exact fun _ _ _ h => h
    case hy_2 =>
      refine Or.inl ⟨by rfl, ?_⟩
      intro W hSw
      obtain ⟨q0, q1⟩ := hSw
      go_simp
      try with_reducible rfl
    try simp only [Act.put, List.setIfInBounds_toArray, List.set_cons_zero, List.set_cons_succ]
    refine wpAnyH_take (i := 2) (oi := ?oi_3) (v := ?_) ?hi_3 (by kernel_rfl) ?hf_3 (by kernel_rfl) ?hQ_3 ?hy_3 (by assumption) ?_
    case hi_3 => simp only [List.getElem?_toArray, List.getElem?_cons_zero, List.getElem?_cons_succ]; rfl
    case hf_3 => kernel_rfl
    case hQ_3 => exact fun _ _ _ h => h
    case hy_3 =>
      refine Or.inl ⟨by rfl, ?_⟩
      intro W hSw
      obtain ⟨q0, q1⟩ := hSw
      go_simp
      try with_reducible rfl
    try simp only [Act.put, List.setIfInBounds_toArray, List.set_cons_zero, List.set_cons_succ]
    refine wpAnyH_take (i := 3) (oi := ?oi_4) (v := ?_) ?hi_4 (by kernel_rfl) ?hf_4 (by kernel_rfl) ?hQ_4 ?hy_4 (by assumption) ?_
    case hi_4 => simp only [List.getElem?_toArray, List.getElem?_cons_zero, List.getElem?_cons_succ]; rfl
    case hf_4 => kernel_rfl
    case hQ_4 => exact fun _ _ _ h => h
    case hy_4 =>
      refine Or.inl ⟨by rfl, ?_⟩
      intro W hSw
      obtain ⟨q0, q1⟩ := hSw
      go_simp
      try with_reducible rfl
    try simp only [Act.put, List.setIfInBounds_toArray, List.set_cons_zero, List.set_cons_succ]
    refine wpAnyH_take (i := 4) (oi := ?oi_5) (v := ?_) ?hi_5 (by kernel_rfl) ?hf_5 (by kernel_rfl) ?hQ_5 ?hy_5 (by assumption) ?_
    case hi_5 => simp only [List.getElem?_toArray, List.getElem?_cons_zero, List.getElem?_cons_succ]; rfl
    case hf_5 => kernel_rfl
    case hQ_5 => exact fun _ _ _ h => h
    case hy_5 =>
      refine Or.inl ⟨by rfl, ?_⟩
      intro W hSw
      obtain ⟨q0, q1⟩ := hSw
      go_simp
      try with_reducible rfl
    try simp only [Act.put, List.setIfInBounds_toArray, List.set_cons_zero, List.set_cons_succ]
    refine wpAnyH_take (i := 5) (oi := ?oi_6) (v := ?_) ?hi_6 (by kernel_rfl) ?hf_6 (by kernel_rfl) ?hQ_6 ?hy_6 (by assumption) ?_
    case hi_6 => simp only [List.getElem?_toArray, List.getElem?_cons_zero, List.getElem?_cons_succ]; rfl
    case hf_6 => kernel_rfl
    case hQ_6 => exact fun _ _ _ h => h
    case hy_6 =>
      refine Or.inl ⟨by rfl, ?_⟩
      intro W hSw
      obtain ⟨q0, q1⟩ := hSw
      go_simp
      try with_reducible rfl
    try simp only [Act.put, List.setIfInBounds_toArray, List.set_cons_zero, List.set_cons_succ]
    refine wpAnyH_take (i := 6) (oi := ?oi_7) (v := ?_) ?hi_7 (by kernel_rfl) ?hf_7 (by kernel_rfl) ?hQ_7 ?hy_7 (by assumption) ?_
    case hi_7 => simp only [List.getElem?_toArray, List.getElem?_cons_zero, List.getElem?_cons_succ]; rfl
    case hf_7 => kernel_rfl
    case hQ_7 => exact fun _ _ _ h => h
    case hy_7 =>
      refine Or.inl ⟨by rfl, ?_⟩
      intro W hSw
      obtain ⟨q0, q1⟩ := hSw
      go_simp
      try with_reducible rfl
    try simp only [Act.put, List.setIfInBounds_toArray, List.set_cons_zero, List.set_cons_succ]
    refine wpAnyH_take (i := 7) (oi := ?oi_8) (v := ?_) ?hi_8 (by kernel_rfl) ?hf_8 (by kernel_rfl) ?hQ_8 ?hy_8 (by assumption) ?_
    case hi_8 => simp only [List.getElem?_toArray, List.getElem?_cons_zero, List.getElem?_cons_succ]; rfl
    case hf_8 => kernel_rfl
    case hQ_8 => exact fun _ _ _ h => h
    case hy_8 =>
      refine Or.inl ⟨by rfl, ?_⟩
      intro W hSw
      obtain ⟨q0, q1⟩ := hSw
      go_simp
      try with_reducible rfl
    try simp only [Act.put, List.setIfInBounds_toArray, List.set_cons_zero, List.set_cons_succ]
    refine wpAnyH_take (i := 8) (oi := ?oi_9) (v := ?_) ?hi_9 (by kernel_rfl) ?hf_9 (by kernel_rfl) ?hQ_9 ?hy_9 (by assumption) ?_
    case hi_9 => simp only [List.getElem?_toArray, List.getElem?_cons_zero, List.getElem?_cons_succ]; rfl
    case hf_9 => kernel_rfl
    case hQ_9 => exact fun _ _ _ h => h
    case hy_9 =>
      refine Or.inl ⟨by rfl, ?_⟩
      intro W hSw
      obtain ⟨q0, q1⟩ := hSw
      go_simp
      try with_reducible rfl
    try simp only [Act.put, List.setIfInBounds_toArray, List.set_cons_zero, List.set_cons_succ]
    refine wpAnyH_take (i := 9) (oi := ?oi_10) (v := ?_) ?hi_10 (by kernel_rfl) ?hf_10 (by kernel_rfl) ?hQ_10 ?hy_10 (by assumption) ?_
    case hi_10 => simp only [List.getElem?_toArray, List.getElem?_cons_zero, List.getElem?_cons_succ]; rfl
    case hf_10 => kernel_rfl
    case hQ_10 => exact fun _ _ _ h => h
    case hy_10 =>
      refine Or.inl ⟨by rfl, ?_⟩
      intro W hSw
      obtain ⟨q0, q1⟩ := hSw
      go_simp
      try with_reducible rfl
    try simp only [Act.put, List.setIfInBounds_toArray, List.set_cons_zero, List.set_cons_succ]
    refine wpAnyH_take (i := 10) (oi := ?oi_11) (v := ?_) ?hi_11 (by kernel_rfl) ?hf_11 (by kernel_rfl) ?hQ_11 ?hy_11 (by assumption) ?_
    case hi_11 => simp only [List.getElem?_toArray, List.getElem?_cons_zero, List.getElem?_cons_succ]; rfl
    case hf_11 => kernel_rfl
    case hQ_11 => exact fun _ _ _ h => h
    case hy_11 =>
      refine Or.inl ⟨by rfl, ?_⟩
      intro W hSw
      obtain ⟨q0, q1⟩ := hSw
      go_simp
      try with_reducible rfl
    try simp only [Act.put, List.setIfInBounds_toArray, List.set_cons_zero, List.set_cons_succ]
    refine wpAnyH_ready (rs := [11]) (by kernel_rfl) (by simp) ?_
    refine AllReadyH.cons (o := ?oi_12) ?hi_12 (fun K hK => ?_) AllReadyH.nil
    case hi_12 => simp only [List.getElem?_toArray, List.getElem?_cons_zero, List.getElem?_cons_succ]; rfl
    go_simp
    (go_at_call 42
     refine HCp.out.mono ?_
     rintro e w3 ⟨rfl, hw3⟩
     subst hw3)
    refine hK.out _ _ ⟨c0, f0⟩ (fun hHeld => ?_)
    clear hK K
    try simp only [Act.put, List.setIfInBounds_toArray, List.set_cons_zero, List.set_cons_succ]
    refine wpAnyH_take (i := 12) (oi := ?oi_13) (v := ?_) ?hi_13 (by kernel_rfl) ?hf_13 (by kernel_rfl) ?hQ_13 ?hy_13 (by assumption) ?_
    case hi_13 => simp only [List.getElem?_toArray, List.getElem?_cons_zero, List.getElem?_cons_succ]; rfl
    case hf_13 => kernel_rfl
    case hQ_13 => exact fun _ _ _ h => h
    case hy_13 =>
      refine Or.inl ⟨by rfl, ?_⟩
      intro W hSw
      obtain ⟨q0, q1⟩ := hSw
      go_simp
      try with_reducible rfl
    try simp only [Act.put, List.setIfInBounds_toArray, List.set_cons_zero, List.set_cons_succ]
    refine wpAnyH_done (by kernel_rfl) ?_ _
    clear hHeld c0 f0
    go_wp2
    go_ret
    have hx := HM.out
    refine ⟨d1, m1, rfl, ⟨HLY.out.drewN 1, hx.pi, HAY.out.drewN 1, hx.n, hx.room, hx.size, hx.cap, hx.ops, (hx.fr.trans (HFY.out.more (fun k hk => .inl (.inr (.inl hk))))).drew, hx.ft, hx.len, hx.out⟩⟩
  | false =>
    rw [hch] at g5
    have HB5 : Hid (d1.ch j = false) := Lib.hid hch
    clear hch
    go_wp2_with fail
    have hr := HRI.out j hj
    have hR : d1.room j = d.room j := by rw [HM.out.room]
    have hFY : Fr (· = A.fb) w1 (w1.setCell ⟨A.fb, j * 6 + 5, none⟩ (.bool false)) := (Fr.refl (· = A.fb) w1).set_ (p := ⟨A.fb, j * 6 + 5, none⟩) rfl _
    have hLY : Lay (w1.setCell ⟨A.fb, j * 6 + 5, none⟩ (.bool false)) A { d1 with ch := setB d1.ch j false } := HM.out.lay.setch (by rw [HM.out.n]; exact hj) false
    have hdd : { d1 with ch := setB d1.ch j false } = d1 := by
      have : setB d1.ch j false = d1.ch := by
        funext q
        unfold setB
        split
        · rename_i e; rw [e, HB5.out]
        · rfl
      rw [this]
    rw [hdd] at hLY
    obtain ⟨Y, eY⟩ : ∃ Y, Y = w1.setCell ⟨A.fb, j * 6 + 5, none⟩ (.bool false) := ⟨_, rfl⟩
    rw [← eY] at hFY hLY ⊢
    clear eY zz hdd
    have c0 : Y.drew.cell? ⟨A.p, 0, none⟩ = some (.pointer (some ⟨A.a, 0, none⟩)) := hLY.blk.cell 0
    have f0 : Y.drew.cell? ⟨A.fb, j * 6, none⟩ = some (.int .i64 (d.room j)) := by rw [← hR]; exact (hLY.drewN 1).fcell (by show j < d1.n; rw [HM.out.n]; exact hj) 0 rfl
    have hAY : Are Y A.a bb rm gm { ad with mem := m1 } := HM.out.are.fr hFY (fun k hk e => HD.out k hk (.inr (.inl e)))
    have hCp := Copy_zero A.a bb rm gm { ad with mem := m1 } (d.room j + o) cp B Y.drew (hAY.drewN 1) (by show d.room j + o ≤ ad.sz; omega) hcp
    have hwr : (d.room j : Int) + (o : Int) = IntKind.i64.wrap ((d.room j : Int) + (o : Int)) := by rw [IntKind.wrap_i64]; omega
    rw [Int.natCast_add, hwr] at hCp
    clear hwr
    have HCp := Lib.hid hCp
    have HLY := Lib.hid hLY
    have HFY := Lib.hid hFY
    have HAY := Lib.hid hAY
    have HRM := Lib.hid hR
    clear hCp hR hLY hFY hAY
    refine wp_region_held_drew (S := (fun W => W.cell? ⟨A.p, 0, none⟩ = some (.pointer (some ⟨A.a, 0, none⟩)) ∧ W.cell? ⟨A.fb, j * 6, none⟩ = some (.int .i64 (d.room j)))) (by kernel_rfl) ⟨c0, f0⟩ (fun hHeld => ?_)
    refine wpAnyH_take (i := 0) (oi := ?oi_14) (v := ?_) ?hi_14 (by kernel_rfl) ?hf_14 (by kernel_rfl) ?hQ_14 ?hy_14 (by assumption) ?_
    case hi_14 => simp only [List.getElem?_toArray, List.getElem?_cons_zero, List.getElem?_cons_succ]; rfl
    case hf_14 => kernel_rfl
    case hQ_14 => exact fun _ _ _ h => h
    case hy_14 =>
      refine Or.inl ⟨by rfl, ?_⟩
      intro W hSw
      obtain ⟨q0, q1⟩ := hSw
      go_simp
      try with_reducible rfl
    try simp only [Act.put, List.setIfInBounds_toArray, List.set_cons_zero, List.set_cons_succ]
    refine wpAnyH_take (i := 1) (oi := ?oi_15) (v := ?_) ?hi_15 (by kernel_rfl) ?hf_15 (by kernel_rfl) ?hQ_15 ?hy_15 (by assumption) ?_
    case hi_15 => simp only [List.getElem?_toArray, List.getElem?_cons_zero, List.getElem?_cons_succ]; rfl
    case hf_15 => kernel_rfl
    case hQ_15 => exact fun _ _ _ h => h
    case hy_15 =>
      refine Or.inl ⟨by rfl, ?_⟩
      intro W hSw
      obtain ⟨q0, q1⟩ := hSw
      go_simp
      try with_reducible rfl
    try simp only [Act.put, List.setIfInBounds_toArray, List.set_cons_zero, List.set_cons_succ]
    refine wpAnyH_take (i := 2) (oi := ?oi_16) (v := ?_) ?hi_16 (by kernel_rfl) ?hf_16 (by kernel_rfl) ?hQ_16 ?hy_16 (by assumption) ?_
    case hi_16 => simp only [List.getElem?_toArray, List.getElem?_cons_zero, List.getElem?_cons_succ]; rfl
    case hf_16 => kernel_rfl
    case hQ_16 => exact fun _ _ _ h => h
    case hy_16 =>
      refine Or.inl ⟨by rfl, ?_⟩
      intro W hSw
      obtain ⟨q0, q1⟩ := hSw
      go_simp
      try with_reducible rfl
    try simp only [Act.put, List.setIfInBounds_toArray, List.set_cons_zero, List.set_cons_succ]
    refine wpAnyH_take (i := 3) (oi := ?oi_17) (v := ?_) ?hi_17 (by kernel_rfl) ?hf_17 (by kernel_rfl) ?hQ_17 ?hy_17 (by assumption) ?_
    case hi_17 => simp only [List.getElem?_toArray, List.getElem?_cons_zero, List.getElem?_cons_succ]; rfl
    case hf_17 => kernel_rfl
    case hQ_17 => exact fun _ _ _ h => h
    case hy_17 =>
      refine Or.inl ⟨by rfl, ?_⟩
      intro W hSw
      obtain ⟨q0, q1⟩ := hSw
      go_simp
      try with_reducible rfl
    try simp only [Act.put, List.setIfInBounds_toArray, List.set_cons_zero, List.set_cons_succ]
    refine wpAnyH_take (i := 4) (oi := ?oi_18) (v := ?_) ?hi_18 (by kernel_rfl) ?hf_18 (by kernel_rfl) ?hQ_18 ?hy_18 (by assumption) ?_
    case hi_18 => simp only [List.getElem?_toArray, List.getElem?_cons_zero, List.getElem?_cons_succ]; rfl
    case hf_18 => kernel_rfl
    case hQ_18 => exact fun _ _ _ h => h
    case hy_18 =>
      refine Or.inl ⟨by rfl, ?_⟩
      intro W hSw
      obtain ⟨q0, q1⟩ := hSw
      go_simp
      try with_reducible rfl
    try simp only [Act.put, List.setIfInBounds_toArray, List.set_cons_zero, List.set_cons_succ]
    refine wpAnyH_take (i := 5) (oi := ?oi_19) (v := ?_) ?hi_19 (by kernel_rfl) ?hf_19 (by kernel_rfl) ?hQ_19 ?hy_19 (by assumption) ?_
    case hi_19 => simp only [List.getElem?_toArray, List.getElem?_cons_zero, List.getElem?_cons_succ]; rfl
    case hf_19 => kernel_rfl
    case hQ_19 => exact fun _ _ _ h => h
    case hy_19 =>
      refine Or.inl ⟨by rfl, ?_⟩
      intro W hSw
      obtain ⟨q0, q1⟩ := hSw
      go_simp
      try with_reducible rfl
    try simp only [Act.put, List.setIfInBounds_toArray, List.set_cons_zero, List.set_cons_succ]
    refine wpAnyH_take (i := 6) (oi := ?oi_20) (v := ?_) ?hi_20 (by kernel_rfl) ?hf_20 (by kernel_rfl) ?hQ_20 ?hy_20 (by assumption) ?_
    case hi_20 => simp only [List.getElem?_toArray, List.getElem?_cons_zero, List.getElem?_cons_succ]; rfl
    case hf_20 => kernel_rfl
    case hQ_20 => exact fun _ _ _ h => h
    case hy_20 =>
      refine Or.inl ⟨by rfl, ?_⟩
      intro W hSw
      obtain ⟨q0, q1⟩ := hSw
      go_simp
      try with_reducible rfl
    try simp only [Act.put, List.setIfInBounds_toArray, List.set_cons_zero, List.set_cons_succ]
    refine wpAnyH_take (i := 7) (oi := ?oi_21) (v := ?_) ?hi_21 (by kernel_rfl) ?hf_21 (by kernel_rfl) ?hQ_21 ?hy_21 (by assumption) ?_
    case hi_21 => simp only [List.getElem?_toArray, List.getElem?_cons_zero, List.getElem?_cons_succ]; rfl
    case hf_21 => kernel_rfl
    case hQ_21 => exact fun _ _ _ h => h
    case hy_21 =>
      refine Or.inl ⟨by rfl, ?_⟩
      intro W hSw
      obtain ⟨q0, q1⟩ := hSw
      go_simp
      try with_reducible rfl
    try simp only [Act.put, List.setIfInBounds_toArray, List.set_cons_zero, List.set_cons_succ]
    refine wpAnyH_take (i := 8) (oi := ?oi_22) (v := ?_) ?hi_22 (by kernel_rfl) ?hf_22 (by kernel_rfl) ?hQ_22 ?hy_22 (by assumption) ?_
    case hi_22 => simp only [List.getElem?_toArray, List.getElem?_cons_zero, List.getElem?_cons_succ]; rfl
    case hf_22 => kernel_rfl
    case hQ_22 => exact fun _ _ _ h => h
    case hy_22 =>
      refine Or.inl ⟨by rfl, ?_⟩
      intro W hSw
      obtain ⟨q0, q1⟩ := hSw
      go_simp
      try with_reducible rfl
    try simp only [Act.put, List.setIfInBounds_toArray, List.set_cons_zero, List.set_cons_succ]
    refine wpAnyH_take (i := 9) (oi := ?oi_23) (v := ?_) ?hi_23 (by kernel_rfl) ?hf_23 (by kernel_rfl) ?hQ_23 ?hy_23 (by assumption) ?_
    case hi_23 => simp only [List.getElem?_toArray, List.getElem?_cons_zero, List.getElem?_cons_succ]; rfl
    case hf_23 => kernel_rfl
    case hQ_23 => exact fun _ _ _ h => h
    case hy_23 =>
      refine Or.inl ⟨by rfl, ?_⟩
      intro W hSw
      obtain ⟨q0, q1⟩ := hSw
      go_simp
      try with_reducible rfl
    try simp only [Act.put, List.setIfInBounds_toArray, List.set_cons_zero, List.set_cons_succ]
    refine wpAnyH_take (i := 10) (oi := ?oi_24) (v := ?_) ?hi_24 (by kernel_rfl) ?hf_24 (by kernel_rfl) ?hQ_24 ?hy_24 (by assumption) ?_
    case hi_24 => simp only [List.getElem?_toArray, List.getElem?_cons_zero, List.getElem?_cons_succ]; rfl
    case hf_24 => kernel_rfl
    case hQ_24 => exact fun _ _ _ h => h
    case hy_24 =>
      refine Or.inl ⟨by rfl, ?_⟩
      intro W hSw
      obtain ⟨q0, q1⟩ := hSw
      go_simp
      try with_reducible rfl
    try simp only [Act.put, List.setIfInBounds_toArray, List.set_cons_zero, List.set_cons_succ]
    refine wpAnyH_ready (rs := [11]) (by kernel_rfl) (by simp) ?_
    refine AllReadyH.cons (o := ?oi_25) ?hi_25 (fun K hK => ?_) AllReadyH.nil
    case hi_25 => simp only [List.getElem?_toArray, List.getElem?_cons_zero, List.getElem?_cons_succ]; rfl
    go_simp
    (go_at_call 42
     refine HCp.out.mono ?_
     rintro e w3 ⟨rfl, hw3⟩
     subst hw3)
    refine hK.out _ _ ⟨c0, f0⟩ (fun hHeld => ?_)
    clear hK K
    try simp only [Act.put, List.setIfInBounds_toArray, List.set_cons_zero, List.set_cons_succ]
    refine wpAnyH_take (i := 12) (oi := ?oi_26) (v := ?_) ?hi_26 (by kernel_rfl) ?hf_26 (by kernel_rfl) ?hQ_26 ?hy_26 (by assumption) ?_
    case hi_26 => simp only [List.getElem?_toArray, List.getElem?_cons_zero, List.getElem?_cons_succ]; rfl
    case hf_26 => kernel_rfl
    case hQ_26 => exact fun _ _ _ h => h
    case hy_26 =>
      refine Or.inl ⟨by rfl, ?_⟩
      intro W hSw
      obtain ⟨q0, q1⟩ := hSw
      go_simp
      try with_reducible rfl
    try simp only [Act.put, List.setIfInBounds_toArray, List.set_cons_zero, List.set_cons_succ]
    refine wpAnyH_done (by kernel_rfl) ?_ _
    clear hHeld c0 f0
    go_wp2
    go_ret
    have hx := HM.out
    refine ⟨d1, m1, rfl, ⟨HLY.out.drewN 1, hx.pi, HAY.out.drewN 1, hx.n, hx.room, hx.size, hx.cap, hx.ops, (hx.fr.trans (HFY.out.more (fun k hk => .inl (.inr (.inl hk))))).drew, hx.ft, hx.len, hx.out⟩⟩
set_option maxRecDepth 100000 in
/-- numbers that may not be -/
theorem reach_arg {w : World} {A : Pa} {d : Pd} (h : Lay w A d) (a b o n : Int) (hab : a < 0 ∨ (0 ≤ a ∧ b < 0)) :
    Calls Try.prog 40 #[.pointer (some ⟨A.p, 0, none⟩), .int .i64 a, .int .i64 b, .int .i64 o, .int .i64 n] w fun e w' => e = .returned (.tuple #[.pointer none, .int .i64 1]) ∧ w = w' := by
  have HW_ := Lib.hid (works_ok h)
  clear h
  rcases hab with h1 | ⟨h0, h1⟩
  all_goals
    go_enter Try.func40, Try.ntmps40
    go_wp2_with (go_at_call 43; refine HW_.out.mono ?_; rintro e w1 ⟨rfl, rfl⟩)
    go_ret2
    exact ⟨rfl, rfl⟩
set_option maxRecDepth 100000 in
theorem reach_range {w : World} {A : Pa} {d : Pd} (h : Lay w A d) (a b o n : Int) (h0 : 0 ≤ a) (h1 : 0 ≤ b) (ho9 : o ≤ 9223372036854775807) (hon : o < 0 ∨ (0 ≤ o ∧ n < 0) ∨ (0 ≤ o ∧ 0 ≤ n ∧ (d.sd.size : Int) - o < n)) :
    Calls Try.prog 40 #[.pointer (some ⟨A.p, 0, none⟩), .int .i64 a, .int .i64 b, .int .i64 o, .int .i64 n] w fun e w' => e = .returned (.tuple #[.pointer none, .int .i64 2]) ∧ w = w' := by
  have HW_ := Lib.hid (works_ok h)
  have HS := Lib.hid (PSize_ok h)
  have hs2 := h.sto.hi
  clear h
  rcases hon with h3 | ⟨h3, h4⟩ | ⟨h3, h4, h5⟩
  all_goals
    go_enter Try.func40, Try.ntmps40
    go_wp2_with (first | (go_at_call 43; refine HW_.out.mono ?_; rintro e w1 ⟨rfl, rfl⟩) | (go_at_call 54; refine HS.out.mono ?_; rintro e w1 ⟨rfl, rfl⟩))
    go_ret2
    exact ⟨rfl, rfl⟩
/-- the error that numbers meet; 0: none -/
def rerr (sz : Nat) (a b o n : Int) : Int := if a < 0 ∨ b < 0 then 1 else if o < 0 ∨ n < 0 ∨ (sz : Int) - o < n then 2 else 0
theorem reach_bad {w : World} {A : Pa} {d : Pd} (h : Lay w A d) (a b o n : Int) (ho9 : o ≤ 9223372036854775807) (hr : rerr d.sd.size a b o n ≠ 0) :
    Calls Try.prog 40 #[.pointer (some ⟨A.p, 0, none⟩), .int .i64 a, .int .i64 b, .int .i64 o, .int .i64 n] w fun e w' => e = .returned (.tuple #[.pointer none, .int .i64 (rerr d.sd.size a b o n)]) ∧ w = w' := by
  unfold rerr at hr ⊢
  by_cases h1 : a < 0 ∨ b < 0
  · rw [if_pos h1]
    exact reach_arg h a b o n (by omega)
  · rw [if_neg h1] at hr ⊢
    by_cases h2 : o < 0 ∨ n < 0 ∨ (d.sd.size : Int) - o < n
    · rw [if_pos h2]
      exact reach_range h a b o n (by omega) (by omega) ho9 (by omega)
    · rw [if_neg h2] at hr
      exact absurd rfl hr
set_option maxRecDepth 100000 in
theorem PRead_bad {w : World} {A : Pa} {d : Pd} (h : Lay w A d) (a b o n : Int) (ho9 : o ≤ 9223372036854775807) (hr : rerr d.sd.size a b o n ≠ 0) :
    Calls Try.prog 15 #[.pointer (some ⟨A.p, 0, none⟩), .int .i64 a, .int .i64 b, .int .i64 o, .int .i64 n] w fun e w' => e = .returned (.tuple #[.slice none 0 0, .int .i64 (rerr d.sd.size a b o n)]) ∧ w = w' := by
  have HB := Lib.hid (reach_bad h a b o n ho9 hr)
  clear h
  generalize rerr d.sd.size a b o n = r at HB hr
  have hne : (r != 0) = true := by simpa using hr
  go_enter Try.func15, Try.ntmps15
  go_wp2_with (go_at_call 40; refine HB.out.mono ?_; rintro e w1 ⟨rfl, rfl⟩)
  go_ret2
  exact ⟨rfl, rfl⟩
set_option maxRecDepth 100000 in
theorem PWrite_bad {w : World} {A : Pa} {d : Pd} (h : Lay w A d) (a b o : Int) (B : Option Addr) (n cp : Nat) (hn : n ≤ cp) (hcp : cp ≤ maxLen) (ho9 : o ≤ 9223372036854775807) (hr : rerr d.sd.size a b o n ≠ 0) :
    Calls Try.prog 16 #[.pointer (some ⟨A.p, 0, none⟩), .int .i64 a, .int .i64 b, .int .i64 o, .slice B n cp] w fun e w' => e = .returned (.int .i64 (rerr d.sd.size a b o n)) ∧ w = w' := by
  have HB := Lib.hid (reach_bad h a b o n ho9 hr)
  clear h
  have hcp9 : cp ≤ 9223372036854775807 := by unfold maxLen at hcp; omega
  generalize rerr d.sd.size a b o n = r at HB hr
  have hne : (r != 0) = true := by simpa using hr
  go_enter Try.func16, Try.ntmps16
  go_wp2_with (go_at_call 40; refine HB.out.mono ?_; rintro e w1 ⟨rfl, rfl⟩)
  go_ret
  exact ⟨rfl, rfl⟩
set_option maxRecDepth 100000 in
theorem Drop_bad {w : World} {A : Pa} {d : Pd} (h : Lay w A d) (m : Int) (hm : m < 0) :
    Calls Try.prog 17 #[.pointer (some ⟨A.p, 0, none⟩), .int .i64 m] w fun e w' => e = .returned (.int .i64 1) ∧ w = w' := by
  have HW_ := Lib.hid (works_ok h)
  clear h
  go_enter Try.func17, Try.ntmps17
  go_wp2_with (go_at_call 43; refine HW_.out.mono ?_; rintro e w1 ⟨rfl, rfl⟩)
  go_ret
  exact ⟨rfl, rfl⟩
end Go.Proofs.Ytlnffcledpccjaa
