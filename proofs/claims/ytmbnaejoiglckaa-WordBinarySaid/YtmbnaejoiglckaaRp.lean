/-
  The document's own Binary, op by op, of words of 32 and of 64 bits: 13 and 14.
-/
import Derived.Test.YtmbnaejoiglckaaRn
import Derived.Laws.Slices
namespace Go.Proofs.Ytmbnaejoiglckaa
open Go.RowKit
set_option linter.unusedVariables false
set_option linter.unusedSimpArgs false
theorem el41 : Try.prog.underlying 41 = some (.slice (Try.prog.elem 41)) := by kernel_rfl
theorem sz41 (W : World) : (sizeOf (Try.prog.elem 41)).run Try.prog W = .ok 1 W := by kernel_rfl
/-- where a cut begins -/
def cutO (cap a : Nat) : Nat := if cap = a then 0 else a
theorem cut_l (g n cap a : Nat) (h1 : a ≤ n) (W : World) :
    (Instr.slice 41 (.slice (some ⟨g, 0, none⟩) n cap) (some (.int .i64 (a : Int))) none none).run Try.prog W = .ok (.slice (some ⟨g, cutO cap a, none⟩) (n - a) (cap - a)) W := by
  rw [run_slice_l (P := Try.prog) W 41 (some ⟨g, 0, none⟩) n cap el41 .i64 (a : Int) (by omega) (by omega), sz41]
  simp only [Result.andThen, sliced, cutO, Int.toNat_natCast]
  split
  · rename_i h; simp [h]
  · rename_i h; simp [h, addr_add]
theorem cut_h (g n cap b : Nat) (h2 : b ≤ cap) (W : World) :
    (Instr.slice 41 (.slice (some ⟨g, 0, none⟩) n cap) none (some (.int .i64 (b : Int))) none).run Try.prog W = .ok (.slice (some ⟨g, 0, none⟩) b cap) W := by
  rw [run_slice_h (P := Try.prog) W 41 (some ⟨g, 0, none⟩) n cap el41 .i64 (b : Int) (by omega) (by omega), sz41]
  simp only [Result.andThen, sliced, Int.toNat_natCast]
  simp [addr_add]
theorem cutO_if (g c a : Nat) : (some ⟨g, cutO c a, none⟩ : Option Addr) = (if c = a then some ⟨g, 0, none⟩ else some ⟨g, a, none⟩) := by unfold cutO; split <;> rfl
theorem BL_app (f g : Nat → Bool) (k : Nat) : ∀ m, BL f k ++ BL g m = BL (fun i => if i < k then f i else g (i - k)) (k + m)
  | 0 => by
    simp only [BL, List.range_zero, List.map_nil, List.append_nil, Nat.add_zero]
    apply List.map_congr_left
    intro i hi
    rw [if_pos (List.mem_range.1 hi)]
  | m + 1 => by
    rw [BL_succ, ← List.append_assoc, BL_app f g k m, ← Nat.add_assoc, BL_succ]
    rw [if_neg (by omega), show k + m - k = m by omega]
/-- two parts of a row, the hinder one first, laid behind one another -/
theorem turn_run (w : World) (B g c n k : Nat) (f : Nat → Bool) (hk : k ≤ n) (hn : n ≤ 64) (hn1 : 1 ≤ n) (hc : n ≤ c) (hb : Bo w g n f) (hB : B ≤ w.heap.size) (hg : g < B) :
    ∃ v1 w1 g2 c2 w2, Hid (∀ ty, (Builtin.append_ #[41, 41] ty #[.slice (some ⟨w.heap.size, 0, none⟩) 0 0, .slice (some ⟨g, cutO c (n - k), none⟩) (n - (n - k)) (c - (n - k))]).run Try.prog (w.alloc (.cells #[] 4)) = .ok v1 w1) ∧
      Hid (∀ ty, (Builtin.append_ #[41, 41] ty #[v1, .slice (some ⟨g, 0, none⟩) (n - k) c]).run Try.prog w1 = .ok (.slice (some ⟨g2, 0, none⟩) n c2) w2) ∧ n ≤ c2 ∧ c2 ≤ 9223372036854775807 ∧ Bo w2 g2 n (rl n k f) ∧ Below B w w2 := by
  have hbA : Below B w (w.alloc (.cells #[] 4)) := (Below.refl B w).alloc hB _
  have hbx := hb.below ((Below.refl w.heap.size w).alloc (Nat.le_refl _) (.cells #[] 4)) hb.1
  obtain ⟨v1, w1, h1, o1, gr1⟩ := app_run (w.alloc (.cells #[] 4)) B 0 (n - (n - k)) g (cutO c (n - k)) (c - (n - k)) _ [] (BL (fun i => f (n - k + i)) (n - (n - k))) (own_empty w B hB) (by simp [BL]) (fun j u hu => by
    have hj : j < n - (n - k) := by
      have := (List.getElem?_eq_some_iff.1 hu).1
      simpa [BL] using this
    rw [BL_at _ hj] at hu
    have : cutO c (n - k) = n - k := by unfold cutO; rw [if_neg (by omega)]
    rw [this, hbx.2 _ (by omega)]; exact hu) (BL_one _ _) (by omega) (by rw [World.size_alloc]; omega)
  have hb1 : Below B w w1 := hbA.grown gr1 (by rw [World.size_alloc]; omega) (fun j hj => by injection hj with e; rw [← e]; exact hB)
  rw [List.nil_append, Nat.zero_add] at o1
  obtain ⟨v2, w2, h2, o2, gr2⟩ := app_run w1 B (n - (n - k)) (n - k) g 0 c v1 _ (BL f (n - k)) o1 (by simp [BL]) (fun j u hu => by
    have hj : j < n - k := by
      have := (List.getElem?_eq_some_iff.1 hu).1
      simpa [BL] using this
    rw [BL_at _ hj] at hu
    rw [Nat.zero_add, (hb.below hb1 hg).2 _ (by omega)]; exact hu) (BL_one _ _) (by omega) (Nat.le_trans hB hb1.size)
  have e : BL (fun i => f (n - k + i)) (n - (n - k)) ++ BL f (n - k) = BL (rl n k f) n := by
    rw [BL_app, show n - (n - k) = k by omega, show k + (n - k) = n by omega]
    rfl
  rw [e, show n - (n - k) + (n - k) = n by omega] at o2
  have hb2 : Below B w w2 := hb1.grown gr2 (Nat.le_trans hB hb1.size) (fun j hj => (o1.lt j hj).1)
  obtain ⟨g2, c2, rfl, q1, q2, q3, q4⟩ := bo_of_own o2 (by omega)
  exact ⟨v1, w1, g2, c2, w2, h1, h2, q1, by unfold maxLen at q2; omega, q3, hb2⟩
theorem rb_13 {n : Int} (h : Wd.ok n) {a b : Nat} (ha : a < 18446744073709551616) : Wd.bz 13 n a b = vl (rl n.toNat (Wd.cut n b % n.toNat) (bt (Wd.cut n a))) 0 n.toNat ∧ Wd.tr 13 n a b = 0 := by
  rw [rl_num (by rw [← Wd.md_pow h]; exact Wd.cut_lt h ha) (Nat.le_of_lt (Wd.sh_lt h _)), (bz_of (by decide)).1]
  exact ⟨by simp [Wd.bin], (bz_of (by decide)).2⟩
theorem rb_14 {n : Int} (h : Wd.ok n) {a b : Nat} (ha : a < 18446744073709551616) : Wd.bz 14 n a b = vl (rl n.toNat (n.toNat - Wd.cut n b % n.toNat) (bt (Wd.cut n a))) 0 n.toNat ∧ Wd.tr 14 n a b = 0 := by
  have hs := Wd.sh_lt h (Wd.cut n b)
  rw [rl_num (by rw [← Wd.md_pow h]; exact Wd.cut_lt h ha) (by omega), (bz_of (by decide)).1, show n.toNat - (n.toNat - Wd.cut n b % n.toNat) = Wd.cut n b % n.toNat by omega]
  exact ⟨by simp [Wd.bin], (bz_of (by decide)).2⟩
set_option maxHeartbeats 4000000 in
set_option maxRecDepth 100000 in
theorem RB_13_32 (a b : Nat) (w : World) (ha : a < 18446744073709551616) (hb : b < 18446744073709551616) :
    Calls Try.prog 11 #[.int .i64 13, .int .i64 32, .int .u64 a, .int .u64 b] w fun e w' => e = .returned (.tuple #[.int .u64 ((Wd.bz 13 32 a b : Nat) : Int), .int .i64 ((Wd.tr 13 32 a b : Nat) : Int)]) ∧ Below w.heap.size w w' := by
  have hX : Wd.cut 32 a < 2 ^ 32 := Wd.cut_lt (n := 32) (.inl rfl) ha
  have hY : Wd.cut 32 b < 2 ^ 32 := Wd.cut_lt (n := 32) (.inl rfl) hb
  have L1 : Hid (∀ W : World, Calls Try.prog 19 #[.int .i64 32, .int .u64 a] W (LPost W.heap.size 32 (bt (Wd.cut 32 a)) W)) := Lib.hid (fun W => (List_any 32 a W (by decide) (by decide) ha).mono fun e w' h => h.is (vl_cut 32 a (.inl rfl) ha))
  have L2 : Hid (∀ W : World, Calls Try.prog 19 #[.int .i64 32, .int .u64 b] W (LPost W.heap.size 32 (bt (Wd.cut 32 b)) W)) := Lib.hid (fun W => (List_any 32 b W (by decide) (by decide) hb).mono fun e w' h => h.is (vl_cut 32 b (.inl rfl) hb))
  have HR0 := rb_13 (n := 32) (.inl rfl) (b := b) ha
  have r1 : Wd.bz 13 32 a b = vl (rl 32 (Wd.cut 32 b % 32) (bt (Wd.cut 32 a))) 0 32 := HR0.1
  have r2 : Wd.tr 13 32 a b = 0 := HR0.2
  rw [r1, r2]
  clear HR0 r1 r2
  generalize Wd.cut 32 a = X at hX L1 ⊢
  generalize Wd.cut 32 b = Y at hY L2 ⊢
  have hk : Y % 32 < 32 := Nat.mod_lt _ (by decide)
  have kk : (Y : Int) % 32 = ((Y % 32 : Nat) : Int) := by omega
  have kt : (Y : Int).tmod 32 = ((Y % 32 : Nat) : Int) := by rw [Int.tmod_eq_emod_of_nonneg (by omega)]; omega
  generalize Y % 32 = k at hk kk kt ⊢
  have hYb : (Y : Int) < 18446744073709551616 := by omega
  have WY : Hid (∀ (W : World) (g c : Nat), 32 ≤ c → c ≤ 9223372036854775807 → Bo W g 32 (bt Y) → Calls Try.prog 20 #[.slice (some ⟨g, 0, none⟩) 32 c] W fun e w' => e = .returned (.int .u64 (Y : Int)) ∧ W = w') := Lib.hid (fun W g c a1 a2 b1 => Word_v g c 32 Y W (by decide) a1 a2 hY b1)
  have hw : IntKind.i64.wrap (32 - (k : Int)) = ((32 - k : Nat) : Int) := by rw [IntKind.wrap_i64]; omega
  have hw' : (32 : Int) - (k : Int) = ((32 - k : Nat) : Int) := by omega
  have hw2 : IntKind.i64.wrap ((32 - k : Nat) : Int) = ((32 - k : Nat) : Int) := by rw [IntKind.wrap_i64]; omega
  have hle1 : (0 : Int) ≤ ((32 - k : Nat) : Int) := by omega
  have hle2 : ((32 - k : Nat) : Int) ≤ 32 := by omega
  have hsl := fun (g c : Nat) (W : World) => cut_l g 32 c (32 - k) (by omega) W
  have hsh := fun (g c : Nat) (W : World) (hc : 32 ≤ c) => cut_h g 32 c (32 - k) (by omega) W
  have TR := Lib.hid (fun (W : World) (B g c : Nat) (hc : 32 ≤ c) (hb : Bo W g 32 (bt X)) (hB : B ≤ W.heap.size) (hg : g < B) => turn_run W B g c 32 k (bt X) (by omega) (by decide) (by decide) hc hb hB hg)
  obtain ⟨R, eR⟩ : ∃ R, R = vl (rl 32 k (bt X)) 0 32 := ⟨_, rfl⟩
  have WR : Hid (∀ (W : World) (g c : Nat), 32 ≤ c → c ≤ 9223372036854775807 → Bo W g 32 (rl 32 k (bt X)) → Calls Try.prog 20 #[.slice (some ⟨g, 0, none⟩) 32 c] W fun e w' => e = .returned (.int .u64 (R : Int)) ∧ W = w') := Lib.hid (fun W g c a1 a2 b1 => by rw [eR]; exact Word_any g c 32 _ W (by decide) a1 a2 b1)
  rw [← eR]
  have e1 : 32 - (32 - k) = k := by omega
  clear hX ha hb eR
  go_enter Try.func11, Try.ntmps11
  go_wp2_with (first
    | (go_at_call 19; with_reducible refine (L1.out _).mono ?_; rintro e w1 hL; unfold LPost at hL; obtain ⟨g1, c1, rfl, n1, m1, b1, k1, h1⟩ := hL; have P1 := Lib.hid b1; have B1 := Lib.hid h1; clear b1 k1 h1)
    | (go_at_call 19; with_reducible refine (L2.out _).mono ?_; rintro e w2 hL; unfold LPost at hL; obtain ⟨g2, c2, rfl, n2, m2, b2, k2, h2⟩ := hL; have P2 := Lib.hid b2; have P1' := Lib.hid (P1.out.below h2 P1.out.lt); have B2 := Lib.hid (B1.out.trans (h2.mono B1.out.size)); clear b2 k2 h2)
    | (go_at_call 20; with_reducible refine (WY.out _ _ _ n2 m2 P2.out).mono ?_; rintro e w3 ⟨rfl, rfl⟩))
  obtain ⟨v1, w4, g3, c3, w5, ap1, ap2, n3, m3, b3, h3⟩ := TR.out w2.drew w2.heap.size g1 c1 n1 P1'.out (Nat.le_refl _) P1'.out.lt
  have AP1 : Hid (∀ ty, (Builtin.append_ #[41, 41] ty #[.slice (some ⟨w2.heap.size, 0, none⟩) 0 0, .slice (some ⟨g1, cutO c1 (32 - k), none⟩) k (c1 - (32 - k))]).run Try.prog (w2.alloc (.cells #[] 4)).drew = .ok v1 w4) := Lib.hid (by have h := ap1.out; rw [e1] at h; exact h)
  have AP2 : Hid (∀ ty, (Builtin.append_ #[41, 41] ty #[v1, .slice (some ⟨g1, 0, none⟩) (32 - k) c1]).run Try.prog w4 = .ok (.slice (some ⟨g3, 0, none⟩) 32 c3) w5) := Lib.hid (by have h := ap2.out; exact h)
  have P3 := Lib.hid b3
  have B3 := Lib.hid ((drew_below B2.out 1).trans (h3.mono B2.out.size))
  have S1 := fun W : World => hsl g1 c1 W
  have S2 := fun W : World => hsh g1 c1 W n1
  clear ap1 ap2 b3 h3 hsl hsh TR
  refine wp_region_held_drew (S := (fun W => True)) (by kernel_rfl) trivial (fun hHeld => ?_)
  refine wpAnyH_take (i := 1) (oi := ?oi_1) (v := ?_) ?hi_1 (by kernel_rfl) ?hf_1 (by kernel_rfl) ?hQ_1 ?hy_1 (by assumption) ?_
  case hi_1 => simp only [List.getElem?_toArray, List.getElem?_cons_zero, List.getElem?_cons_succ]; rfl
  case hf_1 => kernel_rfl
  case hQ_1 => exact fun _ _ _ h => h
  case hy_1 =>
    refine Or.inl ⟨by rfl, ?_⟩
    intro W hSw
    obtain _ := hSw
    go_simp
    try with_reducible rfl
  try simp only [Act.put, List.setIfInBounds_toArray, List.set_cons_zero, List.set_cons_succ]
  refine wpAnyH_take (i := 2) (oi := ?oi_2) (v := ?_) ?hi_2 (by kernel_rfl) ?hf_2 (by kernel_rfl) ?hQ_2 ?hy_2 (by assumption) ?_
  case hi_2 => simp only [List.getElem?_toArray, List.getElem?_cons_zero, List.getElem?_cons_succ]; rfl
  case hf_2 => kernel_rfl
  case hQ_2 => exact fun _ _ _ h => h
  case hy_2 =>
    refine Or.inl ⟨by rfl, ?_⟩
    intro W hSw
    obtain _ := hSw
    go_simp
    try with_reducible rfl
  try simp only [Act.put, List.setIfInBounds_toArray, List.set_cons_zero, List.set_cons_succ]
  refine wpAnyH_take (i := 3) (oi := ?oi_3) (v := ?_) ?hi_3 (by kernel_rfl) ?hf_3 (by kernel_rfl) ?hQ_3 ?hy_3 (by assumption) ?_
  case hi_3 => simp only [List.getElem?_toArray, List.getElem?_cons_zero, List.getElem?_cons_succ]; rfl
  case hf_3 => kernel_rfl
  case hQ_3 => exact fun _ _ _ h => h
  case hy_3 =>
    refine Or.inl ⟨by rfl, ?_⟩
    intro W hSw
    obtain _ := hSw
    go_simp
    try with_reducible rfl
  try simp only [Act.put, List.setIfInBounds_toArray, List.set_cons_zero, List.set_cons_succ]
  refine wpAnyH_take (i := 4) (oi := ?oi_4) (v := ?_) ?hi_4 (by kernel_rfl) ?hf_4 (by kernel_rfl) ?hQ_4 ?hy_4 (by assumption) ?_
  case hi_4 => simp only [List.getElem?_toArray, List.getElem?_cons_zero, List.getElem?_cons_succ]; rfl
  case hf_4 => kernel_rfl
  case hQ_4 => exact fun _ _ _ h => h
  case hy_4 =>
    refine Or.inl ⟨by rfl, ?_⟩
    intro W hSw
    obtain _ := hSw
    go_simp
    try with_reducible rfl
  try simp only [Act.put, List.setIfInBounds_toArray, List.set_cons_zero, List.set_cons_succ]
  refine wpAnyH_take (i := 5) (oi := ?oi_5) (v := ?_) ?hi_5 (by kernel_rfl) ?hf_5 (by kernel_rfl) ?hQ_5 ?hy_5 (by assumption) ?_
  case hi_5 => simp only [List.getElem?_toArray, List.getElem?_cons_zero, List.getElem?_cons_succ]; rfl
  case hf_5 => kernel_rfl
  case hQ_5 => exact fun _ _ _ h => h
  case hy_5 =>
    refine Or.inl ⟨by rfl, ?_⟩
    intro W hSw
    obtain _ := hSw
    go_simp
    try with_reducible rfl
  try simp only [Act.put, List.setIfInBounds_toArray, List.set_cons_zero, List.set_cons_succ]
  refine wpAnyH_take (i := 7) (oi := ?oi_6) (v := ?_) ?hi_6 (by kernel_rfl) ?hf_6 (by kernel_rfl) ?hQ_6 ?hy_6 (by assumption) ?_
  case hi_6 => simp only [List.getElem?_toArray, List.getElem?_cons_zero, List.getElem?_cons_succ]; rfl
  case hf_6 => kernel_rfl
  case hQ_6 => exact fun _ _ _ h => h
  case hy_6 =>
    refine Or.inl ⟨by rfl, ?_⟩
    intro W hSw
    obtain _ := hSw
    go_simp
    try with_reducible rfl
  try simp only [Act.put, List.setIfInBounds_toArray, List.set_cons_zero, List.set_cons_succ]
  refine wpAnyH_take (i := 8) (oi := ?oi_7) (v := ?_) ?hi_7 (by kernel_rfl) ?hf_7 (by kernel_rfl) ?hQ_7 ?hy_7 (by assumption) ?_
  case hi_7 => simp only [List.getElem?_toArray, List.getElem?_cons_zero, List.getElem?_cons_succ]; rfl
  case hf_7 => kernel_rfl
  case hQ_7 => exact fun _ _ _ h => h
  case hy_7 =>
    refine Or.inl ⟨by rfl, ?_⟩
    intro W hSw
    obtain _ := hSw
    go_simp
    try with_reducible rfl
  try simp only [Act.put, List.setIfInBounds_toArray, List.set_cons_zero, List.set_cons_succ]
  refine wpAnyH_take (i := 9) (oi := ?oi_8) (v := ?_) ?hi_8 (by kernel_rfl) ?hf_8 (by kernel_rfl) ?hQ_8 ?hy_8 (by assumption) ?_
  case hi_8 => simp only [List.getElem?_toArray, List.getElem?_cons_zero, List.getElem?_cons_succ]; rfl
  case hf_8 => kernel_rfl
  case hQ_8 => exact fun _ _ _ h => h
  case hy_8 =>
    refine Or.inl ⟨by rfl, ?_⟩
    intro W hSw
    obtain _ := hSw
    go_simp
    try with_reducible rfl
  try simp only [Act.put, List.setIfInBounds_toArray, List.set_cons_zero, List.set_cons_succ]
  refine wpAnyH_take (i := 10) (oi := ?oi_9) (v := ?_) ?hi_9 (by kernel_rfl) ?hf_9 (by kernel_rfl) ?hQ_9 ?hy_9 (by assumption) ?_
  case hi_9 => simp only [List.getElem?_toArray, List.getElem?_cons_zero, List.getElem?_cons_succ]; rfl
  case hf_9 => kernel_rfl
  case hQ_9 => exact fun _ _ _ h => h
  case hy_9 =>
    refine Or.inl ⟨by rfl, ?_⟩
    intro W hSw
    obtain _ := hSw
    go_simp
    try with_reducible rfl
  try simp only [Act.put, List.setIfInBounds_toArray, List.set_cons_zero, List.set_cons_succ]
  refine wpAnyH_take (i := 11) (oi := ?oi_10) (v := ?_) ?hi_10 (by kernel_rfl) ?hf_10 (by kernel_rfl) ?hQ_10 ?hy_10 (by assumption) ?_
  case hi_10 => simp only [List.getElem?_toArray, List.getElem?_cons_zero, List.getElem?_cons_succ]; rfl
  case hf_10 => kernel_rfl
  case hQ_10 => exact fun _ _ _ h => h
  case hy_10 =>
    refine Or.inl ⟨by rfl, ?_⟩
    intro W hSw
    obtain _ := hSw
    go_simp
    try with_reducible rfl
  try simp only [Act.put, List.setIfInBounds_toArray, List.set_cons_zero, List.set_cons_succ]
  refine wpAnyH_ready (rs := [0]) (by kernel_rfl) (by simp) ?_
  refine AllReadyH.cons (o := ?oi_11) ?hi_11 (fun K hK => ?_) AllReadyH.nil
  case hi_11 => simp only [List.getElem?_toArray, List.getElem?_cons_zero, List.getElem?_cons_succ]; rfl
  go_simp
  refine hK.out _ _ trivial (fun hHeld => ?_)
  clear hK K
  try simp only [Act.put, List.setIfInBounds_toArray, List.set_cons_zero, List.set_cons_succ]
  refine wpAnyH_ready (rs := [6]) (by kernel_rfl) (by simp) ?_
  refine AllReadyH.cons (o := ?oi_12) ?hi_12 (fun K hK => ?_) AllReadyH.nil
  case hi_12 => simp only [List.getElem?_toArray, List.getElem?_cons_zero, List.getElem?_cons_succ]; rfl
  refine step_append_run rfl (.tmp 154) (.tmp 159) 41 rfl (.slice (some ⟨w2.heap.size, 0, none⟩) 0 0) (.slice (some ⟨g1, cutO c1 (32 - k), none⟩) k (c1 - (32 - k))) v1 w4 rfl rfl AP1 ?_
  refine hK.out _ _ trivial (fun hHeld => ?_)
  clear hK K
  try simp only [Act.put, List.setIfInBounds_toArray, List.set_cons_zero, List.set_cons_succ]
  refine wpAnyH_ready (rs := [12]) (by kernel_rfl) (by simp) ?_
  refine AllReadyH.cons (o := ?oi_13) ?hi_13 (fun K hK => ?_) AllReadyH.nil
  case hi_13 => simp only [List.getElem?_toArray, List.getElem?_cons_zero, List.getElem?_cons_succ]; rfl
  refine step_append_run rfl (.tmp 160) (.tmp 165) 41 rfl v1 (.slice (some ⟨g1, 0, none⟩) (32 - k) c1) (.slice (some ⟨g3, 0, none⟩) 32 c3) w5 rfl rfl AP2 ?_
  refine hK.out _ _ trivial (fun hHeld => ?_)
  clear hK K
  try simp only [Act.put, List.setIfInBounds_toArray, List.set_cons_zero, List.set_cons_succ]
  refine wpAnyH_ready (rs := [13]) (by kernel_rfl) (by simp) ?_
  refine AllReadyH.cons (o := ?oi_14) ?hi_14 (fun K hK => ?_) AllReadyH.nil
  case hi_14 => simp only [List.getElem?_toArray, List.getElem?_cons_zero, List.getElem?_cons_succ]; rfl
  go_simp
  (go_at_call 20; with_reducible refine (WR.out _ _ _ n3 m3 P3.out).mono ?_; rintro e w6 ⟨rfl, rfl⟩)
  refine hK.out _ _ trivial (fun hHeld => ?_)
  clear hK K
  try simp only [Act.put, List.setIfInBounds_toArray, List.set_cons_zero, List.set_cons_succ]
  refine wpAnyH_take (i := 14) (oi := ?oi_15) (v := ?_) ?hi_15 (by kernel_rfl) ?hf_15 (by kernel_rfl) ?hQ_15 ?hy_15 (by assumption) ?_
  case hi_15 => simp only [List.getElem?_toArray, List.getElem?_cons_zero, List.getElem?_cons_succ]; rfl
  case hf_15 => kernel_rfl
  case hQ_15 => exact fun _ _ _ h => h
  case hy_15 =>
    refine Or.inl ⟨by rfl, ?_⟩
    intro W hSw
    obtain _ := hSw
    go_simp
    try with_reducible rfl
  try simp only [Act.put, List.setIfInBounds_toArray, List.set_cons_zero, List.set_cons_succ]
  refine wpAnyH_take (i := 15) (oi := ?oi_16) (v := ?_) ?hi_16 (by kernel_rfl) ?hf_16 (by kernel_rfl) ?hQ_16 ?hy_16 (by assumption) ?_
  case hi_16 => simp only [List.getElem?_toArray, List.getElem?_cons_zero, List.getElem?_cons_succ]; rfl
  case hf_16 => kernel_rfl
  case hQ_16 => exact fun _ _ _ h => h
  case hy_16 =>
    refine Or.inl ⟨by rfl, ?_⟩
    intro W hSw
    obtain _ := hSw
    go_simp
    try with_reducible rfl
  try simp only [Act.put, List.setIfInBounds_toArray, List.set_cons_zero, List.set_cons_succ]
  refine wpAnyH_done (by kernel_rfl) ?_ _
  clear hHeld
  go_wp2
  go_ret2
  exact ⟨rfl, B3.out⟩
set_option maxHeartbeats 4000000 in
set_option maxRecDepth 100000 in
theorem RB_13_64 (a b : Nat) (w : World) (ha : a < 18446744073709551616) (hb : b < 18446744073709551616) :
    Calls Try.prog 11 #[.int .i64 13, .int .i64 64, .int .u64 a, .int .u64 b] w fun e w' => e = .returned (.tuple #[.int .u64 ((Wd.bz 13 64 a b : Nat) : Int), .int .i64 ((Wd.tr 13 64 a b : Nat) : Int)]) ∧ Below w.heap.size w w' := by
  have hX : Wd.cut 64 a < 2 ^ 64 := Wd.cut_lt (n := 64) (.inr rfl) ha
  have hY : Wd.cut 64 b < 2 ^ 64 := Wd.cut_lt (n := 64) (.inr rfl) hb
  have L1 : Hid (∀ W : World, Calls Try.prog 19 #[.int .i64 64, .int .u64 a] W (LPost W.heap.size 64 (bt (Wd.cut 64 a)) W)) := Lib.hid (fun W => (List_any 64 a W (by decide) (by decide) ha).mono fun e w' h => h.is (vl_cut 64 a (.inr rfl) ha))
  have L2 : Hid (∀ W : World, Calls Try.prog 19 #[.int .i64 64, .int .u64 b] W (LPost W.heap.size 64 (bt (Wd.cut 64 b)) W)) := Lib.hid (fun W => (List_any 64 b W (by decide) (by decide) hb).mono fun e w' h => h.is (vl_cut 64 b (.inr rfl) hb))
  have HR0 := rb_13 (n := 64) (.inr rfl) (b := b) ha
  have r1 : Wd.bz 13 64 a b = vl (rl 64 (Wd.cut 64 b % 64) (bt (Wd.cut 64 a))) 0 64 := HR0.1
  have r2 : Wd.tr 13 64 a b = 0 := HR0.2
  rw [r1, r2]
  clear HR0 r1 r2
  generalize Wd.cut 64 a = X at hX L1 ⊢
  generalize Wd.cut 64 b = Y at hY L2 ⊢
  have hk : Y % 64 < 64 := Nat.mod_lt _ (by decide)
  have kk : (Y : Int) % 64 = ((Y % 64 : Nat) : Int) := by omega
  have kt : (Y : Int).tmod 64 = ((Y % 64 : Nat) : Int) := by rw [Int.tmod_eq_emod_of_nonneg (by omega)]; omega
  generalize Y % 64 = k at hk kk kt ⊢
  have hYb : (Y : Int) < 18446744073709551616 := by omega
  have WY : Hid (∀ (W : World) (g c : Nat), 64 ≤ c → c ≤ 9223372036854775807 → Bo W g 64 (bt Y) → Calls Try.prog 20 #[.slice (some ⟨g, 0, none⟩) 64 c] W fun e w' => e = .returned (.int .u64 (Y : Int)) ∧ W = w') := Lib.hid (fun W g c a1 a2 b1 => Word_v g c 64 Y W (by decide) a1 a2 hY b1)
  have hw : IntKind.i64.wrap (64 - (k : Int)) = ((64 - k : Nat) : Int) := by rw [IntKind.wrap_i64]; omega
  have hw' : (64 : Int) - (k : Int) = ((64 - k : Nat) : Int) := by omega
  have hw2 : IntKind.i64.wrap ((64 - k : Nat) : Int) = ((64 - k : Nat) : Int) := by rw [IntKind.wrap_i64]; omega
  have hle1 : (0 : Int) ≤ ((64 - k : Nat) : Int) := by omega
  have hle2 : ((64 - k : Nat) : Int) ≤ 64 := by omega
  have hsl := fun (g c : Nat) (W : World) => cut_l g 64 c (64 - k) (by omega) W
  have hsh := fun (g c : Nat) (W : World) (hc : 64 ≤ c) => cut_h g 64 c (64 - k) (by omega) W
  have TR := Lib.hid (fun (W : World) (B g c : Nat) (hc : 64 ≤ c) (hb : Bo W g 64 (bt X)) (hB : B ≤ W.heap.size) (hg : g < B) => turn_run W B g c 64 k (bt X) (by omega) (by decide) (by decide) hc hb hB hg)
  obtain ⟨R, eR⟩ : ∃ R, R = vl (rl 64 k (bt X)) 0 64 := ⟨_, rfl⟩
  have WR : Hid (∀ (W : World) (g c : Nat), 64 ≤ c → c ≤ 9223372036854775807 → Bo W g 64 (rl 64 k (bt X)) → Calls Try.prog 20 #[.slice (some ⟨g, 0, none⟩) 64 c] W fun e w' => e = .returned (.int .u64 (R : Int)) ∧ W = w') := Lib.hid (fun W g c a1 a2 b1 => by rw [eR]; exact Word_any g c 64 _ W (by decide) a1 a2 b1)
  rw [← eR]
  have e1 : 64 - (64 - k) = k := by omega
  clear hX ha hb eR
  go_enter Try.func11, Try.ntmps11
  go_wp2_with (first
    | (go_at_call 19; with_reducible refine (L1.out _).mono ?_; rintro e w1 hL; unfold LPost at hL; obtain ⟨g1, c1, rfl, n1, m1, b1, k1, h1⟩ := hL; have P1 := Lib.hid b1; have B1 := Lib.hid h1; clear b1 k1 h1)
    | (go_at_call 19; with_reducible refine (L2.out _).mono ?_; rintro e w2 hL; unfold LPost at hL; obtain ⟨g2, c2, rfl, n2, m2, b2, k2, h2⟩ := hL; have P2 := Lib.hid b2; have P1' := Lib.hid (P1.out.below h2 P1.out.lt); have B2 := Lib.hid (B1.out.trans (h2.mono B1.out.size)); clear b2 k2 h2)
    | (go_at_call 20; with_reducible refine (WY.out _ _ _ n2 m2 P2.out).mono ?_; rintro e w3 ⟨rfl, rfl⟩))
  obtain ⟨v1, w4, g3, c3, w5, ap1, ap2, n3, m3, b3, h3⟩ := TR.out w2.drew w2.heap.size g1 c1 n1 P1'.out (Nat.le_refl _) P1'.out.lt
  have AP1 : Hid (∀ ty, (Builtin.append_ #[41, 41] ty #[.slice (some ⟨w2.heap.size, 0, none⟩) 0 0, .slice (some ⟨g1, cutO c1 (64 - k), none⟩) k (c1 - (64 - k))]).run Try.prog (w2.alloc (.cells #[] 4)).drew = .ok v1 w4) := Lib.hid (by have h := ap1.out; rw [e1] at h; exact h)
  have AP2 : Hid (∀ ty, (Builtin.append_ #[41, 41] ty #[v1, .slice (some ⟨g1, 0, none⟩) (64 - k) c1]).run Try.prog w4 = .ok (.slice (some ⟨g3, 0, none⟩) 64 c3) w5) := Lib.hid (by have h := ap2.out; exact h)
  have P3 := Lib.hid b3
  have B3 := Lib.hid ((drew_below B2.out 1).trans (h3.mono B2.out.size))
  have S1 := fun W : World => hsl g1 c1 W
  have S2 := fun W : World => hsh g1 c1 W n1
  clear ap1 ap2 b3 h3 hsl hsh TR
  refine wp_region_held_drew (S := (fun W => True)) (by kernel_rfl) trivial (fun hHeld => ?_)
  refine wpAnyH_take (i := 1) (oi := ?oi_17) (v := ?_) ?hi_17 (by kernel_rfl) ?hf_17 (by kernel_rfl) ?hQ_17 ?hy_17 (by assumption) ?_
  case hi_17 => simp only [List.getElem?_toArray, List.getElem?_cons_zero, List.getElem?_cons_succ]; rfl
  case hf_17 => kernel_rfl
  case hQ_17 => exact fun _ _ _ h => h
  case hy_17 =>
    refine Or.inl ⟨by rfl, ?_⟩
    intro W hSw
    obtain _ := hSw
    go_simp
    try with_reducible rfl
  try simp only [Act.put, List.setIfInBounds_toArray, List.set_cons_zero, List.set_cons_succ]
  refine wpAnyH_take (i := 2) (oi := ?oi_18) (v := ?_) ?hi_18 (by kernel_rfl) ?hf_18 (by kernel_rfl) ?hQ_18 ?hy_18 (by assumption) ?_
  case hi_18 => simp only [List.getElem?_toArray, List.getElem?_cons_zero, List.getElem?_cons_succ]; rfl
  case hf_18 => kernel_rfl
  case hQ_18 => exact fun _ _ _ h => h
  case hy_18 =>
    refine Or.inl ⟨by rfl, ?_⟩
    intro W hSw
    obtain _ := hSw
    go_simp
    try with_reducible rfl
  try simp only [Act.put, List.setIfInBounds_toArray, List.set_cons_zero, List.set_cons_succ]
  refine wpAnyH_take (i := 3) (oi := ?oi_19) (v := ?_) ?hi_19 (by kernel_rfl) ?hf_19 (by kernel_rfl) ?hQ_19 ?hy_19 (by assumption) ?_
  case hi_19 => simp only [List.getElem?_toArray, List.getElem?_cons_zero, List.getElem?_cons_succ]; rfl
  case hf_19 => kernel_rfl
  case hQ_19 => exact fun _ _ _ h => h
  case hy_19 =>
    refine Or.inl ⟨by rfl, ?_⟩
    intro W hSw
    obtain _ := hSw
    go_simp
    try with_reducible rfl
  try simp only [Act.put, List.setIfInBounds_toArray, List.set_cons_zero, List.set_cons_succ]
  refine wpAnyH_take (i := 4) (oi := ?oi_20) (v := ?_) ?hi_20 (by kernel_rfl) ?hf_20 (by kernel_rfl) ?hQ_20 ?hy_20 (by assumption) ?_
  case hi_20 => simp only [List.getElem?_toArray, List.getElem?_cons_zero, List.getElem?_cons_succ]; rfl
  case hf_20 => kernel_rfl
  case hQ_20 => exact fun _ _ _ h => h
  case hy_20 =>
    refine Or.inl ⟨by rfl, ?_⟩
    intro W hSw
    obtain _ := hSw
    go_simp
    try with_reducible rfl
  try simp only [Act.put, List.setIfInBounds_toArray, List.set_cons_zero, List.set_cons_succ]
  refine wpAnyH_take (i := 5) (oi := ?oi_21) (v := ?_) ?hi_21 (by kernel_rfl) ?hf_21 (by kernel_rfl) ?hQ_21 ?hy_21 (by assumption) ?_
  case hi_21 => simp only [List.getElem?_toArray, List.getElem?_cons_zero, List.getElem?_cons_succ]; rfl
  case hf_21 => kernel_rfl
  case hQ_21 => exact fun _ _ _ h => h
  case hy_21 =>
    refine Or.inl ⟨by rfl, ?_⟩
    intro W hSw
    obtain _ := hSw
    go_simp
    try with_reducible rfl
  try simp only [Act.put, List.setIfInBounds_toArray, List.set_cons_zero, List.set_cons_succ]
  refine wpAnyH_take (i := 7) (oi := ?oi_22) (v := ?_) ?hi_22 (by kernel_rfl) ?hf_22 (by kernel_rfl) ?hQ_22 ?hy_22 (by assumption) ?_
  case hi_22 => simp only [List.getElem?_toArray, List.getElem?_cons_zero, List.getElem?_cons_succ]; rfl
  case hf_22 => kernel_rfl
  case hQ_22 => exact fun _ _ _ h => h
  case hy_22 =>
    refine Or.inl ⟨by rfl, ?_⟩
    intro W hSw
    obtain _ := hSw
    go_simp
    try with_reducible rfl
  try simp only [Act.put, List.setIfInBounds_toArray, List.set_cons_zero, List.set_cons_succ]
  refine wpAnyH_take (i := 8) (oi := ?oi_23) (v := ?_) ?hi_23 (by kernel_rfl) ?hf_23 (by kernel_rfl) ?hQ_23 ?hy_23 (by assumption) ?_
  case hi_23 => simp only [List.getElem?_toArray, List.getElem?_cons_zero, List.getElem?_cons_succ]; rfl
  case hf_23 => kernel_rfl
  case hQ_23 => exact fun _ _ _ h => h
  case hy_23 =>
    refine Or.inl ⟨by rfl, ?_⟩
    intro W hSw
    obtain _ := hSw
    go_simp
    try with_reducible rfl
  try simp only [Act.put, List.setIfInBounds_toArray, List.set_cons_zero, List.set_cons_succ]
  refine wpAnyH_take (i := 9) (oi := ?oi_24) (v := ?_) ?hi_24 (by kernel_rfl) ?hf_24 (by kernel_rfl) ?hQ_24 ?hy_24 (by assumption) ?_
  case hi_24 => simp only [List.getElem?_toArray, List.getElem?_cons_zero, List.getElem?_cons_succ]; rfl
  case hf_24 => kernel_rfl
  case hQ_24 => exact fun _ _ _ h => h
  case hy_24 =>
    refine Or.inl ⟨by rfl, ?_⟩
    intro W hSw
    obtain _ := hSw
    go_simp
    try with_reducible rfl
  try simp only [Act.put, List.setIfInBounds_toArray, List.set_cons_zero, List.set_cons_succ]
  refine wpAnyH_take (i := 10) (oi := ?oi_25) (v := ?_) ?hi_25 (by kernel_rfl) ?hf_25 (by kernel_rfl) ?hQ_25 ?hy_25 (by assumption) ?_
  case hi_25 => simp only [List.getElem?_toArray, List.getElem?_cons_zero, List.getElem?_cons_succ]; rfl
  case hf_25 => kernel_rfl
  case hQ_25 => exact fun _ _ _ h => h
  case hy_25 =>
    refine Or.inl ⟨by rfl, ?_⟩
    intro W hSw
    obtain _ := hSw
    go_simp
    try with_reducible rfl
  try simp only [Act.put, List.setIfInBounds_toArray, List.set_cons_zero, List.set_cons_succ]
  refine wpAnyH_take (i := 11) (oi := ?oi_26) (v := ?_) ?hi_26 (by kernel_rfl) ?hf_26 (by kernel_rfl) ?hQ_26 ?hy_26 (by assumption) ?_
  case hi_26 => simp only [List.getElem?_toArray, List.getElem?_cons_zero, List.getElem?_cons_succ]; rfl
  case hf_26 => kernel_rfl
  case hQ_26 => exact fun _ _ _ h => h
  case hy_26 =>
    refine Or.inl ⟨by rfl, ?_⟩
    intro W hSw
    obtain _ := hSw
    go_simp
    try with_reducible rfl
  try simp only [Act.put, List.setIfInBounds_toArray, List.set_cons_zero, List.set_cons_succ]
  refine wpAnyH_ready (rs := [0]) (by kernel_rfl) (by simp) ?_
  refine AllReadyH.cons (o := ?oi_27) ?hi_27 (fun K hK => ?_) AllReadyH.nil
  case hi_27 => simp only [List.getElem?_toArray, List.getElem?_cons_zero, List.getElem?_cons_succ]; rfl
  go_simp
  refine hK.out _ _ trivial (fun hHeld => ?_)
  clear hK K
  try simp only [Act.put, List.setIfInBounds_toArray, List.set_cons_zero, List.set_cons_succ]
  refine wpAnyH_ready (rs := [6]) (by kernel_rfl) (by simp) ?_
  refine AllReadyH.cons (o := ?oi_28) ?hi_28 (fun K hK => ?_) AllReadyH.nil
  case hi_28 => simp only [List.getElem?_toArray, List.getElem?_cons_zero, List.getElem?_cons_succ]; rfl
  refine step_append_run rfl (.tmp 154) (.tmp 159) 41 rfl (.slice (some ⟨w2.heap.size, 0, none⟩) 0 0) (.slice (some ⟨g1, cutO c1 (64 - k), none⟩) k (c1 - (64 - k))) v1 w4 rfl rfl AP1 ?_
  refine hK.out _ _ trivial (fun hHeld => ?_)
  clear hK K
  try simp only [Act.put, List.setIfInBounds_toArray, List.set_cons_zero, List.set_cons_succ]
  refine wpAnyH_ready (rs := [12]) (by kernel_rfl) (by simp) ?_
  refine AllReadyH.cons (o := ?oi_29) ?hi_29 (fun K hK => ?_) AllReadyH.nil
  case hi_29 => simp only [List.getElem?_toArray, List.getElem?_cons_zero, List.getElem?_cons_succ]; rfl
  refine step_append_run rfl (.tmp 160) (.tmp 165) 41 rfl v1 (.slice (some ⟨g1, 0, none⟩) (64 - k) c1) (.slice (some ⟨g3, 0, none⟩) 64 c3) w5 rfl rfl AP2 ?_
  refine hK.out _ _ trivial (fun hHeld => ?_)
  clear hK K
  try simp only [Act.put, List.setIfInBounds_toArray, List.set_cons_zero, List.set_cons_succ]
  refine wpAnyH_ready (rs := [13]) (by kernel_rfl) (by simp) ?_
  refine AllReadyH.cons (o := ?oi_30) ?hi_30 (fun K hK => ?_) AllReadyH.nil
  case hi_30 => simp only [List.getElem?_toArray, List.getElem?_cons_zero, List.getElem?_cons_succ]; rfl
  go_simp
  (go_at_call 20; with_reducible refine (WR.out _ _ _ n3 m3 P3.out).mono ?_; rintro e w6 ⟨rfl, rfl⟩)
  refine hK.out _ _ trivial (fun hHeld => ?_)
  clear hK K
  try simp only [Act.put, List.setIfInBounds_toArray, List.set_cons_zero, List.set_cons_succ]
  refine wpAnyH_take (i := 14) (oi := ?oi_31) (v := ?_) ?hi_31 (by kernel_rfl) ?hf_31 (by kernel_rfl) ?hQ_31 ?hy_31 (by assumption) ?_
  case hi_31 => simp only [List.getElem?_toArray, List.getElem?_cons_zero, List.getElem?_cons_succ]; rfl
  case hf_31 => kernel_rfl
  case hQ_31 => exact fun _ _ _ h => h
  case hy_31 =>
    refine Or.inl ⟨by rfl, ?_⟩
    intro W hSw
    obtain _ := hSw
    go_simp
    try with_reducible rfl
  try simp only [Act.put, List.setIfInBounds_toArray, List.set_cons_zero, List.set_cons_succ]
  refine wpAnyH_take (i := 15) (oi := ?oi_32) (v := ?_) ?hi_32 (by kernel_rfl) ?hf_32 (by kernel_rfl) ?hQ_32 ?hy_32 (by assumption) ?_
  case hi_32 => simp only [List.getElem?_toArray, List.getElem?_cons_zero, List.getElem?_cons_succ]; rfl
  case hf_32 => kernel_rfl
  case hQ_32 => exact fun _ _ _ h => h
  case hy_32 =>
    refine Or.inl ⟨by rfl, ?_⟩
    intro W hSw
    obtain _ := hSw
    go_simp
    try with_reducible rfl
  try simp only [Act.put, List.setIfInBounds_toArray, List.set_cons_zero, List.set_cons_succ]
  refine wpAnyH_done (by kernel_rfl) ?_ _
  clear hHeld
  go_wp2
  go_ret2
  exact ⟨rfl, B3.out⟩
set_option maxHeartbeats 4000000 in
set_option maxRecDepth 100000 in
theorem RB_14_32 (a b : Nat) (w : World) (ha : a < 18446744073709551616) (hb : b < 18446744073709551616) :
    Calls Try.prog 11 #[.int .i64 14, .int .i64 32, .int .u64 a, .int .u64 b] w fun e w' => e = .returned (.tuple #[.int .u64 ((Wd.bz 14 32 a b : Nat) : Int), .int .i64 ((Wd.tr 14 32 a b : Nat) : Int)]) ∧ Below w.heap.size w w' := by
  have hX : Wd.cut 32 a < 2 ^ 32 := Wd.cut_lt (n := 32) (.inl rfl) ha
  have hY : Wd.cut 32 b < 2 ^ 32 := Wd.cut_lt (n := 32) (.inl rfl) hb
  have L1 : Hid (∀ W : World, Calls Try.prog 19 #[.int .i64 32, .int .u64 a] W (LPost W.heap.size 32 (bt (Wd.cut 32 a)) W)) := Lib.hid (fun W => (List_any 32 a W (by decide) (by decide) ha).mono fun e w' h => h.is (vl_cut 32 a (.inl rfl) ha))
  have L2 : Hid (∀ W : World, Calls Try.prog 19 #[.int .i64 32, .int .u64 b] W (LPost W.heap.size 32 (bt (Wd.cut 32 b)) W)) := Lib.hid (fun W => (List_any 32 b W (by decide) (by decide) hb).mono fun e w' h => h.is (vl_cut 32 b (.inl rfl) hb))
  have HR0 := rb_14 (n := 32) (.inl rfl) (b := b) ha
  have r1 : Wd.bz 14 32 a b = vl (rl 32 (32 - (Wd.cut 32 b % 32)) (bt (Wd.cut 32 a))) 0 32 := HR0.1
  have r2 : Wd.tr 14 32 a b = 0 := HR0.2
  rw [r1, r2]
  clear HR0 r1 r2
  generalize Wd.cut 32 a = X at hX L1 ⊢
  generalize Wd.cut 32 b = Y at hY L2 ⊢
  have hk : Y % 32 < 32 := Nat.mod_lt _ (by decide)
  have kk : (Y : Int) % 32 = ((Y % 32 : Nat) : Int) := by omega
  have kt : (Y : Int).tmod 32 = ((Y % 32 : Nat) : Int) := by rw [Int.tmod_eq_emod_of_nonneg (by omega)]; omega
  generalize Y % 32 = k at hk kk kt ⊢
  have hYb : (Y : Int) < 18446744073709551616 := by omega
  have WY : Hid (∀ (W : World) (g c : Nat), 32 ≤ c → c ≤ 9223372036854775807 → Bo W g 32 (bt Y) → Calls Try.prog 20 #[.slice (some ⟨g, 0, none⟩) 32 c] W fun e w' => e = .returned (.int .u64 (Y : Int)) ∧ W = w') := Lib.hid (fun W g c a1 a2 b1 => Word_v g c 32 Y W (by decide) a1 a2 hY b1)
  have hsl := fun (g c : Nat) (W : World) => cut_l g 32 c k (by omega) W
  have hsh := fun (g c : Nat) (W : World) (hc : 32 ≤ c) => cut_h g 32 c k (by omega) W
  have TR := Lib.hid (fun (W : World) (B g c : Nat) (hc : 32 ≤ c) (hb : Bo W g 32 (bt X)) (hB : B ≤ W.heap.size) (hg : g < B) => turn_run W B g c 32 (32 - k) (bt X) (by omega) (by decide) (by decide) hc hb hB hg)
  obtain ⟨R, eR⟩ : ∃ R, R = vl (rl 32 (32 - k) (bt X)) 0 32 := ⟨_, rfl⟩
  have WR : Hid (∀ (W : World) (g c : Nat), 32 ≤ c → c ≤ 9223372036854775807 → Bo W g 32 (rl 32 (32 - k) (bt X)) → Calls Try.prog 20 #[.slice (some ⟨g, 0, none⟩) 32 c] W fun e w' => e = .returned (.int .u64 (R : Int)) ∧ W = w') := Lib.hid (fun W g c a1 a2 b1 => by rw [eR]; exact Word_any g c 32 _ W (by decide) a1 a2 b1)
  rw [← eR]
  have e1 : 32 - (32 - k) = k := by omega
  clear hX ha hb eR
  go_enter Try.func11, Try.ntmps11
  go_wp2_with (first
    | (go_at_call 19; with_reducible refine (L1.out _).mono ?_; rintro e w1 hL; unfold LPost at hL; obtain ⟨g1, c1, rfl, n1, m1, b1, k1, h1⟩ := hL; have P1 := Lib.hid b1; have B1 := Lib.hid h1; clear b1 k1 h1)
    | (go_at_call 19; with_reducible refine (L2.out _).mono ?_; rintro e w2 hL; unfold LPost at hL; obtain ⟨g2, c2, rfl, n2, m2, b2, k2, h2⟩ := hL; have P2 := Lib.hid b2; have P1' := Lib.hid (P1.out.below h2 P1.out.lt); have B2 := Lib.hid (B1.out.trans (h2.mono B1.out.size)); clear b2 k2 h2)
    | (go_at_call 20; with_reducible refine (WY.out _ _ _ n2 m2 P2.out).mono ?_; rintro e w3 ⟨rfl, rfl⟩))
  obtain ⟨v1, w4, g3, c3, w5, ap1, ap2, n3, m3, b3, h3⟩ := TR.out w2.drew w2.heap.size g1 c1 n1 P1'.out (Nat.le_refl _) P1'.out.lt
  have AP1 : Hid (∀ ty, (Builtin.append_ #[41, 41] ty #[.slice (some ⟨w2.heap.size, 0, none⟩) 0 0, .slice (some ⟨g1, cutO c1 k, none⟩) (32 - k) (c1 - k)]).run Try.prog (w2.alloc (.cells #[] 4)).drew = .ok v1 w4) := Lib.hid (by have h := ap1.out; rw [e1] at h; exact h)
  have AP2 : Hid (∀ ty, (Builtin.append_ #[41, 41] ty #[v1, .slice (some ⟨g1, 0, none⟩) k c1]).run Try.prog w4 = .ok (.slice (some ⟨g3, 0, none⟩) 32 c3) w5) := Lib.hid (by have h := ap2.out; rw [e1] at h; exact h)
  have P3 := Lib.hid b3
  have B3 := Lib.hid ((drew_below B2.out 1).trans (h3.mono B2.out.size))
  have S1 := fun W : World => hsl g1 c1 W
  have S2 := fun W : World => hsh g1 c1 W n1
  clear ap1 ap2 b3 h3 hsl hsh TR
  refine wp_region_held_drew (S := (fun W => True)) (by kernel_rfl) trivial (fun hHeld => ?_)
  refine wpAnyH_take (i := 1) (oi := ?oi_33) (v := ?_) ?hi_33 (by kernel_rfl) ?hf_33 (by kernel_rfl) ?hQ_33 ?hy_33 (by assumption) ?_
  case hi_33 => simp only [List.getElem?_toArray, List.getElem?_cons_zero, List.getElem?_cons_succ]; rfl
  case hf_33 => kernel_rfl
  case hQ_33 => exact fun _ _ _ h => h
  case hy_33 =>
    refine Or.inl ⟨by rfl, ?_⟩
    intro W hSw
    obtain _ := hSw
    go_simp
    try with_reducible rfl
  try simp only [Act.put, List.setIfInBounds_toArray, List.set_cons_zero, List.set_cons_succ]
  refine wpAnyH_take (i := 2) (oi := ?oi_34) (v := ?_) ?hi_34 (by kernel_rfl) ?hf_34 (by kernel_rfl) ?hQ_34 ?hy_34 (by assumption) ?_
  case hi_34 => simp only [List.getElem?_toArray, List.getElem?_cons_zero, List.getElem?_cons_succ]; rfl
  case hf_34 => kernel_rfl
  case hQ_34 => exact fun _ _ _ h => h
  case hy_34 =>
    refine Or.inl ⟨by rfl, ?_⟩
    intro W hSw
    obtain _ := hSw
    go_simp
    try with_reducible rfl
  try simp only [Act.put, List.setIfInBounds_toArray, List.set_cons_zero, List.set_cons_succ]
  refine wpAnyH_take (i := 3) (oi := ?oi_35) (v := ?_) ?hi_35 (by kernel_rfl) ?hf_35 (by kernel_rfl) ?hQ_35 ?hy_35 (by assumption) ?_
  case hi_35 => simp only [List.getElem?_toArray, List.getElem?_cons_zero, List.getElem?_cons_succ]; rfl
  case hf_35 => kernel_rfl
  case hQ_35 => exact fun _ _ _ h => h
  case hy_35 =>
    refine Or.inl ⟨by rfl, ?_⟩
    intro W hSw
    obtain _ := hSw
    go_simp
    try with_reducible rfl
  try simp only [Act.put, List.setIfInBounds_toArray, List.set_cons_zero, List.set_cons_succ]
  refine wpAnyH_take (i := 5) (oi := ?oi_36) (v := ?_) ?hi_36 (by kernel_rfl) ?hf_36 (by kernel_rfl) ?hQ_36 ?hy_36 (by assumption) ?_
  case hi_36 => simp only [List.getElem?_toArray, List.getElem?_cons_zero, List.getElem?_cons_succ]; rfl
  case hf_36 => kernel_rfl
  case hQ_36 => exact fun _ _ _ h => h
  case hy_36 =>
    refine Or.inl ⟨by rfl, ?_⟩
    intro W hSw
    obtain _ := hSw
    go_simp
    try with_reducible rfl
  try simp only [Act.put, List.setIfInBounds_toArray, List.set_cons_zero, List.set_cons_succ]
  refine wpAnyH_take (i := 6) (oi := ?oi_37) (v := ?_) ?hi_37 (by kernel_rfl) ?hf_37 (by kernel_rfl) ?hQ_37 ?hy_37 (by assumption) ?_
  case hi_37 => simp only [List.getElem?_toArray, List.getElem?_cons_zero, List.getElem?_cons_succ]; rfl
  case hf_37 => kernel_rfl
  case hQ_37 => exact fun _ _ _ h => h
  case hy_37 =>
    refine Or.inl ⟨by rfl, ?_⟩
    intro W hSw
    obtain _ := hSw
    go_simp
    try with_reducible rfl
  try simp only [Act.put, List.setIfInBounds_toArray, List.set_cons_zero, List.set_cons_succ]
  refine wpAnyH_take (i := 7) (oi := ?oi_38) (v := ?_) ?hi_38 (by kernel_rfl) ?hf_38 (by kernel_rfl) ?hQ_38 ?hy_38 (by assumption) ?_
  case hi_38 => simp only [List.getElem?_toArray, List.getElem?_cons_zero, List.getElem?_cons_succ]; rfl
  case hf_38 => kernel_rfl
  case hQ_38 => exact fun _ _ _ h => h
  case hy_38 =>
    refine Or.inl ⟨by rfl, ?_⟩
    intro W hSw
    obtain _ := hSw
    go_simp
    try with_reducible rfl
  try simp only [Act.put, List.setIfInBounds_toArray, List.set_cons_zero, List.set_cons_succ]
  refine wpAnyH_ready (rs := [0]) (by kernel_rfl) (by simp) ?_
  refine AllReadyH.cons (o := ?oi_39) ?hi_39 (fun K hK => ?_) AllReadyH.nil
  case hi_39 => simp only [List.getElem?_toArray, List.getElem?_cons_zero, List.getElem?_cons_succ]; rfl
  go_simp
  refine hK.out _ _ trivial (fun hHeld => ?_)
  clear hK K
  try simp only [Act.put, List.setIfInBounds_toArray, List.set_cons_zero, List.set_cons_succ]
  refine wpAnyH_ready (rs := [4]) (by kernel_rfl) (by simp) ?_
  refine AllReadyH.cons (o := ?oi_40) ?hi_40 (fun K hK => ?_) AllReadyH.nil
  case hi_40 => simp only [List.getElem?_toArray, List.getElem?_cons_zero, List.getElem?_cons_succ]; rfl
  refine step_append_run rfl (.tmp 168) (.tmp 171) 41 rfl (.slice (some ⟨w2.heap.size, 0, none⟩) 0 0) (.slice (some ⟨g1, cutO c1 k, none⟩) (32 - k) (c1 - k)) v1 w4 rfl rfl AP1 ?_
  refine hK.out _ _ trivial (fun hHeld => ?_)
  clear hK K
  try simp only [Act.put, List.setIfInBounds_toArray, List.set_cons_zero, List.set_cons_succ]
  refine wpAnyH_ready (rs := [8]) (by kernel_rfl) (by simp) ?_
  refine AllReadyH.cons (o := ?oi_41) ?hi_41 (fun K hK => ?_) AllReadyH.nil
  case hi_41 => simp only [List.getElem?_toArray, List.getElem?_cons_zero, List.getElem?_cons_succ]; rfl
  refine step_append_run rfl (.tmp 172) (.tmp 175) 41 rfl v1 (.slice (some ⟨g1, 0, none⟩) k c1) (.slice (some ⟨g3, 0, none⟩) 32 c3) w5 rfl rfl AP2 ?_
  refine hK.out _ _ trivial (fun hHeld => ?_)
  clear hK K
  try simp only [Act.put, List.setIfInBounds_toArray, List.set_cons_zero, List.set_cons_succ]
  refine wpAnyH_ready (rs := [9]) (by kernel_rfl) (by simp) ?_
  refine AllReadyH.cons (o := ?oi_42) ?hi_42 (fun K hK => ?_) AllReadyH.nil
  case hi_42 => simp only [List.getElem?_toArray, List.getElem?_cons_zero, List.getElem?_cons_succ]; rfl
  go_simp
  (go_at_call 20; with_reducible refine (WR.out _ _ _ n3 m3 P3.out).mono ?_; rintro e w6 ⟨rfl, rfl⟩)
  refine hK.out _ _ trivial (fun hHeld => ?_)
  clear hK K
  try simp only [Act.put, List.setIfInBounds_toArray, List.set_cons_zero, List.set_cons_succ]
  refine wpAnyH_take (i := 10) (oi := ?oi_43) (v := ?_) ?hi_43 (by kernel_rfl) ?hf_43 (by kernel_rfl) ?hQ_43 ?hy_43 (by assumption) ?_
  case hi_43 => simp only [List.getElem?_toArray, List.getElem?_cons_zero, List.getElem?_cons_succ]; rfl
  case hf_43 => kernel_rfl
  case hQ_43 => exact fun _ _ _ h => h
  case hy_43 =>
    refine Or.inl ⟨by rfl, ?_⟩
    intro W hSw
    obtain _ := hSw
    go_simp
    try with_reducible rfl
  try simp only [Act.put, List.setIfInBounds_toArray, List.set_cons_zero, List.set_cons_succ]
  refine wpAnyH_take (i := 11) (oi := ?oi_44) (v := ?_) ?hi_44 (by kernel_rfl) ?hf_44 (by kernel_rfl) ?hQ_44 ?hy_44 (by assumption) ?_
  case hi_44 => simp only [List.getElem?_toArray, List.getElem?_cons_zero, List.getElem?_cons_succ]; rfl
  case hf_44 => kernel_rfl
  case hQ_44 => exact fun _ _ _ h => h
  case hy_44 =>
    refine Or.inl ⟨by rfl, ?_⟩
    intro W hSw
    obtain _ := hSw
    go_simp
    try with_reducible rfl
  try simp only [Act.put, List.setIfInBounds_toArray, List.set_cons_zero, List.set_cons_succ]
  refine wpAnyH_done (by kernel_rfl) ?_ _
  clear hHeld
  go_wp2
  go_ret2
  exact ⟨rfl, B3.out⟩
set_option maxHeartbeats 4000000 in
set_option maxRecDepth 100000 in
theorem RB_14_64 (a b : Nat) (w : World) (ha : a < 18446744073709551616) (hb : b < 18446744073709551616) :
    Calls Try.prog 11 #[.int .i64 14, .int .i64 64, .int .u64 a, .int .u64 b] w fun e w' => e = .returned (.tuple #[.int .u64 ((Wd.bz 14 64 a b : Nat) : Int), .int .i64 ((Wd.tr 14 64 a b : Nat) : Int)]) ∧ Below w.heap.size w w' := by
  have hX : Wd.cut 64 a < 2 ^ 64 := Wd.cut_lt (n := 64) (.inr rfl) ha
  have hY : Wd.cut 64 b < 2 ^ 64 := Wd.cut_lt (n := 64) (.inr rfl) hb
  have L1 : Hid (∀ W : World, Calls Try.prog 19 #[.int .i64 64, .int .u64 a] W (LPost W.heap.size 64 (bt (Wd.cut 64 a)) W)) := Lib.hid (fun W => (List_any 64 a W (by decide) (by decide) ha).mono fun e w' h => h.is (vl_cut 64 a (.inr rfl) ha))
  have L2 : Hid (∀ W : World, Calls Try.prog 19 #[.int .i64 64, .int .u64 b] W (LPost W.heap.size 64 (bt (Wd.cut 64 b)) W)) := Lib.hid (fun W => (List_any 64 b W (by decide) (by decide) hb).mono fun e w' h => h.is (vl_cut 64 b (.inr rfl) hb))
  have HR0 := rb_14 (n := 64) (.inr rfl) (b := b) ha
  have r1 : Wd.bz 14 64 a b = vl (rl 64 (64 - (Wd.cut 64 b % 64)) (bt (Wd.cut 64 a))) 0 64 := HR0.1
  have r2 : Wd.tr 14 64 a b = 0 := HR0.2
  rw [r1, r2]
  clear HR0 r1 r2
  generalize Wd.cut 64 a = X at hX L1 ⊢
  generalize Wd.cut 64 b = Y at hY L2 ⊢
  have hk : Y % 64 < 64 := Nat.mod_lt _ (by decide)
  have kk : (Y : Int) % 64 = ((Y % 64 : Nat) : Int) := by omega
  have kt : (Y : Int).tmod 64 = ((Y % 64 : Nat) : Int) := by rw [Int.tmod_eq_emod_of_nonneg (by omega)]; omega
  generalize Y % 64 = k at hk kk kt ⊢
  have hYb : (Y : Int) < 18446744073709551616 := by omega
  have WY : Hid (∀ (W : World) (g c : Nat), 64 ≤ c → c ≤ 9223372036854775807 → Bo W g 64 (bt Y) → Calls Try.prog 20 #[.slice (some ⟨g, 0, none⟩) 64 c] W fun e w' => e = .returned (.int .u64 (Y : Int)) ∧ W = w') := Lib.hid (fun W g c a1 a2 b1 => Word_v g c 64 Y W (by decide) a1 a2 hY b1)
  have hsl := fun (g c : Nat) (W : World) => cut_l g 64 c k (by omega) W
  have hsh := fun (g c : Nat) (W : World) (hc : 64 ≤ c) => cut_h g 64 c k (by omega) W
  have TR := Lib.hid (fun (W : World) (B g c : Nat) (hc : 64 ≤ c) (hb : Bo W g 64 (bt X)) (hB : B ≤ W.heap.size) (hg : g < B) => turn_run W B g c 64 (64 - k) (bt X) (by omega) (by decide) (by decide) hc hb hB hg)
  obtain ⟨R, eR⟩ : ∃ R, R = vl (rl 64 (64 - k) (bt X)) 0 64 := ⟨_, rfl⟩
  have WR : Hid (∀ (W : World) (g c : Nat), 64 ≤ c → c ≤ 9223372036854775807 → Bo W g 64 (rl 64 (64 - k) (bt X)) → Calls Try.prog 20 #[.slice (some ⟨g, 0, none⟩) 64 c] W fun e w' => e = .returned (.int .u64 (R : Int)) ∧ W = w') := Lib.hid (fun W g c a1 a2 b1 => by rw [eR]; exact Word_any g c 64 _ W (by decide) a1 a2 b1)
  rw [← eR]
  have e1 : 64 - (64 - k) = k := by omega
  clear hX ha hb eR
  go_enter Try.func11, Try.ntmps11
  go_wp2_with (first
    | (go_at_call 19; with_reducible refine (L1.out _).mono ?_; rintro e w1 hL; unfold LPost at hL; obtain ⟨g1, c1, rfl, n1, m1, b1, k1, h1⟩ := hL; have P1 := Lib.hid b1; have B1 := Lib.hid h1; clear b1 k1 h1)
    | (go_at_call 19; with_reducible refine (L2.out _).mono ?_; rintro e w2 hL; unfold LPost at hL; obtain ⟨g2, c2, rfl, n2, m2, b2, k2, h2⟩ := hL; have P2 := Lib.hid b2; have P1' := Lib.hid (P1.out.below h2 P1.out.lt); have B2 := Lib.hid (B1.out.trans (h2.mono B1.out.size)); clear b2 k2 h2)
    | (go_at_call 20; with_reducible refine (WY.out _ _ _ n2 m2 P2.out).mono ?_; rintro e w3 ⟨rfl, rfl⟩))
  obtain ⟨v1, w4, g3, c3, w5, ap1, ap2, n3, m3, b3, h3⟩ := TR.out w2.drew w2.heap.size g1 c1 n1 P1'.out (Nat.le_refl _) P1'.out.lt
  have AP1 : Hid (∀ ty, (Builtin.append_ #[41, 41] ty #[.slice (some ⟨w2.heap.size, 0, none⟩) 0 0, .slice (some ⟨g1, cutO c1 k, none⟩) (64 - k) (c1 - k)]).run Try.prog (w2.alloc (.cells #[] 4)).drew = .ok v1 w4) := Lib.hid (by have h := ap1.out; rw [e1] at h; exact h)
  have AP2 : Hid (∀ ty, (Builtin.append_ #[41, 41] ty #[v1, .slice (some ⟨g1, 0, none⟩) k c1]).run Try.prog w4 = .ok (.slice (some ⟨g3, 0, none⟩) 64 c3) w5) := Lib.hid (by have h := ap2.out; rw [e1] at h; exact h)
  have P3 := Lib.hid b3
  have B3 := Lib.hid ((drew_below B2.out 1).trans (h3.mono B2.out.size))
  have S1 := fun W : World => hsl g1 c1 W
  have S2 := fun W : World => hsh g1 c1 W n1
  clear ap1 ap2 b3 h3 hsl hsh TR
  refine wp_region_held_drew (S := (fun W => True)) (by kernel_rfl) trivial (fun hHeld => ?_)
  refine wpAnyH_take (i := 1) (oi := ?oi_45) (v := ?_) ?hi_45 (by kernel_rfl) ?hf_45 (by kernel_rfl) ?hQ_45 ?hy_45 (by assumption) ?_
  case hi_45 => simp only [List.getElem?_toArray, List.getElem?_cons_zero, List.getElem?_cons_succ]; rfl
  case hf_45 => kernel_rfl
  case hQ_45 => exact fun _ _ _ h => h
  case hy_45 =>
    refine Or.inl ⟨by rfl, ?_⟩
    intro W hSw
    obtain _ := hSw
    go_simp
    try with_reducible rfl
  try simp only [Act.put, List.setIfInBounds_toArray, List.set_cons_zero, List.set_cons_succ]
  refine wpAnyH_take (i := 2) (oi := ?oi_46) (v := ?_) ?hi_46 (by kernel_rfl) ?hf_46 (by kernel_rfl) ?hQ_46 ?hy_46 (by assumption) ?_
  case hi_46 => simp only [List.getElem?_toArray, List.getElem?_cons_zero, List.getElem?_cons_succ]; rfl
  case hf_46 => kernel_rfl
  case hQ_46 => exact fun _ _ _ h => h
  case hy_46 =>
    refine Or.inl ⟨by rfl, ?_⟩
    intro W hSw
    obtain _ := hSw
    go_simp
    try with_reducible rfl
  try simp only [Act.put, List.setIfInBounds_toArray, List.set_cons_zero, List.set_cons_succ]
  refine wpAnyH_take (i := 3) (oi := ?oi_47) (v := ?_) ?hi_47 (by kernel_rfl) ?hf_47 (by kernel_rfl) ?hQ_47 ?hy_47 (by assumption) ?_
  case hi_47 => simp only [List.getElem?_toArray, List.getElem?_cons_zero, List.getElem?_cons_succ]; rfl
  case hf_47 => kernel_rfl
  case hQ_47 => exact fun _ _ _ h => h
  case hy_47 =>
    refine Or.inl ⟨by rfl, ?_⟩
    intro W hSw
    obtain _ := hSw
    go_simp
    try with_reducible rfl
  try simp only [Act.put, List.setIfInBounds_toArray, List.set_cons_zero, List.set_cons_succ]
  refine wpAnyH_take (i := 5) (oi := ?oi_48) (v := ?_) ?hi_48 (by kernel_rfl) ?hf_48 (by kernel_rfl) ?hQ_48 ?hy_48 (by assumption) ?_
  case hi_48 => simp only [List.getElem?_toArray, List.getElem?_cons_zero, List.getElem?_cons_succ]; rfl
  case hf_48 => kernel_rfl
  case hQ_48 => exact fun _ _ _ h => h
  case hy_48 =>
    refine Or.inl ⟨by rfl, ?_⟩
    intro W hSw
    obtain _ := hSw
    go_simp
    try with_reducible rfl
  try simp only [Act.put, List.setIfInBounds_toArray, List.set_cons_zero, List.set_cons_succ]
  refine wpAnyH_take (i := 6) (oi := ?oi_49) (v := ?_) ?hi_49 (by kernel_rfl) ?hf_49 (by kernel_rfl) ?hQ_49 ?hy_49 (by assumption) ?_
  case hi_49 => simp only [List.getElem?_toArray, List.getElem?_cons_zero, List.getElem?_cons_succ]; rfl
  case hf_49 => kernel_rfl
  case hQ_49 => exact fun _ _ _ h => h
  case hy_49 =>
    refine Or.inl ⟨by rfl, ?_⟩
    intro W hSw
    obtain _ := hSw
    go_simp
    try with_reducible rfl
  try simp only [Act.put, List.setIfInBounds_toArray, List.set_cons_zero, List.set_cons_succ]
  refine wpAnyH_take (i := 7) (oi := ?oi_50) (v := ?_) ?hi_50 (by kernel_rfl) ?hf_50 (by kernel_rfl) ?hQ_50 ?hy_50 (by assumption) ?_
  case hi_50 => simp only [List.getElem?_toArray, List.getElem?_cons_zero, List.getElem?_cons_succ]; rfl
  case hf_50 => kernel_rfl
  case hQ_50 => exact fun _ _ _ h => h
  case hy_50 =>
    refine Or.inl ⟨by rfl, ?_⟩
    intro W hSw
    obtain _ := hSw
    go_simp
    try with_reducible rfl
  try simp only [Act.put, List.setIfInBounds_toArray, List.set_cons_zero, List.set_cons_succ]
  refine wpAnyH_ready (rs := [0]) (by kernel_rfl) (by simp) ?_
  refine AllReadyH.cons (o := ?oi_51) ?hi_51 (fun K hK => ?_) AllReadyH.nil
  case hi_51 => simp only [List.getElem?_toArray, List.getElem?_cons_zero, List.getElem?_cons_succ]; rfl
  go_simp
  refine hK.out _ _ trivial (fun hHeld => ?_)
  clear hK K
  try simp only [Act.put, List.setIfInBounds_toArray, List.set_cons_zero, List.set_cons_succ]
  refine wpAnyH_ready (rs := [4]) (by kernel_rfl) (by simp) ?_
  refine AllReadyH.cons (o := ?oi_52) ?hi_52 (fun K hK => ?_) AllReadyH.nil
  case hi_52 => simp only [List.getElem?_toArray, List.getElem?_cons_zero, List.getElem?_cons_succ]; rfl
  refine step_append_run rfl (.tmp 168) (.tmp 171) 41 rfl (.slice (some ⟨w2.heap.size, 0, none⟩) 0 0) (.slice (some ⟨g1, cutO c1 k, none⟩) (64 - k) (c1 - k)) v1 w4 rfl rfl AP1 ?_
  refine hK.out _ _ trivial (fun hHeld => ?_)
  clear hK K
  try simp only [Act.put, List.setIfInBounds_toArray, List.set_cons_zero, List.set_cons_succ]
  refine wpAnyH_ready (rs := [8]) (by kernel_rfl) (by simp) ?_
  refine AllReadyH.cons (o := ?oi_53) ?hi_53 (fun K hK => ?_) AllReadyH.nil
  case hi_53 => simp only [List.getElem?_toArray, List.getElem?_cons_zero, List.getElem?_cons_succ]; rfl
  refine step_append_run rfl (.tmp 172) (.tmp 175) 41 rfl v1 (.slice (some ⟨g1, 0, none⟩) k c1) (.slice (some ⟨g3, 0, none⟩) 64 c3) w5 rfl rfl AP2 ?_
  refine hK.out _ _ trivial (fun hHeld => ?_)
  clear hK K
  try simp only [Act.put, List.setIfInBounds_toArray, List.set_cons_zero, List.set_cons_succ]
  refine wpAnyH_ready (rs := [9]) (by kernel_rfl) (by simp) ?_
  refine AllReadyH.cons (o := ?oi_54) ?hi_54 (fun K hK => ?_) AllReadyH.nil
  case hi_54 => simp only [List.getElem?_toArray, List.getElem?_cons_zero, List.getElem?_cons_succ]; rfl
  go_simp
  (go_at_call 20; with_reducible refine (WR.out _ _ _ n3 m3 P3.out).mono ?_; rintro e w6 ⟨rfl, rfl⟩)
  refine hK.out _ _ trivial (fun hHeld => ?_)
  clear hK K
  try simp only [Act.put, List.setIfInBounds_toArray, List.set_cons_zero, List.set_cons_succ]
  refine wpAnyH_take (i := 10) (oi := ?oi_55) (v := ?_) ?hi_55 (by kernel_rfl) ?hf_55 (by kernel_rfl) ?hQ_55 ?hy_55 (by assumption) ?_
  case hi_55 => simp only [List.getElem?_toArray, List.getElem?_cons_zero, List.getElem?_cons_succ]; rfl
  case hf_55 => kernel_rfl
  case hQ_55 => exact fun _ _ _ h => h
  case hy_55 =>
    refine Or.inl ⟨by rfl, ?_⟩
    intro W hSw
    obtain _ := hSw
    go_simp
    try with_reducible rfl
  try simp only [Act.put, List.setIfInBounds_toArray, List.set_cons_zero, List.set_cons_succ]
  refine wpAnyH_take (i := 11) (oi := ?oi_56) (v := ?_) ?hi_56 (by kernel_rfl) ?hf_56 (by kernel_rfl) ?hQ_56 ?hy_56 (by assumption) ?_
  case hi_56 => simp only [List.getElem?_toArray, List.getElem?_cons_zero, List.getElem?_cons_succ]; rfl
  case hf_56 => kernel_rfl
  case hQ_56 => exact fun _ _ _ h => h
  case hy_56 =>
    refine Or.inl ⟨by rfl, ?_⟩
    intro W hSw
    obtain _ := hSw
    go_simp
    try with_reducible rfl
  try simp only [Act.put, List.setIfInBounds_toArray, List.set_cons_zero, List.set_cons_succ]
  refine wpAnyH_done (by kernel_rfl) ?_ _
  clear hHeld
  go_wp2
  go_ret2
  exact ⟨rfl, B3.out⟩
end Go.Proofs.Ytmbnaejoiglckaa
