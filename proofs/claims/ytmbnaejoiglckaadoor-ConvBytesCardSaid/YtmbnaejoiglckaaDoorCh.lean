/-
  The document's own Extend: what it answers, of any word, from 8, 16 or 32 bits, to 32 or 64.
-/
import Derived.Test.YtmbnaejoiglckaaDoorCg
namespace Go.Proofs.YtmbnaejoiglckaaDoor
open Go.RowKit
set_option linter.unusedVariables false
/-- the low bits, and the top one again and again -/
def fx (a f : Nat) (top : Bool) (i : Nat) : Bool := if i < f then bt a i else top
theorem vl_split (g : Nat → Bool) : ∀ (k m s : Nat), vl g s (k + m) = vl g s k + 2 ^ k * vl g (s + k) m
  | 0, m, s => by simp [vl]
  | k + 1, m, s => by
    rw [show k + 1 + m = (k + m) + 1 from by omega]
    show (g s).toNat + 2 * vl g (s + 1) (k + m) = (g s).toNat + 2 * vl g (s + 1) k + 2 ^ (k + 1) * vl g (s + (k + 1)) m
    rw [vl_split g k m (s + 1), Nat.pow_succ, show s + 1 + k = s + (k + 1) from by omega, Nat.mul_add, ← Nat.mul_assoc, Nat.mul_comm 2 (2 ^ k)]
    omega
theorem vl_congr (g h : Nat → Bool) : ∀ (m s : Nat), (∀ i, s ≤ i → i < s + m → g i = h i) → vl g s m = vl h s m
  | 0, _, _ => rfl
  | m + 1, s, e => by
    unfold vl
    rw [e s (Nat.le_refl _) (by omega), vl_congr g h m (s + 1) (fun i a b => e i (by omega) (by omega))]
theorem vl_true (g : Nat → Bool) : ∀ (m s : Nat), (∀ i, s ≤ i → i < s + m → g i = true) → vl g s m + 1 = 2 ^ m
  | 0, _, _ => rfl
  | m + 1, s, e => by
    unfold vl
    rw [e s (Nat.le_refl _) (by omega)]
    have := vl_true g m (s + 1) (fun i a b => e i (by omega) (by omega))
    rw [Nat.pow_succ]
    simp
    omega
theorem vl_false (g : Nat → Bool) : ∀ (m s : Nat), (∀ i, s ≤ i → i < s + m → g i = false) → vl g s m = 0
  | 0, _, _ => rfl
  | m + 1, s, e => by
    unfold vl
    rw [e s (Nat.le_refl _) (by omega), vl_false g m (s + 1) (fun i a b => e i (by omega) (by omega))]
    rfl
theorem fx_val (a f m : Nat) (top : Bool) : vl (fx a f top) 0 (f + m) = if top = true then a % 2 ^ f + 2 ^ f * (2 ^ m - 1) else a % 2 ^ f := by
  have h1 : vl (fx a f top) 0 f = a % 2 ^ f := by
    rw [vl_congr (fx a f top) (bt a) f 0 (fun i _ b => by unfold fx; rw [if_pos (by omega)]), vl_bt, Nat.pow_zero, Nat.div_one]
  rw [vl_split, h1, Nat.zero_add]
  cases top
  · rw [vl_false _ m f (fun i x _ => by unfold fx; rw [if_neg (by omega)])]; simp
  · have := vl_true (fx a f true) m f (fun i x _ => by unfold fx; rw [if_neg (by omega)])
    rw [if_pos rfl, show vl (fx a f true) f m = 2 ^ m - 1 from by omega]
theorem own_empty (w : World) (B : Nat) (hB : B ≤ w.heap.size) : (w.alloc (.cells #[] 4)).ownsRow B 4 1 (.slice (some ⟨w.heap.size, 0, none⟩) 0 0) 0 [] :=
  ⟨rfl, .inr ⟨w.heap.size, 0, #[], rfl, hB, heap_alloc_new w _, Nat.le_refl _, Nat.zero_le _, rfl, rfl⟩⟩
def lenV : Value → Nat
  | .slice _ n _ => n
  | _ => 0
theorem bo_news {w : World} {g m : Nat} {f : Nat → Bool} (h : Bo w g m f) (o : Obj) : ∀ j u, (BL f m)[j]? = some u → (w.alloc o).cell? ((⟨g, 0, none⟩ : Addr).add j) = some u := by
  intro j u hu
  have hj : j < m := by
    have := (List.getElem?_eq_some_iff.1 hu).1
    simpa [BL] using this
  rw [BL_at f hj] at hu
  rw [addr_add, Nat.zero_add, ((Below.refl w.heap.size w).alloc (Nat.le_refl _) o).cell (p := ⟨g, j, none⟩) h.1, h.2 j hj]
  exact hu
theorem BL_len (f : Nat → Bool) (m : Nat) : (BL f m).length = m * 1 := by simp [BL]
theorem BL_one (f : Nat → Bool) (m : Nat) : ∀ u ∈ BL f m, u.oneCell' = true := by
  intro u hu
  unfold BL at hu
  rw [List.mem_map] at hu
  obtain ⟨i, _, rfl⟩ := hu
  rfl
set_option maxHeartbeats 2000000 in
set_option maxRecDepth 100000 in
theorem RExt_8_32_true (a : Nat) (w : World) (ha : a < 18446744073709551616) :
    Calls Tryd.prog 21 #[.int .i64 8, .int .i64 32, .bool true, .int .u64 a] w fun e w' => e = .returned (.int .u64 ((vl (fx a 8 (true && bt a 7)) 0 32 : Nat) : Int)) ∧ Below w.heap.size w w' := by
  obtain ⟨i0, hi, hz0, hz1, hz2⟩ := info4_parts
  have L : Hid (Calls Tryd.prog 38 #[.int .i64 64, .int .u64 a] w (LPost w.heap.size 64 (bt a) w)) := Lib.hid (List_any 64 a w (by decide) (by decide) ha)
  obtain ⟨b7, e7⟩ : ∃ b, b = bt a 7 := ⟨_, rfl⟩
  rw [← e7]
  have E7 := Lib.hid e7
  have ET : Hid ((true && b7) = b7) := Lib.hid (by simp)
  rw [ET.out]
  clear e7 ha
  go_enter Tryd.func21, Tryd.ntmps21
  go_wp2_with (go_at_call 38; with_reducible refine L.out.mono ?_; rintro e w1 hL; unfold LPost at hL; obtain ⟨g1, c1, rfl, n1, m1, b1, k1, h1⟩ := hL; have B1 := Lib.hid b1; have H1 := Lib.hid h1; have q1 : w1.cell? ⟨g1, 7, none⟩ = some (.bool b7) := (b1.at_ (by decide)).trans (by rw [E7.out]); clear b1 h1)
  go_loopw [9] (fun v9 wr => ∃ g m cp : Nat, v9 = .slice (some ⟨g, 0, none⟩) m cp ∧ 8 ≤ m ∧ m ≤ 32 ∧ m ≤ cp ∧ cp ≤ 9223372036854775807 ∧ Hid (Bo wr g m (fx a 8 b7)) ∧ Hid (Below w.heap.size w wr)) (fun v9 _ => 32 - lenV v9)
  case atStart => exact ⟨g1, 8, c1, rfl, by decide, by decide, by omega, m1, Lib.hid ⟨B1.out.1, fun i hi => by unfold fx; rw [if_pos hi]; exact B1.out.2 i (by omega)⟩, H1⟩
  case round =>
    obtain ⟨g, m, cp, rfl, hfm, hmt, hmc, hcp, HB, HBl⟩ := hrel
    by_cases hlt : m < 32
    · go_wp2_with (at_builtin; refine wpList_append_own _ rfl (.tmp 27) (.tmp 28) 63 rfl w.heap.size 4 i0 _ 1 1 Tryd.underlying63 hi hz0 hz1 hz2 rfl (by decide) _ 0 [] rfl (own_empty wr w.heap.size HBl.out.size) ⟨g, 0, none⟩ m cp (BL (fx a 8 b7) m) rfl (BL_len _ _) (bo_news HB.out _) (BL_one _ _) ?c3 ?c4 ?c5 ?_)
      case c3 => unfold maxLen; omega
      case c4 => omega
      case c5 => have := HBl.out.size; simp; omega
      intro v1 w3 hown1 hg1 _
      have HO1 := Lib.hid hown1
      have HB1 : Hid (Below w.heap.size w w3) := Lib.hid ((HBl.out.alloc HBl.out.size _).grown hg1 (by simp; have := HBl.out.size; omega) (fun j hj => by injection hj with e; rw [← e]; exact HBl.out.size))
      have HS : Hid (BL (fx a 8 b7) (m + 1) = BL (fx a 8 b7) m ++ [Value.bool b7]) := Lib.hid (by rw [BL_succ]; congr 2; unfold fx; rw [if_neg (by omega)])
      clear hown1 hg1
      go_wp2_with (at_builtin; refine wpList_append_own _ rfl (.tmp 29) (.tmp 31) 63 rfl w.heap.size 4 i0 _ 1 1 Tryd.underlying63 hi hz0 hz1 hz2 rfl (by decide) _ m _ rfl (HO1.out.alloc _) ⟨w3.heap.size, 0, none⟩ 1 1 [Value.bool b7] rfl rfl (cell_new _ _ _) ?d2 ?d3 ?d4 ?d5 ?_)
      case d2 => intro u hu; simp at hu; subst hu; rfl
      case d3 => unfold maxLen; omega
      case d4 => omega
      case d5 => have := HB1.out.size; simp; omega
      intro v2 w4 hown2 hg2 _
      have HB2 : Hid (Below w.heap.size w w4) := Lib.hid (own_below HB1.out HB1.out.size HO1.out hg2)
      obtain ⟨g2, cp2, rfl, n2, m2, bo2, k2⟩ := bo_of_own (f := fx a 8 b7) (by rw [HS.out]; exact hown2) (by omega)
      have m2' : cp2 ≤ 9223372036854775807 := by unfold maxLen at m2; omega
      have BO2 := Lib.hid bo2
      clear hown2 hg2 m2 bo2 HS
      go_wp2
      go_roundw
      case rel => exact ⟨g2, m + 1, cp2, rfl, by omega, by omega, n2, m2', BO2, HB2⟩
      case measure => simp [lenV]; omega
    · obtain rfl : m = 32 := by omega
      go_wp2_with (go_at_call 43; refine (Word_any g cp 32 (fx a 8 b7) _ (by decide) hmc hcp HB.out).mono ?_; rintro e w2 ⟨rfl, rfl⟩)
      go_ret
      exact ⟨rfl, HBl.out⟩
set_option maxHeartbeats 2000000 in
set_option maxRecDepth 100000 in
theorem RExt_8_32_false (a : Nat) (w : World) (ha : a < 18446744073709551616) :
    Calls Tryd.prog 21 #[.int .i64 8, .int .i64 32, .bool false, .int .u64 a] w fun e w' => e = .returned (.int .u64 ((vl (fx a 8 (false && bt a 7)) 0 32 : Nat) : Int)) ∧ Below w.heap.size w w' := by
  obtain ⟨i0, hi, hz0, hz1, hz2⟩ := info4_parts
  have L : Hid (Calls Tryd.prog 38 #[.int .i64 64, .int .u64 a] w (LPost w.heap.size 64 (bt a) w)) := Lib.hid (List_any 64 a w (by decide) (by decide) ha)
  obtain ⟨b7, e7⟩ : ∃ b, b = bt a 7 := ⟨_, rfl⟩
  rw [← e7]
  have E7 := Lib.hid e7
  have ET : Hid ((false && b7) = false) := Lib.hid (by simp)
  rw [ET.out]
  clear e7 ha
  go_enter Tryd.func21, Tryd.ntmps21
  go_wp2_with (go_at_call 38; with_reducible refine L.out.mono ?_; rintro e w1 hL; unfold LPost at hL; obtain ⟨g1, c1, rfl, n1, m1, b1, k1, h1⟩ := hL; have B1 := Lib.hid b1; have H1 := Lib.hid h1; have q1 : w1.cell? ⟨g1, 7, none⟩ = some (.bool b7) := (b1.at_ (by decide)).trans (by rw [E7.out]); clear b1 h1)
  go_loopw [9] (fun v9 wr => ∃ g m cp : Nat, v9 = .slice (some ⟨g, 0, none⟩) m cp ∧ 8 ≤ m ∧ m ≤ 32 ∧ m ≤ cp ∧ cp ≤ 9223372036854775807 ∧ Hid (Bo wr g m (fx a 8 false)) ∧ Hid (Below w.heap.size w wr)) (fun v9 _ => 32 - lenV v9)
  case atStart => exact ⟨g1, 8, c1, rfl, by decide, by decide, by omega, m1, Lib.hid ⟨B1.out.1, fun i hi => by unfold fx; rw [if_pos hi]; exact B1.out.2 i (by omega)⟩, H1⟩
  case round =>
    obtain ⟨g, m, cp, rfl, hfm, hmt, hmc, hcp, HB, HBl⟩ := hrel
    by_cases hlt : m < 32
    · go_wp2_with (at_builtin; refine wpList_append_own _ rfl (.tmp 27) (.tmp 28) 63 rfl w.heap.size 4 i0 _ 1 1 Tryd.underlying63 hi hz0 hz1 hz2 rfl (by decide) _ 0 [] rfl (own_empty wr w.heap.size HBl.out.size) ⟨g, 0, none⟩ m cp (BL (fx a 8 false) m) rfl (BL_len _ _) (bo_news HB.out _) (BL_one _ _) ?c3 ?c4 ?c5 ?_)
      case c3 => unfold maxLen; omega
      case c4 => omega
      case c5 => have := HBl.out.size; simp; omega
      intro v1 w3 hown1 hg1 _
      have HO1 := Lib.hid hown1
      have HB1 : Hid (Below w.heap.size w w3) := Lib.hid ((HBl.out.alloc HBl.out.size _).grown hg1 (by simp; have := HBl.out.size; omega) (fun j hj => by injection hj with e; rw [← e]; exact HBl.out.size))
      have HS : Hid (BL (fx a 8 false) (m + 1) = BL (fx a 8 false) m ++ [Value.bool false]) := Lib.hid (by rw [BL_succ]; congr 2; unfold fx; rw [if_neg (by omega)])
      clear hown1 hg1
      go_wp2_with (at_builtin; refine wpList_append_own _ rfl (.tmp 29) (.tmp 31) 63 rfl w.heap.size 4 i0 _ 1 1 Tryd.underlying63 hi hz0 hz1 hz2 rfl (by decide) _ m _ rfl (HO1.out.alloc _) ⟨w3.heap.size, 0, none⟩ 1 1 [Value.bool false] rfl rfl (cell_new _ _ _) ?d2 ?d3 ?d4 ?d5 ?_)
      case d2 => intro u hu; simp at hu; subst hu; rfl
      case d3 => unfold maxLen; omega
      case d4 => omega
      case d5 => have := HB1.out.size; simp; omega
      intro v2 w4 hown2 hg2 _
      have HB2 : Hid (Below w.heap.size w w4) := Lib.hid (own_below HB1.out HB1.out.size HO1.out hg2)
      obtain ⟨g2, cp2, rfl, n2, m2, bo2, k2⟩ := bo_of_own (f := fx a 8 false) (by rw [HS.out]; exact hown2) (by omega)
      have m2' : cp2 ≤ 9223372036854775807 := by unfold maxLen at m2; omega
      have BO2 := Lib.hid bo2
      clear hown2 hg2 m2 bo2 HS
      go_wp2
      go_roundw
      case rel => exact ⟨g2, m + 1, cp2, rfl, by omega, by omega, n2, m2', BO2, HB2⟩
      case measure => simp [lenV]; omega
    · obtain rfl : m = 32 := by omega
      go_wp2_with (go_at_call 43; refine (Word_any g cp 32 (fx a 8 false) _ (by decide) hmc hcp HB.out).mono ?_; rintro e w2 ⟨rfl, rfl⟩)
      go_ret
      exact ⟨rfl, HBl.out⟩
set_option maxHeartbeats 2000000 in
set_option maxRecDepth 100000 in
theorem RExt_8_64_true (a : Nat) (w : World) (ha : a < 18446744073709551616) :
    Calls Tryd.prog 21 #[.int .i64 8, .int .i64 64, .bool true, .int .u64 a] w fun e w' => e = .returned (.int .u64 ((vl (fx a 8 (true && bt a 7)) 0 64 : Nat) : Int)) ∧ Below w.heap.size w w' := by
  obtain ⟨i0, hi, hz0, hz1, hz2⟩ := info4_parts
  have L : Hid (Calls Tryd.prog 38 #[.int .i64 64, .int .u64 a] w (LPost w.heap.size 64 (bt a) w)) := Lib.hid (List_any 64 a w (by decide) (by decide) ha)
  obtain ⟨b7, e7⟩ : ∃ b, b = bt a 7 := ⟨_, rfl⟩
  rw [← e7]
  have E7 := Lib.hid e7
  have ET : Hid ((true && b7) = b7) := Lib.hid (by simp)
  rw [ET.out]
  clear e7 ha
  go_enter Tryd.func21, Tryd.ntmps21
  go_wp2_with (go_at_call 38; with_reducible refine L.out.mono ?_; rintro e w1 hL; unfold LPost at hL; obtain ⟨g1, c1, rfl, n1, m1, b1, k1, h1⟩ := hL; have B1 := Lib.hid b1; have H1 := Lib.hid h1; have q1 : w1.cell? ⟨g1, 7, none⟩ = some (.bool b7) := (b1.at_ (by decide)).trans (by rw [E7.out]); clear b1 h1)
  go_loopw [9] (fun v9 wr => ∃ g m cp : Nat, v9 = .slice (some ⟨g, 0, none⟩) m cp ∧ 8 ≤ m ∧ m ≤ 64 ∧ m ≤ cp ∧ cp ≤ 9223372036854775807 ∧ Hid (Bo wr g m (fx a 8 b7)) ∧ Hid (Below w.heap.size w wr)) (fun v9 _ => 64 - lenV v9)
  case atStart => exact ⟨g1, 8, c1, rfl, by decide, by decide, by omega, m1, Lib.hid ⟨B1.out.1, fun i hi => by unfold fx; rw [if_pos hi]; exact B1.out.2 i (by omega)⟩, H1⟩
  case round =>
    obtain ⟨g, m, cp, rfl, hfm, hmt, hmc, hcp, HB, HBl⟩ := hrel
    by_cases hlt : m < 64
    · go_wp2_with (at_builtin; refine wpList_append_own _ rfl (.tmp 27) (.tmp 28) 63 rfl w.heap.size 4 i0 _ 1 1 Tryd.underlying63 hi hz0 hz1 hz2 rfl (by decide) _ 0 [] rfl (own_empty wr w.heap.size HBl.out.size) ⟨g, 0, none⟩ m cp (BL (fx a 8 b7) m) rfl (BL_len _ _) (bo_news HB.out _) (BL_one _ _) ?c3 ?c4 ?c5 ?_)
      case c3 => unfold maxLen; omega
      case c4 => omega
      case c5 => have := HBl.out.size; simp; omega
      intro v1 w3 hown1 hg1 _
      have HO1 := Lib.hid hown1
      have HB1 : Hid (Below w.heap.size w w3) := Lib.hid ((HBl.out.alloc HBl.out.size _).grown hg1 (by simp; have := HBl.out.size; omega) (fun j hj => by injection hj with e; rw [← e]; exact HBl.out.size))
      have HS : Hid (BL (fx a 8 b7) (m + 1) = BL (fx a 8 b7) m ++ [Value.bool b7]) := Lib.hid (by rw [BL_succ]; congr 2; unfold fx; rw [if_neg (by omega)])
      clear hown1 hg1
      go_wp2_with (at_builtin; refine wpList_append_own _ rfl (.tmp 29) (.tmp 31) 63 rfl w.heap.size 4 i0 _ 1 1 Tryd.underlying63 hi hz0 hz1 hz2 rfl (by decide) _ m _ rfl (HO1.out.alloc _) ⟨w3.heap.size, 0, none⟩ 1 1 [Value.bool b7] rfl rfl (cell_new _ _ _) ?d2 ?d3 ?d4 ?d5 ?_)
      case d2 => intro u hu; simp at hu; subst hu; rfl
      case d3 => unfold maxLen; omega
      case d4 => omega
      case d5 => have := HB1.out.size; simp; omega
      intro v2 w4 hown2 hg2 _
      have HB2 : Hid (Below w.heap.size w w4) := Lib.hid (own_below HB1.out HB1.out.size HO1.out hg2)
      obtain ⟨g2, cp2, rfl, n2, m2, bo2, k2⟩ := bo_of_own (f := fx a 8 b7) (by rw [HS.out]; exact hown2) (by omega)
      have m2' : cp2 ≤ 9223372036854775807 := by unfold maxLen at m2; omega
      have BO2 := Lib.hid bo2
      clear hown2 hg2 m2 bo2 HS
      go_wp2
      go_roundw
      case rel => exact ⟨g2, m + 1, cp2, rfl, by omega, by omega, n2, m2', BO2, HB2⟩
      case measure => simp [lenV]; omega
    · obtain rfl : m = 64 := by omega
      go_wp2_with (go_at_call 43; refine (Word_any g cp 64 (fx a 8 b7) _ (by decide) hmc hcp HB.out).mono ?_; rintro e w2 ⟨rfl, rfl⟩)
      go_ret
      exact ⟨rfl, HBl.out⟩
set_option maxHeartbeats 2000000 in
set_option maxRecDepth 100000 in
theorem RExt_8_64_false (a : Nat) (w : World) (ha : a < 18446744073709551616) :
    Calls Tryd.prog 21 #[.int .i64 8, .int .i64 64, .bool false, .int .u64 a] w fun e w' => e = .returned (.int .u64 ((vl (fx a 8 (false && bt a 7)) 0 64 : Nat) : Int)) ∧ Below w.heap.size w w' := by
  obtain ⟨i0, hi, hz0, hz1, hz2⟩ := info4_parts
  have L : Hid (Calls Tryd.prog 38 #[.int .i64 64, .int .u64 a] w (LPost w.heap.size 64 (bt a) w)) := Lib.hid (List_any 64 a w (by decide) (by decide) ha)
  obtain ⟨b7, e7⟩ : ∃ b, b = bt a 7 := ⟨_, rfl⟩
  rw [← e7]
  have E7 := Lib.hid e7
  have ET : Hid ((false && b7) = false) := Lib.hid (by simp)
  rw [ET.out]
  clear e7 ha
  go_enter Tryd.func21, Tryd.ntmps21
  go_wp2_with (go_at_call 38; with_reducible refine L.out.mono ?_; rintro e w1 hL; unfold LPost at hL; obtain ⟨g1, c1, rfl, n1, m1, b1, k1, h1⟩ := hL; have B1 := Lib.hid b1; have H1 := Lib.hid h1; have q1 : w1.cell? ⟨g1, 7, none⟩ = some (.bool b7) := (b1.at_ (by decide)).trans (by rw [E7.out]); clear b1 h1)
  go_loopw [9] (fun v9 wr => ∃ g m cp : Nat, v9 = .slice (some ⟨g, 0, none⟩) m cp ∧ 8 ≤ m ∧ m ≤ 64 ∧ m ≤ cp ∧ cp ≤ 9223372036854775807 ∧ Hid (Bo wr g m (fx a 8 false)) ∧ Hid (Below w.heap.size w wr)) (fun v9 _ => 64 - lenV v9)
  case atStart => exact ⟨g1, 8, c1, rfl, by decide, by decide, by omega, m1, Lib.hid ⟨B1.out.1, fun i hi => by unfold fx; rw [if_pos hi]; exact B1.out.2 i (by omega)⟩, H1⟩
  case round =>
    obtain ⟨g, m, cp, rfl, hfm, hmt, hmc, hcp, HB, HBl⟩ := hrel
    by_cases hlt : m < 64
    · go_wp2_with (at_builtin; refine wpList_append_own _ rfl (.tmp 27) (.tmp 28) 63 rfl w.heap.size 4 i0 _ 1 1 Tryd.underlying63 hi hz0 hz1 hz2 rfl (by decide) _ 0 [] rfl (own_empty wr w.heap.size HBl.out.size) ⟨g, 0, none⟩ m cp (BL (fx a 8 false) m) rfl (BL_len _ _) (bo_news HB.out _) (BL_one _ _) ?c3 ?c4 ?c5 ?_)
      case c3 => unfold maxLen; omega
      case c4 => omega
      case c5 => have := HBl.out.size; simp; omega
      intro v1 w3 hown1 hg1 _
      have HO1 := Lib.hid hown1
      have HB1 : Hid (Below w.heap.size w w3) := Lib.hid ((HBl.out.alloc HBl.out.size _).grown hg1 (by simp; have := HBl.out.size; omega) (fun j hj => by injection hj with e; rw [← e]; exact HBl.out.size))
      have HS : Hid (BL (fx a 8 false) (m + 1) = BL (fx a 8 false) m ++ [Value.bool false]) := Lib.hid (by rw [BL_succ]; congr 2; unfold fx; rw [if_neg (by omega)])
      clear hown1 hg1
      go_wp2_with (at_builtin; refine wpList_append_own _ rfl (.tmp 29) (.tmp 31) 63 rfl w.heap.size 4 i0 _ 1 1 Tryd.underlying63 hi hz0 hz1 hz2 rfl (by decide) _ m _ rfl (HO1.out.alloc _) ⟨w3.heap.size, 0, none⟩ 1 1 [Value.bool false] rfl rfl (cell_new _ _ _) ?d2 ?d3 ?d4 ?d5 ?_)
      case d2 => intro u hu; simp at hu; subst hu; rfl
      case d3 => unfold maxLen; omega
      case d4 => omega
      case d5 => have := HB1.out.size; simp; omega
      intro v2 w4 hown2 hg2 _
      have HB2 : Hid (Below w.heap.size w w4) := Lib.hid (own_below HB1.out HB1.out.size HO1.out hg2)
      obtain ⟨g2, cp2, rfl, n2, m2, bo2, k2⟩ := bo_of_own (f := fx a 8 false) (by rw [HS.out]; exact hown2) (by omega)
      have m2' : cp2 ≤ 9223372036854775807 := by unfold maxLen at m2; omega
      have BO2 := Lib.hid bo2
      clear hown2 hg2 m2 bo2 HS
      go_wp2
      go_roundw
      case rel => exact ⟨g2, m + 1, cp2, rfl, by omega, by omega, n2, m2', BO2, HB2⟩
      case measure => simp [lenV]; omega
    · obtain rfl : m = 64 := by omega
      go_wp2_with (go_at_call 43; refine (Word_any g cp 64 (fx a 8 false) _ (by decide) hmc hcp HB.out).mono ?_; rintro e w2 ⟨rfl, rfl⟩)
      go_ret
      exact ⟨rfl, HBl.out⟩
set_option maxHeartbeats 2000000 in
set_option maxRecDepth 100000 in
theorem RExt_16_32_true (a : Nat) (w : World) (ha : a < 18446744073709551616) :
    Calls Tryd.prog 21 #[.int .i64 16, .int .i64 32, .bool true, .int .u64 a] w fun e w' => e = .returned (.int .u64 ((vl (fx a 16 (true && bt a 15)) 0 32 : Nat) : Int)) ∧ Below w.heap.size w w' := by
  obtain ⟨i0, hi, hz0, hz1, hz2⟩ := info4_parts
  have L : Hid (Calls Tryd.prog 38 #[.int .i64 64, .int .u64 a] w (LPost w.heap.size 64 (bt a) w)) := Lib.hid (List_any 64 a w (by decide) (by decide) ha)
  obtain ⟨b7, e7⟩ : ∃ b, b = bt a 15 := ⟨_, rfl⟩
  rw [← e7]
  have E7 := Lib.hid e7
  have ET : Hid ((true && b7) = b7) := Lib.hid (by simp)
  rw [ET.out]
  clear e7 ha
  go_enter Tryd.func21, Tryd.ntmps21
  go_wp2_with (go_at_call 38; with_reducible refine L.out.mono ?_; rintro e w1 hL; unfold LPost at hL; obtain ⟨g1, c1, rfl, n1, m1, b1, k1, h1⟩ := hL; have B1 := Lib.hid b1; have H1 := Lib.hid h1; have q1 : w1.cell? ⟨g1, 15, none⟩ = some (.bool b7) := (b1.at_ (by decide)).trans (by rw [E7.out]); clear b1 h1)
  go_loopw [9] (fun v9 wr => ∃ g m cp : Nat, v9 = .slice (some ⟨g, 0, none⟩) m cp ∧ 16 ≤ m ∧ m ≤ 32 ∧ m ≤ cp ∧ cp ≤ 9223372036854775807 ∧ Hid (Bo wr g m (fx a 16 b7)) ∧ Hid (Below w.heap.size w wr)) (fun v9 _ => 32 - lenV v9)
  case atStart => exact ⟨g1, 16, c1, rfl, by decide, by decide, by omega, m1, Lib.hid ⟨B1.out.1, fun i hi => by unfold fx; rw [if_pos hi]; exact B1.out.2 i (by omega)⟩, H1⟩
  case round =>
    obtain ⟨g, m, cp, rfl, hfm, hmt, hmc, hcp, HB, HBl⟩ := hrel
    by_cases hlt : m < 32
    · go_wp2_with (at_builtin; refine wpList_append_own _ rfl (.tmp 27) (.tmp 28) 63 rfl w.heap.size 4 i0 _ 1 1 Tryd.underlying63 hi hz0 hz1 hz2 rfl (by decide) _ 0 [] rfl (own_empty wr w.heap.size HBl.out.size) ⟨g, 0, none⟩ m cp (BL (fx a 16 b7) m) rfl (BL_len _ _) (bo_news HB.out _) (BL_one _ _) ?c3 ?c4 ?c5 ?_)
      case c3 => unfold maxLen; omega
      case c4 => omega
      case c5 => have := HBl.out.size; simp; omega
      intro v1 w3 hown1 hg1 _
      have HO1 := Lib.hid hown1
      have HB1 : Hid (Below w.heap.size w w3) := Lib.hid ((HBl.out.alloc HBl.out.size _).grown hg1 (by simp; have := HBl.out.size; omega) (fun j hj => by injection hj with e; rw [← e]; exact HBl.out.size))
      have HS : Hid (BL (fx a 16 b7) (m + 1) = BL (fx a 16 b7) m ++ [Value.bool b7]) := Lib.hid (by rw [BL_succ]; congr 2; unfold fx; rw [if_neg (by omega)])
      clear hown1 hg1
      go_wp2_with (at_builtin; refine wpList_append_own _ rfl (.tmp 29) (.tmp 31) 63 rfl w.heap.size 4 i0 _ 1 1 Tryd.underlying63 hi hz0 hz1 hz2 rfl (by decide) _ m _ rfl (HO1.out.alloc _) ⟨w3.heap.size, 0, none⟩ 1 1 [Value.bool b7] rfl rfl (cell_new _ _ _) ?d2 ?d3 ?d4 ?d5 ?_)
      case d2 => intro u hu; simp at hu; subst hu; rfl
      case d3 => unfold maxLen; omega
      case d4 => omega
      case d5 => have := HB1.out.size; simp; omega
      intro v2 w4 hown2 hg2 _
      have HB2 : Hid (Below w.heap.size w w4) := Lib.hid (own_below HB1.out HB1.out.size HO1.out hg2)
      obtain ⟨g2, cp2, rfl, n2, m2, bo2, k2⟩ := bo_of_own (f := fx a 16 b7) (by rw [HS.out]; exact hown2) (by omega)
      have m2' : cp2 ≤ 9223372036854775807 := by unfold maxLen at m2; omega
      have BO2 := Lib.hid bo2
      clear hown2 hg2 m2 bo2 HS
      go_wp2
      go_roundw
      case rel => exact ⟨g2, m + 1, cp2, rfl, by omega, by omega, n2, m2', BO2, HB2⟩
      case measure => simp [lenV]; omega
    · obtain rfl : m = 32 := by omega
      go_wp2_with (go_at_call 43; refine (Word_any g cp 32 (fx a 16 b7) _ (by decide) hmc hcp HB.out).mono ?_; rintro e w2 ⟨rfl, rfl⟩)
      go_ret
      exact ⟨rfl, HBl.out⟩
set_option maxHeartbeats 2000000 in
set_option maxRecDepth 100000 in
theorem RExt_16_32_false (a : Nat) (w : World) (ha : a < 18446744073709551616) :
    Calls Tryd.prog 21 #[.int .i64 16, .int .i64 32, .bool false, .int .u64 a] w fun e w' => e = .returned (.int .u64 ((vl (fx a 16 (false && bt a 15)) 0 32 : Nat) : Int)) ∧ Below w.heap.size w w' := by
  obtain ⟨i0, hi, hz0, hz1, hz2⟩ := info4_parts
  have L : Hid (Calls Tryd.prog 38 #[.int .i64 64, .int .u64 a] w (LPost w.heap.size 64 (bt a) w)) := Lib.hid (List_any 64 a w (by decide) (by decide) ha)
  obtain ⟨b7, e7⟩ : ∃ b, b = bt a 15 := ⟨_, rfl⟩
  rw [← e7]
  have E7 := Lib.hid e7
  have ET : Hid ((false && b7) = false) := Lib.hid (by simp)
  rw [ET.out]
  clear e7 ha
  go_enter Tryd.func21, Tryd.ntmps21
  go_wp2_with (go_at_call 38; with_reducible refine L.out.mono ?_; rintro e w1 hL; unfold LPost at hL; obtain ⟨g1, c1, rfl, n1, m1, b1, k1, h1⟩ := hL; have B1 := Lib.hid b1; have H1 := Lib.hid h1; have q1 : w1.cell? ⟨g1, 15, none⟩ = some (.bool b7) := (b1.at_ (by decide)).trans (by rw [E7.out]); clear b1 h1)
  go_loopw [9] (fun v9 wr => ∃ g m cp : Nat, v9 = .slice (some ⟨g, 0, none⟩) m cp ∧ 16 ≤ m ∧ m ≤ 32 ∧ m ≤ cp ∧ cp ≤ 9223372036854775807 ∧ Hid (Bo wr g m (fx a 16 false)) ∧ Hid (Below w.heap.size w wr)) (fun v9 _ => 32 - lenV v9)
  case atStart => exact ⟨g1, 16, c1, rfl, by decide, by decide, by omega, m1, Lib.hid ⟨B1.out.1, fun i hi => by unfold fx; rw [if_pos hi]; exact B1.out.2 i (by omega)⟩, H1⟩
  case round =>
    obtain ⟨g, m, cp, rfl, hfm, hmt, hmc, hcp, HB, HBl⟩ := hrel
    by_cases hlt : m < 32
    · go_wp2_with (at_builtin; refine wpList_append_own _ rfl (.tmp 27) (.tmp 28) 63 rfl w.heap.size 4 i0 _ 1 1 Tryd.underlying63 hi hz0 hz1 hz2 rfl (by decide) _ 0 [] rfl (own_empty wr w.heap.size HBl.out.size) ⟨g, 0, none⟩ m cp (BL (fx a 16 false) m) rfl (BL_len _ _) (bo_news HB.out _) (BL_one _ _) ?c3 ?c4 ?c5 ?_)
      case c3 => unfold maxLen; omega
      case c4 => omega
      case c5 => have := HBl.out.size; simp; omega
      intro v1 w3 hown1 hg1 _
      have HO1 := Lib.hid hown1
      have HB1 : Hid (Below w.heap.size w w3) := Lib.hid ((HBl.out.alloc HBl.out.size _).grown hg1 (by simp; have := HBl.out.size; omega) (fun j hj => by injection hj with e; rw [← e]; exact HBl.out.size))
      have HS : Hid (BL (fx a 16 false) (m + 1) = BL (fx a 16 false) m ++ [Value.bool false]) := Lib.hid (by rw [BL_succ]; congr 2; unfold fx; rw [if_neg (by omega)])
      clear hown1 hg1
      go_wp2_with (at_builtin; refine wpList_append_own _ rfl (.tmp 29) (.tmp 31) 63 rfl w.heap.size 4 i0 _ 1 1 Tryd.underlying63 hi hz0 hz1 hz2 rfl (by decide) _ m _ rfl (HO1.out.alloc _) ⟨w3.heap.size, 0, none⟩ 1 1 [Value.bool false] rfl rfl (cell_new _ _ _) ?d2 ?d3 ?d4 ?d5 ?_)
      case d2 => intro u hu; simp at hu; subst hu; rfl
      case d3 => unfold maxLen; omega
      case d4 => omega
      case d5 => have := HB1.out.size; simp; omega
      intro v2 w4 hown2 hg2 _
      have HB2 : Hid (Below w.heap.size w w4) := Lib.hid (own_below HB1.out HB1.out.size HO1.out hg2)
      obtain ⟨g2, cp2, rfl, n2, m2, bo2, k2⟩ := bo_of_own (f := fx a 16 false) (by rw [HS.out]; exact hown2) (by omega)
      have m2' : cp2 ≤ 9223372036854775807 := by unfold maxLen at m2; omega
      have BO2 := Lib.hid bo2
      clear hown2 hg2 m2 bo2 HS
      go_wp2
      go_roundw
      case rel => exact ⟨g2, m + 1, cp2, rfl, by omega, by omega, n2, m2', BO2, HB2⟩
      case measure => simp [lenV]; omega
    · obtain rfl : m = 32 := by omega
      go_wp2_with (go_at_call 43; refine (Word_any g cp 32 (fx a 16 false) _ (by decide) hmc hcp HB.out).mono ?_; rintro e w2 ⟨rfl, rfl⟩)
      go_ret
      exact ⟨rfl, HBl.out⟩
set_option maxHeartbeats 2000000 in
set_option maxRecDepth 100000 in
theorem RExt_16_64_true (a : Nat) (w : World) (ha : a < 18446744073709551616) :
    Calls Tryd.prog 21 #[.int .i64 16, .int .i64 64, .bool true, .int .u64 a] w fun e w' => e = .returned (.int .u64 ((vl (fx a 16 (true && bt a 15)) 0 64 : Nat) : Int)) ∧ Below w.heap.size w w' := by
  obtain ⟨i0, hi, hz0, hz1, hz2⟩ := info4_parts
  have L : Hid (Calls Tryd.prog 38 #[.int .i64 64, .int .u64 a] w (LPost w.heap.size 64 (bt a) w)) := Lib.hid (List_any 64 a w (by decide) (by decide) ha)
  obtain ⟨b7, e7⟩ : ∃ b, b = bt a 15 := ⟨_, rfl⟩
  rw [← e7]
  have E7 := Lib.hid e7
  have ET : Hid ((true && b7) = b7) := Lib.hid (by simp)
  rw [ET.out]
  clear e7 ha
  go_enter Tryd.func21, Tryd.ntmps21
  go_wp2_with (go_at_call 38; with_reducible refine L.out.mono ?_; rintro e w1 hL; unfold LPost at hL; obtain ⟨g1, c1, rfl, n1, m1, b1, k1, h1⟩ := hL; have B1 := Lib.hid b1; have H1 := Lib.hid h1; have q1 : w1.cell? ⟨g1, 15, none⟩ = some (.bool b7) := (b1.at_ (by decide)).trans (by rw [E7.out]); clear b1 h1)
  go_loopw [9] (fun v9 wr => ∃ g m cp : Nat, v9 = .slice (some ⟨g, 0, none⟩) m cp ∧ 16 ≤ m ∧ m ≤ 64 ∧ m ≤ cp ∧ cp ≤ 9223372036854775807 ∧ Hid (Bo wr g m (fx a 16 b7)) ∧ Hid (Below w.heap.size w wr)) (fun v9 _ => 64 - lenV v9)
  case atStart => exact ⟨g1, 16, c1, rfl, by decide, by decide, by omega, m1, Lib.hid ⟨B1.out.1, fun i hi => by unfold fx; rw [if_pos hi]; exact B1.out.2 i (by omega)⟩, H1⟩
  case round =>
    obtain ⟨g, m, cp, rfl, hfm, hmt, hmc, hcp, HB, HBl⟩ := hrel
    by_cases hlt : m < 64
    · go_wp2_with (at_builtin; refine wpList_append_own _ rfl (.tmp 27) (.tmp 28) 63 rfl w.heap.size 4 i0 _ 1 1 Tryd.underlying63 hi hz0 hz1 hz2 rfl (by decide) _ 0 [] rfl (own_empty wr w.heap.size HBl.out.size) ⟨g, 0, none⟩ m cp (BL (fx a 16 b7) m) rfl (BL_len _ _) (bo_news HB.out _) (BL_one _ _) ?c3 ?c4 ?c5 ?_)
      case c3 => unfold maxLen; omega
      case c4 => omega
      case c5 => have := HBl.out.size; simp; omega
      intro v1 w3 hown1 hg1 _
      have HO1 := Lib.hid hown1
      have HB1 : Hid (Below w.heap.size w w3) := Lib.hid ((HBl.out.alloc HBl.out.size _).grown hg1 (by simp; have := HBl.out.size; omega) (fun j hj => by injection hj with e; rw [← e]; exact HBl.out.size))
      have HS : Hid (BL (fx a 16 b7) (m + 1) = BL (fx a 16 b7) m ++ [Value.bool b7]) := Lib.hid (by rw [BL_succ]; congr 2; unfold fx; rw [if_neg (by omega)])
      clear hown1 hg1
      go_wp2_with (at_builtin; refine wpList_append_own _ rfl (.tmp 29) (.tmp 31) 63 rfl w.heap.size 4 i0 _ 1 1 Tryd.underlying63 hi hz0 hz1 hz2 rfl (by decide) _ m _ rfl (HO1.out.alloc _) ⟨w3.heap.size, 0, none⟩ 1 1 [Value.bool b7] rfl rfl (cell_new _ _ _) ?d2 ?d3 ?d4 ?d5 ?_)
      case d2 => intro u hu; simp at hu; subst hu; rfl
      case d3 => unfold maxLen; omega
      case d4 => omega
      case d5 => have := HB1.out.size; simp; omega
      intro v2 w4 hown2 hg2 _
      have HB2 : Hid (Below w.heap.size w w4) := Lib.hid (own_below HB1.out HB1.out.size HO1.out hg2)
      obtain ⟨g2, cp2, rfl, n2, m2, bo2, k2⟩ := bo_of_own (f := fx a 16 b7) (by rw [HS.out]; exact hown2) (by omega)
      have m2' : cp2 ≤ 9223372036854775807 := by unfold maxLen at m2; omega
      have BO2 := Lib.hid bo2
      clear hown2 hg2 m2 bo2 HS
      go_wp2
      go_roundw
      case rel => exact ⟨g2, m + 1, cp2, rfl, by omega, by omega, n2, m2', BO2, HB2⟩
      case measure => simp [lenV]; omega
    · obtain rfl : m = 64 := by omega
      go_wp2_with (go_at_call 43; refine (Word_any g cp 64 (fx a 16 b7) _ (by decide) hmc hcp HB.out).mono ?_; rintro e w2 ⟨rfl, rfl⟩)
      go_ret
      exact ⟨rfl, HBl.out⟩
set_option maxHeartbeats 2000000 in
set_option maxRecDepth 100000 in
theorem RExt_16_64_false (a : Nat) (w : World) (ha : a < 18446744073709551616) :
    Calls Tryd.prog 21 #[.int .i64 16, .int .i64 64, .bool false, .int .u64 a] w fun e w' => e = .returned (.int .u64 ((vl (fx a 16 (false && bt a 15)) 0 64 : Nat) : Int)) ∧ Below w.heap.size w w' := by
  obtain ⟨i0, hi, hz0, hz1, hz2⟩ := info4_parts
  have L : Hid (Calls Tryd.prog 38 #[.int .i64 64, .int .u64 a] w (LPost w.heap.size 64 (bt a) w)) := Lib.hid (List_any 64 a w (by decide) (by decide) ha)
  obtain ⟨b7, e7⟩ : ∃ b, b = bt a 15 := ⟨_, rfl⟩
  rw [← e7]
  have E7 := Lib.hid e7
  have ET : Hid ((false && b7) = false) := Lib.hid (by simp)
  rw [ET.out]
  clear e7 ha
  go_enter Tryd.func21, Tryd.ntmps21
  go_wp2_with (go_at_call 38; with_reducible refine L.out.mono ?_; rintro e w1 hL; unfold LPost at hL; obtain ⟨g1, c1, rfl, n1, m1, b1, k1, h1⟩ := hL; have B1 := Lib.hid b1; have H1 := Lib.hid h1; have q1 : w1.cell? ⟨g1, 15, none⟩ = some (.bool b7) := (b1.at_ (by decide)).trans (by rw [E7.out]); clear b1 h1)
  go_loopw [9] (fun v9 wr => ∃ g m cp : Nat, v9 = .slice (some ⟨g, 0, none⟩) m cp ∧ 16 ≤ m ∧ m ≤ 64 ∧ m ≤ cp ∧ cp ≤ 9223372036854775807 ∧ Hid (Bo wr g m (fx a 16 false)) ∧ Hid (Below w.heap.size w wr)) (fun v9 _ => 64 - lenV v9)
  case atStart => exact ⟨g1, 16, c1, rfl, by decide, by decide, by omega, m1, Lib.hid ⟨B1.out.1, fun i hi => by unfold fx; rw [if_pos hi]; exact B1.out.2 i (by omega)⟩, H1⟩
  case round =>
    obtain ⟨g, m, cp, rfl, hfm, hmt, hmc, hcp, HB, HBl⟩ := hrel
    by_cases hlt : m < 64
    · go_wp2_with (at_builtin; refine wpList_append_own _ rfl (.tmp 27) (.tmp 28) 63 rfl w.heap.size 4 i0 _ 1 1 Tryd.underlying63 hi hz0 hz1 hz2 rfl (by decide) _ 0 [] rfl (own_empty wr w.heap.size HBl.out.size) ⟨g, 0, none⟩ m cp (BL (fx a 16 false) m) rfl (BL_len _ _) (bo_news HB.out _) (BL_one _ _) ?c3 ?c4 ?c5 ?_)
      case c3 => unfold maxLen; omega
      case c4 => omega
      case c5 => have := HBl.out.size; simp; omega
      intro v1 w3 hown1 hg1 _
      have HO1 := Lib.hid hown1
      have HB1 : Hid (Below w.heap.size w w3) := Lib.hid ((HBl.out.alloc HBl.out.size _).grown hg1 (by simp; have := HBl.out.size; omega) (fun j hj => by injection hj with e; rw [← e]; exact HBl.out.size))
      have HS : Hid (BL (fx a 16 false) (m + 1) = BL (fx a 16 false) m ++ [Value.bool false]) := Lib.hid (by rw [BL_succ]; congr 2; unfold fx; rw [if_neg (by omega)])
      clear hown1 hg1
      go_wp2_with (at_builtin; refine wpList_append_own _ rfl (.tmp 29) (.tmp 31) 63 rfl w.heap.size 4 i0 _ 1 1 Tryd.underlying63 hi hz0 hz1 hz2 rfl (by decide) _ m _ rfl (HO1.out.alloc _) ⟨w3.heap.size, 0, none⟩ 1 1 [Value.bool false] rfl rfl (cell_new _ _ _) ?d2 ?d3 ?d4 ?d5 ?_)
      case d2 => intro u hu; simp at hu; subst hu; rfl
      case d3 => unfold maxLen; omega
      case d4 => omega
      case d5 => have := HB1.out.size; simp; omega
      intro v2 w4 hown2 hg2 _
      have HB2 : Hid (Below w.heap.size w w4) := Lib.hid (own_below HB1.out HB1.out.size HO1.out hg2)
      obtain ⟨g2, cp2, rfl, n2, m2, bo2, k2⟩ := bo_of_own (f := fx a 16 false) (by rw [HS.out]; exact hown2) (by omega)
      have m2' : cp2 ≤ 9223372036854775807 := by unfold maxLen at m2; omega
      have BO2 := Lib.hid bo2
      clear hown2 hg2 m2 bo2 HS
      go_wp2
      go_roundw
      case rel => exact ⟨g2, m + 1, cp2, rfl, by omega, by omega, n2, m2', BO2, HB2⟩
      case measure => simp [lenV]; omega
    · obtain rfl : m = 64 := by omega
      go_wp2_with (go_at_call 43; refine (Word_any g cp 64 (fx a 16 false) _ (by decide) hmc hcp HB.out).mono ?_; rintro e w2 ⟨rfl, rfl⟩)
      go_ret
      exact ⟨rfl, HBl.out⟩
set_option maxHeartbeats 2000000 in
set_option maxRecDepth 100000 in
theorem RExt_32_32_true (a : Nat) (w : World) (ha : a < 18446744073709551616) :
    Calls Tryd.prog 21 #[.int .i64 32, .int .i64 32, .bool true, .int .u64 a] w fun e w' => e = .returned (.int .u64 ((vl (fx a 32 (true && bt a 31)) 0 32 : Nat) : Int)) ∧ Below w.heap.size w w' := by
  obtain ⟨i0, hi, hz0, hz1, hz2⟩ := info4_parts
  have L : Hid (Calls Tryd.prog 38 #[.int .i64 64, .int .u64 a] w (LPost w.heap.size 64 (bt a) w)) := Lib.hid (List_any 64 a w (by decide) (by decide) ha)
  obtain ⟨b7, e7⟩ : ∃ b, b = bt a 31 := ⟨_, rfl⟩
  rw [← e7]
  have E7 := Lib.hid e7
  have ET : Hid ((true && b7) = b7) := Lib.hid (by simp)
  rw [ET.out]
  clear e7 ha
  go_enter Tryd.func21, Tryd.ntmps21
  go_wp2_with (go_at_call 38; with_reducible refine L.out.mono ?_; rintro e w1 hL; unfold LPost at hL; obtain ⟨g1, c1, rfl, n1, m1, b1, k1, h1⟩ := hL; have B1 := Lib.hid b1; have H1 := Lib.hid h1; have q1 : w1.cell? ⟨g1, 31, none⟩ = some (.bool b7) := (b1.at_ (by decide)).trans (by rw [E7.out]); clear b1 h1)
  go_loopw [9] (fun v9 wr => ∃ g m cp : Nat, v9 = .slice (some ⟨g, 0, none⟩) m cp ∧ 32 ≤ m ∧ m ≤ 32 ∧ m ≤ cp ∧ cp ≤ 9223372036854775807 ∧ Hid (Bo wr g m (fx a 32 b7)) ∧ Hid (Below w.heap.size w wr)) (fun v9 _ => 32 - lenV v9)
  case atStart => exact ⟨g1, 32, c1, rfl, by decide, by decide, by omega, m1, Lib.hid ⟨B1.out.1, fun i hi => by unfold fx; rw [if_pos hi]; exact B1.out.2 i (by omega)⟩, H1⟩
  case round =>
    obtain ⟨g, m, cp, rfl, hfm, hmt, hmc, hcp, HB, HBl⟩ := hrel
    by_cases hlt : m < 32
    · omega
    · obtain rfl : m = 32 := by omega
      go_wp2_with (go_at_call 43; refine (Word_any g cp 32 (fx a 32 b7) _ (by decide) hmc hcp HB.out).mono ?_; rintro e w2 ⟨rfl, rfl⟩)
      go_ret
      exact ⟨rfl, HBl.out⟩
set_option maxHeartbeats 2000000 in
set_option maxRecDepth 100000 in
theorem RExt_32_32_false (a : Nat) (w : World) (ha : a < 18446744073709551616) :
    Calls Tryd.prog 21 #[.int .i64 32, .int .i64 32, .bool false, .int .u64 a] w fun e w' => e = .returned (.int .u64 ((vl (fx a 32 (false && bt a 31)) 0 32 : Nat) : Int)) ∧ Below w.heap.size w w' := by
  obtain ⟨i0, hi, hz0, hz1, hz2⟩ := info4_parts
  have L : Hid (Calls Tryd.prog 38 #[.int .i64 64, .int .u64 a] w (LPost w.heap.size 64 (bt a) w)) := Lib.hid (List_any 64 a w (by decide) (by decide) ha)
  obtain ⟨b7, e7⟩ : ∃ b, b = bt a 31 := ⟨_, rfl⟩
  rw [← e7]
  have E7 := Lib.hid e7
  have ET : Hid ((false && b7) = false) := Lib.hid (by simp)
  rw [ET.out]
  clear e7 ha
  go_enter Tryd.func21, Tryd.ntmps21
  go_wp2_with (go_at_call 38; with_reducible refine L.out.mono ?_; rintro e w1 hL; unfold LPost at hL; obtain ⟨g1, c1, rfl, n1, m1, b1, k1, h1⟩ := hL; have B1 := Lib.hid b1; have H1 := Lib.hid h1; have q1 : w1.cell? ⟨g1, 31, none⟩ = some (.bool b7) := (b1.at_ (by decide)).trans (by rw [E7.out]); clear b1 h1)
  go_loopw [9] (fun v9 wr => ∃ g m cp : Nat, v9 = .slice (some ⟨g, 0, none⟩) m cp ∧ 32 ≤ m ∧ m ≤ 32 ∧ m ≤ cp ∧ cp ≤ 9223372036854775807 ∧ Hid (Bo wr g m (fx a 32 false)) ∧ Hid (Below w.heap.size w wr)) (fun v9 _ => 32 - lenV v9)
  case atStart => exact ⟨g1, 32, c1, rfl, by decide, by decide, by omega, m1, Lib.hid ⟨B1.out.1, fun i hi => by unfold fx; rw [if_pos hi]; exact B1.out.2 i (by omega)⟩, H1⟩
  case round =>
    obtain ⟨g, m, cp, rfl, hfm, hmt, hmc, hcp, HB, HBl⟩ := hrel
    by_cases hlt : m < 32
    · omega
    · obtain rfl : m = 32 := by omega
      go_wp2_with (go_at_call 43; refine (Word_any g cp 32 (fx a 32 false) _ (by decide) hmc hcp HB.out).mono ?_; rintro e w2 ⟨rfl, rfl⟩)
      go_ret
      exact ⟨rfl, HBl.out⟩
set_option maxHeartbeats 2000000 in
set_option maxRecDepth 100000 in
theorem RExt_32_64_true (a : Nat) (w : World) (ha : a < 18446744073709551616) :
    Calls Tryd.prog 21 #[.int .i64 32, .int .i64 64, .bool true, .int .u64 a] w fun e w' => e = .returned (.int .u64 ((vl (fx a 32 (true && bt a 31)) 0 64 : Nat) : Int)) ∧ Below w.heap.size w w' := by
  obtain ⟨i0, hi, hz0, hz1, hz2⟩ := info4_parts
  have L : Hid (Calls Tryd.prog 38 #[.int .i64 64, .int .u64 a] w (LPost w.heap.size 64 (bt a) w)) := Lib.hid (List_any 64 a w (by decide) (by decide) ha)
  obtain ⟨b7, e7⟩ : ∃ b, b = bt a 31 := ⟨_, rfl⟩
  rw [← e7]
  have E7 := Lib.hid e7
  have ET : Hid ((true && b7) = b7) := Lib.hid (by simp)
  rw [ET.out]
  clear e7 ha
  go_enter Tryd.func21, Tryd.ntmps21
  go_wp2_with (go_at_call 38; with_reducible refine L.out.mono ?_; rintro e w1 hL; unfold LPost at hL; obtain ⟨g1, c1, rfl, n1, m1, b1, k1, h1⟩ := hL; have B1 := Lib.hid b1; have H1 := Lib.hid h1; have q1 : w1.cell? ⟨g1, 31, none⟩ = some (.bool b7) := (b1.at_ (by decide)).trans (by rw [E7.out]); clear b1 h1)
  go_loopw [9] (fun v9 wr => ∃ g m cp : Nat, v9 = .slice (some ⟨g, 0, none⟩) m cp ∧ 32 ≤ m ∧ m ≤ 64 ∧ m ≤ cp ∧ cp ≤ 9223372036854775807 ∧ Hid (Bo wr g m (fx a 32 b7)) ∧ Hid (Below w.heap.size w wr)) (fun v9 _ => 64 - lenV v9)
  case atStart => exact ⟨g1, 32, c1, rfl, by decide, by decide, by omega, m1, Lib.hid ⟨B1.out.1, fun i hi => by unfold fx; rw [if_pos hi]; exact B1.out.2 i (by omega)⟩, H1⟩
  case round =>
    obtain ⟨g, m, cp, rfl, hfm, hmt, hmc, hcp, HB, HBl⟩ := hrel
    by_cases hlt : m < 64
    · go_wp2_with (at_builtin; refine wpList_append_own _ rfl (.tmp 27) (.tmp 28) 63 rfl w.heap.size 4 i0 _ 1 1 Tryd.underlying63 hi hz0 hz1 hz2 rfl (by decide) _ 0 [] rfl (own_empty wr w.heap.size HBl.out.size) ⟨g, 0, none⟩ m cp (BL (fx a 32 b7) m) rfl (BL_len _ _) (bo_news HB.out _) (BL_one _ _) ?c3 ?c4 ?c5 ?_)
      case c3 => unfold maxLen; omega
      case c4 => omega
      case c5 => have := HBl.out.size; simp; omega
      intro v1 w3 hown1 hg1 _
      have HO1 := Lib.hid hown1
      have HB1 : Hid (Below w.heap.size w w3) := Lib.hid ((HBl.out.alloc HBl.out.size _).grown hg1 (by simp; have := HBl.out.size; omega) (fun j hj => by injection hj with e; rw [← e]; exact HBl.out.size))
      have HS : Hid (BL (fx a 32 b7) (m + 1) = BL (fx a 32 b7) m ++ [Value.bool b7]) := Lib.hid (by rw [BL_succ]; congr 2; unfold fx; rw [if_neg (by omega)])
      clear hown1 hg1
      go_wp2_with (at_builtin; refine wpList_append_own _ rfl (.tmp 29) (.tmp 31) 63 rfl w.heap.size 4 i0 _ 1 1 Tryd.underlying63 hi hz0 hz1 hz2 rfl (by decide) _ m _ rfl (HO1.out.alloc _) ⟨w3.heap.size, 0, none⟩ 1 1 [Value.bool b7] rfl rfl (cell_new _ _ _) ?d2 ?d3 ?d4 ?d5 ?_)
      case d2 => intro u hu; simp at hu; subst hu; rfl
      case d3 => unfold maxLen; omega
      case d4 => omega
      case d5 => have := HB1.out.size; simp; omega
      intro v2 w4 hown2 hg2 _
      have HB2 : Hid (Below w.heap.size w w4) := Lib.hid (own_below HB1.out HB1.out.size HO1.out hg2)
      obtain ⟨g2, cp2, rfl, n2, m2, bo2, k2⟩ := bo_of_own (f := fx a 32 b7) (by rw [HS.out]; exact hown2) (by omega)
      have m2' : cp2 ≤ 9223372036854775807 := by unfold maxLen at m2; omega
      have BO2 := Lib.hid bo2
      clear hown2 hg2 m2 bo2 HS
      go_wp2
      go_roundw
      case rel => exact ⟨g2, m + 1, cp2, rfl, by omega, by omega, n2, m2', BO2, HB2⟩
      case measure => simp [lenV]; omega
    · obtain rfl : m = 64 := by omega
      go_wp2_with (go_at_call 43; refine (Word_any g cp 64 (fx a 32 b7) _ (by decide) hmc hcp HB.out).mono ?_; rintro e w2 ⟨rfl, rfl⟩)
      go_ret
      exact ⟨rfl, HBl.out⟩
set_option maxHeartbeats 2000000 in
set_option maxRecDepth 100000 in
theorem RExt_32_64_false (a : Nat) (w : World) (ha : a < 18446744073709551616) :
    Calls Tryd.prog 21 #[.int .i64 32, .int .i64 64, .bool false, .int .u64 a] w fun e w' => e = .returned (.int .u64 ((vl (fx a 32 (false && bt a 31)) 0 64 : Nat) : Int)) ∧ Below w.heap.size w w' := by
  obtain ⟨i0, hi, hz0, hz1, hz2⟩ := info4_parts
  have L : Hid (Calls Tryd.prog 38 #[.int .i64 64, .int .u64 a] w (LPost w.heap.size 64 (bt a) w)) := Lib.hid (List_any 64 a w (by decide) (by decide) ha)
  obtain ⟨b7, e7⟩ : ∃ b, b = bt a 31 := ⟨_, rfl⟩
  rw [← e7]
  have E7 := Lib.hid e7
  have ET : Hid ((false && b7) = false) := Lib.hid (by simp)
  rw [ET.out]
  clear e7 ha
  go_enter Tryd.func21, Tryd.ntmps21
  go_wp2_with (go_at_call 38; with_reducible refine L.out.mono ?_; rintro e w1 hL; unfold LPost at hL; obtain ⟨g1, c1, rfl, n1, m1, b1, k1, h1⟩ := hL; have B1 := Lib.hid b1; have H1 := Lib.hid h1; have q1 : w1.cell? ⟨g1, 31, none⟩ = some (.bool b7) := (b1.at_ (by decide)).trans (by rw [E7.out]); clear b1 h1)
  go_loopw [9] (fun v9 wr => ∃ g m cp : Nat, v9 = .slice (some ⟨g, 0, none⟩) m cp ∧ 32 ≤ m ∧ m ≤ 64 ∧ m ≤ cp ∧ cp ≤ 9223372036854775807 ∧ Hid (Bo wr g m (fx a 32 false)) ∧ Hid (Below w.heap.size w wr)) (fun v9 _ => 64 - lenV v9)
  case atStart => exact ⟨g1, 32, c1, rfl, by decide, by decide, by omega, m1, Lib.hid ⟨B1.out.1, fun i hi => by unfold fx; rw [if_pos hi]; exact B1.out.2 i (by omega)⟩, H1⟩
  case round =>
    obtain ⟨g, m, cp, rfl, hfm, hmt, hmc, hcp, HB, HBl⟩ := hrel
    by_cases hlt : m < 64
    · go_wp2_with (at_builtin; refine wpList_append_own _ rfl (.tmp 27) (.tmp 28) 63 rfl w.heap.size 4 i0 _ 1 1 Tryd.underlying63 hi hz0 hz1 hz2 rfl (by decide) _ 0 [] rfl (own_empty wr w.heap.size HBl.out.size) ⟨g, 0, none⟩ m cp (BL (fx a 32 false) m) rfl (BL_len _ _) (bo_news HB.out _) (BL_one _ _) ?c3 ?c4 ?c5 ?_)
      case c3 => unfold maxLen; omega
      case c4 => omega
      case c5 => have := HBl.out.size; simp; omega
      intro v1 w3 hown1 hg1 _
      have HO1 := Lib.hid hown1
      have HB1 : Hid (Below w.heap.size w w3) := Lib.hid ((HBl.out.alloc HBl.out.size _).grown hg1 (by simp; have := HBl.out.size; omega) (fun j hj => by injection hj with e; rw [← e]; exact HBl.out.size))
      have HS : Hid (BL (fx a 32 false) (m + 1) = BL (fx a 32 false) m ++ [Value.bool false]) := Lib.hid (by rw [BL_succ]; congr 2; unfold fx; rw [if_neg (by omega)])
      clear hown1 hg1
      go_wp2_with (at_builtin; refine wpList_append_own _ rfl (.tmp 29) (.tmp 31) 63 rfl w.heap.size 4 i0 _ 1 1 Tryd.underlying63 hi hz0 hz1 hz2 rfl (by decide) _ m _ rfl (HO1.out.alloc _) ⟨w3.heap.size, 0, none⟩ 1 1 [Value.bool false] rfl rfl (cell_new _ _ _) ?d2 ?d3 ?d4 ?d5 ?_)
      case d2 => intro u hu; simp at hu; subst hu; rfl
      case d3 => unfold maxLen; omega
      case d4 => omega
      case d5 => have := HB1.out.size; simp; omega
      intro v2 w4 hown2 hg2 _
      have HB2 : Hid (Below w.heap.size w w4) := Lib.hid (own_below HB1.out HB1.out.size HO1.out hg2)
      obtain ⟨g2, cp2, rfl, n2, m2, bo2, k2⟩ := bo_of_own (f := fx a 32 false) (by rw [HS.out]; exact hown2) (by omega)
      have m2' : cp2 ≤ 9223372036854775807 := by unfold maxLen at m2; omega
      have BO2 := Lib.hid bo2
      clear hown2 hg2 m2 bo2 HS
      go_wp2
      go_roundw
      case rel => exact ⟨g2, m + 1, cp2, rfl, by omega, by omega, n2, m2', BO2, HB2⟩
      case measure => simp [lenV]; omega
    · obtain rfl : m = 64 := by omega
      go_wp2_with (go_at_call 43; refine (Word_any g cp 64 (fx a 32 false) _ (by decide) hmc hcp HB.out).mono ?_; rintro e w2 ⟨rfl, rfl⟩)
      go_ret
      exact ⟨rfl, HBl.out⟩
theorem fx_ex_8_32 (s : Bool) (a : Nat) : vl (fx a 8 (s && bt a 7)) 0 32 = exv 8 32 s a := by
  have h := fx_val a 8 24 (s && bt a 7)
  rw [show 8 + 24 = 32 from rfl] at h
  rw [h]
  unfold exv bt
  cases s
  · simp
  · simp only [Bool.true_and, decide_eq_true_eq, true_and]
    simp only [Nat.reducePow, Nat.reduceSub]
    split <;> split <;> omega
theorem fx_ex_8_64 (s : Bool) (a : Nat) : vl (fx a 8 (s && bt a 7)) 0 64 = exv 8 64 s a := by
  have h := fx_val a 8 56 (s && bt a 7)
  rw [show 8 + 56 = 64 from rfl] at h
  rw [h]
  unfold exv bt
  cases s
  · simp
  · simp only [Bool.true_and, decide_eq_true_eq, true_and]
    simp only [Nat.reducePow, Nat.reduceSub]
    split <;> split <;> omega
theorem fx_ex_16_32 (s : Bool) (a : Nat) : vl (fx a 16 (s && bt a 15)) 0 32 = exv 16 32 s a := by
  have h := fx_val a 16 16 (s && bt a 15)
  rw [show 16 + 16 = 32 from rfl] at h
  rw [h]
  unfold exv bt
  cases s
  · simp
  · simp only [Bool.true_and, decide_eq_true_eq, true_and]
    simp only [Nat.reducePow, Nat.reduceSub]
    split <;> split <;> omega
theorem fx_ex_16_64 (s : Bool) (a : Nat) : vl (fx a 16 (s && bt a 15)) 0 64 = exv 16 64 s a := by
  have h := fx_val a 16 48 (s && bt a 15)
  rw [show 16 + 48 = 64 from rfl] at h
  rw [h]
  unfold exv bt
  cases s
  · simp
  · simp only [Bool.true_and, decide_eq_true_eq, true_and]
    simp only [Nat.reducePow, Nat.reduceSub]
    split <;> split <;> omega
theorem fx_ex_32_32 (s : Bool) (a : Nat) : vl (fx a 32 (s && bt a 31)) 0 32 = exv 32 32 s a := by
  have h := fx_val a 32 0 (s && bt a 31)
  rw [show 32 + 0 = 32 from rfl] at h
  rw [h]
  unfold exv bt
  cases s
  · simp
  · simp only [Bool.true_and, decide_eq_true_eq, true_and]
    simp only [Nat.reducePow, Nat.reduceSub]
    split <;> split <;> omega
theorem fx_ex_32_64 (s : Bool) (a : Nat) : vl (fx a 32 (s && bt a 31)) 0 64 = exv 32 64 s a := by
  have h := fx_val a 32 32 (s && bt a 31)
  rw [show 32 + 32 = 64 from rfl] at h
  rw [h]
  unfold exv bt
  cases s
  · simp
  · simp only [Bool.true_and, decide_eq_true_eq, true_and]
    simp only [Nat.reducePow, Nat.reduceSub]
    split <;> split <;> omega
theorem RExtend_any (f t : Int) (s : Bool) (a : Nat) (w : World) (hf : f = 8 ∨ f = 16 ∨ f = 32) (ht : Wd.ok t) (ha : a < 18446744073709551616) :
    Calls Tryd.prog 21 #[.int .i64 f, .int .i64 t, .bool s, .int .u64 a] w fun e w' => e = .returned (.int .u64 ((exv f.toNat t.toNat s a : Nat) : Int)) ∧ Below w.heap.size w w' := by
  rcases hf with rfl | rfl | rfl <;> rcases ht with rfl | rfl <;> cases s
  · exact (fx_ex_8_32 false a) ▸ RExt_8_32_false a w ha
  · exact (fx_ex_8_32 true a) ▸ RExt_8_32_true a w ha
  · exact (fx_ex_8_64 false a) ▸ RExt_8_64_false a w ha
  · exact (fx_ex_8_64 true a) ▸ RExt_8_64_true a w ha
  · exact (fx_ex_16_32 false a) ▸ RExt_16_32_false a w ha
  · exact (fx_ex_16_32 true a) ▸ RExt_16_32_true a w ha
  · exact (fx_ex_16_64 false a) ▸ RExt_16_64_false a w ha
  · exact (fx_ex_16_64 true a) ▸ RExt_16_64_true a w ha
  · exact (fx_ex_32_32 false a) ▸ RExt_32_32_false a w ha
  · exact (fx_ex_32_32 true a) ▸ RExt_32_32_true a w ha
  · exact (fx_ex_32_64 false a) ▸ RExt_32_64_false a w ha
  · exact (fx_ex_32_64 true a) ▸ RExt_32_64_true a w ha
end Go.Proofs.YtmbnaejoiglckaaDoor
