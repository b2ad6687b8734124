/-
  slices.EqualFunc of the module's things.
-/
import Derived.Test.YtackompihengfaaWJa
namespace Go.Proofs.Ytackompihengfaa
open Go.RowKit Go.PlainAid
set_option linter.unusedVariables false
set_option linter.unusedSimpArgs false
/-- a row of k cells each -/
def Cells (k : Nat) (w : World) (A : Option Addr) (n c : Nat) (v : Nat → Nat → Value) : Prop :=
  n ≤ c ∧ c ≤ maxLen ∧ (0 < n → ∃ b off, A = some ⟨b, off, none⟩ ∧ b < w.heap.size ∧ ∀ i, i < n → ∀ j, j < k → w.cell? ⟨b, off + i * k + j, none⟩ = some (v i j))
set_option maxHeartbeats 4000000 in
set_option maxRecDepth 100000 in
theorem EqFSig_ok (A B : Option Addr) (n m ca cb : Nat) (xa0 : Nat → Option Addr) (xn0 xc0 : Nat → Nat) (xa1 : Nat → Option Addr) (xn1 xc1 : Nat → Nat) (ya0 : Nat → Option Addr) (yn0 yc0 : Nat → Nat) (ya1 : Nat → Option Addr) (yn1 yc1 : Nat → Nat) (e : Nat → Bool) (hn : n ≤ 1000) (hm : m ≤ 1000) (w : World) (ha : Cells 2 w A n ca (fun i j => [.slice (xa0 i) (xn0 i) (xc0 i), .slice (xa1 i) (xn1 i) (xc1 i)].getD j undef)) (hb : Cells 2 w B m cb (fun i j => [.slice (ya0 i) (yn0 i) (yc0 i), .slice (ya1 i) (yn1 i) (yc1 i)].getD j undef))
    (hc : ∀ W, Below w.heap.size w W → ∀ i, i < n → i < m → Calls Try.prog 17 #[.agg #[.slice (xa0 i) (xn0 i) (xc0 i), .slice (xa1 i) (xn1 i) (xc1 i)], .agg #[.slice (ya0 i) (yn0 i) (yc0 i), .slice (ya1 i) (yn1 i) (yc1 i)]] W fun e' w' => e' = .returned (.bool (e i)) ∧ Below W.heap.size W w') :
    Calls Try.prog 51 #[.slice A n ca, .slice B m cb, .func (.func 17) #[] #[]] w fun e' w' => e' = .returned (.bool (eqL n m e)) ∧ Below w.heap.size w w' := by
  have hca : n ≤ ca := ha.1
  have hcm : ca ≤ 9223372036854775807 := ha.2.1
  have hcb : m ≤ cb := hb.1
  have hcmb : cb ≤ 9223372036854775807 := hb.2.1
  have HA := Lib.hid ha.2.2
  have HB := Lib.hid hb.2.2
  have HC := Lib.hid hc
  clear ha hb hc
  by_cases hlen : n = m
  · subst hlen
    go_enter Try.func51, Try.ntmps51
    go_wp2
    go_loopw [17] (fun v17 wr => ∃ k : Nat, k ≤ n ∧ v17 = .int .i64 k ∧ Hid (∀ i, i < k → e i = true) ∧ Hid (Below w.heap.size w wr)) (fun v17 _ => n - (intOf v17).toNat)
    case atStart => exact ⟨0, by omega, rfl, Lib.hid (fun i hi => absurd hi (by omega)), Lib.hid (Below.refl _ _)⟩
    case round =>
      obtain ⟨k, hk, rfl, HE, HW⟩ := hrel
      by_cases hlt : k < n
      · obtain ⟨b, off, rfl, hbl, hat⟩ := HA.out (by omega)
        obtain ⟨b2, off2, rfl, hbl2, hat2⟩ := HB.out (by omega)
        have HCK := Lib.hid (fun W hW => HC.out W hW k hlt hlt)
        have HKY := Lib.hid (fun h : e k = true => all_more' HE.out h)
        have HKN := Lib.hid (fun h : e k = false => eqL_no (n := n) (m := n) hlt h)
        have x0 : wr.cell? ⟨b, off + k * 2, none⟩ = some (.slice (xa0 k) (xn0 k) (xc0 k)) := (HW.out.cell (p := ⟨b, off + k * 2, none⟩) hbl).trans (hat k hlt 0 (by omega))
        have x1 : wr.cell? ⟨b, off + k * 2 + 1, none⟩ = some (.slice (xa1 k) (xn1 k) (xc1 k)) := (HW.out.cell (p := ⟨b, off + k * 2 + 1, none⟩) hbl).trans (hat k hlt 1 (by omega))
        have y0 : (wr.alloc (.cells #[.slice (xa0 k) (xn0 k) (xc0 k), .slice (xa1 k) (xn1 k) (xc1 k)] 42)).cell? ⟨b2, off2 + k * 2, none⟩ = some (.slice (ya0 k) (yn0 k) (yc0 k)) := ((HW.out.alloc HW.out.size _).cell (p := ⟨b2, off2 + k * 2, none⟩) hbl2).trans (hat2 k hlt 0 (by omega))
        have y1 : (wr.alloc (.cells #[.slice (xa0 k) (xn0 k) (xc0 k), .slice (xa1 k) (xn1 k) (xc1 k)] 42)).cell? ⟨b2, off2 + k * 2 + 1, none⟩ = some (.slice (ya1 k) (yn1 k) (yc1 k)) := ((HW.out.alloc HW.out.size _).cell (p := ⟨b2, off2 + k * 2 + 1, none⟩) hbl2).trans (hat2 k hlt 1 (by omega))
        clear hat hat2 HC
        cases hek : e k with
        | false =>
          have HN := Lib.hid (HKN.out hek)
          rw [hek] at HCK
          clear hek HKY HKN
          go_wp2_with fail
          with_reducible refine (HCK.out _ ((HW.out.alloc HW.out.size _).alloc (HW.out.alloc HW.out.size _).size _)).mono ?_
          rintro e' w2 ⟨rfl, hb2⟩
          have HB2 := Lib.hid (((HW.out.alloc HW.out.size (.cells #[.slice (xa0 k) (xn0 k) (xc0 k), .slice (xa1 k) (xn1 k) (xc1 k)] 42)).alloc (HW.out.alloc HW.out.size (.cells #[.slice (xa0 k) (xn0 k) (xc0 k), .slice (xa1 k) (xn1 k) (xc1 k)] 42)).size (.cells #[.slice (ya0 k) (yn0 k) (yc0 k), .slice (ya1 k) (yn1 k) (yc1 k)] 42)).trans (hb2.mono ((HW.out.alloc HW.out.size (.cells #[.slice (xa0 k) (xn0 k) (xc0 k), .slice (xa1 k) (xn1 k) (xc1 k)] 42)).alloc (HW.out.alloc HW.out.size (.cells #[.slice (xa0 k) (xn0 k) (xc0 k), .slice (xa1 k) (xn1 k) (xc1 k)] 42)).size (.cells #[.slice (ya0 k) (yn0 k) (yc0 k), .slice (ya1 k) (yn1 k) (yc1 k)] 42)).size))
          clear hb2
          go_wp2
          go_ret
          exact ⟨by rw [HN.out]; try rfl, HB2.out⟩
        | true =>
          have HY := Lib.hid (HKY.out hek)
          rw [hek] at HCK
          clear hek HKY HKN
          go_wp2_with fail
          with_reducible refine (HCK.out _ ((HW.out.alloc HW.out.size _).alloc (HW.out.alloc HW.out.size _).size _)).mono ?_
          rintro e' w2 ⟨rfl, hb2⟩
          have HB2 := Lib.hid (((HW.out.alloc HW.out.size (.cells #[.slice (xa0 k) (xn0 k) (xc0 k), .slice (xa1 k) (xn1 k) (xc1 k)] 42)).alloc (HW.out.alloc HW.out.size (.cells #[.slice (xa0 k) (xn0 k) (xc0 k), .slice (xa1 k) (xn1 k) (xc1 k)] 42)).size (.cells #[.slice (ya0 k) (yn0 k) (yc0 k), .slice (ya1 k) (yn1 k) (yc1 k)] 42)).trans (hb2.mono ((HW.out.alloc HW.out.size (.cells #[.slice (xa0 k) (xn0 k) (xc0 k), .slice (xa1 k) (xn1 k) (xc1 k)] 42)).alloc (HW.out.alloc HW.out.size (.cells #[.slice (xa0 k) (xn0 k) (xc0 k), .slice (xa1 k) (xn1 k) (xc1 k)] 42)).size (.cells #[.slice (ya0 k) (yn0 k) (yc0 k), .slice (ya1 k) (yn1 k) (yc1 k)] 42)).size))
          clear hb2
          go_wp2
          go_roundw
          case rel => exact ⟨k + 1, by omega, by go_num, HY, HB2⟩
          case measure => simp [intOf]; omega
      · obtain rfl : n = k := by omega
        go_wp2
        go_ret
        refine ⟨?_, HW.out⟩
        rw [eqL_yes rfl HE.out]; try rfl
  · rw [eqL_len hlen]
    have hne : (((n : Nat) : Int) != ((m : Nat) : Int)) = true := by simp; omega
    clear hlen
    go_enter Try.func51, Try.ntmps51
    go_wp2
    go_ret
    exact ⟨rfl, Below.refl _ _⟩
set_option maxHeartbeats 4000000 in
set_option maxRecDepth 100000 in
theorem EqFFunc_ok (A B : Option Addr) (n m ca cb : Nat) (xz0 : Nat → Int) (xa1 : Nat → Option Addr) (xn1 xc1 : Nat → Nat) (xa2 : Nat → Option Addr) (xn2 xc2 : Nat → Nat) (yz0 : Nat → Int) (ya1 : Nat → Option Addr) (yn1 yc1 : Nat → Nat) (ya2 : Nat → Option Addr) (yn2 yc2 : Nat → Nat) (e : Nat → Bool) (hn : n ≤ 1000) (hm : m ≤ 1000) (w : World) (ha : Cells 3 w A n ca (fun i j => [.int .i64 (xz0 i), .slice (xa1 i) (xn1 i) (xc1 i), .slice (xa2 i) (xn2 i) (xc2 i)].getD j undef)) (hb : Cells 3 w B m cb (fun i j => [.int .i64 (yz0 i), .slice (ya1 i) (yn1 i) (yc1 i), .slice (ya2 i) (yn2 i) (yc2 i)].getD j undef))
    (hc : ∀ W, Below w.heap.size w W → ∀ i, i < n → i < m → Calls Try.prog 50 #[.agg #[.int .i64 (xz0 i), .slice (xa1 i) (xn1 i) (xc1 i), .slice (xa2 i) (xn2 i) (xc2 i)], .agg #[.int .i64 (yz0 i), .slice (ya1 i) (yn1 i) (yc1 i), .slice (ya2 i) (yn2 i) (yc2 i)]] W fun e' w' => e' = .returned (.bool (e i)) ∧ Below W.heap.size W w') :
    Calls Try.prog 53 #[.slice A n ca, .slice B m cb, .func (.func 50) #[] #[]] w fun e' w' => e' = .returned (.bool (eqL n m e)) ∧ Below w.heap.size w w' := by
  have hca : n ≤ ca := ha.1
  have hcm : ca ≤ 9223372036854775807 := ha.2.1
  have hcb : m ≤ cb := hb.1
  have hcmb : cb ≤ 9223372036854775807 := hb.2.1
  have HA := Lib.hid ha.2.2
  have HB := Lib.hid hb.2.2
  have HC := Lib.hid hc
  clear ha hb hc
  by_cases hlen : n = m
  · subst hlen
    go_enter Try.func53, Try.ntmps53
    go_wp2
    go_loopw [17] (fun v17 wr => ∃ k : Nat, k ≤ n ∧ v17 = .int .i64 k ∧ Hid (∀ i, i < k → e i = true) ∧ Hid (Below w.heap.size w wr)) (fun v17 _ => n - (intOf v17).toNat)
    case atStart => exact ⟨0, by omega, rfl, Lib.hid (fun i hi => absurd hi (by omega)), Lib.hid (Below.refl _ _)⟩
    case round =>
      obtain ⟨k, hk, rfl, HE, HW⟩ := hrel
      by_cases hlt : k < n
      · obtain ⟨b, off, rfl, hbl, hat⟩ := HA.out (by omega)
        obtain ⟨b2, off2, rfl, hbl2, hat2⟩ := HB.out (by omega)
        have HCK := Lib.hid (fun W hW => HC.out W hW k hlt hlt)
        have HKY := Lib.hid (fun h : e k = true => all_more' HE.out h)
        have HKN := Lib.hid (fun h : e k = false => eqL_no (n := n) (m := n) hlt h)
        have x0 : wr.cell? ⟨b, off + k * 3, none⟩ = some (.int .i64 (xz0 k)) := (HW.out.cell (p := ⟨b, off + k * 3, none⟩) hbl).trans (hat k hlt 0 (by omega))
        have x1 : wr.cell? ⟨b, off + k * 3 + 1, none⟩ = some (.slice (xa1 k) (xn1 k) (xc1 k)) := (HW.out.cell (p := ⟨b, off + k * 3 + 1, none⟩) hbl).trans (hat k hlt 1 (by omega))
        have x2 : wr.cell? ⟨b, off + k * 3 + 2, none⟩ = some (.slice (xa2 k) (xn2 k) (xc2 k)) := (HW.out.cell (p := ⟨b, off + k * 3 + 2, none⟩) hbl).trans (hat k hlt 2 (by omega))
        have y0 : (wr.alloc (.cells #[.int .i64 (xz0 k), .slice (xa1 k) (xn1 k) (xc1 k), .slice (xa2 k) (xn2 k) (xc2 k)] 69)).cell? ⟨b2, off2 + k * 3, none⟩ = some (.int .i64 (yz0 k)) := ((HW.out.alloc HW.out.size _).cell (p := ⟨b2, off2 + k * 3, none⟩) hbl2).trans (hat2 k hlt 0 (by omega))
        have y1 : (wr.alloc (.cells #[.int .i64 (xz0 k), .slice (xa1 k) (xn1 k) (xc1 k), .slice (xa2 k) (xn2 k) (xc2 k)] 69)).cell? ⟨b2, off2 + k * 3 + 1, none⟩ = some (.slice (ya1 k) (yn1 k) (yc1 k)) := ((HW.out.alloc HW.out.size _).cell (p := ⟨b2, off2 + k * 3 + 1, none⟩) hbl2).trans (hat2 k hlt 1 (by omega))
        have y2 : (wr.alloc (.cells #[.int .i64 (xz0 k), .slice (xa1 k) (xn1 k) (xc1 k), .slice (xa2 k) (xn2 k) (xc2 k)] 69)).cell? ⟨b2, off2 + k * 3 + 2, none⟩ = some (.slice (ya2 k) (yn2 k) (yc2 k)) := ((HW.out.alloc HW.out.size _).cell (p := ⟨b2, off2 + k * 3 + 2, none⟩) hbl2).trans (hat2 k hlt 2 (by omega))
        clear hat hat2 HC
        cases hek : e k with
        | false =>
          have HN := Lib.hid (HKN.out hek)
          rw [hek] at HCK
          clear hek HKY HKN
          go_wp2_with fail
          with_reducible refine (HCK.out _ ((HW.out.alloc HW.out.size _).alloc (HW.out.alloc HW.out.size _).size _)).mono ?_
          rintro e' w2 ⟨rfl, hb2⟩
          have HB2 := Lib.hid (((HW.out.alloc HW.out.size (.cells #[.int .i64 (xz0 k), .slice (xa1 k) (xn1 k) (xc1 k), .slice (xa2 k) (xn2 k) (xc2 k)] 69)).alloc (HW.out.alloc HW.out.size (.cells #[.int .i64 (xz0 k), .slice (xa1 k) (xn1 k) (xc1 k), .slice (xa2 k) (xn2 k) (xc2 k)] 69)).size (.cells #[.int .i64 (yz0 k), .slice (ya1 k) (yn1 k) (yc1 k), .slice (ya2 k) (yn2 k) (yc2 k)] 69)).trans (hb2.mono ((HW.out.alloc HW.out.size (.cells #[.int .i64 (xz0 k), .slice (xa1 k) (xn1 k) (xc1 k), .slice (xa2 k) (xn2 k) (xc2 k)] 69)).alloc (HW.out.alloc HW.out.size (.cells #[.int .i64 (xz0 k), .slice (xa1 k) (xn1 k) (xc1 k), .slice (xa2 k) (xn2 k) (xc2 k)] 69)).size (.cells #[.int .i64 (yz0 k), .slice (ya1 k) (yn1 k) (yc1 k), .slice (ya2 k) (yn2 k) (yc2 k)] 69)).size))
          clear hb2
          go_wp2
          go_ret
          exact ⟨by rw [HN.out]; try rfl, HB2.out⟩
        | true =>
          have HY := Lib.hid (HKY.out hek)
          rw [hek] at HCK
          clear hek HKY HKN
          go_wp2_with fail
          with_reducible refine (HCK.out _ ((HW.out.alloc HW.out.size _).alloc (HW.out.alloc HW.out.size _).size _)).mono ?_
          rintro e' w2 ⟨rfl, hb2⟩
          have HB2 := Lib.hid (((HW.out.alloc HW.out.size (.cells #[.int .i64 (xz0 k), .slice (xa1 k) (xn1 k) (xc1 k), .slice (xa2 k) (xn2 k) (xc2 k)] 69)).alloc (HW.out.alloc HW.out.size (.cells #[.int .i64 (xz0 k), .slice (xa1 k) (xn1 k) (xc1 k), .slice (xa2 k) (xn2 k) (xc2 k)] 69)).size (.cells #[.int .i64 (yz0 k), .slice (ya1 k) (yn1 k) (yc1 k), .slice (ya2 k) (yn2 k) (yc2 k)] 69)).trans (hb2.mono ((HW.out.alloc HW.out.size (.cells #[.int .i64 (xz0 k), .slice (xa1 k) (xn1 k) (xc1 k), .slice (xa2 k) (xn2 k) (xc2 k)] 69)).alloc (HW.out.alloc HW.out.size (.cells #[.int .i64 (xz0 k), .slice (xa1 k) (xn1 k) (xc1 k), .slice (xa2 k) (xn2 k) (xc2 k)] 69)).size (.cells #[.int .i64 (yz0 k), .slice (ya1 k) (yn1 k) (yc1 k), .slice (ya2 k) (yn2 k) (yc2 k)] 69)).size))
          clear hb2
          go_wp2
          go_roundw
          case rel => exact ⟨k + 1, by omega, by go_num, HY, HB2⟩
          case measure => simp [intOf]; omega
      · obtain rfl : n = k := by omega
        go_wp2
        go_ret
        refine ⟨?_, HW.out⟩
        rw [eqL_yes rfl HE.out]; try rfl
  · rw [eqL_len hlen]
    have hne : (((n : Nat) : Int) != ((m : Nat) : Int)) = true := by simp; omega
    clear hlen
    go_enter Try.func53, Try.ntmps53
    go_wp2
    go_ret
    exact ⟨rfl, Below.refl _ _⟩
set_option maxHeartbeats 4000000 in
set_option maxRecDepth 100000 in
theorem EqFInstr_ok (A B : Option Addr) (n m ca cb : Nat) (xz0 : Nat → Int) (xz1 : Nat → Int) (xz2 : Nat → Int) (xz3 : Nat → Int) (xa4 : Nat → Option Addr) (xn4 xc4 : Nat → Nat) (yz0 : Nat → Int) (yz1 : Nat → Int) (yz2 : Nat → Int) (yz3 : Nat → Int) (ya4 : Nat → Option Addr) (yn4 yc4 : Nat → Nat) (e : Nat → Bool) (hn : n ≤ 1000) (hm : m ≤ 1000) (w : World) (ha : Cells 5 w A n ca (fun i j => [.int .i64 (xz0 i), .int .u64 (xz1 i), .int .u64 (xz2 i), .int .i64 (xz3 i), .slice (xa4 i) (xn4 i) (xc4 i)].getD j undef)) (hb : Cells 5 w B m cb (fun i j => [.int .i64 (yz0 i), .int .u64 (yz1 i), .int .u64 (yz2 i), .int .i64 (yz3 i), .slice (ya4 i) (yn4 i) (yc4 i)].getD j undef))
    (hc : ∀ W, Below w.heap.size w W → ∀ i, i < n → i < m → Calls Try.prog 34 #[.agg #[.int .i64 (xz0 i), .int .u64 (xz1 i), .int .u64 (xz2 i), .int .i64 (xz3 i), .slice (xa4 i) (xn4 i) (xc4 i)], .agg #[.int .i64 (yz0 i), .int .u64 (yz1 i), .int .u64 (yz2 i), .int .i64 (yz3 i), .slice (ya4 i) (yn4 i) (yc4 i)]] W fun e' w' => e' = .returned (.bool (e i)) ∧ Below W.heap.size W w') :
    Calls Try.prog 33 #[.slice A n ca, .slice B m cb, .func (.func 34) #[] #[]] w fun e' w' => e' = .returned (.bool (eqL n m e)) ∧ Below w.heap.size w w' := by
  have hca : n ≤ ca := ha.1
  have hcm : ca ≤ 9223372036854775807 := ha.2.1
  have hcb : m ≤ cb := hb.1
  have hcmb : cb ≤ 9223372036854775807 := hb.2.1
  have HA := Lib.hid ha.2.2
  have HB := Lib.hid hb.2.2
  have HC := Lib.hid hc
  clear ha hb hc
  by_cases hlen : n = m
  · subst hlen
    go_enter Try.func33, Try.ntmps33
    go_wp2
    go_loopw [17] (fun v17 wr => ∃ k : Nat, k ≤ n ∧ v17 = .int .i64 k ∧ Hid (∀ i, i < k → e i = true) ∧ Hid (Below w.heap.size w wr)) (fun v17 _ => n - (intOf v17).toNat)
    case atStart => exact ⟨0, by omega, rfl, Lib.hid (fun i hi => absurd hi (by omega)), Lib.hid (Below.refl _ _)⟩
    case round =>
      obtain ⟨k, hk, rfl, HE, HW⟩ := hrel
      by_cases hlt : k < n
      · obtain ⟨b, off, rfl, hbl, hat⟩ := HA.out (by omega)
        obtain ⟨b2, off2, rfl, hbl2, hat2⟩ := HB.out (by omega)
        have HCK := Lib.hid (fun W hW => HC.out W hW k hlt hlt)
        have HKY := Lib.hid (fun h : e k = true => all_more' HE.out h)
        have HKN := Lib.hid (fun h : e k = false => eqL_no (n := n) (m := n) hlt h)
        have x0 : wr.cell? ⟨b, off + k * 5, none⟩ = some (.int .i64 (xz0 k)) := (HW.out.cell (p := ⟨b, off + k * 5, none⟩) hbl).trans (hat k hlt 0 (by omega))
        have x1 : wr.cell? ⟨b, off + k * 5 + 1, none⟩ = some (.int .u64 (xz1 k)) := (HW.out.cell (p := ⟨b, off + k * 5 + 1, none⟩) hbl).trans (hat k hlt 1 (by omega))
        have x2 : wr.cell? ⟨b, off + k * 5 + 2, none⟩ = some (.int .u64 (xz2 k)) := (HW.out.cell (p := ⟨b, off + k * 5 + 2, none⟩) hbl).trans (hat k hlt 2 (by omega))
        have x3 : wr.cell? ⟨b, off + k * 5 + 3, none⟩ = some (.int .i64 (xz3 k)) := (HW.out.cell (p := ⟨b, off + k * 5 + 3, none⟩) hbl).trans (hat k hlt 3 (by omega))
        have x4 : wr.cell? ⟨b, off + k * 5 + 4, none⟩ = some (.slice (xa4 k) (xn4 k) (xc4 k)) := (HW.out.cell (p := ⟨b, off + k * 5 + 4, none⟩) hbl).trans (hat k hlt 4 (by omega))
        have y0 : (wr.alloc (.cells #[.int .i64 (xz0 k), .int .u64 (xz1 k), .int .u64 (xz2 k), .int .i64 (xz3 k), .slice (xa4 k) (xn4 k) (xc4 k)] 104)).cell? ⟨b2, off2 + k * 5, none⟩ = some (.int .i64 (yz0 k)) := ((HW.out.alloc HW.out.size _).cell (p := ⟨b2, off2 + k * 5, none⟩) hbl2).trans (hat2 k hlt 0 (by omega))
        have y1 : (wr.alloc (.cells #[.int .i64 (xz0 k), .int .u64 (xz1 k), .int .u64 (xz2 k), .int .i64 (xz3 k), .slice (xa4 k) (xn4 k) (xc4 k)] 104)).cell? ⟨b2, off2 + k * 5 + 1, none⟩ = some (.int .u64 (yz1 k)) := ((HW.out.alloc HW.out.size _).cell (p := ⟨b2, off2 + k * 5 + 1, none⟩) hbl2).trans (hat2 k hlt 1 (by omega))
        have y2 : (wr.alloc (.cells #[.int .i64 (xz0 k), .int .u64 (xz1 k), .int .u64 (xz2 k), .int .i64 (xz3 k), .slice (xa4 k) (xn4 k) (xc4 k)] 104)).cell? ⟨b2, off2 + k * 5 + 2, none⟩ = some (.int .u64 (yz2 k)) := ((HW.out.alloc HW.out.size _).cell (p := ⟨b2, off2 + k * 5 + 2, none⟩) hbl2).trans (hat2 k hlt 2 (by omega))
        have y3 : (wr.alloc (.cells #[.int .i64 (xz0 k), .int .u64 (xz1 k), .int .u64 (xz2 k), .int .i64 (xz3 k), .slice (xa4 k) (xn4 k) (xc4 k)] 104)).cell? ⟨b2, off2 + k * 5 + 3, none⟩ = some (.int .i64 (yz3 k)) := ((HW.out.alloc HW.out.size _).cell (p := ⟨b2, off2 + k * 5 + 3, none⟩) hbl2).trans (hat2 k hlt 3 (by omega))
        have y4 : (wr.alloc (.cells #[.int .i64 (xz0 k), .int .u64 (xz1 k), .int .u64 (xz2 k), .int .i64 (xz3 k), .slice (xa4 k) (xn4 k) (xc4 k)] 104)).cell? ⟨b2, off2 + k * 5 + 4, none⟩ = some (.slice (ya4 k) (yn4 k) (yc4 k)) := ((HW.out.alloc HW.out.size _).cell (p := ⟨b2, off2 + k * 5 + 4, none⟩) hbl2).trans (hat2 k hlt 4 (by omega))
        clear hat hat2 HC
        cases hek : e k with
        | false =>
          have HN := Lib.hid (HKN.out hek)
          rw [hek] at HCK
          clear hek HKY HKN
          go_wp2_with fail
          with_reducible refine (HCK.out _ ((HW.out.alloc HW.out.size _).alloc (HW.out.alloc HW.out.size _).size _)).mono ?_
          rintro e' w2 ⟨rfl, hb2⟩
          have HB2 := Lib.hid (((HW.out.alloc HW.out.size (.cells #[.int .i64 (xz0 k), .int .u64 (xz1 k), .int .u64 (xz2 k), .int .i64 (xz3 k), .slice (xa4 k) (xn4 k) (xc4 k)] 104)).alloc (HW.out.alloc HW.out.size (.cells #[.int .i64 (xz0 k), .int .u64 (xz1 k), .int .u64 (xz2 k), .int .i64 (xz3 k), .slice (xa4 k) (xn4 k) (xc4 k)] 104)).size (.cells #[.int .i64 (yz0 k), .int .u64 (yz1 k), .int .u64 (yz2 k), .int .i64 (yz3 k), .slice (ya4 k) (yn4 k) (yc4 k)] 104)).trans (hb2.mono ((HW.out.alloc HW.out.size (.cells #[.int .i64 (xz0 k), .int .u64 (xz1 k), .int .u64 (xz2 k), .int .i64 (xz3 k), .slice (xa4 k) (xn4 k) (xc4 k)] 104)).alloc (HW.out.alloc HW.out.size (.cells #[.int .i64 (xz0 k), .int .u64 (xz1 k), .int .u64 (xz2 k), .int .i64 (xz3 k), .slice (xa4 k) (xn4 k) (xc4 k)] 104)).size (.cells #[.int .i64 (yz0 k), .int .u64 (yz1 k), .int .u64 (yz2 k), .int .i64 (yz3 k), .slice (ya4 k) (yn4 k) (yc4 k)] 104)).size))
          clear hb2
          go_wp2
          go_ret
          exact ⟨by rw [HN.out]; try rfl, HB2.out⟩
        | true =>
          have HY := Lib.hid (HKY.out hek)
          rw [hek] at HCK
          clear hek HKY HKN
          go_wp2_with fail
          with_reducible refine (HCK.out _ ((HW.out.alloc HW.out.size _).alloc (HW.out.alloc HW.out.size _).size _)).mono ?_
          rintro e' w2 ⟨rfl, hb2⟩
          have HB2 := Lib.hid (((HW.out.alloc HW.out.size (.cells #[.int .i64 (xz0 k), .int .u64 (xz1 k), .int .u64 (xz2 k), .int .i64 (xz3 k), .slice (xa4 k) (xn4 k) (xc4 k)] 104)).alloc (HW.out.alloc HW.out.size (.cells #[.int .i64 (xz0 k), .int .u64 (xz1 k), .int .u64 (xz2 k), .int .i64 (xz3 k), .slice (xa4 k) (xn4 k) (xc4 k)] 104)).size (.cells #[.int .i64 (yz0 k), .int .u64 (yz1 k), .int .u64 (yz2 k), .int .i64 (yz3 k), .slice (ya4 k) (yn4 k) (yc4 k)] 104)).trans (hb2.mono ((HW.out.alloc HW.out.size (.cells #[.int .i64 (xz0 k), .int .u64 (xz1 k), .int .u64 (xz2 k), .int .i64 (xz3 k), .slice (xa4 k) (xn4 k) (xc4 k)] 104)).alloc (HW.out.alloc HW.out.size (.cells #[.int .i64 (xz0 k), .int .u64 (xz1 k), .int .u64 (xz2 k), .int .i64 (xz3 k), .slice (xa4 k) (xn4 k) (xc4 k)] 104)).size (.cells #[.int .i64 (yz0 k), .int .u64 (yz1 k), .int .u64 (yz2 k), .int .i64 (yz3 k), .slice (ya4 k) (yn4 k) (yc4 k)] 104)).size))
          clear hb2
          go_wp2
          go_roundw
          case rel => exact ⟨k + 1, by omega, by go_num, HY, HB2⟩
          case measure => simp [intOf]; omega
      · obtain rfl : n = k := by omega
        go_wp2
        go_ret
        refine ⟨?_, HW.out⟩
        rw [eqL_yes rfl HE.out]; try rfl
  · rw [eqL_len hlen]
    have hne : (((n : Nat) : Int) != ((m : Nat) : Int)) = true := by simp; omega
    clear hlen
    go_enter Try.func33, Try.ntmps33
    go_wp2
    go_ret
    exact ⟨rfl, Below.refl _ _⟩
set_option maxHeartbeats 4000000 in
set_option maxRecDepth 100000 in
theorem EqFElem_ok (A B : Option Addr) (n m ca cb : Nat) (xz0 : Nat → Int) (xa1 : Nat → Option Addr) (xn1 xc1 : Nat → Nat) (yz0 : Nat → Int) (ya1 : Nat → Option Addr) (yn1 yc1 : Nat → Nat) (e : Nat → Bool) (hn : n ≤ 1000) (hm : m ≤ 1000) (w : World) (ha : Cells 2 w A n ca (fun i j => [.int .u64 (xz0 i), .slice (xa1 i) (xn1 i) (xc1 i)].getD j undef)) (hb : Cells 2 w B m cb (fun i j => [.int .u64 (yz0 i), .slice (ya1 i) (yn1 i) (yc1 i)].getD j undef))
    (hc : ∀ W, Below w.heap.size w W → ∀ i, i < n → i < m → Calls Try.prog 54 #[.agg #[.int .u64 (xz0 i), .slice (xa1 i) (xn1 i) (xc1 i)], .agg #[.int .u64 (yz0 i), .slice (ya1 i) (yn1 i) (yc1 i)]] W fun e' w' => e' = .returned (.bool (e i)) ∧ Below W.heap.size W w') :
    Calls Try.prog 60 #[.slice A n ca, .slice B m cb, .func (.func 54) #[] #[]] w fun e' w' => e' = .returned (.bool (eqL n m e)) ∧ Below w.heap.size w w' := by
  have hca : n ≤ ca := ha.1
  have hcm : ca ≤ 9223372036854775807 := ha.2.1
  have hcb : m ≤ cb := hb.1
  have hcmb : cb ≤ 9223372036854775807 := hb.2.1
  have HA := Lib.hid ha.2.2
  have HB := Lib.hid hb.2.2
  have HC := Lib.hid hc
  clear ha hb hc
  by_cases hlen : n = m
  · subst hlen
    go_enter Try.func60, Try.ntmps60
    go_wp2
    go_loopw [17] (fun v17 wr => ∃ k : Nat, k ≤ n ∧ v17 = .int .i64 k ∧ Hid (∀ i, i < k → e i = true) ∧ Hid (Below w.heap.size w wr)) (fun v17 _ => n - (intOf v17).toNat)
    case atStart => exact ⟨0, by omega, rfl, Lib.hid (fun i hi => absurd hi (by omega)), Lib.hid (Below.refl _ _)⟩
    case round =>
      obtain ⟨k, hk, rfl, HE, HW⟩ := hrel
      by_cases hlt : k < n
      · obtain ⟨b, off, rfl, hbl, hat⟩ := HA.out (by omega)
        obtain ⟨b2, off2, rfl, hbl2, hat2⟩ := HB.out (by omega)
        have HCK := Lib.hid (fun W hW => HC.out W hW k hlt hlt)
        have HKY := Lib.hid (fun h : e k = true => all_more' HE.out h)
        have HKN := Lib.hid (fun h : e k = false => eqL_no (n := n) (m := n) hlt h)
        have x0 : wr.cell? ⟨b, off + k * 2, none⟩ = some (.int .u64 (xz0 k)) := (HW.out.cell (p := ⟨b, off + k * 2, none⟩) hbl).trans (hat k hlt 0 (by omega))
        have x1 : wr.cell? ⟨b, off + k * 2 + 1, none⟩ = some (.slice (xa1 k) (xn1 k) (xc1 k)) := (HW.out.cell (p := ⟨b, off + k * 2 + 1, none⟩) hbl).trans (hat k hlt 1 (by omega))
        have y0 : (wr.alloc (.cells #[.int .u64 (xz0 k), .slice (xa1 k) (xn1 k) (xc1 k)] 82)).cell? ⟨b2, off2 + k * 2, none⟩ = some (.int .u64 (yz0 k)) := ((HW.out.alloc HW.out.size _).cell (p := ⟨b2, off2 + k * 2, none⟩) hbl2).trans (hat2 k hlt 0 (by omega))
        have y1 : (wr.alloc (.cells #[.int .u64 (xz0 k), .slice (xa1 k) (xn1 k) (xc1 k)] 82)).cell? ⟨b2, off2 + k * 2 + 1, none⟩ = some (.slice (ya1 k) (yn1 k) (yc1 k)) := ((HW.out.alloc HW.out.size _).cell (p := ⟨b2, off2 + k * 2 + 1, none⟩) hbl2).trans (hat2 k hlt 1 (by omega))
        clear hat hat2 HC
        cases hek : e k with
        | false =>
          have HN := Lib.hid (HKN.out hek)
          rw [hek] at HCK
          clear hek HKY HKN
          go_wp2_with fail
          with_reducible refine (HCK.out _ ((HW.out.alloc HW.out.size _).alloc (HW.out.alloc HW.out.size _).size _)).mono ?_
          rintro e' w2 ⟨rfl, hb2⟩
          have HB2 := Lib.hid (((HW.out.alloc HW.out.size (.cells #[.int .u64 (xz0 k), .slice (xa1 k) (xn1 k) (xc1 k)] 82)).alloc (HW.out.alloc HW.out.size (.cells #[.int .u64 (xz0 k), .slice (xa1 k) (xn1 k) (xc1 k)] 82)).size (.cells #[.int .u64 (yz0 k), .slice (ya1 k) (yn1 k) (yc1 k)] 82)).trans (hb2.mono ((HW.out.alloc HW.out.size (.cells #[.int .u64 (xz0 k), .slice (xa1 k) (xn1 k) (xc1 k)] 82)).alloc (HW.out.alloc HW.out.size (.cells #[.int .u64 (xz0 k), .slice (xa1 k) (xn1 k) (xc1 k)] 82)).size (.cells #[.int .u64 (yz0 k), .slice (ya1 k) (yn1 k) (yc1 k)] 82)).size))
          clear hb2
          go_wp2
          go_ret
          exact ⟨by rw [HN.out]; try rfl, HB2.out⟩
        | true =>
          have HY := Lib.hid (HKY.out hek)
          rw [hek] at HCK
          clear hek HKY HKN
          go_wp2_with fail
          with_reducible refine (HCK.out _ ((HW.out.alloc HW.out.size _).alloc (HW.out.alloc HW.out.size _).size _)).mono ?_
          rintro e' w2 ⟨rfl, hb2⟩
          have HB2 := Lib.hid (((HW.out.alloc HW.out.size (.cells #[.int .u64 (xz0 k), .slice (xa1 k) (xn1 k) (xc1 k)] 82)).alloc (HW.out.alloc HW.out.size (.cells #[.int .u64 (xz0 k), .slice (xa1 k) (xn1 k) (xc1 k)] 82)).size (.cells #[.int .u64 (yz0 k), .slice (ya1 k) (yn1 k) (yc1 k)] 82)).trans (hb2.mono ((HW.out.alloc HW.out.size (.cells #[.int .u64 (xz0 k), .slice (xa1 k) (xn1 k) (xc1 k)] 82)).alloc (HW.out.alloc HW.out.size (.cells #[.int .u64 (xz0 k), .slice (xa1 k) (xn1 k) (xc1 k)] 82)).size (.cells #[.int .u64 (yz0 k), .slice (ya1 k) (yn1 k) (yc1 k)] 82)).size))
          clear hb2
          go_wp2
          go_roundw
          case rel => exact ⟨k + 1, by omega, by go_num, HY, HB2⟩
          case measure => simp [intOf]; omega
      · obtain rfl : n = k := by omega
        go_wp2
        go_ret
        refine ⟨?_, HW.out⟩
        rw [eqL_yes rfl HE.out]; try rfl
  · rw [eqL_len hlen]
    have hne : (((n : Nat) : Int) != ((m : Nat) : Int)) = true := by simp; omega
    clear hlen
    go_enter Try.func60, Try.ntmps60
    go_wp2
    go_ret
    exact ⟨rfl, Below.refl _ _⟩
set_option maxHeartbeats 4000000 in
set_option maxRecDepth 100000 in
theorem EqFData_ok (A B : Option Addr) (n m ca cb : Nat) (xz0 : Nat → Int) (xz1 : Nat → Int) (xa2 : Nat → Option Addr) (xn2 xc2 : Nat → Nat) (yz0 : Nat → Int) (yz1 : Nat → Int) (ya2 : Nat → Option Addr) (yn2 yc2 : Nat → Nat) (e : Nat → Bool) (hn : n ≤ 1000) (hm : m ≤ 1000) (w : World) (ha : Cells 3 w A n ca (fun i j => [.int .i64 (xz0 i), .int .u64 (xz1 i), .slice (xa2 i) (xn2 i) (xc2 i)].getD j undef)) (hb : Cells 3 w B m cb (fun i j => [.int .i64 (yz0 i), .int .u64 (yz1 i), .slice (ya2 i) (yn2 i) (yc2 i)].getD j undef))
    (hc : ∀ W, Below w.heap.size w W → ∀ i, i < n → i < m → Calls Try.prog 56 #[.agg #[.int .i64 (xz0 i), .int .u64 (xz1 i), .slice (xa2 i) (xn2 i) (xc2 i)], .agg #[.int .i64 (yz0 i), .int .u64 (yz1 i), .slice (ya2 i) (yn2 i) (yc2 i)]] W fun e' w' => e' = .returned (.bool (e i)) ∧ Below W.heap.size W w') :
    Calls Try.prog 61 #[.slice A n ca, .slice B m cb, .func (.func 56) #[] #[]] w fun e' w' => e' = .returned (.bool (eqL n m e)) ∧ Below w.heap.size w w' := by
  have hca : n ≤ ca := ha.1
  have hcm : ca ≤ 9223372036854775807 := ha.2.1
  have hcb : m ≤ cb := hb.1
  have hcmb : cb ≤ 9223372036854775807 := hb.2.1
  have HA := Lib.hid ha.2.2
  have HB := Lib.hid hb.2.2
  have HC := Lib.hid hc
  clear ha hb hc
  by_cases hlen : n = m
  · subst hlen
    go_enter Try.func61, Try.ntmps61
    go_wp2
    go_loopw [17] (fun v17 wr => ∃ k : Nat, k ≤ n ∧ v17 = .int .i64 k ∧ Hid (∀ i, i < k → e i = true) ∧ Hid (Below w.heap.size w wr)) (fun v17 _ => n - (intOf v17).toNat)
    case atStart => exact ⟨0, by omega, rfl, Lib.hid (fun i hi => absurd hi (by omega)), Lib.hid (Below.refl _ _)⟩
    case round =>
      obtain ⟨k, hk, rfl, HE, HW⟩ := hrel
      by_cases hlt : k < n
      · obtain ⟨b, off, rfl, hbl, hat⟩ := HA.out (by omega)
        obtain ⟨b2, off2, rfl, hbl2, hat2⟩ := HB.out (by omega)
        have HCK := Lib.hid (fun W hW => HC.out W hW k hlt hlt)
        have HKY := Lib.hid (fun h : e k = true => all_more' HE.out h)
        have HKN := Lib.hid (fun h : e k = false => eqL_no (n := n) (m := n) hlt h)
        have x0 : wr.cell? ⟨b, off + k * 3, none⟩ = some (.int .i64 (xz0 k)) := (HW.out.cell (p := ⟨b, off + k * 3, none⟩) hbl).trans (hat k hlt 0 (by omega))
        have x1 : wr.cell? ⟨b, off + k * 3 + 1, none⟩ = some (.int .u64 (xz1 k)) := (HW.out.cell (p := ⟨b, off + k * 3 + 1, none⟩) hbl).trans (hat k hlt 1 (by omega))
        have x2 : wr.cell? ⟨b, off + k * 3 + 2, none⟩ = some (.slice (xa2 k) (xn2 k) (xc2 k)) := (HW.out.cell (p := ⟨b, off + k * 3 + 2, none⟩) hbl).trans (hat k hlt 2 (by omega))
        have y0 : (wr.alloc (.cells #[.int .i64 (xz0 k), .int .u64 (xz1 k), .slice (xa2 k) (xn2 k) (xc2 k)] 84)).cell? ⟨b2, off2 + k * 3, none⟩ = some (.int .i64 (yz0 k)) := ((HW.out.alloc HW.out.size _).cell (p := ⟨b2, off2 + k * 3, none⟩) hbl2).trans (hat2 k hlt 0 (by omega))
        have y1 : (wr.alloc (.cells #[.int .i64 (xz0 k), .int .u64 (xz1 k), .slice (xa2 k) (xn2 k) (xc2 k)] 84)).cell? ⟨b2, off2 + k * 3 + 1, none⟩ = some (.int .u64 (yz1 k)) := ((HW.out.alloc HW.out.size _).cell (p := ⟨b2, off2 + k * 3 + 1, none⟩) hbl2).trans (hat2 k hlt 1 (by omega))
        have y2 : (wr.alloc (.cells #[.int .i64 (xz0 k), .int .u64 (xz1 k), .slice (xa2 k) (xn2 k) (xc2 k)] 84)).cell? ⟨b2, off2 + k * 3 + 2, none⟩ = some (.slice (ya2 k) (yn2 k) (yc2 k)) := ((HW.out.alloc HW.out.size _).cell (p := ⟨b2, off2 + k * 3 + 2, none⟩) hbl2).trans (hat2 k hlt 2 (by omega))
        clear hat hat2 HC
        cases hek : e k with
        | false =>
          have HN := Lib.hid (HKN.out hek)
          rw [hek] at HCK
          clear hek HKY HKN
          go_wp2_with fail
          with_reducible refine (HCK.out _ ((HW.out.alloc HW.out.size _).alloc (HW.out.alloc HW.out.size _).size _)).mono ?_
          rintro e' w2 ⟨rfl, hb2⟩
          have HB2 := Lib.hid (((HW.out.alloc HW.out.size (.cells #[.int .i64 (xz0 k), .int .u64 (xz1 k), .slice (xa2 k) (xn2 k) (xc2 k)] 84)).alloc (HW.out.alloc HW.out.size (.cells #[.int .i64 (xz0 k), .int .u64 (xz1 k), .slice (xa2 k) (xn2 k) (xc2 k)] 84)).size (.cells #[.int .i64 (yz0 k), .int .u64 (yz1 k), .slice (ya2 k) (yn2 k) (yc2 k)] 84)).trans (hb2.mono ((HW.out.alloc HW.out.size (.cells #[.int .i64 (xz0 k), .int .u64 (xz1 k), .slice (xa2 k) (xn2 k) (xc2 k)] 84)).alloc (HW.out.alloc HW.out.size (.cells #[.int .i64 (xz0 k), .int .u64 (xz1 k), .slice (xa2 k) (xn2 k) (xc2 k)] 84)).size (.cells #[.int .i64 (yz0 k), .int .u64 (yz1 k), .slice (ya2 k) (yn2 k) (yc2 k)] 84)).size))
          clear hb2
          go_wp2
          go_ret
          exact ⟨by rw [HN.out]; try rfl, HB2.out⟩
        | true =>
          have HY := Lib.hid (HKY.out hek)
          rw [hek] at HCK
          clear hek HKY HKN
          go_wp2_with fail
          with_reducible refine (HCK.out _ ((HW.out.alloc HW.out.size _).alloc (HW.out.alloc HW.out.size _).size _)).mono ?_
          rintro e' w2 ⟨rfl, hb2⟩
          have HB2 := Lib.hid (((HW.out.alloc HW.out.size (.cells #[.int .i64 (xz0 k), .int .u64 (xz1 k), .slice (xa2 k) (xn2 k) (xc2 k)] 84)).alloc (HW.out.alloc HW.out.size (.cells #[.int .i64 (xz0 k), .int .u64 (xz1 k), .slice (xa2 k) (xn2 k) (xc2 k)] 84)).size (.cells #[.int .i64 (yz0 k), .int .u64 (yz1 k), .slice (ya2 k) (yn2 k) (yc2 k)] 84)).trans (hb2.mono ((HW.out.alloc HW.out.size (.cells #[.int .i64 (xz0 k), .int .u64 (xz1 k), .slice (xa2 k) (xn2 k) (xc2 k)] 84)).alloc (HW.out.alloc HW.out.size (.cells #[.int .i64 (xz0 k), .int .u64 (xz1 k), .slice (xa2 k) (xn2 k) (xc2 k)] 84)).size (.cells #[.int .i64 (yz0 k), .int .u64 (yz1 k), .slice (ya2 k) (yn2 k) (yc2 k)] 84)).size))
          clear hb2
          go_wp2
          go_roundw
          case rel => exact ⟨k + 1, by omega, by go_num, HY, HB2⟩
          case measure => simp [intOf]; omega
      · obtain rfl : n = k := by omega
        go_wp2
        go_ret
        refine ⟨?_, HW.out⟩
        rw [eqL_yes rfl HE.out]; try rfl
  · rw [eqL_len hlen]
    have hne : (((n : Nat) : Int) != ((m : Nat) : Int)) = true := by simp; omega
    clear hlen
    go_enter Try.func61, Try.ntmps61
    go_wp2
    go_ret
    exact ⟨rfl, Below.refl _ _⟩
end Go.Proofs.Ytackompihengfaa
