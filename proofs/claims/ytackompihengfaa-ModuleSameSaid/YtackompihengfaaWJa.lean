/-
  slices.Equal of the module's things.
-/
import Derived.Test.YtackompihengfaaWHa
namespace Go.Proofs.Ytackompihengfaa
open Go.RowKit Go.PlainAid
set_option linter.unusedVariables false
set_option linter.unusedSimpArgs false
def allB (n : Nat) (e : Nat → Bool) : Bool := (List.range n).all e
theorem allB_yes {n : Nat} {e : Nat → Bool} (h : ∀ i, i < n → e i = true) : allB n e = true := range_all h
theorem allB_no {n k : Nat} {e : Nat → Bool} (hk : k < n) (h : e k = false) : allB n e = false := range_not hk h
def eqL (n m : Nat) (e : Nat → Bool) : Bool := decide (n = m) && allB n e
theorem eqL_len {n m : Nat} {e : Nat → Bool} (h : n ≠ m) : eqL n m e = false := by unfold eqL; simp [h]
theorem eqL_yes {n m : Nat} {e : Nat → Bool} (h : n = m) (h2 : ∀ i, i < n → e i = true) : eqL n m e = true := by unfold eqL; simp [h, allB_yes (n := m) (h ▸ h2)]
theorem eqL_no {n m k : Nat} {e : Nat → Bool} (hk : k < n) (h : e k = false) : eqL n m e = false := by unfold eqL; rw [allB_no hk h, Bool.and_false]
def eqImport (x y : ImpT) : Bool := decide (x.mo = y.mo) && decide (x.nm = y.nm) && decide (x.sg = y.sg)
set_option maxHeartbeats 4000000 in
set_option maxRecDepth 100000 in
theorem EqualImport_ok (A B : Option Addr) (n m ca cb : Nat) (X Y : Nat → ImpT) (hn : n ≤ 1000) (hm : m ≤ 1000) (w : World) (ha : Row 3 ImpAt w A n ca X) (hb : Row 3 ImpAt w B m cb Y) :
    Calls Try.prog 52 #[.slice A n ca, .slice B m cb] w fun e w' => e = .returned (.bool (eqL n m fun i => eqImport (X i) (Y i))) ∧ Below w.heap.size w w' := by
  have hca : n ≤ ca := ha.1
  have hcm : ca ≤ 9223372036854775807 := ha.2.1
  have hcb : m ≤ cb := hb.1
  have hcmb : cb ≤ 9223372036854775807 := hb.2.1
  have HA := Lib.hid ha.2.2
  have HB := Lib.hid hb.2.2
  clear ha hb
  by_cases hlen : n = m
  · subst hlen
    go_enter Try.func52, Try.ntmps52
    go_wp2
    go_loopw [13] (fun v13 wr => ∃ k : Nat, k ≤ n ∧ v13 = .int .i64 k ∧ Hid (∀ i, i < k → eqImport (X i) (Y i) = true) ∧ ∃ d, Hid (wr = w.drewN d)) (fun v13 _ => n - (intOf v13).toNat)
    case atStart => exact ⟨0, by omega, rfl, Lib.hid (fun i hi => absurd hi (by omega)), 0, Lib.hid rfl⟩
    case round =>
      obtain ⟨k, hk, rfl, HE, d, HD⟩ := hrel
      obtain rfl := HD.out
      clear HD
      by_cases hlt : k < n
      · obtain ⟨b, off, rfl, hbl, hat⟩ := HA.out (by omega)
        obtain ⟨b2, off2, rfl, hbl2, hat2⟩ := HB.out (by omega)
        have hx := hat k hlt
        have hy := hat2 k hlt
        have HK : Hid (∀ x y, x = X k → y = Y k → eqImport x y = true → ∀ i, i < k + 1 → eqImport (X i) (Y i) = true) := Lib.hid (fun x y e1 e2 h => all_more' HE.out (by subst e1 e2; exact h))
        have HN : Hid (∀ x y, x = X k → y = Y k → eqImport x y = false → eqL n n (fun i => eqImport (X i) (Y i)) = false) := Lib.hid (fun x y e1 e2 h => eqL_no hlt (by subst e1 e2; exact h))
        obtain ⟨x, hxe⟩ : ∃ x, x = X k := ⟨_, rfl⟩
        obtain ⟨y, hye⟩ : ∃ y, y = Y k := ⟨_, rfl⟩
        rw [← hxe] at hx
        rw [← hye] at hy
        have HK2 := Lib.hid (HK.out x y hxe hye)
        have HN2 := Lib.hid (HN.out x y hxe hye)
        clear hat hat2 hxe hye HK HN
        obtain ⟨x0, x1, x2⟩ := hx
        obtain ⟨y0, y1, y2⟩ := hy
        obtain ⟨p0, p1, p2⟩ := x
        obtain ⟨q0, q1, q2⟩ := y
        dsimp only at x0 x1 x2 y0 y1 y2
        have z0 : ∀ q, (w.drewN q).cell? ⟨b, off + k * 3, none⟩ = some (.string p0) := fun q => x0
        have u0 : ∀ q, (w.drewN q).cell? ⟨b2, off2 + k * 3, none⟩ = some (.string q0) := fun q => y0
        have z1 : ∀ q, (w.drewN q).cell? ⟨b, off + k * 3 + 1, none⟩ = some (.string p1) := fun q => x1
        have u1 : ∀ q, (w.drewN q).cell? ⟨b2, off2 + k * 3 + 1, none⟩ = some (.string q1) := fun q => y1
        have z2 : ∀ q, (w.drewN q).cell? ⟨b, off + k * 3 + 2, none⟩ = some (.int .i64 p2) := fun q => x2
        have u2 : ∀ q, (w.drewN q).cell? ⟨b2, off2 + k * 3 + 2, none⟩ = some (.int .i64 q2) := fun q => y2
        clear x0 x1 x2 y0 y1 y2
        have hk0 : (0 : Int) ≤ (k : Int) := by omega
        have hk1 : (k : Int) < (n : Int) := by omega
        by_cases h0 : p0 = q0
        case neg =>
          have HN3 := Lib.hid (HN2.out (by unfold eqImport; simp [h0]))
          have hc : (p0.toList == q0.toList) = false := by rw [str_eq]; simp [h0]
          clear HK2 HN2 h0
          go_wp2_with fail
          go_quiet (fail)
          go_wp2
          go_ret
          exact ⟨by rw [HN3.out]; try rfl, below_drewN (below_drewN (Below.refl _ _) _) _⟩
        subst h0
        by_cases h1 : p1 = q1
        case neg =>
          have HN3 := Lib.hid (HN2.out (by unfold eqImport; simp [h1]))
          have hc : (p1.toList == q1.toList) = false := by rw [str_eq]; simp [h1]
          clear HK2 HN2 h1
          go_wp2_with fail
          go_quiet (fail)
          go_wp2
          go_ret
          exact ⟨by rw [HN3.out]; try rfl, below_drewN (below_drewN (Below.refl _ _) _) _⟩
        subst h1
        by_cases h2 : p2 = q2
        case neg =>
          have HN3 := Lib.hid (HN2.out (by unfold eqImport; simp [h2]))
          have hc : (p2 == q2) = false := by simp [h2]
          clear HK2 HN2 h2
          go_wp2_with fail
          go_quiet (fail)
          go_wp2
          go_ret
          exact ⟨by rw [HN3.out]; try rfl, below_drewN (below_drewN (Below.refl _ _) _) _⟩
        subst h2
        have HK3 := Lib.hid (HK2.out (by unfold eqImport; simp))
        clear HK2 HN2
        have hc0 : (p0.toList == p0.toList) = true := by rw [str_eq]; simp
        have hc1 : (p1.toList == p1.toList) = true := by rw [str_eq]; simp
        go_wp2_with fail
        go_quiet (fail)
        go_wp2
        go_roundw
        case rel => exact ⟨k + 1, by omega, by go_num, HK3, _, Lib.hid rfl⟩
        case measure => simp [intOf]; omega
      · obtain rfl : n = k := by omega
        go_wp2
        go_ret
        refine ⟨?_, below_drewN (Below.refl _ _) _⟩
        rw [eqL_yes rfl HE.out]; try rfl
  · rw [eqL_len hlen]
    have hne : (((n : Nat) : Int) != ((m : Nat) : Int)) = true := by simp; omega
    clear hlen
    go_enter Try.func52, Try.ntmps52
    go_wp2
    go_ret
    exact ⟨rfl, Below.refl _ _⟩
def eqLimits (x y : LimT) : Bool := decide (x.mn = y.mn) && decide (x.mx = y.mx) && decide (x.wd = y.wd)
set_option maxHeartbeats 4000000 in
set_option maxRecDepth 100000 in
theorem EqualLimits_ok (A B : Option Addr) (n m ca cb : Nat) (X Y : Nat → LimT) (hn : n ≤ 1000) (hm : m ≤ 1000) (w : World) (ha : Row 3 LimAt w A n ca X) (hb : Row 3 LimAt w B m cb Y) :
    Calls Try.prog 58 #[.slice A n ca, .slice B m cb] w fun e w' => e = .returned (.bool (eqL n m fun i => eqLimits (X i) (Y i))) ∧ Below w.heap.size w w' := by
  have hca : n ≤ ca := ha.1
  have hcm : ca ≤ 9223372036854775807 := ha.2.1
  have hcb : m ≤ cb := hb.1
  have hcmb : cb ≤ 9223372036854775807 := hb.2.1
  have HA := Lib.hid ha.2.2
  have HB := Lib.hid hb.2.2
  clear ha hb
  by_cases hlen : n = m
  · subst hlen
    go_enter Try.func58, Try.ntmps58
    go_wp2
    go_loopw [13] (fun v13 wr => ∃ k : Nat, k ≤ n ∧ v13 = .int .i64 k ∧ Hid (∀ i, i < k → eqLimits (X i) (Y i) = true) ∧ ∃ d, Hid (wr = w.drewN d)) (fun v13 _ => n - (intOf v13).toNat)
    case atStart => exact ⟨0, by omega, rfl, Lib.hid (fun i hi => absurd hi (by omega)), 0, Lib.hid rfl⟩
    case round =>
      obtain ⟨k, hk, rfl, HE, d, HD⟩ := hrel
      obtain rfl := HD.out
      clear HD
      by_cases hlt : k < n
      · obtain ⟨b, off, rfl, hbl, hat⟩ := HA.out (by omega)
        obtain ⟨b2, off2, rfl, hbl2, hat2⟩ := HB.out (by omega)
        have hx := hat k hlt
        have hy := hat2 k hlt
        have HK : Hid (∀ x y, x = X k → y = Y k → eqLimits x y = true → ∀ i, i < k + 1 → eqLimits (X i) (Y i) = true) := Lib.hid (fun x y e1 e2 h => all_more' HE.out (by subst e1 e2; exact h))
        have HN : Hid (∀ x y, x = X k → y = Y k → eqLimits x y = false → eqL n n (fun i => eqLimits (X i) (Y i)) = false) := Lib.hid (fun x y e1 e2 h => eqL_no hlt (by subst e1 e2; exact h))
        obtain ⟨x, hxe⟩ : ∃ x, x = X k := ⟨_, rfl⟩
        obtain ⟨y, hye⟩ : ∃ y, y = Y k := ⟨_, rfl⟩
        rw [← hxe] at hx
        rw [← hye] at hy
        have HK2 := Lib.hid (HK.out x y hxe hye)
        have HN2 := Lib.hid (HN.out x y hxe hye)
        clear hat hat2 hxe hye HK HN
        obtain ⟨x0, x1, x2⟩ := hx
        obtain ⟨y0, y1, y2⟩ := hy
        obtain ⟨p0, p1, p2⟩ := x
        obtain ⟨q0, q1, q2⟩ := y
        dsimp only at x0 x1 x2 y0 y1 y2
        have z0 : ∀ q, (w.drewN q).cell? ⟨b, off + k * 3, none⟩ = some (.int .i64 p0) := fun q => x0
        have u0 : ∀ q, (w.drewN q).cell? ⟨b2, off2 + k * 3, none⟩ = some (.int .i64 q0) := fun q => y0
        have z1 : ∀ q, (w.drewN q).cell? ⟨b, off + k * 3 + 1, none⟩ = some (.int .i64 p1) := fun q => x1
        have u1 : ∀ q, (w.drewN q).cell? ⟨b2, off2 + k * 3 + 1, none⟩ = some (.int .i64 q1) := fun q => y1
        have z2 : ∀ q, (w.drewN q).cell? ⟨b, off + k * 3 + 2, none⟩ = some (.bool p2) := fun q => x2
        have u2 : ∀ q, (w.drewN q).cell? ⟨b2, off2 + k * 3 + 2, none⟩ = some (.bool q2) := fun q => y2
        clear x0 x1 x2 y0 y1 y2
        have hk0 : (0 : Int) ≤ (k : Int) := by omega
        have hk1 : (k : Int) < (n : Int) := by omega
        by_cases h0 : p0 = q0
        case neg =>
          have HN3 := Lib.hid (HN2.out (by unfold eqLimits; simp [h0]))
          have hc : (p0 == q0) = false := by simp [h0]
          clear HK2 HN2 h0
          go_wp2_with fail
          go_quiet (fail)
          go_wp2
          go_ret
          exact ⟨by rw [HN3.out]; try rfl, below_drewN (below_drewN (Below.refl _ _) _) _⟩
        subst h0
        by_cases h1 : p1 = q1
        case neg =>
          have HN3 := Lib.hid (HN2.out (by unfold eqLimits; simp [h1]))
          have hc : (p1 == q1) = false := by simp [h1]
          clear HK2 HN2 h1
          go_wp2_with fail
          go_quiet (fail)
          go_wp2
          go_ret
          exact ⟨by rw [HN3.out]; try rfl, below_drewN (below_drewN (Below.refl _ _) _) _⟩
        subst h1
        by_cases h2 : p2 = q2
        case neg =>
          have HN3 := Lib.hid (HN2.out (by unfold eqLimits; simp [h2]))
          have hc : (p2 == q2) = false := by simp [h2]
          clear HK2 HN2 h2
          go_wp2_with fail
          go_quiet (fail)
          go_wp2
          go_ret
          exact ⟨by rw [HN3.out]; try rfl, below_drewN (below_drewN (Below.refl _ _) _) _⟩
        subst h2
        have HK3 := Lib.hid (HK2.out (by unfold eqLimits; simp))
        clear HK2 HN2
        go_wp2_with fail
        go_quiet (fail)
        go_wp2
        go_roundw
        case rel => exact ⟨k + 1, by omega, by go_num, HK3, _, Lib.hid rfl⟩
        case measure => simp [intOf]; omega
      · obtain rfl : n = k := by omega
        go_wp2
        go_ret
        refine ⟨?_, below_drewN (Below.refl _ _) _⟩
        rw [eqL_yes rfl HE.out]; try rfl
  · rw [eqL_len hlen]
    have hne : (((n : Nat) : Int) != ((m : Nat) : Int)) = true := by simp; omega
    clear hlen
    go_enter Try.func58, Try.ntmps58
    go_wp2
    go_ret
    exact ⟨rfl, Below.refl _ _⟩
def eqGlobal (x y : GlT) : Bool := decide (x.ty = y.ty) && decide (x.mu = y.mu) && decide (x.va = y.va)
set_option maxHeartbeats 4000000 in
set_option maxRecDepth 100000 in
theorem EqualGlobal_ok (A B : Option Addr) (n m ca cb : Nat) (X Y : Nat → GlT) (hn : n ≤ 1000) (hm : m ≤ 1000) (w : World) (ha : Row 3 GlAt w A n ca X) (hb : Row 3 GlAt w B m cb Y) :
    Calls Try.prog 59 #[.slice A n ca, .slice B m cb] w fun e w' => e = .returned (.bool (eqL n m fun i => eqGlobal (X i) (Y i))) ∧ Below w.heap.size w w' := by
  have hca : n ≤ ca := ha.1
  have hcm : ca ≤ 9223372036854775807 := ha.2.1
  have hcb : m ≤ cb := hb.1
  have hcmb : cb ≤ 9223372036854775807 := hb.2.1
  have HA := Lib.hid ha.2.2
  have HB := Lib.hid hb.2.2
  clear ha hb
  by_cases hlen : n = m
  · subst hlen
    go_enter Try.func59, Try.ntmps59
    go_wp2
    go_loopw [13] (fun v13 wr => ∃ k : Nat, k ≤ n ∧ v13 = .int .i64 k ∧ Hid (∀ i, i < k → eqGlobal (X i) (Y i) = true) ∧ ∃ d, Hid (wr = w.drewN d)) (fun v13 _ => n - (intOf v13).toNat)
    case atStart => exact ⟨0, by omega, rfl, Lib.hid (fun i hi => absurd hi (by omega)), 0, Lib.hid rfl⟩
    case round =>
      obtain ⟨k, hk, rfl, HE, d, HD⟩ := hrel
      obtain rfl := HD.out
      clear HD
      by_cases hlt : k < n
      · obtain ⟨b, off, rfl, hbl, hat⟩ := HA.out (by omega)
        obtain ⟨b2, off2, rfl, hbl2, hat2⟩ := HB.out (by omega)
        have hx := hat k hlt
        have hy := hat2 k hlt
        have HK : Hid (∀ x y, x = X k → y = Y k → eqGlobal x y = true → ∀ i, i < k + 1 → eqGlobal (X i) (Y i) = true) := Lib.hid (fun x y e1 e2 h => all_more' HE.out (by subst e1 e2; exact h))
        have HN : Hid (∀ x y, x = X k → y = Y k → eqGlobal x y = false → eqL n n (fun i => eqGlobal (X i) (Y i)) = false) := Lib.hid (fun x y e1 e2 h => eqL_no hlt (by subst e1 e2; exact h))
        obtain ⟨x, hxe⟩ : ∃ x, x = X k := ⟨_, rfl⟩
        obtain ⟨y, hye⟩ : ∃ y, y = Y k := ⟨_, rfl⟩
        rw [← hxe] at hx
        rw [← hye] at hy
        have HK2 := Lib.hid (HK.out x y hxe hye)
        have HN2 := Lib.hid (HN.out x y hxe hye)
        clear hat hat2 hxe hye HK HN
        obtain ⟨x0, x1, x2, _⟩ := hx
        obtain ⟨y0, y1, y2, _⟩ := hy
        obtain ⟨p0, p1, p2⟩ := x
        obtain ⟨q0, q1, q2⟩ := y
        dsimp only at x0 x1 x2 y0 y1 y2
        have z0 : ∀ q, (w.drewN q).cell? ⟨b, off + k * 3, none⟩ = some (.int .u8 ((p0 : Nat) : Int)) := fun q => x0
        have u0 : ∀ q, (w.drewN q).cell? ⟨b2, off2 + k * 3, none⟩ = some (.int .u8 ((q0 : Nat) : Int)) := fun q => y0
        have z1 : ∀ q, (w.drewN q).cell? ⟨b, off + k * 3 + 1, none⟩ = some (.bool p1) := fun q => x1
        have u1 : ∀ q, (w.drewN q).cell? ⟨b2, off2 + k * 3 + 1, none⟩ = some (.bool q1) := fun q => y1
        have z2 : ∀ q, (w.drewN q).cell? ⟨b, off + k * 3 + 2, none⟩ = some (.int .u64 p2) := fun q => x2
        have u2 : ∀ q, (w.drewN q).cell? ⟨b2, off2 + k * 3 + 2, none⟩ = some (.int .u64 q2) := fun q => y2
        clear x0 x1 x2 y0 y1 y2
        have hk0 : (0 : Int) ≤ (k : Int) := by omega
        have hk1 : (k : Int) < (n : Int) := by omega
        by_cases h0 : p0 = q0
        case neg =>
          have HN3 := Lib.hid (HN2.out (by unfold eqGlobal; simp [h0]))
          have hc : (((p0 : Nat) : Int) == ((q0 : Nat) : Int)) = false := by simp; omega
          clear HK2 HN2 h0
          go_wp2_with fail
          go_quiet (fail)
          go_wp2
          go_ret
          exact ⟨by rw [HN3.out]; try rfl, below_drewN (below_drewN (Below.refl _ _) _) _⟩
        subst h0
        by_cases h1 : p1 = q1
        case neg =>
          have HN3 := Lib.hid (HN2.out (by unfold eqGlobal; simp [h1]))
          have hc : (p1 == q1) = false := by simp [h1]
          clear HK2 HN2 h1
          go_wp2_with fail
          go_quiet (fail)
          go_wp2
          go_ret
          exact ⟨by rw [HN3.out]; try rfl, below_drewN (below_drewN (Below.refl _ _) _) _⟩
        subst h1
        by_cases h2 : p2 = q2
        case neg =>
          have HN3 := Lib.hid (HN2.out (by unfold eqGlobal; simp [h2]))
          have hc : (p2 == q2) = false := by simp [h2]
          clear HK2 HN2 h2
          go_wp2_with fail
          go_quiet (fail)
          go_wp2
          go_ret
          exact ⟨by rw [HN3.out]; try rfl, below_drewN (below_drewN (Below.refl _ _) _) _⟩
        subst h2
        have HK3 := Lib.hid (HK2.out (by unfold eqGlobal; simp))
        clear HK2 HN2
        go_wp2_with fail
        go_quiet (fail)
        go_wp2
        go_roundw
        case rel => exact ⟨k + 1, by omega, by go_num, HK3, _, Lib.hid rfl⟩
        case measure => simp [intOf]; omega
      · obtain rfl : n = k := by omega
        go_wp2
        go_ret
        refine ⟨?_, below_drewN (Below.refl _ _) _⟩
        rw [eqL_yes rfl HE.out]; try rfl
  · rw [eqL_len hlen]
    have hne : (((n : Nat) : Int) != ((m : Nat) : Int)) = true := by simp; omega
    clear hlen
    go_enter Try.func59, Try.ntmps59
    go_wp2
    go_ret
    exact ⟨rfl, Below.refl _ _⟩
def eqExport (x y : ExT) : Bool := decide (x.nm = y.nm) && decide (x.kd = y.kd) && decide (x.ix = y.ix)
set_option maxHeartbeats 4000000 in
set_option maxRecDepth 100000 in
theorem EqualExport_ok (A B : Option Addr) (n m ca cb : Nat) (X Y : Nat → ExT) (hn : n ≤ 1000) (hm : m ≤ 1000) (w : World) (ha : Row 3 ExAt w A n ca X) (hb : Row 3 ExAt w B m cb Y) :
    Calls Try.prog 37 #[.slice A n ca, .slice B m cb] w fun e w' => e = .returned (.bool (eqL n m fun i => eqExport (X i) (Y i))) ∧ Below w.heap.size w w' := by
  have hca : n ≤ ca := ha.1
  have hcm : ca ≤ 9223372036854775807 := ha.2.1
  have hcb : m ≤ cb := hb.1
  have hcmb : cb ≤ 9223372036854775807 := hb.2.1
  have HA := Lib.hid ha.2.2
  have HB := Lib.hid hb.2.2
  clear ha hb
  by_cases hlen : n = m
  · subst hlen
    go_enter Try.func37, Try.ntmps37
    go_wp2
    go_loopw [13] (fun v13 wr => ∃ k : Nat, k ≤ n ∧ v13 = .int .i64 k ∧ Hid (∀ i, i < k → eqExport (X i) (Y i) = true) ∧ ∃ d, Hid (wr = w.drewN d)) (fun v13 _ => n - (intOf v13).toNat)
    case atStart => exact ⟨0, by omega, rfl, Lib.hid (fun i hi => absurd hi (by omega)), 0, Lib.hid rfl⟩
    case round =>
      obtain ⟨k, hk, rfl, HE, d, HD⟩ := hrel
      obtain rfl := HD.out
      clear HD
      by_cases hlt : k < n
      · obtain ⟨b, off, rfl, hbl, hat⟩ := HA.out (by omega)
        obtain ⟨b2, off2, rfl, hbl2, hat2⟩ := HB.out (by omega)
        have hx := hat k hlt
        have hy := hat2 k hlt
        have HK : Hid (∀ x y, x = X k → y = Y k → eqExport x y = true → ∀ i, i < k + 1 → eqExport (X i) (Y i) = true) := Lib.hid (fun x y e1 e2 h => all_more' HE.out (by subst e1 e2; exact h))
        have HN : Hid (∀ x y, x = X k → y = Y k → eqExport x y = false → eqL n n (fun i => eqExport (X i) (Y i)) = false) := Lib.hid (fun x y e1 e2 h => eqL_no hlt (by subst e1 e2; exact h))
        obtain ⟨x, hxe⟩ : ∃ x, x = X k := ⟨_, rfl⟩
        obtain ⟨y, hye⟩ : ∃ y, y = Y k := ⟨_, rfl⟩
        rw [← hxe] at hx
        rw [← hye] at hy
        have HK2 := Lib.hid (HK.out x y hxe hye)
        have HN2 := Lib.hid (HN.out x y hxe hye)
        clear hat hat2 hxe hye HK HN
        obtain ⟨x0, x1, x2⟩ := hx
        obtain ⟨y0, y1, y2⟩ := hy
        obtain ⟨p0, p1, p2⟩ := x
        obtain ⟨q0, q1, q2⟩ := y
        dsimp only at x0 x1 x2 y0 y1 y2
        have z0 : ∀ q, (w.drewN q).cell? ⟨b, off + k * 3, none⟩ = some (.string p0) := fun q => x0
        have u0 : ∀ q, (w.drewN q).cell? ⟨b2, off2 + k * 3, none⟩ = some (.string q0) := fun q => y0
        have z1 : ∀ q, (w.drewN q).cell? ⟨b, off + k * 3 + 1, none⟩ = some (.int .i64 p1) := fun q => x1
        have u1 : ∀ q, (w.drewN q).cell? ⟨b2, off2 + k * 3 + 1, none⟩ = some (.int .i64 q1) := fun q => y1
        have z2 : ∀ q, (w.drewN q).cell? ⟨b, off + k * 3 + 2, none⟩ = some (.int .i64 p2) := fun q => x2
        have u2 : ∀ q, (w.drewN q).cell? ⟨b2, off2 + k * 3 + 2, none⟩ = some (.int .i64 q2) := fun q => y2
        clear x0 x1 x2 y0 y1 y2
        have hk0 : (0 : Int) ≤ (k : Int) := by omega
        have hk1 : (k : Int) < (n : Int) := by omega
        by_cases h0 : p0 = q0
        case neg =>
          have HN3 := Lib.hid (HN2.out (by unfold eqExport; simp [h0]))
          have hc : (p0.toList == q0.toList) = false := by rw [str_eq]; simp [h0]
          clear HK2 HN2 h0
          go_wp2_with fail
          go_quiet (fail)
          go_wp2
          go_ret
          exact ⟨by rw [HN3.out]; try rfl, below_drewN (below_drewN (Below.refl _ _) _) _⟩
        subst h0
        by_cases h1 : p1 = q1
        case neg =>
          have HN3 := Lib.hid (HN2.out (by unfold eqExport; simp [h1]))
          have hc : (p1 == q1) = false := by simp [h1]
          clear HK2 HN2 h1
          go_wp2_with fail
          go_quiet (fail)
          go_wp2
          go_ret
          exact ⟨by rw [HN3.out]; try rfl, below_drewN (below_drewN (Below.refl _ _) _) _⟩
        subst h1
        by_cases h2 : p2 = q2
        case neg =>
          have HN3 := Lib.hid (HN2.out (by unfold eqExport; simp [h2]))
          have hc : (p2 == q2) = false := by simp [h2]
          clear HK2 HN2 h2
          go_wp2_with fail
          go_quiet (fail)
          go_wp2
          go_ret
          exact ⟨by rw [HN3.out]; try rfl, below_drewN (below_drewN (Below.refl _ _) _) _⟩
        subst h2
        have HK3 := Lib.hid (HK2.out (by unfold eqExport; simp))
        clear HK2 HN2
        have hc0 : (p0.toList == p0.toList) = true := by rw [str_eq]; simp
        go_wp2_with fail
        go_quiet (fail)
        go_wp2
        go_roundw
        case rel => exact ⟨k + 1, by omega, by go_num, HK3, _, Lib.hid rfl⟩
        case measure => simp [intOf]; omega
      · obtain rfl : n = k := by omega
        go_wp2
        go_ret
        refine ⟨?_, below_drewN (Below.refl _ _) _⟩
        rw [eqL_yes rfl HE.out]; try rfl
  · rw [eqL_len hlen]
    have hne : (((n : Nat) : Int) != ((m : Nat) : Int)) = true := by simp; omega
    clear hlen
    go_enter Try.func37, Try.ntmps37
    go_wp2
    go_ret
    exact ⟨rfl, Below.refl _ _⟩
end Go.Proofs.Ytackompihengfaa
