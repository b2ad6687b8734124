/-
  each, at one type (62).
-/
import Derived.Test.YtackompihengfaaX1
namespace Go.Proofs.Ytackompihengfaa
open Go.RowKit Go.PlainAid
set_option linter.unusedVariables false
set_option linter.unusedSimpArgs false
set_option maxHeartbeats 4000000 in
set_option maxRecDepth 100000 in
theorem each62_ok (A : Option Addr) (n c : Nat) (A0 : Nat → Option Addr) (n0 c0 : Nat → Nat) (A1 : Nat → Option Addr) (n1 c1 : Nat → Nat) (E : Nat → Int) (m : Int) (w : World) (J : Nat → World → Prop) (J2 : World → Prop)
    (hn : n ≤ 1000) (hcap : n ≤ c) (hcm : c ≤ maxLen) (h0 : J 0 w) (hal : ∀ i W o, J i W → J i (W.alloc o)) (hJ2 : ∀ i W, J i W → J2 W)
    (hX : 0 < n → ∃ b off, A = some ⟨b, off, none⟩ ∧ ∀ i W, i < n → J i W → W.cell? ⟨b, off + i * 2, none⟩ = some (.slice (A0 i) (n0 i) (c0 i)) ∧ W.cell? ⟨b, off + i * 2 + 1, none⟩ = some (.slice (A1 i) (n1 i) (c1 i)))
    (hF : ∀ i W, i < n → J i W → Calls Try.prog 63 #[.agg #[.slice (A0 i) (n0 i) (c0 i), .slice (A1 i) (n1 i) (c1 i)]] W fun e w' => e = .returned (.int .i64 (E i)) ∧ J2 w' ∧ (E i = 0 → J (i + 1) w')) :
    Calls Try.prog 62 #[.slice A n c, .int .i64 m, .func (.func 63) #[] #[]] w fun e w' => e = .returned (.int .i64 (if m < (n : Int) then 15 else firstE E n 0)) ∧ J2 w' := by
  unfold maxLen at hcm
  have HX := Lib.hid hX
  have HF := Lib.hid hF
  have HAL := Lib.hid hal
  have H2 := Lib.hid hJ2
  have H0 := Lib.hid h0
  by_cases hmn : m < (n : Int)
  case pos =>
    rw [if_pos hmn]
    clear hX hF hal hJ2 h0
    go_enter Try.func62, Try.ntmps62
    go_wp2
    go_ret
    exact ⟨rfl, H2.out _ _ H0.out⟩
  rw [if_neg hmn]
  obtain ⟨tot, htot⟩ : ∃ tot, tot = firstE E n 0 := ⟨_, rfl⟩
  rw [← htot]
  have HT := Lib.hid htot
  clear hX hF hal hJ2 h0 htot
  go_enter Try.func62, Try.ntmps62
  go_wp2
  go_loopw [16] (fun v16 wr => ∃ k : Nat, k ≤ n ∧ v16 = .int .i64 k ∧ Hid (tot = firstE E (n - k) k) ∧ Hid (J k wr)) (fun v16 _ => n - (intOf v16).toNat)
  case atStart => exact ⟨0, Nat.zero_le _, rfl, HT, H0⟩
  case round =>
    clear HT H0
    obtain ⟨k, hk, rfl, HT, HB⟩ := hrel
    by_cases hlt : k < n
    · obtain ⟨b, off, rfl, hat⟩ := HX.out (by omega)
      obtain ⟨x0, x1⟩ := hat k wr hlt HB.out
      have HC := Lib.hid (HF.out k (wr.alloc (.cells #[.slice (A0 k) (n0 k) (c0 k), .slice (A1 k) (n1 k) (c1 k)] 42)) hlt (HAL.out _ _ _ HB.out))
      have HS : Hid (tot = if E k = 0 then firstE E (n - (k + 1)) (k + 1) else E k) := Lib.hid (by
        rw [HT.out, show n - k = (n - (k + 1)) + 1 from by omega]; rfl)
      clear hat HF HX
      generalize A0 k = A0k at *
      generalize n0 k = n0k at *
      generalize c0 k = c0k at *
      generalize A1 k = A1k at *
      generalize n1 k = n1k at *
      generalize c1 k = c1k at *
      by_cases he : E k = 0
      · have HR : Hid (tot = firstE E (n - (k + 1)) (k + 1)) := Lib.hid (by rw [HS.out, if_pos he])
        rw [he] at HC
        clear he HS HT
        go_wp2_with (go_at_call 63; (with_reducible refine HC.out.mono ?_); rintro e w1 ⟨rfl, h2, h3⟩
                     have HB1 := Lib.hid (h3 rfl)
                     clear h2 h3)
        go_roundw
        case rel => exact ⟨k + 1, by omega, by go_num, HR, HB1⟩
        case measure => simp [intOf]; omega
      · have HR : Hid (tot = E k) := Lib.hid (by rw [HS.out, if_neg he])
        have hne : (E k != 0) = true := by simpa using he
        clear he HS HT
        generalize E k = ek at *
        go_wp2_with (go_at_call 63; (with_reducible refine HC.out.mono ?_); rintro e w1 ⟨rfl, h2, h3⟩
                     have HB1 := Lib.hid h2
                     clear h2 h3)
        go_ret
        exact ⟨by rw [HR.out]; rfl, HB1.out⟩
    · obtain rfl : k = n := by omega
      have HR : Hid (tot = 0) := Lib.hid (by rw [HT.out, Nat.sub_self]; rfl)
      go_wp2
      go_ret
      exact ⟨by rw [HR.out]; rfl, H2.out _ _ HB.out⟩
end Go.Proofs.Ytackompihengfaa
/-
  each, at one type (66).
-/
namespace Go.Proofs.Ytackompihengfaa
open Go.RowKit Go.PlainAid
set_option linter.unusedVariables false
set_option linter.unusedSimpArgs false
set_option maxHeartbeats 4000000 in
set_option maxRecDepth 100000 in
theorem each66_ok (A : Option Addr) (n c : Nat) (s0 : Nat → ByteArray) (s1 : Nat → ByteArray) (i2 : Nat → Int) (E : Nat → Int) (m : Int) (p0 : Nat) (w : World) (J : Nat → World → Prop) (J2 : World → Prop)
    (hn : n ≤ 1000) (hcap : n ≤ c) (hcm : c ≤ maxLen) (h0 : J 0 w) (hal : ∀ i W o, J i W → J i (W.alloc o)) (hJ2 : ∀ i W, J i W → J2 W)
    (hX : 0 < n → ∃ b off, A = some ⟨b, off, none⟩ ∧ ∀ i W, i < n → J i W → W.cell? ⟨b, off + i * 3, none⟩ = some (.string (s0 i)) ∧ W.cell? ⟨b, off + i * 3 + 1, none⟩ = some (.string (s1 i)) ∧ W.cell? ⟨b, off + i * 3 + 2, none⟩ = some (.int .i64 (i2 i)))
    (hF : ∀ i W, i < n → J i W → Calls Try.prog 67 #[.agg #[.string (s0 i), .string (s1 i), .int .i64 (i2 i)], .pointer (some ⟨p0, 0, none⟩)] W fun e w' => e = .returned (.int .i64 (E i)) ∧ J2 w' ∧ (E i = 0 → J (i + 1) w')) :
    Calls Try.prog 66 #[.slice A n c, .int .i64 m, .func (.func 67) #[] #[.pointer (some ⟨p0, 0, none⟩)]] w fun e w' => e = .returned (.int .i64 (if m < (n : Int) then 15 else firstE E n 0)) ∧ J2 w' := by
  unfold maxLen at hcm
  have HX := Lib.hid hX
  have HF := Lib.hid hF
  have HAL := Lib.hid hal
  have H2 := Lib.hid hJ2
  have H0 := Lib.hid h0
  by_cases hmn : m < (n : Int)
  case pos =>
    rw [if_pos hmn]
    clear hX hF hal hJ2 h0
    go_enter Try.func66, Try.ntmps66
    go_wp2
    go_ret
    exact ⟨rfl, H2.out _ _ H0.out⟩
  rw [if_neg hmn]
  obtain ⟨tot, htot⟩ : ∃ tot, tot = firstE E n 0 := ⟨_, rfl⟩
  rw [← htot]
  have HT := Lib.hid htot
  clear hX hF hal hJ2 h0 htot
  go_enter Try.func66, Try.ntmps66
  go_wp2
  go_loopw [16] (fun v16 wr => ∃ k : Nat, k ≤ n ∧ v16 = .int .i64 k ∧ Hid (tot = firstE E (n - k) k) ∧ Hid (J k wr)) (fun v16 _ => n - (intOf v16).toNat)
  case atStart => exact ⟨0, Nat.zero_le _, rfl, HT, H0⟩
  case round =>
    clear HT H0
    obtain ⟨k, hk, rfl, HT, HB⟩ := hrel
    by_cases hlt : k < n
    · obtain ⟨b, off, rfl, hat⟩ := HX.out (by omega)
      obtain ⟨x0, x1, x2⟩ := hat k wr hlt HB.out
      have HC := Lib.hid (HF.out k (wr.alloc (.cells #[.string (s0 k), .string (s1 k), .int .i64 (i2 k)] 58)) hlt (HAL.out _ _ _ HB.out))
      have HS : Hid (tot = if E k = 0 then firstE E (n - (k + 1)) (k + 1) else E k) := Lib.hid (by
        rw [HT.out, show n - k = (n - (k + 1)) + 1 from by omega]; rfl)
      clear hat HF HX
      generalize s0 k = s0k at *
      generalize s1 k = s1k at *
      generalize i2 k = i2k at *
      by_cases he : E k = 0
      · have HR : Hid (tot = firstE E (n - (k + 1)) (k + 1)) := Lib.hid (by rw [HS.out, if_pos he])
        rw [he] at HC
        clear he HS HT
        go_wp2_with (go_at_call 67; (with_reducible refine HC.out.mono ?_); rintro e w1 ⟨rfl, h2, h3⟩
                     have HB1 := Lib.hid (h3 rfl)
                     clear h2 h3)
        go_roundw
        case rel => exact ⟨k + 1, by omega, by go_num, HR, HB1⟩
        case measure => simp [intOf]; omega
      · have HR : Hid (tot = E k) := Lib.hid (by rw [HS.out, if_neg he])
        have hne : (E k != 0) = true := by simpa using he
        clear he HS HT
        generalize E k = ek at *
        go_wp2_with (go_at_call 67; (with_reducible refine HC.out.mono ?_); rintro e w1 ⟨rfl, h2, h3⟩
                     have HB1 := Lib.hid h2
                     clear h2 h3)
        go_ret
        exact ⟨by rw [HR.out]; rfl, HB1.out⟩
    · obtain rfl : k = n := by omega
      have HR : Hid (tot = 0) := Lib.hid (by rw [HT.out, Nat.sub_self]; rfl)
      go_wp2
      go_ret
      exact ⟨by rw [HR.out]; rfl, H2.out _ _ HB.out⟩
end Go.Proofs.Ytackompihengfaa
/-
  each, at one type (68).
-/
namespace Go.Proofs.Ytackompihengfaa
open Go.RowKit Go.PlainAid
set_option linter.unusedVariables false
set_option linter.unusedSimpArgs false
set_option maxHeartbeats 4000000 in
set_option maxRecDepth 100000 in
theorem each68_ok (A : Option Addr) (n c : Nat) (i0 : Nat → Int) (A1 : Nat → Option Addr) (n1 c1 : Nat → Nat) (A2 : Nat → Option Addr) (n2 c2 : Nat → Nat) (E : Nat → Int) (m : Int) (p0 : Nat) (w : World) (J : Nat → World → Prop) (J2 : World → Prop)
    (hn : n ≤ 1000) (hcap : n ≤ c) (hcm : c ≤ maxLen) (h0 : J 0 w) (hal : ∀ i W o, J i W → J i (W.alloc o)) (hJ2 : ∀ i W, J i W → J2 W)
    (hX : 0 < n → ∃ b off, A = some ⟨b, off, none⟩ ∧ ∀ i W, i < n → J i W → W.cell? ⟨b, off + i * 3, none⟩ = some (.int .i64 (i0 i)) ∧ W.cell? ⟨b, off + i * 3 + 1, none⟩ = some (.slice (A1 i) (n1 i) (c1 i)) ∧ W.cell? ⟨b, off + i * 3 + 2, none⟩ = some (.slice (A2 i) (n2 i) (c2 i)))
    (hF : ∀ i W, i < n → J i W → Calls Try.prog 69 #[.agg #[.int .i64 (i0 i), .slice (A1 i) (n1 i) (c1 i), .slice (A2 i) (n2 i) (c2 i)], .pointer (some ⟨p0, 0, none⟩)] W fun e w' => e = .returned (.int .i64 (E i)) ∧ J2 w' ∧ (E i = 0 → J (i + 1) w')) :
    Calls Try.prog 68 #[.slice A n c, .int .i64 m, .func (.func 69) #[] #[.pointer (some ⟨p0, 0, none⟩)]] w fun e w' => e = .returned (.int .i64 (if m < (n : Int) then 15 else firstE E n 0)) ∧ J2 w' := by
  unfold maxLen at hcm
  have HX := Lib.hid hX
  have HF := Lib.hid hF
  have HAL := Lib.hid hal
  have H2 := Lib.hid hJ2
  have H0 := Lib.hid h0
  by_cases hmn : m < (n : Int)
  case pos =>
    rw [if_pos hmn]
    clear hX hF hal hJ2 h0
    go_enter Try.func68, Try.ntmps68
    go_wp2
    go_ret
    exact ⟨rfl, H2.out _ _ H0.out⟩
  rw [if_neg hmn]
  obtain ⟨tot, htot⟩ : ∃ tot, tot = firstE E n 0 := ⟨_, rfl⟩
  rw [← htot]
  have HT := Lib.hid htot
  clear hX hF hal hJ2 h0 htot
  go_enter Try.func68, Try.ntmps68
  go_wp2
  go_loopw [16] (fun v16 wr => ∃ k : Nat, k ≤ n ∧ v16 = .int .i64 k ∧ Hid (tot = firstE E (n - k) k) ∧ Hid (J k wr)) (fun v16 _ => n - (intOf v16).toNat)
  case atStart => exact ⟨0, Nat.zero_le _, rfl, HT, H0⟩
  case round =>
    clear HT H0
    obtain ⟨k, hk, rfl, HT, HB⟩ := hrel
    by_cases hlt : k < n
    · obtain ⟨b, off, rfl, hat⟩ := HX.out (by omega)
      obtain ⟨x0, x1, x2⟩ := hat k wr hlt HB.out
      have HC := Lib.hid (HF.out k (wr.alloc (.cells #[.int .i64 (i0 k), .slice (A1 k) (n1 k) (c1 k), .slice (A2 k) (n2 k) (c2 k)] 69)) hlt (HAL.out _ _ _ HB.out))
      have HS : Hid (tot = if E k = 0 then firstE E (n - (k + 1)) (k + 1) else E k) := Lib.hid (by
        rw [HT.out, show n - k = (n - (k + 1)) + 1 from by omega]; rfl)
      clear hat HF HX
      generalize i0 k = i0k at *
      generalize A1 k = A1k at *
      generalize n1 k = n1k at *
      generalize c1 k = c1k at *
      generalize A2 k = A2k at *
      generalize n2 k = n2k at *
      generalize c2 k = c2k at *
      by_cases he : E k = 0
      · have HR : Hid (tot = firstE E (n - (k + 1)) (k + 1)) := Lib.hid (by rw [HS.out, if_pos he])
        rw [he] at HC
        clear he HS HT
        go_wp2_with (go_at_call 69; (with_reducible refine HC.out.mono ?_); rintro e w1 ⟨rfl, h2, h3⟩
                     have HB1 := Lib.hid (h3 rfl)
                     clear h2 h3)
        go_roundw
        case rel => exact ⟨k + 1, by omega, by go_num, HR, HB1⟩
        case measure => simp [intOf]; omega
      · have HR : Hid (tot = E k) := Lib.hid (by rw [HS.out, if_neg he])
        have hne : (E k != 0) = true := by simpa using he
        clear he HS HT
        generalize E k = ek at *
        go_wp2_with (go_at_call 69; (with_reducible refine HC.out.mono ?_); rintro e w1 ⟨rfl, h2, h3⟩
                     have HB1 := Lib.hid h2
                     clear h2 h3)
        go_ret
        exact ⟨by rw [HR.out]; rfl, HB1.out⟩
    · obtain rfl : k = n := by omega
      have HR : Hid (tot = 0) := Lib.hid (by rw [HT.out, Nat.sub_self]; rfl)
      go_wp2
      go_ret
      exact ⟨by rw [HR.out]; rfl, H2.out _ _ HB.out⟩
end Go.Proofs.Ytackompihengfaa
/-
  each, at one type (70).
-/
namespace Go.Proofs.Ytackompihengfaa
open Go.RowKit Go.PlainAid
set_option linter.unusedVariables false
set_option linter.unusedSimpArgs false
set_option maxHeartbeats 4000000 in
set_option maxRecDepth 100000 in
theorem each70_ok (A : Option Addr) (n c : Nat) (i0 : Nat → Int) (i1 : Nat → Int) (b2 : Nat → Bool) (E : Nat → Int) (m : Int) (w : World) (J : Nat → World → Prop) (J2 : World → Prop)
    (hn : n ≤ 1000) (hcap : n ≤ c) (hcm : c ≤ maxLen) (h0 : J 0 w) (hal : ∀ i W o, J i W → J i (W.alloc o)) (hJ2 : ∀ i W, J i W → J2 W)
    (hX : 0 < n → ∃ b off, A = some ⟨b, off, none⟩ ∧ ∀ i W, i < n → J i W → W.cell? ⟨b, off + i * 3, none⟩ = some (.int .i64 (i0 i)) ∧ W.cell? ⟨b, off + i * 3 + 1, none⟩ = some (.int .i64 (i1 i)) ∧ W.cell? ⟨b, off + i * 3 + 2, none⟩ = some (.bool (b2 i)))
    (hF : ∀ i W, i < n → J i W → Calls Try.prog 71 #[.agg #[.int .i64 (i0 i), .int .i64 (i1 i), .bool (b2 i)]] W fun e w' => e = .returned (.int .i64 (E i)) ∧ J2 w' ∧ (E i = 0 → J (i + 1) w')) :
    Calls Try.prog 70 #[.slice A n c, .int .i64 m, .func (.func 71) #[] #[]] w fun e w' => e = .returned (.int .i64 (if m < (n : Int) then 15 else firstE E n 0)) ∧ J2 w' := by
  unfold maxLen at hcm
  have HX := Lib.hid hX
  have HF := Lib.hid hF
  have HAL := Lib.hid hal
  have H2 := Lib.hid hJ2
  have H0 := Lib.hid h0
  by_cases hmn : m < (n : Int)
  case pos =>
    rw [if_pos hmn]
    clear hX hF hal hJ2 h0
    go_enter Try.func70, Try.ntmps70
    go_wp2
    go_ret
    exact ⟨rfl, H2.out _ _ H0.out⟩
  rw [if_neg hmn]
  obtain ⟨tot, htot⟩ : ∃ tot, tot = firstE E n 0 := ⟨_, rfl⟩
  rw [← htot]
  have HT := Lib.hid htot
  clear hX hF hal hJ2 h0 htot
  go_enter Try.func70, Try.ntmps70
  go_wp2
  go_loopw [16] (fun v16 wr => ∃ k : Nat, k ≤ n ∧ v16 = .int .i64 k ∧ Hid (tot = firstE E (n - k) k) ∧ Hid (J k wr)) (fun v16 _ => n - (intOf v16).toNat)
  case atStart => exact ⟨0, Nat.zero_le _, rfl, HT, H0⟩
  case round =>
    clear HT H0
    obtain ⟨k, hk, rfl, HT, HB⟩ := hrel
    by_cases hlt : k < n
    · obtain ⟨b, off, rfl, hat⟩ := HX.out (by omega)
      obtain ⟨x0, x1, x2⟩ := hat k wr hlt HB.out
      have HC := Lib.hid (HF.out k (wr.alloc (.cells #[.int .i64 (i0 k), .int .i64 (i1 k), .bool (b2 k)] 75)) hlt (HAL.out _ _ _ HB.out))
      have HS : Hid (tot = if E k = 0 then firstE E (n - (k + 1)) (k + 1) else E k) := Lib.hid (by
        rw [HT.out, show n - k = (n - (k + 1)) + 1 from by omega]; rfl)
      clear hat HF HX
      generalize i0 k = i0k at *
      generalize i1 k = i1k at *
      generalize b2 k = b2k at *
      by_cases he : E k = 0
      · have HR : Hid (tot = firstE E (n - (k + 1)) (k + 1)) := Lib.hid (by rw [HS.out, if_pos he])
        rw [he] at HC
        clear he HS HT
        go_wp2_with (go_at_call 71; (with_reducible refine HC.out.mono ?_); rintro e w1 ⟨rfl, h2, h3⟩
                     have HB1 := Lib.hid (h3 rfl)
                     clear h2 h3)
        go_roundw
        case rel => exact ⟨k + 1, by omega, by go_num, HR, HB1⟩
        case measure => simp [intOf]; omega
      · have HR : Hid (tot = E k) := Lib.hid (by rw [HS.out, if_neg he])
        have hne : (E k != 0) = true := by simpa using he
        clear he HS HT
        generalize E k = ek at *
        go_wp2_with (go_at_call 71; (with_reducible refine HC.out.mono ?_); rintro e w1 ⟨rfl, h2, h3⟩
                     have HB1 := Lib.hid h2
                     clear h2 h3)
        go_ret
        exact ⟨by rw [HR.out]; rfl, HB1.out⟩
    · obtain rfl : k = n := by omega
      have HR : Hid (tot = 0) := Lib.hid (by rw [HT.out, Nat.sub_self]; rfl)
      go_wp2
      go_ret
      exact ⟨by rw [HR.out]; rfl, H2.out _ _ HB.out⟩
end Go.Proofs.Ytackompihengfaa
/-
  each, at one type (73).
-/
namespace Go.Proofs.Ytackompihengfaa
open Go.RowKit Go.PlainAid
set_option linter.unusedVariables false
set_option linter.unusedSimpArgs false
set_option maxHeartbeats 4000000 in
set_option maxRecDepth 100000 in
theorem each73_ok (A : Option Addr) (n c : Nat) (y0 : Nat → Int) (b1 : Nat → Bool) (u2 : Nat → Int) (E : Nat → Int) (m : Int) (w : World) (J : Nat → World → Prop) (J2 : World → Prop)
    (hn : n ≤ 1000) (hcap : n ≤ c) (hcm : c ≤ maxLen) (h0 : J 0 w) (hal : ∀ i W o, J i W → J i (W.alloc o)) (hJ2 : ∀ i W, J i W → J2 W)
    (hX : 0 < n → ∃ b off, A = some ⟨b, off, none⟩ ∧ ∀ i W, i < n → J i W → W.cell? ⟨b, off + i * 3, none⟩ = some (.int .u8 (y0 i)) ∧ W.cell? ⟨b, off + i * 3 + 1, none⟩ = some (.bool (b1 i)) ∧ W.cell? ⟨b, off + i * 3 + 2, none⟩ = some (.int .u64 (u2 i)))
    (hF : ∀ i W, i < n → J i W → Calls Try.prog 74 #[.agg #[.int .u8 (y0 i), .bool (b1 i), .int .u64 (u2 i)]] W fun e w' => e = .returned (.int .i64 (E i)) ∧ J2 w' ∧ (E i = 0 → J (i + 1) w')) :
    Calls Try.prog 73 #[.slice A n c, .int .i64 m, .func (.func 74) #[] #[]] w fun e w' => e = .returned (.int .i64 (if m < (n : Int) then 15 else firstE E n 0)) ∧ J2 w' := by
  unfold maxLen at hcm
  have HX := Lib.hid hX
  have HF := Lib.hid hF
  have HAL := Lib.hid hal
  have H2 := Lib.hid hJ2
  have H0 := Lib.hid h0
  by_cases hmn : m < (n : Int)
  case pos =>
    rw [if_pos hmn]
    clear hX hF hal hJ2 h0
    go_enter Try.func73, Try.ntmps73
    go_wp2
    go_ret
    exact ⟨rfl, H2.out _ _ H0.out⟩
  rw [if_neg hmn]
  obtain ⟨tot, htot⟩ : ∃ tot, tot = firstE E n 0 := ⟨_, rfl⟩
  rw [← htot]
  have HT := Lib.hid htot
  clear hX hF hal hJ2 h0 htot
  go_enter Try.func73, Try.ntmps73
  go_wp2
  go_loopw [16] (fun v16 wr => ∃ k : Nat, k ≤ n ∧ v16 = .int .i64 k ∧ Hid (tot = firstE E (n - k) k) ∧ Hid (J k wr)) (fun v16 _ => n - (intOf v16).toNat)
  case atStart => exact ⟨0, Nat.zero_le _, rfl, HT, H0⟩
  case round =>
    clear HT H0
    obtain ⟨k, hk, rfl, HT, HB⟩ := hrel
    by_cases hlt : k < n
    · obtain ⟨b, off, rfl, hat⟩ := HX.out (by omega)
      obtain ⟨x0, x1, x2⟩ := hat k wr hlt HB.out
      have HC := Lib.hid (HF.out k (wr.alloc (.cells #[.int .u8 (y0 k), .bool (b1 k), .int .u64 (u2 k)] 79)) hlt (HAL.out _ _ _ HB.out))
      have HS : Hid (tot = if E k = 0 then firstE E (n - (k + 1)) (k + 1) else E k) := Lib.hid (by
        rw [HT.out, show n - k = (n - (k + 1)) + 1 from by omega]; rfl)
      clear hat HF HX
      generalize y0 k = y0k at *
      generalize b1 k = b1k at *
      generalize u2 k = u2k at *
      by_cases he : E k = 0
      · have HR : Hid (tot = firstE E (n - (k + 1)) (k + 1)) := Lib.hid (by rw [HS.out, if_pos he])
        rw [he] at HC
        clear he HS HT
        go_wp2_with (go_at_call 74; (with_reducible refine HC.out.mono ?_); rintro e w1 ⟨rfl, h2, h3⟩
                     have HB1 := Lib.hid (h3 rfl)
                     clear h2 h3)
        go_roundw
        case rel => exact ⟨k + 1, by omega, by go_num, HR, HB1⟩
        case measure => simp [intOf]; omega
      · have HR : Hid (tot = E k) := Lib.hid (by rw [HS.out, if_neg he])
        have hne : (E k != 0) = true := by simpa using he
        clear he HS HT
        generalize E k = ek at *
        go_wp2_with (go_at_call 74; (with_reducible refine HC.out.mono ?_); rintro e w1 ⟨rfl, h2, h3⟩
                     have HB1 := Lib.hid h2
                     clear h2 h3)
        go_ret
        exact ⟨by rw [HR.out]; rfl, HB1.out⟩
    · obtain rfl : k = n := by omega
      have HR : Hid (tot = 0) := Lib.hid (by rw [HT.out, Nat.sub_self]; rfl)
      go_wp2
      go_ret
      exact ⟨by rw [HR.out]; rfl, H2.out _ _ HB.out⟩
end Go.Proofs.Ytackompihengfaa
/-
  each, at one type (75).
-/
namespace Go.Proofs.Ytackompihengfaa
open Go.RowKit Go.PlainAid
set_option linter.unusedVariables false
set_option linter.unusedSimpArgs false
set_option maxHeartbeats 4000000 in
set_option maxRecDepth 100000 in
theorem each75_ok (A : Option Addr) (n c : Nat) (s0 : Nat → ByteArray) (i1 : Nat → Int) (i2 : Nat → Int) (E : Nat → Int) (m : Int) (p0 p1 : Nat) (w : World) (J : Nat → World → Prop) (J2 : World → Prop)
    (hn : n ≤ 1000) (hcap : n ≤ c) (hcm : c ≤ maxLen) (h0 : J 0 w) (hal : ∀ i W o, J i W → J i (W.alloc o)) (hJ2 : ∀ i W, J i W → J2 W)
    (hX : 0 < n → ∃ b off, A = some ⟨b, off, none⟩ ∧ ∀ i W, i < n → J i W → W.cell? ⟨b, off + i * 3, none⟩ = some (.string (s0 i)) ∧ W.cell? ⟨b, off + i * 3 + 1, none⟩ = some (.int .i64 (i1 i)) ∧ W.cell? ⟨b, off + i * 3 + 2, none⟩ = some (.int .i64 (i2 i)))
    (hF : ∀ i W, i < n → J i W → Calls Try.prog 76 #[.agg #[.string (s0 i), .int .i64 (i1 i), .int .i64 (i2 i)], .pointer (some ⟨p0, 0, none⟩), .pointer (some ⟨p1, 0, none⟩)] W fun e w' => e = .returned (.int .i64 (E i)) ∧ J2 w' ∧ (E i = 0 → J (i + 1) w')) :
    Calls Try.prog 75 #[.slice A n c, .int .i64 m, .func (.func 76) #[] #[.pointer (some ⟨p0, 0, none⟩), .pointer (some ⟨p1, 0, none⟩)]] w fun e w' => e = .returned (.int .i64 (if m < (n : Int) then 15 else firstE E n 0)) ∧ J2 w' := by
  unfold maxLen at hcm
  have HX := Lib.hid hX
  have HF := Lib.hid hF
  have HAL := Lib.hid hal
  have H2 := Lib.hid hJ2
  have H0 := Lib.hid h0
  by_cases hmn : m < (n : Int)
  case pos =>
    rw [if_pos hmn]
    clear hX hF hal hJ2 h0
    go_enter Try.func75, Try.ntmps75
    go_wp2
    go_ret
    exact ⟨rfl, H2.out _ _ H0.out⟩
  rw [if_neg hmn]
  obtain ⟨tot, htot⟩ : ∃ tot, tot = firstE E n 0 := ⟨_, rfl⟩
  rw [← htot]
  have HT := Lib.hid htot
  clear hX hF hal hJ2 h0 htot
  go_enter Try.func75, Try.ntmps75
  go_wp2
  go_loopw [16] (fun v16 wr => ∃ k : Nat, k ≤ n ∧ v16 = .int .i64 k ∧ Hid (tot = firstE E (n - k) k) ∧ Hid (J k wr)) (fun v16 _ => n - (intOf v16).toNat)
  case atStart => exact ⟨0, Nat.zero_le _, rfl, HT, H0⟩
  case round =>
    clear HT H0
    obtain ⟨k, hk, rfl, HT, HB⟩ := hrel
    by_cases hlt : k < n
    · obtain ⟨b, off, rfl, hat⟩ := HX.out (by omega)
      obtain ⟨x0, x1, x2⟩ := hat k wr hlt HB.out
      have HC := Lib.hid (HF.out k (wr.alloc (.cells #[.string (s0 k), .int .i64 (i1 k), .int .i64 (i2 k)] 53)) hlt (HAL.out _ _ _ HB.out))
      have HS : Hid (tot = if E k = 0 then firstE E (n - (k + 1)) (k + 1) else E k) := Lib.hid (by
        rw [HT.out, show n - k = (n - (k + 1)) + 1 from by omega]; rfl)
      clear hat HF HX
      generalize s0 k = s0k at *
      generalize i1 k = i1k at *
      generalize i2 k = i2k at *
      by_cases he : E k = 0
      · have HR : Hid (tot = firstE E (n - (k + 1)) (k + 1)) := Lib.hid (by rw [HS.out, if_pos he])
        rw [he] at HC
        clear he HS HT
        go_wp2_with (go_at_call 76; (with_reducible refine HC.out.mono ?_); rintro e w1 ⟨rfl, h2, h3⟩
                     have HB1 := Lib.hid (h3 rfl)
                     clear h2 h3)
        go_roundw
        case rel => exact ⟨k + 1, by omega, by go_num, HR, HB1⟩
        case measure => simp [intOf]; omega
      · have HR : Hid (tot = E k) := Lib.hid (by rw [HS.out, if_neg he])
        have hne : (E k != 0) = true := by simpa using he
        clear he HS HT
        generalize E k = ek at *
        go_wp2_with (go_at_call 76; (with_reducible refine HC.out.mono ?_); rintro e w1 ⟨rfl, h2, h3⟩
                     have HB1 := Lib.hid h2
                     clear h2 h3)
        go_ret
        exact ⟨by rw [HR.out]; rfl, HB1.out⟩
    · obtain rfl : k = n := by omega
      have HR : Hid (tot = 0) := Lib.hid (by rw [HT.out, Nat.sub_self]; rfl)
      go_wp2
      go_ret
      exact ⟨by rw [HR.out]; rfl, H2.out _ _ HB.out⟩
end Go.Proofs.Ytackompihengfaa
/-
  each, at one type (79).
-/
namespace Go.Proofs.Ytackompihengfaa
open Go.RowKit Go.PlainAid
set_option linter.unusedVariables false
set_option linter.unusedSimpArgs false
set_option maxHeartbeats 4000000 in
set_option maxRecDepth 100000 in
theorem each79_ok (A : Option Addr) (n c : Nat) (u0 : Nat → Int) (A1 : Nat → Option Addr) (n1 c1 : Nat → Nat) (E : Nat → Int) (m : Int) (p0 p1 : Nat) (w : World) (J : Nat → World → Prop) (J2 : World → Prop)
    (hn : n ≤ 1000) (hcap : n ≤ c) (hcm : c ≤ maxLen) (h0 : J 0 w) (hal : ∀ i W o, J i W → J i (W.alloc o)) (hJ2 : ∀ i W, J i W → J2 W)
    (hX : 0 < n → ∃ b off, A = some ⟨b, off, none⟩ ∧ ∀ i W, i < n → J i W → W.cell? ⟨b, off + i * 2, none⟩ = some (.int .u64 (u0 i)) ∧ W.cell? ⟨b, off + i * 2 + 1, none⟩ = some (.slice (A1 i) (n1 i) (c1 i)))
    (hF : ∀ i W, i < n → J i W → Calls Try.prog 80 #[.agg #[.int .u64 (u0 i), .slice (A1 i) (n1 i) (c1 i)], .pointer (some ⟨p0, 0, none⟩), .pointer (some ⟨p1, 0, none⟩)] W fun e w' => e = .returned (.int .i64 (E i)) ∧ J2 w' ∧ (E i = 0 → J (i + 1) w')) :
    Calls Try.prog 79 #[.slice A n c, .int .i64 m, .func (.func 80) #[] #[.pointer (some ⟨p0, 0, none⟩), .pointer (some ⟨p1, 0, none⟩)]] w fun e w' => e = .returned (.int .i64 (if m < (n : Int) then 15 else firstE E n 0)) ∧ J2 w' := by
  unfold maxLen at hcm
  have HX := Lib.hid hX
  have HF := Lib.hid hF
  have HAL := Lib.hid hal
  have H2 := Lib.hid hJ2
  have H0 := Lib.hid h0
  by_cases hmn : m < (n : Int)
  case pos =>
    rw [if_pos hmn]
    clear hX hF hal hJ2 h0
    go_enter Try.func79, Try.ntmps79
    go_wp2
    go_ret
    exact ⟨rfl, H2.out _ _ H0.out⟩
  rw [if_neg hmn]
  obtain ⟨tot, htot⟩ : ∃ tot, tot = firstE E n 0 := ⟨_, rfl⟩
  rw [← htot]
  have HT := Lib.hid htot
  clear hX hF hal hJ2 h0 htot
  go_enter Try.func79, Try.ntmps79
  go_wp2
  go_loopw [16] (fun v16 wr => ∃ k : Nat, k ≤ n ∧ v16 = .int .i64 k ∧ Hid (tot = firstE E (n - k) k) ∧ Hid (J k wr)) (fun v16 _ => n - (intOf v16).toNat)
  case atStart => exact ⟨0, Nat.zero_le _, rfl, HT, H0⟩
  case round =>
    clear HT H0
    obtain ⟨k, hk, rfl, HT, HB⟩ := hrel
    by_cases hlt : k < n
    · obtain ⟨b, off, rfl, hat⟩ := HX.out (by omega)
      obtain ⟨x0, x1⟩ := hat k wr hlt HB.out
      have HC := Lib.hid (HF.out k (wr.alloc (.cells #[.int .u64 (u0 k), .slice (A1 k) (n1 k) (c1 k)] 82)) hlt (HAL.out _ _ _ HB.out))
      have HS : Hid (tot = if E k = 0 then firstE E (n - (k + 1)) (k + 1) else E k) := Lib.hid (by
        rw [HT.out, show n - k = (n - (k + 1)) + 1 from by omega]; rfl)
      clear hat HF HX
      generalize u0 k = u0k at *
      generalize A1 k = A1k at *
      generalize n1 k = n1k at *
      generalize c1 k = c1k at *
      by_cases he : E k = 0
      · have HR : Hid (tot = firstE E (n - (k + 1)) (k + 1)) := Lib.hid (by rw [HS.out, if_pos he])
        rw [he] at HC
        clear he HS HT
        go_wp2_with (go_at_call 80; (with_reducible refine HC.out.mono ?_); rintro e w1 ⟨rfl, h2, h3⟩
                     have HB1 := Lib.hid (h3 rfl)
                     clear h2 h3)
        go_roundw
        case rel => exact ⟨k + 1, by omega, by go_num, HR, HB1⟩
        case measure => simp [intOf]; omega
      · have HR : Hid (tot = E k) := Lib.hid (by rw [HS.out, if_neg he])
        have hne : (E k != 0) = true := by simpa using he
        clear he HS HT
        generalize E k = ek at *
        go_wp2_with (go_at_call 80; (with_reducible refine HC.out.mono ?_); rintro e w1 ⟨rfl, h2, h3⟩
                     have HB1 := Lib.hid h2
                     clear h2 h3)
        go_ret
        exact ⟨by rw [HR.out]; rfl, HB1.out⟩
    · obtain rfl : k = n := by omega
      have HR : Hid (tot = 0) := Lib.hid (by rw [HT.out, Nat.sub_self]; rfl)
      go_wp2
      go_ret
      exact ⟨by rw [HR.out]; rfl, H2.out _ _ HB.out⟩
end Go.Proofs.Ytackompihengfaa
/-
  each, at one type (82).
-/
namespace Go.Proofs.Ytackompihengfaa
open Go.RowKit Go.PlainAid
set_option linter.unusedVariables false
set_option linter.unusedSimpArgs false
set_option maxHeartbeats 4000000 in
set_option maxRecDepth 100000 in
theorem each82_ok (A : Option Addr) (n c : Nat) (i0 : Nat → Int) (u1 : Nat → Int) (A2 : Nat → Option Addr) (n2 c2 : Nat → Nat) (E : Nat → Int) (m : Int) (p0 : Nat) (w : World) (J : Nat → World → Prop) (J2 : World → Prop)
    (hn : n ≤ 1000) (hcap : n ≤ c) (hcm : c ≤ maxLen) (h0 : J 0 w) (hal : ∀ i W o, J i W → J i (W.alloc o)) (hJ2 : ∀ i W, J i W → J2 W)
    (hX : 0 < n → ∃ b off, A = some ⟨b, off, none⟩ ∧ ∀ i W, i < n → J i W → W.cell? ⟨b, off + i * 3, none⟩ = some (.int .i64 (i0 i)) ∧ W.cell? ⟨b, off + i * 3 + 1, none⟩ = some (.int .u64 (u1 i)) ∧ W.cell? ⟨b, off + i * 3 + 2, none⟩ = some (.slice (A2 i) (n2 i) (c2 i)))
    (hF : ∀ i W, i < n → J i W → Calls Try.prog 83 #[.agg #[.int .i64 (i0 i), .int .u64 (u1 i), .slice (A2 i) (n2 i) (c2 i)], .pointer (some ⟨p0, 0, none⟩)] W fun e w' => e = .returned (.int .i64 (E i)) ∧ J2 w' ∧ (E i = 0 → J (i + 1) w')) :
    Calls Try.prog 82 #[.slice A n c, .int .i64 m, .func (.func 83) #[] #[.pointer (some ⟨p0, 0, none⟩)]] w fun e w' => e = .returned (.int .i64 (if m < (n : Int) then 15 else firstE E n 0)) ∧ J2 w' := by
  unfold maxLen at hcm
  have HX := Lib.hid hX
  have HF := Lib.hid hF
  have HAL := Lib.hid hal
  have H2 := Lib.hid hJ2
  have H0 := Lib.hid h0
  by_cases hmn : m < (n : Int)
  case pos =>
    rw [if_pos hmn]
    clear hX hF hal hJ2 h0
    go_enter Try.func82, Try.ntmps82
    go_wp2
    go_ret
    exact ⟨rfl, H2.out _ _ H0.out⟩
  rw [if_neg hmn]
  obtain ⟨tot, htot⟩ : ∃ tot, tot = firstE E n 0 := ⟨_, rfl⟩
  rw [← htot]
  have HT := Lib.hid htot
  clear hX hF hal hJ2 h0 htot
  go_enter Try.func82, Try.ntmps82
  go_wp2
  go_loopw [16] (fun v16 wr => ∃ k : Nat, k ≤ n ∧ v16 = .int .i64 k ∧ Hid (tot = firstE E (n - k) k) ∧ Hid (J k wr)) (fun v16 _ => n - (intOf v16).toNat)
  case atStart => exact ⟨0, Nat.zero_le _, rfl, HT, H0⟩
  case round =>
    clear HT H0
    obtain ⟨k, hk, rfl, HT, HB⟩ := hrel
    by_cases hlt : k < n
    · obtain ⟨b, off, rfl, hat⟩ := HX.out (by omega)
      obtain ⟨x0, x1, x2⟩ := hat k wr hlt HB.out
      have HC := Lib.hid (HF.out k (wr.alloc (.cells #[.int .i64 (i0 k), .int .u64 (u1 k), .slice (A2 k) (n2 k) (c2 k)] 84)) hlt (HAL.out _ _ _ HB.out))
      have HS : Hid (tot = if E k = 0 then firstE E (n - (k + 1)) (k + 1) else E k) := Lib.hid (by
        rw [HT.out, show n - k = (n - (k + 1)) + 1 from by omega]; rfl)
      clear hat HF HX
      generalize i0 k = i0k at *
      generalize u1 k = u1k at *
      generalize A2 k = A2k at *
      generalize n2 k = n2k at *
      generalize c2 k = c2k at *
      by_cases he : E k = 0
      · have HR : Hid (tot = firstE E (n - (k + 1)) (k + 1)) := Lib.hid (by rw [HS.out, if_pos he])
        rw [he] at HC
        clear he HS HT
        go_wp2_with (go_at_call 83; (with_reducible refine HC.out.mono ?_); rintro e w1 ⟨rfl, h2, h3⟩
                     have HB1 := Lib.hid (h3 rfl)
                     clear h2 h3)
        go_roundw
        case rel => exact ⟨k + 1, by omega, by go_num, HR, HB1⟩
        case measure => simp [intOf]; omega
      · have HR : Hid (tot = E k) := Lib.hid (by rw [HS.out, if_neg he])
        have hne : (E k != 0) = true := by simpa using he
        clear he HS HT
        generalize E k = ek at *
        go_wp2_with (go_at_call 83; (with_reducible refine HC.out.mono ?_); rintro e w1 ⟨rfl, h2, h3⟩
                     have HB1 := Lib.hid h2
                     clear h2 h3)
        go_ret
        exact ⟨by rw [HR.out]; rfl, HB1.out⟩
    · obtain rfl : k = n := by omega
      have HR : Hid (tot = 0) := Lib.hid (by rw [HT.out, Nat.sub_self]; rfl)
      go_wp2
      go_ret
      exact ⟨by rw [HR.out]; rfl, H2.out _ _ HB.out⟩
end Go.Proofs.Ytackompihengfaa
