/-
  The document's Digits and Print.
-/
import Derived.Test.YtalpkdnnclghaaaDoorXb
import Derived.Deep.QuietTactic
import Derived.BigQuiet
import Derived.Outline
namespace Go.Proofs.YtalpkdnnclghaaaDoor
open Go.RowKit Go.ChangeShapes Go.WideShapes Go.ChangeAt
set_option linter.unusedVariables false
set_option linter.unusedSimpArgs false
/-- the digits of what is left, ahead of those that there are -/
def dgs (m : Nat) (t : List UInt8) : List UInt8 := if t = [] ∨ 0 < m then Lib.decDigits m ++ t else t
theorem dgs_step (m : Nat) (t : List UInt8) (h : t = [] ∨ 0 < m) : dgs m t = dgs (m / 10) (UInt8.ofNat (48 + m % 10) :: t) := by
  unfold dgs
  rw [if_pos h]
  by_cases h10 : m < 10
  · rw [Lib.decDigits_one h10, if_neg (by simp; omega), Nat.mod_eq_of_lt h10]; rfl
  · rw [Lib.decDigits, dif_neg h10, if_pos (.inr (by omega))]; simp
def hexS : ByteArray := ⟨#[48, 49, 50, 51, 52, 53, 54, 55, 56, 57, 97, 98, 99, 100, 101, 102]⟩
theorem hex_ext (r : Nat) (h : r < 10) : hexS.extract r (r + 1) = bs [UInt8.ofNat (48 + r)] := by
  have : ∀ r : Fin 10, hexS.extract r.val (r.val + 1) = bs [UInt8.ofNat (48 + r.val)] := by decide +kernel
  exact this ⟨r, h⟩
def mzD (v0 v5 : Value) : Nat := (intOf v0).toNat + (match v5 with | .string s => if s.size = 0 then 1 else 0 | _ => 0)
theorem mzD_eq (m : Nat) (t : List UInt8) : mzD (.int .u64 m) (.string (bs t)) = m + if t = [] then 1 else 0 := by
  unfold mzD
  simp only [intOf, Int.toNat_natCast, bs_size, List.length_eq_zero_iff]
set_option maxHeartbeats 4000000 in
set_option maxRecDepth 100000 in
theorem Digits_ok (n : Nat) (hn : n < 18446744073709551616) (w : World) :
    Calls Tryd.prog 52 #[.int .u64 n, .int .u64 10] w fun e w' => e = .returned (.string (bs (Lib.decDigits n))) ∧ Below w.heap.size w w' := by
  have HN := Lib.hid hn
  have HLn := Lib.hid (dec_len 19 n (by omega))
  clear hn
  generalize hD9 : Lib.decDigits n = D9 at HLn
  have HD9 := Lib.hid hD9
  clear hD9
  go_enter Tryd.func52, Tryd.ntmps52
  go_wp2
  go_loopw [0, 5] (fun v0 v5 wr => ∃ m : Nat, ∃ t : List UInt8, v0 = .int .u64 m ∧ v5 = .string (bs t) ∧ Hid (m < 18446744073709551616) ∧ Hid (D9 = dgs m t) ∧ t.length ≤ D9.length ∧ ∃ d, Hid (wr = w.drewN d)) (fun v0 v5 _ => mzD v0 v5)
  case atStart => exact ⟨n, [], rfl, rfl, HN, Lib.hid (by rw [← HD9.out]; unfold dgs; simp), by simp, 0, Lib.hid rfl⟩
  case round =>
    obtain ⟨m, t, rfl, rfl, hm, HE, ht, d, HD⟩ := hrel
    obtain rfl := HD.out
    clear HD
    by_cases h0 : t = []
    · have hgo : t = [] ∨ 0 < m := .inl h0
      have k1 : (m : Int).tmod 10 = ((m % 10 : Nat) : Int) := by rw [Int.tmod_eq_emod_of_nonneg (by omega)]; omega
      have hr : m % 10 < 10 := Nat.mod_lt _ (by decide)
      have he : (⟨#[48, 49, 50, 51, 52, 53, 54, 55, 56, 57, 97, 98, 99, 100, 101, 102]⟩ : ByteArray).extract (m % 10) (m % 10 + 1) = bs [UInt8.ofNat (48 + m % 10)] := hex_ext _ hr
      have f := cat_bs [UInt8.ofNat (48 + m % 10)] t (by have := HLn.out; simp; omega)
      have HS := Lib.hid (dgs_step m t hgo)
      have HM := Lib.hid (mzD_eq m t)
      have HM2 := Lib.hid (mzD_eq (m / 10) ([UInt8.ofNat (48 + m % 10)] ++ t))
      have hm2 := hm.out
      have hT : Hid (([UInt8.ofNat (48 + m % 10)] ++ t).length ≤ D9.length) := Lib.hid (by
        rw [HE.out, HS.out]; unfold dgs; split <;> simp)
      have hXt : (bs t).toList = t := by rw [Lib.toList_data]; simp [bs]
      generalize hX : bs t = X at f HM hXt
      clear hX
      generalize hX2 : bs ([UInt8.ofNat (48 + m % 10)] ++ t) = X2 at f HM2
      have HX2 := Lib.hid hX2
      clear hX2
      generalize bs [UInt8.ofNat (48 + m % 10)] = X1 at f he
      generalize hr9 : m % 10 = r at k1 hr he
      have HR9 := Lib.hid hr9
      have k2 : IntKind.u64.wrap ((r : Int) + 1) = (r : Int) + 1 := by unfold IntKind.wrap; simp [IntKind.min, IntKind.bits]; omega
      have k3 : (0 : Int) ≤ (r : Int) := by omega
      have k4 : (r : Int) + 1 ≤ 16 := by omega
      clear hr9
      have q0 : X.toList = [] := by rw [hXt, h0]
      have HT0 := Lib.hid h0
      clear hXt h0 hgo
      go_wp2_with fail
      go_quiet (fail)
      go_wp2
      go_roundw
      case rel => exact ⟨m / 10, [UInt8.ofNat (48 + r)] ++ t, by go_num, by rw [← HX2.out, HR9.out], Lib.hid (by omega), Lib.hid (by rw [HE.out, HS.out, HR9.out]; rfl), by have := hT.out; rwa [HR9.out] at this, _, Lib.hid rfl⟩
      case measure =>
        have g1 := HM.out
        have g2 := HM2.out
        have e9 : ((m : Int) / 10) = ((m / 10 : Nat) : Int) := by omega
        show mzD (.int .u64 ((m : Int) / 10)) (.string X2) < mzD (.int .u64 (m : Int)) (.string X)
        rw [e9, g1, g2]
        simp only [List.singleton_append, reduceCtorEq, if_false]
        rw [if_pos HT0.out]; omega
    · by_cases h1 : 0 < m
      · have hgo : t = [] ∨ 0 < m := .inr h1
        have k1 : (m : Int).tmod 10 = ((m % 10 : Nat) : Int) := by rw [Int.tmod_eq_emod_of_nonneg (by omega)]; omega
        have hr : m % 10 < 10 := Nat.mod_lt _ (by decide)
        have he : (⟨#[48, 49, 50, 51, 52, 53, 54, 55, 56, 57, 97, 98, 99, 100, 101, 102]⟩ : ByteArray).extract (m % 10) (m % 10 + 1) = bs [UInt8.ofNat (48 + m % 10)] := hex_ext _ hr
        have f := cat_bs [UInt8.ofNat (48 + m % 10)] t (by have := HLn.out; simp; omega)
        have HS := Lib.hid (dgs_step m t hgo)
        have HM := Lib.hid (mzD_eq m t)
        have HM2 := Lib.hid (mzD_eq (m / 10) ([UInt8.ofNat (48 + m % 10)] ++ t))
        have hm2 := hm.out
        have hT : Hid (([UInt8.ofNat (48 + m % 10)] ++ t).length ≤ D9.length) := Lib.hid (by
          rw [HE.out, HS.out]; unfold dgs; split <;> simp)
        have hXt : (bs t).toList = t := by rw [Lib.toList_data]; simp [bs]
        generalize hX : bs t = X at f HM hXt
        clear hX
        generalize hX2 : bs ([UInt8.ofNat (48 + m % 10)] ++ t) = X2 at f HM2
        have HX2 := Lib.hid hX2
        clear hX2
        generalize bs [UInt8.ofNat (48 + m % 10)] = X1 at f he
        generalize hr9 : m % 10 = r at k1 hr he
        have HR9 := Lib.hid hr9
        have k2 : IntKind.u64.wrap ((r : Int) + 1) = (r : Int) + 1 := by unfold IntKind.wrap; simp [IntKind.min, IntKind.bits]; omega
        have k3 : (0 : Int) ≤ (r : Int) := by omega
        have k4 : (r : Int) + 1 ≤ 16 := by omega
        clear hr9
        have q0 : ¬ X.toList = [] := by rw [hXt]; exact h0
        have q1 : X.toList.isEmpty = false := by
          cases hx : X.toList with
          | nil => exact absurd hx q0
          | cons a l => rfl
        have q2 : (0 : Int) < (m : Int) := by omega
        clear hXt h0 hgo
        go_wp2_with fail
        go_quiet (fail)
        go_wp2
        go_roundw
        case rel => exact ⟨m / 10, [UInt8.ofNat (48 + r)] ++ t, by go_num, by rw [← HX2.out, HR9.out], Lib.hid (by omega), Lib.hid (by rw [HE.out, HS.out, HR9.out]; rfl), by have := hT.out; rwa [HR9.out] at this, _, Lib.hid rfl⟩
        case measure =>
          have g1 := HM.out
          have g2 := HM2.out
          have e9 : ((m : Int) / 10) = ((m / 10 : Nat) : Int) := by omega
          show mzD (.int .u64 ((m : Int) / 10)) (.string X2) < mzD (.int .u64 (m : Int)) (.string X)
          rw [e9, g1, g2]
          simp only [List.singleton_append, reduceCtorEq, if_false]
          split <;> omega
      · obtain rfl : m = 0 := by omega
        have hXt : (bs t).toList = t := by rw [Lib.toList_data]; simp [bs]
        have HD2 : Hid (D9 = t) := Lib.hid (by rw [HE.out]; unfold dgs; rw [if_neg (by simp [h0])])
        generalize hX : bs t = X at hXt
        have HX := Lib.hid hX
        have q0 : ¬ X.toList = [] := by rw [hXt]; exact h0
        have q1 : X.toList.isEmpty = false := by
          cases hx : X.toList with
          | nil => exact absurd hx q0
          | cons a l => rfl
        clear hXt hX h0 h1
        go_wp2
        go_ret
        exact ⟨by rw [HD2.out, HX.out]; rfl, bdN (Below.refl _ _) _⟩
theorem bitf_63 (a : Nat) (h : a < 18446744073709551616) : bitf a 63 = decide (9223372036854775808 ≤ a) := by
  unfold bitf
  rw [decide_eq_decide, show 2 ^ 63 = 9223372036854775808 from rfl]
  omega
theorem dec_len20 (n : Nat) (h : n < 18446744073709551616) : (Lib.decDigits n).length ≤ 20 := dec_len 19 n (by omega)
set_option maxHeartbeats 4000000 in
set_option maxRecDepth 100000 in
theorem RPrint_gen (A : Nat) (hA : A < 18446744073709551616) (w : World) :
    Calls Tryd.prog 22 #[.int .i64 64, .int .u64 A] w fun e w' => e = .returned (.string (bs (if A < 9223372036854775808 then Lib.decDigits A else 45 :: Lib.decDigits (18446744073709551616 - A)))) ∧ Below w.heap.size w w' := by
  have HLs : Hid (∀ W, Calls Tryd.prog 50 #[.int .i64 64, .int .u64 A] W (BPost W.heap.size 64 (bitf A) W)) := Lib.hid (fun W => List_any 64 A W (by decide) (by decide) hA)
  have HWd : Hid (∀ g cp W, 64 ≤ cp → cp ≤ 9223372036854775807 → Bo W g 64 (bitf A) → Calls Tryd.prog 51 #[.slice (some ⟨g, 0, none⟩) 64 cp] W fun e w' => e = .returned (.int .u64 A) ∧ W = w') := Lib.hid (fun g cp W h1 h2 h3 => by
    have := Word_any g cp 64 (bitf A) W (by decide) h1 h2 h3
    rw [vl_bitf, Nat.pow_zero, Nat.div_one, Nat.mod_eq_of_lt hA] at this
    exact this)
  have hb := bitf_63 A hA
  have HB63 := Lib.hid hb
  have HA2 := Lib.hid hA
  clear hb
  by_cases hs : A < 9223372036854775808
  · rw [if_pos hs]
    have HD : Hid (∀ W, Calls Tryd.prog 52 #[.int .u64 A, .int .u64 10] W fun e w' => e = .returned (.string (bs (Lib.decDigits A))) ∧ Below W.heap.size W w') := Lib.hid (fun W => Digits_ok A hA W)
    have HT : Hid (bitf A 63 = false) := Lib.hid (by rw [HB63.out]; simp; omega)
    generalize bs (Lib.decDigits A) = X at HD
    clear hA hs
    go_enter Tryd.func22, Tryd.ntmps22
    go_wp2_with (first
      | (go_at_call 50; (with_reducible refine (HLs.out _).mono ?_); (rintro e w1 ⟨g, cp, rfl, h1, h2, h3, h4, h5⟩)
         have HO := Lib.hid h3
         have HC1 := Lib.hid h1
         have HC2 := Lib.hid h2
         have HB1 := Lib.hid h5
         have x63 : w1.cell? ⟨g, 63, none⟩ = some (.bool false) := by rw [← HT.out]; exact h3.at_ (by decide)
         clear h1 h2 h3 h4 h5)
      | (go_at_call 51; (with_reducible refine (HWd.out _ _ _ HC1.out HC2.out HO.out).mono ?_); rintro e w2 ⟨rfl, rfl⟩)
      | (go_at_call 52; (with_reducible refine (HD.out _).mono ?_); rintro e w3 ⟨rfl, hb⟩; have HB2 := Lib.hid (HB1.out.trans (hb.mono HB1.out.size)); clear hb))
    go_ret
    exact ⟨rfl, HB2.out⟩
  · rw [if_neg hs]
    have HD : Hid (∀ W, Calls Tryd.prog 52 #[.int .u64 ((18446744073709551616 - A : Nat) : Int), .int .u64 10] W fun e w' => e = .returned (.string (bs (Lib.decDigits (18446744073709551616 - A)))) ∧ Below W.heap.size W w') := Lib.hid (fun W => Digits_ok _ (by omega) W)
    have HT : Hid (bitf A 63 = true) := Lib.hid (by rw [HB63.out]; simp; omega)
    have f : Op.stringOp .add ⟨#[45]⟩ (bs (Lib.decDigits (18446744073709551616 - A))) = pure (.string (bs (45 :: Lib.decDigits (18446744073709551616 - A)))) := cat_bs [45] _ (by have := dec_len20 (18446744073709551616 - A) (by omega); simp; omega)
    generalize bs (45 :: Lib.decDigits (18446744073709551616 - A)) = X2 at f
    generalize bs (Lib.decDigits (18446744073709551616 - A)) = X at HD f
    have e1 : (18446744073709551615 : Int) - (A : Int) + 1 = ((18446744073709551616 - A : Nat) : Int) := by omega
    rw [← e1] at HD
    clear e1
    go_enter Tryd.func22, Tryd.ntmps22
    go_wp2_with (first
      | (go_at_call 50; (with_reducible refine (HLs.out _).mono ?_); (rintro e w1 ⟨g, cp, rfl, h1, h2, h3, h4, h5⟩)
         have HO := Lib.hid h3
         have HC1 := Lib.hid h1
         have HC2 := Lib.hid h2
         have HB1 := Lib.hid h5
         have x63 : w1.cell? ⟨g, 63, none⟩ = some (.bool true) := by rw [← HT.out]; exact h3.at_ (by decide)
         clear h1 h2 h3 h4 h5)
      | (go_at_call 51; (with_reducible refine (HWd.out _ _ _ HC1.out HC2.out HO.out).mono ?_); rintro e w2 ⟨rfl, rfl⟩))
    go_wp2_with (go_at_call 52; (with_reducible refine (HD.out _).mono ?_); rintro e w3 ⟨rfl, hb⟩; have HB2 := Lib.hid (HB1.out.trans (hb.mono HB1.out.size)); clear hb)
    go_ret
    exact ⟨rfl, HB2.out⟩
/-- a word of 64 bits, told with its sign -/
theorem RPrint_i64 (a : Int) (h0 : -9223372036854775808 ≤ a) (h1 : a ≤ 9223372036854775807) (w : World) :
    Calls Tryd.prog 22 #[.int .i64 64, .int .u64 (IntKind.u64.wrap a)] w fun e w' => e = .returned (.string (bs (Lib.itoa a))) ∧ Below w.heap.size w w' := by
  by_cases hn : 0 ≤ a
  · obtain ⟨n, rfl⟩ : ∃ n : Nat, a = (n : Int) := ⟨a.toNat, by omega⟩
    have e : IntKind.u64.wrap (n : Int) = ((n : Nat) : Int) := by unfold IntKind.wrap; simp [IntKind.min, IntKind.bits]; omega
    have h := RPrint_gen n (by omega) w
    rw [if_pos (by omega)] at h
    rw [e, Lib.itoa_nonneg]
    exact h
  · obtain ⟨n, rfl, hn1⟩ : ∃ n : Nat, a = -(n : Int) ∧ 1 ≤ n := ⟨(-a).toNat, by omega, by omega⟩
    have e : IntKind.u64.wrap (-(n : Int)) = ((18446744073709551616 - n : Nat) : Int) := by unfold IntKind.wrap; simp [IntKind.min, IntKind.bits, IntKind.signed]; omega
    have h := RPrint_gen (18446744073709551616 - n) (by omega) w
    rw [if_neg (by omega), show 18446744073709551616 - (18446744073709551616 - n) = n by omega] at h
    rw [e, Lib.itoa_neg n hn1]
    exact h
end Go.Proofs.YtalpkdnnclghaaaDoor
