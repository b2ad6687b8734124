/-
  The document's own Digits and Read, in tens and in sixteens.
-/
import Derived.Test.YtmbnaejoiglckaaDoorKc
import Derived.Deep.QuietTactic
import Derived.BigQuiet
import Derived.PlainAid
namespace Go.Proofs.YtmbnaejoiglckaaDoor
open Go.RowKit Go.ChangeShapes Go.WideShapes Go.ChangeAt
set_option linter.unusedVariables false
set_option linter.unusedSimpArgs false
theorem bdN {B : Nat} {w w' : World} (h : Below B w w') (n : Nat) : Below B w (w'.drewN n) := ⟨h.os, h.tape, h.output, h.size, h.block⟩
theorem bt_bs (s : List UInt8) (k : Nat) : Go.PlainAid.bt (bs s) k = ((s.getD k 0).toNat : Int) := by
  unfold Go.PlainAid.bt
  by_cases h : k < (bs s).size
  · rw [dif_pos h]
    have h' : k < s.length := by rwa [bs_size] at h
    rw [List.getD_eq_getElem?_getD, List.getElem?_eq_getElem h']
    rfl
  · rw [dif_neg h]
    have h' : s.length ≤ k := by rw [bs_size] at h; omega
    rw [List.getD_eq_getElem?_getD, List.getElem?_eq_none h']; rfl
theorem u8_toNat (c : UInt8) (n : Nat) (hn : n < 256) : ((c.toNat : Int) == (n : Int)) = (c == UInt8.ofNat n) := by
  rw [Bool.eq_iff_iff, beq_iff_eq, beq_iff_eq]
  constructor
  · intro h; apply UInt8.toNat_inj.1; rw [UInt8.toNat_ofNat_of_lt' (by simpa using hn)]; omega
  · intro h; rw [h, UInt8.toNat_ofNat_of_lt' (by simpa using hn)]
theorem drop_one (s : List UInt8) (k : Nat) (h : k < s.length) : s.drop k = s.getD k 0 :: s.drop (k + 1) := by
  rw [List.drop_eq_getElem_cons h, List.getD_eq_getElem?_getD, List.getElem?_eq_getElem h]; rfl
/-- the digits of what is left, ahead of those that there are -/
def dgs (m : Nat) (t : List UInt8) : List UInt8 := if t = [] ∨ 0 < m then Lib.decDigits m ++ t else t
theorem dgs_step (m : Nat) (t : List UInt8) (h : t = [] ∨ 0 < m) : dgs m t = dgs (m / 10) (UInt8.ofNat (48 + m % 10) :: t) := by
  unfold dgs
  rw [if_pos h]
  by_cases h10 : m < 10
  · rw [Lib.decDigits_one h10, if_neg (by simp; omega), Nat.mod_eq_of_lt h10]; rfl
  · rw [Lib.decDigits, dif_neg h10, if_pos (.inr (by omega))]; simp
def hexS : ByteArray := ⟨#[48, 49, 50, 51, 52, 53, 54, 55, 56, 57, 97, 98, 99, 100, 101, 102]⟩
theorem hex_ext (r : Nat) (h : r < 10) : hexS.extract r (r + 1) = bs [UInt8.ofNat (48 + r)] := by
  have : ∀ r : Fin 10, hexS.extract r.val (r.val + 1) = bs [UInt8.ofNat (48 + r.val)] := by decide +kernel
  exact this ⟨r, h⟩
def mzD (v0 v5 : Value) : Nat := (intOf v0).toNat + (match v5 with | .string s => if s.size = 0 then 1 else 0 | _ => 0)
theorem mzD_eq (m : Nat) (t : List UInt8) : mzD (.int .u64 m) (.string (bs t)) = m + if t = [] then 1 else 0 := by
  unfold mzD
  simp only [intOf, Int.toNat_natCast, bs_size, List.length_eq_zero_iff]
set_option maxHeartbeats 4000000 in
set_option maxRecDepth 100000 in
theorem Digits10 (n : Nat) (hn : n < 18446744073709551616) (w : World) :
    Calls Tryd.prog 30 #[.int .u64 n, .int .u64 10] w fun e w' => e = .returned (.string (bs (Lib.decDigits n))) ∧ Below w.heap.size w w' := by
  have HN := Lib.hid hn
  have HLn := Lib.hid (dec_len 19 n (by omega))
  clear hn
  generalize hD9 : Lib.decDigits n = D9 at HLn
  have HD9 := Lib.hid hD9
  clear hD9
  go_enter Tryd.func30, Tryd.ntmps30
  go_wp2
  go_loopw [0, 5] (fun v0 v5 wr => ∃ m : Nat, ∃ t : List UInt8, v0 = .int .u64 m ∧ v5 = .string (bs t) ∧ Hid (m < 18446744073709551616) ∧ Hid (D9 = dgs m t) ∧ t.length ≤ D9.length ∧ ∃ d, Hid (wr = w.drewN d)) (fun v0 v5 _ => mzD v0 v5)
  case atStart => exact ⟨n, [], rfl, rfl, HN, Lib.hid (by rw [← HD9.out]; unfold dgs; simp), by simp, 0, Lib.hid rfl⟩
  case round =>
    obtain ⟨m, t, rfl, rfl, hm, HE, ht, d, HD⟩ := hrel
    obtain rfl := HD.out
    clear HD
    by_cases h0 : t = []
    · have hgo : t = [] ∨ 0 < m := .inl h0
      have k1 : (m : Int).tmod 10 = ((m % 10 : Nat) : Int) := by rw [Int.tmod_eq_emod_of_nonneg (by omega)]; omega
      have hr : m % 10 < 10 := Nat.mod_lt _ (by decide)
      have he : (⟨#[48, 49, 50, 51, 52, 53, 54, 55, 56, 57, 97, 98, 99, 100, 101, 102]⟩ : ByteArray).extract (m % 10) (m % 10 + 1) = bs [UInt8.ofNat (48 + m % 10)] := hex_ext _ hr
      have f := cat_bs [UInt8.ofNat (48 + m % 10)] t (by have := HLn.out; simp; omega)
      have HS := Lib.hid (dgs_step m t hgo)
      have HM := Lib.hid (mzD_eq m t)
      have HM2 := Lib.hid (mzD_eq (m / 10) ([UInt8.ofNat (48 + m % 10)] ++ t))
      have hm2 := hm.out
      have hT : Hid (([UInt8.ofNat (48 + m % 10)] ++ t).length ≤ D9.length) := Lib.hid (by
        rw [HE.out, HS.out]; unfold dgs; split <;> simp)
      have hXt : (bs t).toList = t := by rw [Lib.toList_data]; simp [bs]
      generalize hX : bs t = X at f HM hXt
      clear hX
      generalize hX2 : bs ([UInt8.ofNat (48 + m % 10)] ++ t) = X2 at f HM2
      have HX2 := Lib.hid hX2
      clear hX2
      generalize bs [UInt8.ofNat (48 + m % 10)] = X1 at f he
      generalize hr9 : m % 10 = r at k1 hr he
      have HR9 := Lib.hid hr9
      have k2 : IntKind.u64.wrap ((r : Int) + 1) = (r : Int) + 1 := by unfold IntKind.wrap; simp [IntKind.min, IntKind.bits]; omega
      have k3 : (0 : Int) ≤ (r : Int) := by omega
      have k4 : (r : Int) + 1 ≤ 16 := by omega
      clear hr9
      have q0 : X.toList = [] := by rw [hXt, h0]
      have HT0 := Lib.hid h0
      clear hXt h0 hgo
      go_wp2_with fail
      go_quiet (fail)
      go_wp2
      go_roundw
      case rel => exact ⟨m / 10, [UInt8.ofNat (48 + r)] ++ t, by go_num, by rw [← HX2.out, HR9.out], Lib.hid (by omega), Lib.hid (by rw [HE.out, HS.out, HR9.out]; rfl), by have := hT.out; rwa [HR9.out] at this, _, Lib.hid rfl⟩
      case measure =>
        have g1 := HM.out
        have g2 := HM2.out
        have e9 : ((m : Int) / 10) = ((m / 10 : Nat) : Int) := by omega
        show mzD (.int .u64 ((m : Int) / 10)) (.string X2) < mzD (.int .u64 (m : Int)) (.string X)
        rw [e9, g1, g2]
        simp only [List.singleton_append, reduceCtorEq, if_false]
        rw [if_pos HT0.out]; omega
    · by_cases h1 : 0 < m
      · have hgo : t = [] ∨ 0 < m := .inr h1
        have k1 : (m : Int).tmod 10 = ((m % 10 : Nat) : Int) := by rw [Int.tmod_eq_emod_of_nonneg (by omega)]; omega
        have hr : m % 10 < 10 := Nat.mod_lt _ (by decide)
        have he : (⟨#[48, 49, 50, 51, 52, 53, 54, 55, 56, 57, 97, 98, 99, 100, 101, 102]⟩ : ByteArray).extract (m % 10) (m % 10 + 1) = bs [UInt8.ofNat (48 + m % 10)] := hex_ext _ hr
        have f := cat_bs [UInt8.ofNat (48 + m % 10)] t (by have := HLn.out; simp; omega)
        have HS := Lib.hid (dgs_step m t hgo)
        have HM := Lib.hid (mzD_eq m t)
        have HM2 := Lib.hid (mzD_eq (m / 10) ([UInt8.ofNat (48 + m % 10)] ++ t))
        have hm2 := hm.out
        have hT : Hid (([UInt8.ofNat (48 + m % 10)] ++ t).length ≤ D9.length) := Lib.hid (by
          rw [HE.out, HS.out]; unfold dgs; split <;> simp)
        have hXt : (bs t).toList = t := by rw [Lib.toList_data]; simp [bs]
        generalize hX : bs t = X at f HM hXt
        clear hX
        generalize hX2 : bs ([UInt8.ofNat (48 + m % 10)] ++ t) = X2 at f HM2
        have HX2 := Lib.hid hX2
        clear hX2
        generalize bs [UInt8.ofNat (48 + m % 10)] = X1 at f he
        generalize hr9 : m % 10 = r at k1 hr he
        have HR9 := Lib.hid hr9
        have k2 : IntKind.u64.wrap ((r : Int) + 1) = (r : Int) + 1 := by unfold IntKind.wrap; simp [IntKind.min, IntKind.bits]; omega
        have k3 : (0 : Int) ≤ (r : Int) := by omega
        have k4 : (r : Int) + 1 ≤ 16 := by omega
        clear hr9
        have q0 : ¬ X.toList = [] := by rw [hXt]; exact h0
        have q1 : X.toList.isEmpty = false := by
          cases hx : X.toList with
          | nil => exact absurd hx q0
          | cons a l => rfl
        have q2 : (0 : Int) < (m : Int) := by omega
        clear hXt h0 hgo
        go_wp2_with fail
        go_quiet (fail)
        go_wp2
        go_roundw
        case rel => exact ⟨m / 10, [UInt8.ofNat (48 + r)] ++ t, by go_num, by rw [← HX2.out, HR9.out], Lib.hid (by omega), Lib.hid (by rw [HE.out, HS.out, HR9.out]; rfl), by have := hT.out; rwa [HR9.out] at this, _, Lib.hid rfl⟩
        case measure =>
          have g1 := HM.out
          have g2 := HM2.out
          have e9 : ((m : Int) / 10) = ((m / 10 : Nat) : Int) := by omega
          show mzD (.int .u64 ((m : Int) / 10)) (.string X2) < mzD (.int .u64 (m : Int)) (.string X)
          rw [e9, g1, g2]
          simp only [List.singleton_append, reduceCtorEq, if_false]
          split <;> omega
      · obtain rfl : m = 0 := by omega
        have hXt : (bs t).toList = t := by rw [Lib.toList_data]; simp [bs]
        have HD2 : Hid (D9 = t) := Lib.hid (by rw [HE.out]; unfold dgs; rw [if_neg (by simp [h0])])
        generalize hX : bs t = X at hXt
        have HX := Lib.hid hX
        have q0 : ¬ X.toList = [] := by rw [hXt]; exact h0
        have q1 : X.toList.isEmpty = false := by
          cases hx : X.toList with
          | nil => exact absurd hx q0
          | cons a l => rfl
        clear hXt hX h0 h1
        go_wp2
        go_ret
        exact ⟨by rw [HD2.out, HX.out]; rfl, bdN (Below.refl _ _) _⟩
def dgh (m : Nat) (t : List UInt8) : List UInt8 := if t = [] ∨ 0 < m then hexDigits m ++ t else t
theorem dgh_step (m : Nat) (t : List UInt8) (h : t = [] ∨ 0 < m) : dgh m t = dgh (m / 16) (hxD (m % 16) :: t) := by
  unfold dgh
  rw [if_pos h]
  by_cases h10 : m < 16
  · rw [hex_one h10, if_neg (by simp; omega), Nat.mod_eq_of_lt h10]; rfl
  · rw [hexDigits, dif_neg h10, if_pos (.inr (by omega))]; simp
theorem hex_ext16 (r : Nat) (h : r < 16) : hexS.extract r (r + 1) = bs [hxD r] := by
  have : ∀ r : Fin 16, hexS.extract r.val (r.val + 1) = bs [hxD r.val] := by decide +kernel
  exact this ⟨r, h⟩
set_option maxHeartbeats 4000000 in
set_option maxRecDepth 100000 in
theorem Digits16 (n : Nat) (hn : n < 18446744073709551616) (w : World) :
    Calls Tryd.prog 30 #[.int .u64 n, .int .u64 16] w fun e w' => e = .returned (.string (bs (hexDigits n))) ∧ Below w.heap.size w w' := by
  have HN := Lib.hid hn
  have HLn := Lib.hid (hex_len 15 n (by omega))
  clear hn
  generalize hD9 : hexDigits n = D9 at HLn
  have HD9 := Lib.hid hD9
  clear hD9
  go_enter Tryd.func30, Tryd.ntmps30
  go_wp2
  go_loopw [0, 5] (fun v0 v5 wr => ∃ m : Nat, ∃ t : List UInt8, v0 = .int .u64 m ∧ v5 = .string (bs t) ∧ Hid (m < 18446744073709551616) ∧ Hid (D9 = dgh m t) ∧ t.length ≤ D9.length ∧ ∃ d, Hid (wr = w.drewN d)) (fun v0 v5 _ => mzD v0 v5)
  case atStart => exact ⟨n, [], rfl, rfl, HN, Lib.hid (by rw [← HD9.out]; unfold dgh; simp), by simp, 0, Lib.hid rfl⟩
  case round =>
    obtain ⟨m, t, rfl, rfl, hm, HE, ht, d, HD⟩ := hrel
    obtain rfl := HD.out
    clear HD
    by_cases h0 : t = []
    · have hgo : t = [] ∨ 0 < m := .inl h0
      have k1 : (m : Int).tmod 16 = ((m % 16 : Nat) : Int) := by rw [Int.tmod_eq_emod_of_nonneg (by omega)]; omega
      have hr : m % 16 < 16 := Nat.mod_lt _ (by decide)
      have he : (⟨#[48, 49, 50, 51, 52, 53, 54, 55, 56, 57, 97, 98, 99, 100, 101, 102]⟩ : ByteArray).extract (m % 16) (m % 16 + 1) = bs [hxD (m % 16)] := hex_ext16 _ hr
      have f := cat_bs [hxD (m % 16)] t (by have := HLn.out; simp; omega)
      have HS := Lib.hid (dgh_step m t hgo)
      have HM := Lib.hid (mzD_eq m t)
      have HM2 := Lib.hid (mzD_eq (m / 16) ([hxD (m % 16)] ++ t))
      have hm2 := hm.out
      have hT : Hid (([hxD (m % 16)] ++ t).length ≤ D9.length) := Lib.hid (by
        rw [HE.out, HS.out]; unfold dgh; split <;> simp)
      have hXt : (bs t).toList = t := by rw [Lib.toList_data]; simp [bs]
      generalize hX : bs t = X at f HM hXt
      clear hX
      generalize hX2 : bs ([hxD (m % 16)] ++ t) = X2 at f HM2
      have HX2 := Lib.hid hX2
      clear hX2
      generalize bs [hxD (m % 16)] = X1 at f he
      generalize hr9 : m % 16 = r at k1 hr he
      have HR9 := Lib.hid hr9
      have k2 : IntKind.u64.wrap ((r : Int) + 1) = (r : Int) + 1 := by unfold IntKind.wrap; simp [IntKind.min, IntKind.bits]; omega
      have k3 : (0 : Int) ≤ (r : Int) := by omega
      have k4 : (r : Int) + 1 ≤ 16 := by omega
      clear hr9
      have q0 : X.toList = [] := by rw [hXt, h0]
      have HT0 := Lib.hid h0
      clear hXt h0 hgo
      go_wp2_with fail
      go_quiet (fail)
      go_wp2
      go_roundw
      case rel => exact ⟨m / 16, [hxD r] ++ t, by go_num, by rw [← HX2.out, HR9.out], Lib.hid (by omega), Lib.hid (by rw [HE.out, HS.out, HR9.out]; rfl), by have := hT.out; rwa [HR9.out] at this, _, Lib.hid rfl⟩
      case measure =>
        have g1 := HM.out
        have g2 := HM2.out
        have e9 : ((m : Int) / 16) = ((m / 16 : Nat) : Int) := by omega
        show mzD (.int .u64 ((m : Int) / 16)) (.string X2) < mzD (.int .u64 (m : Int)) (.string X)
        rw [e9, g1, g2]
        simp only [List.singleton_append, reduceCtorEq, if_false]
        rw [if_pos HT0.out]; omega
    · by_cases h1 : 0 < m
      · have hgo : t = [] ∨ 0 < m := .inr h1
        have k1 : (m : Int).tmod 16 = ((m % 16 : Nat) : Int) := by rw [Int.tmod_eq_emod_of_nonneg (by omega)]; omega
        have hr : m % 16 < 16 := Nat.mod_lt _ (by decide)
        have he : (⟨#[48, 49, 50, 51, 52, 53, 54, 55, 56, 57, 97, 98, 99, 100, 101, 102]⟩ : ByteArray).extract (m % 16) (m % 16 + 1) = bs [hxD (m % 16)] := hex_ext16 _ hr
        have f := cat_bs [hxD (m % 16)] t (by have := HLn.out; simp; omega)
        have HS := Lib.hid (dgh_step m t hgo)
        have HM := Lib.hid (mzD_eq m t)
        have HM2 := Lib.hid (mzD_eq (m / 16) ([hxD (m % 16)] ++ t))
        have hm2 := hm.out
        have hT : Hid (([hxD (m % 16)] ++ t).length ≤ D9.length) := Lib.hid (by
          rw [HE.out, HS.out]; unfold dgh; split <;> simp)
        have hXt : (bs t).toList = t := by rw [Lib.toList_data]; simp [bs]
        generalize hX : bs t = X at f HM hXt
        clear hX
        generalize hX2 : bs ([hxD (m % 16)] ++ t) = X2 at f HM2
        have HX2 := Lib.hid hX2
        clear hX2
        generalize bs [hxD (m % 16)] = X1 at f he
        generalize hr9 : m % 16 = r at k1 hr he
        have HR9 := Lib.hid hr9
        have k2 : IntKind.u64.wrap ((r : Int) + 1) = (r : Int) + 1 := by unfold IntKind.wrap; simp [IntKind.min, IntKind.bits]; omega
        have k3 : (0 : Int) ≤ (r : Int) := by omega
        have k4 : (r : Int) + 1 ≤ 16 := by omega
        clear hr9
        have q0 : ¬ X.toList = [] := by rw [hXt]; exact h0
        have q1 : X.toList.isEmpty = false := by
          cases hx : X.toList with
          | nil => exact absurd hx q0
          | cons a l => rfl
        have q2 : (0 : Int) < (m : Int) := by omega
        clear hXt h0 hgo
        go_wp2_with fail
        go_quiet (fail)
        go_wp2
        go_roundw
        case rel => exact ⟨m / 16, [hxD r] ++ t, by go_num, by rw [← HX2.out, HR9.out], Lib.hid (by omega), Lib.hid (by rw [HE.out, HS.out, HR9.out]; rfl), by have := hT.out; rwa [HR9.out] at this, _, Lib.hid rfl⟩
        case measure =>
          have g1 := HM.out
          have g2 := HM2.out
          have e9 : ((m : Int) / 16) = ((m / 16 : Nat) : Int) := by omega
          show mzD (.int .u64 ((m : Int) / 16)) (.string X2) < mzD (.int .u64 (m : Int)) (.string X)
          rw [e9, g1, g2]
          simp only [List.singleton_append, reduceCtorEq, if_false]
          split <;> omega
      · obtain rfl : m = 0 := by omega
        have hXt : (bs t).toList = t := by rw [Lib.toList_data]; simp [bs]
        have HD2 : Hid (D9 = t) := Lib.hid (by rw [HE.out]; unfold dgh; rw [if_neg (by simp [h0])])
        generalize hX : bs t = X at hXt
        have HX := Lib.hid hX
        have q0 : ¬ X.toList = [] := by rw [hXt]; exact h0
        have q1 : X.toList.isEmpty = false := by
          cases hx : X.toList with
          | nil => exact absurd hx q0
          | cons a l => rfl
        clear hXt hX h0 h1
        go_wp2
        go_ret
        exact ⟨by rw [HD2.out, HX.out]; rfl, bdN (Below.refl _ _) _⟩
def RdP (o : Option Nat) (w : World) (e : Ending) (w' : World) : Prop := e = .returned (.tuple #[.int .u64 ((o.getD 0 : Nat) : Int), .bool o.isSome]) ∧ w = w'
set_option maxHeartbeats 4000000 in
set_option maxRecDepth 100000 in
theorem Read10 (s : List UInt8) (hs : s.length ≤ 1000) (M : Nat) (hM0 : 16 ≤ M) (hM : M < 18446744073709551616) (w : World) :
    Calls Tryd.prog 50 #[.string (bs s), .int .u64 10, .int .u64 M] w (RdP (rdB 10 M s) w) := by
  have hb := Go.PlainAid.get_bt (bs s)
  have HBT := Lib.hid (bt_bs s)
  have hsz := bs_size s
  have hX : (bs s).toList = s := by rw [Lib.toList_data]; simp [bs]
  obtain ⟨tot, htot⟩ : ∃ tot, tot = rdB 10 M s := ⟨_, rfl⟩
  rw [← htot]
  generalize bs s = S at hb HBT hsz hX
  have hS9 : S.size ≤ 1000 := by omega
  by_cases h0 : s = []
  · have HR : Hid (tot = none) := Lib.hid (by rw [htot, rdB, if_pos (.inl h0)])
    have q0 : S.toList = [] := by rw [hX, h0]
    clear htot h0 hX hsz
    go_enter Tryd.func50, Tryd.ntmps50
    go_wp2
    go_ret2
    exact ⟨by rw [HR.out]; rfl, rfl⟩
  · have q0 : ¬ S.toList = [] := by rw [hX]; exact h0
    have q1 : S.toList.isEmpty = false := by
      cases hx : S.toList with
      | nil => exact absurd hx q0
      | cons a l => rfl
    have hl0 : 0 < s.length := List.length_pos_iff.2 h0
    by_cases hz : 1 < s.length ∧ s.getD 0 0 = 48
    · have HR : Hid (tot = none) := Lib.hid (by rw [htot, rdB, if_pos (.inr hz)])
      have q2 : (1 : Int) < (S.size : Int) := by omega
      have q3 : (Go.PlainAid.bt S 0 == 48) = true := by rw [HBT.out, hz.2]; rfl
      have q4 : 0 < S.size := by omega
      clear htot h0 hX hsz hz hl0
      go_enter Tryd.func50, Tryd.ntmps50
      go_wp2
      go_ret2
      exact ⟨by rw [HR.out]; rfl, rfl⟩
    · have HT : Hid (tot = rdg 10 M 0 (s.drop 0)) := Lib.hid (by
        rw [htot, rdB, if_neg]; rfl
        rintro (e | e)
        · exact h0 e
        · exact hz e)
      have HSZ := Lib.hid hsz
      have hq : (¬ (1 : Int) < (S.size : Int)) ∨ ((1 : Int) < (S.size : Int) ∧ (Go.PlainAid.bt S 0 == 48) = false) := by
        by_cases h1 : 1 < s.length
        · refine .inr ⟨by omega, ?_⟩
          rw [HBT.out]
          have : s.getD 0 0 ≠ 48 := fun e => hz ⟨h1, e⟩
          have h2 := u8_toNat (s.getD 0 0) 48 (by decide)
          have h3 : (((s.getD 0 0).toNat : Int) == 48) = (s.getD 0 0 == 48) := h2
          rw [h3]; simpa using this
        · exact .inl (by omega)
      have q4 : 0 < S.size := by omega
      clear htot h0 hX hsz hz hl0
      rcases hq with hq | ⟨hq, hq'⟩
      ·
        go_enter Tryd.func50, Tryd.ntmps50
        go_wp2
        go_loop [8, 9] (fun v8 v9 => ∃ k v : Nat, k ≤ S.size ∧ v9 = .int .i64 k ∧ v8 = .int .u64 v ∧ v ≤ M ∧ Hid (tot = rdg 10 M v (s.drop k))) (fun _ v9 => S.size - (intOf v9).toNat)
        case atStart => exact ⟨0, 0, by omega, rfl, rfl, by omega, HT⟩
        case round =>
          clear HT
          obtain ⟨k, v, hk, rfl, rfl, hv, HT⟩ := hrel
          by_cases hlt : k < S.size
          · have hlt2 : k < s.length := by have := HSZ.out; omega
            have HT2 := Lib.hid (HT.out.trans (by rw [drop_one s k hlt2, rdg]))
            have hx := HBT.out k
            have hc9 : (s.getD k 0).toNat < 256 := (s.getD k 0).toNat_lt
            have HDV : Hid (dv (s.getD k 0) = if 48 ≤ (s.getD k 0).toNat ∧ (s.getD k 0).toNat ≤ 57 then (s.getD k 0).toNat - 48 else if 97 ≤ (s.getD k 0).toNat ∧ (s.getD k 0).toNat ≤ 102 then (s.getD k 0).toNat - 87 else 99) := Lib.hid rfl
            clear HT
            generalize (s.getD k 0).toNat = c at hx hc9 HDV
            generalize dv (s.getD k 0) = e at HDV HT2
            by_cases h1 : c < 48
            · have he : e = 99 := by rw [HDV.out, if_neg (by omega), if_neg (by omega)]
              have HR : Hid (tot = none) := Lib.hid (by rw [HT2.out, if_pos (.inl (by omega))])
              clear HT2 HDV he
              go_wp2
              go_ret2
              exact ⟨by rw [HR.out]; rfl, rfl⟩
            · by_cases h2 : c ≤ 57
              · have he : e = c - 48 := by rw [HDV.out, if_pos (by omega)]
                subst he
                by_cases h3 : (M - (c - 48)) / 10 < v
                · have HR : Hid (tot = none) := Lib.hid (by rw [HT2.out, if_pos (.inr h3)])
                  have h4 : ((M : Int) - ((c : Int) - 48)) / 10 < (v : Int) := by omega
                  clear HT2 HDV
                  go_wp2
                  go_ret2
                  exact ⟨by rw [HR.out]; rfl, rfl⟩
                · have HR : Hid (tot = rdg 10 M (10 * v + (c - 48)) (s.drop (k + 1))) := Lib.hid (by rw [HT2.out, if_neg (by omega)])
                  have h4 : ¬ ((M : Int) - ((c : Int) - 48)) / 10 < (v : Int) := by omega
                  have h5 : 10 * v + (c - 48) ≤ M := by omega
                  have h6 : 10 * (v : Int) + ((c : Int) - 48) < 18446744073709551616 := by omega
                  clear HT2 HDV
                  go_wp2
                  go_round
                  case rel => exact ⟨k + 1, 10 * v + (c - 48), by omega, by go_num, by congr 1; omega, h5, HR⟩
                  case measure => simp [intOf]; omega
              · by_cases h3 : c < 97
                · have he : e = 99 := by rw [HDV.out, if_neg (by omega), if_neg (by omega)]
                  have HR : Hid (tot = none) := Lib.hid (by rw [HT2.out, if_pos (.inl (by omega))])
                  clear HT2 HDV he
                  go_wp2
                  go_ret2
                  exact ⟨by rw [HR.out]; rfl, rfl⟩
                · by_cases h4 : c ≤ 102
                  · have he : e = c - 87 := by rw [HDV.out, if_neg (by omega), if_pos (by omega)]
                    have HR : Hid (tot = none) := Lib.hid (by rw [HT2.out, if_pos (.inl (by omega))])
                    clear HT2 HDV he
                    go_wp2
                    go_ret2
                    exact ⟨by rw [HR.out]; rfl, rfl⟩
                  · have he : e = 99 := by rw [HDV.out, if_neg (by omega), if_neg (by omega)]
                    have HR : Hid (tot = none) := Lib.hid (by rw [HT2.out, if_pos (.inl (by omega))])
                    clear HT2 HDV he
                    go_wp2
                    go_ret2
                    exact ⟨by rw [HR.out]; rfl, rfl⟩
          · obtain rfl : k = S.size := by omega
            have HR : Hid (tot = some v) := Lib.hid (by rw [HT.out, List.drop_of_length_le (by have := HSZ.out; omega)]; rfl)
            clear HT
            go_wp2
            go_ret2
            exact ⟨by rw [HR.out]; rfl, rfl⟩
      ·
        go_enter Tryd.func50, Tryd.ntmps50
        go_wp2
        go_loop [8, 9] (fun v8 v9 => ∃ k v : Nat, k ≤ S.size ∧ v9 = .int .i64 k ∧ v8 = .int .u64 v ∧ v ≤ M ∧ Hid (tot = rdg 10 M v (s.drop k))) (fun _ v9 => S.size - (intOf v9).toNat)
        case atStart => exact ⟨0, 0, by omega, rfl, rfl, by omega, HT⟩
        case round =>
          clear HT
          obtain ⟨k, v, hk, rfl, rfl, hv, HT⟩ := hrel
          by_cases hlt : k < S.size
          · have hlt2 : k < s.length := by have := HSZ.out; omega
            have HT2 := Lib.hid (HT.out.trans (by rw [drop_one s k hlt2, rdg]))
            have hx := HBT.out k
            have hc9 : (s.getD k 0).toNat < 256 := (s.getD k 0).toNat_lt
            have HDV : Hid (dv (s.getD k 0) = if 48 ≤ (s.getD k 0).toNat ∧ (s.getD k 0).toNat ≤ 57 then (s.getD k 0).toNat - 48 else if 97 ≤ (s.getD k 0).toNat ∧ (s.getD k 0).toNat ≤ 102 then (s.getD k 0).toNat - 87 else 99) := Lib.hid rfl
            clear HT
            generalize (s.getD k 0).toNat = c at hx hc9 HDV
            generalize dv (s.getD k 0) = e at HDV HT2
            by_cases h1 : c < 48
            · have he : e = 99 := by rw [HDV.out, if_neg (by omega), if_neg (by omega)]
              have HR : Hid (tot = none) := Lib.hid (by rw [HT2.out, if_pos (.inl (by omega))])
              clear HT2 HDV he
              go_wp2
              go_ret2
              exact ⟨by rw [HR.out]; rfl, rfl⟩
            · by_cases h2 : c ≤ 57
              · have he : e = c - 48 := by rw [HDV.out, if_pos (by omega)]
                subst he
                by_cases h3 : (M - (c - 48)) / 10 < v
                · have HR : Hid (tot = none) := Lib.hid (by rw [HT2.out, if_pos (.inr h3)])
                  have h4 : ((M : Int) - ((c : Int) - 48)) / 10 < (v : Int) := by omega
                  clear HT2 HDV
                  go_wp2
                  go_ret2
                  exact ⟨by rw [HR.out]; rfl, rfl⟩
                · have HR : Hid (tot = rdg 10 M (10 * v + (c - 48)) (s.drop (k + 1))) := Lib.hid (by rw [HT2.out, if_neg (by omega)])
                  have h4 : ¬ ((M : Int) - ((c : Int) - 48)) / 10 < (v : Int) := by omega
                  have h5 : 10 * v + (c - 48) ≤ M := by omega
                  have h6 : 10 * (v : Int) + ((c : Int) - 48) < 18446744073709551616 := by omega
                  clear HT2 HDV
                  go_wp2
                  go_round
                  case rel => exact ⟨k + 1, 10 * v + (c - 48), by omega, by go_num, by congr 1; omega, h5, HR⟩
                  case measure => simp [intOf]; omega
              · by_cases h3 : c < 97
                · have he : e = 99 := by rw [HDV.out, if_neg (by omega), if_neg (by omega)]
                  have HR : Hid (tot = none) := Lib.hid (by rw [HT2.out, if_pos (.inl (by omega))])
                  clear HT2 HDV he
                  go_wp2
                  go_ret2
                  exact ⟨by rw [HR.out]; rfl, rfl⟩
                · by_cases h4 : c ≤ 102
                  · have he : e = c - 87 := by rw [HDV.out, if_neg (by omega), if_pos (by omega)]
                    have HR : Hid (tot = none) := Lib.hid (by rw [HT2.out, if_pos (.inl (by omega))])
                    clear HT2 HDV he
                    go_wp2
                    go_ret2
                    exact ⟨by rw [HR.out]; rfl, rfl⟩
                  · have he : e = 99 := by rw [HDV.out, if_neg (by omega), if_neg (by omega)]
                    have HR : Hid (tot = none) := Lib.hid (by rw [HT2.out, if_pos (.inl (by omega))])
                    clear HT2 HDV he
                    go_wp2
                    go_ret2
                    exact ⟨by rw [HR.out]; rfl, rfl⟩
          · obtain rfl : k = S.size := by omega
            have HR : Hid (tot = some v) := Lib.hid (by rw [HT.out, List.drop_of_length_le (by have := HSZ.out; omega)]; rfl)
            clear HT
            go_wp2
            go_ret2
            exact ⟨by rw [HR.out]; rfl, rfl⟩
set_option maxHeartbeats 4000000 in
set_option maxRecDepth 100000 in
theorem Read16 (s : List UInt8) (hs : s.length ≤ 1000) (M : Nat) (hM0 : 16 ≤ M) (hM : M < 18446744073709551616) (w : World) :
    Calls Tryd.prog 50 #[.string (bs s), .int .u64 16, .int .u64 M] w (RdP (rdB 16 M s) w) := by
  have hb := Go.PlainAid.get_bt (bs s)
  have HBT := Lib.hid (bt_bs s)
  have hsz := bs_size s
  have hX : (bs s).toList = s := by rw [Lib.toList_data]; simp [bs]
  obtain ⟨tot, htot⟩ : ∃ tot, tot = rdB 16 M s := ⟨_, rfl⟩
  rw [← htot]
  generalize bs s = S at hb HBT hsz hX
  have hS9 : S.size ≤ 1000 := by omega
  by_cases h0 : s = []
  · have HR : Hid (tot = none) := Lib.hid (by rw [htot, rdB, if_pos (.inl h0)])
    have q0 : S.toList = [] := by rw [hX, h0]
    clear htot h0 hX hsz
    go_enter Tryd.func50, Tryd.ntmps50
    go_wp2
    go_ret2
    exact ⟨by rw [HR.out]; rfl, rfl⟩
  · have q0 : ¬ S.toList = [] := by rw [hX]; exact h0
    have q1 : S.toList.isEmpty = false := by
      cases hx : S.toList with
      | nil => exact absurd hx q0
      | cons a l => rfl
    have hl0 : 0 < s.length := List.length_pos_iff.2 h0
    by_cases hz : 1 < s.length ∧ s.getD 0 0 = 48
    · have HR : Hid (tot = none) := Lib.hid (by rw [htot, rdB, if_pos (.inr hz)])
      have q2 : (1 : Int) < (S.size : Int) := by omega
      have q3 : (Go.PlainAid.bt S 0 == 48) = true := by rw [HBT.out, hz.2]; rfl
      have q4 : 0 < S.size := by omega
      clear htot h0 hX hsz hz hl0
      go_enter Tryd.func50, Tryd.ntmps50
      go_wp2
      go_ret2
      exact ⟨by rw [HR.out]; rfl, rfl⟩
    · have HT : Hid (tot = rdg 16 M 0 (s.drop 0)) := Lib.hid (by
        rw [htot, rdB, if_neg]; rfl
        rintro (e | e)
        · exact h0 e
        · exact hz e)
      have HSZ := Lib.hid hsz
      have hq : (¬ (1 : Int) < (S.size : Int)) ∨ ((1 : Int) < (S.size : Int) ∧ (Go.PlainAid.bt S 0 == 48) = false) := by
        by_cases h1 : 1 < s.length
        · refine .inr ⟨by omega, ?_⟩
          rw [HBT.out]
          have : s.getD 0 0 ≠ 48 := fun e => hz ⟨h1, e⟩
          have h2 := u8_toNat (s.getD 0 0) 48 (by decide)
          have h3 : (((s.getD 0 0).toNat : Int) == 48) = (s.getD 0 0 == 48) := h2
          rw [h3]; simpa using this
        · exact .inl (by omega)
      have q4 : 0 < S.size := by omega
      clear htot h0 hX hsz hz hl0
      rcases hq with hq | ⟨hq, hq'⟩
      ·
        go_enter Tryd.func50, Tryd.ntmps50
        go_wp2
        go_loop [8, 9] (fun v8 v9 => ∃ k v : Nat, k ≤ S.size ∧ v9 = .int .i64 k ∧ v8 = .int .u64 v ∧ v ≤ M ∧ Hid (tot = rdg 16 M v (s.drop k))) (fun _ v9 => S.size - (intOf v9).toNat)
        case atStart => exact ⟨0, 0, by omega, rfl, rfl, by omega, HT⟩
        case round =>
          clear HT
          obtain ⟨k, v, hk, rfl, rfl, hv, HT⟩ := hrel
          by_cases hlt : k < S.size
          · have hlt2 : k < s.length := by have := HSZ.out; omega
            have HT2 := Lib.hid (HT.out.trans (by rw [drop_one s k hlt2, rdg]))
            have hx := HBT.out k
            have hc9 : (s.getD k 0).toNat < 256 := (s.getD k 0).toNat_lt
            have HDV : Hid (dv (s.getD k 0) = if 48 ≤ (s.getD k 0).toNat ∧ (s.getD k 0).toNat ≤ 57 then (s.getD k 0).toNat - 48 else if 97 ≤ (s.getD k 0).toNat ∧ (s.getD k 0).toNat ≤ 102 then (s.getD k 0).toNat - 87 else 99) := Lib.hid rfl
            clear HT
            generalize (s.getD k 0).toNat = c at hx hc9 HDV
            generalize dv (s.getD k 0) = e at HDV HT2
            by_cases h1 : c < 48
            · have he : e = 99 := by rw [HDV.out, if_neg (by omega), if_neg (by omega)]
              have HR : Hid (tot = none) := Lib.hid (by rw [HT2.out, if_pos (.inl (by omega))])
              clear HT2 HDV he
              go_wp2
              go_ret2
              exact ⟨by rw [HR.out]; rfl, rfl⟩
            · by_cases h2 : c ≤ 57
              · have he : e = c - 48 := by rw [HDV.out, if_pos (by omega)]
                subst he
                by_cases h3 : (M - (c - 48)) / 16 < v
                · have HR : Hid (tot = none) := Lib.hid (by rw [HT2.out, if_pos (.inr h3)])
                  have h4 : ((M : Int) - ((c : Int) - 48)) / 16 < (v : Int) := by omega
                  clear HT2 HDV
                  go_wp2
                  go_ret2
                  exact ⟨by rw [HR.out]; rfl, rfl⟩
                · have HR : Hid (tot = rdg 16 M (16 * v + (c - 48)) (s.drop (k + 1))) := Lib.hid (by rw [HT2.out, if_neg (by omega)])
                  have h4 : ¬ ((M : Int) - ((c : Int) - 48)) / 16 < (v : Int) := by omega
                  have h5 : 16 * v + (c - 48) ≤ M := by omega
                  have h6 : 16 * (v : Int) + ((c : Int) - 48) < 18446744073709551616 := by omega
                  clear HT2 HDV
                  go_wp2
                  go_round
                  case rel => exact ⟨k + 1, 16 * v + (c - 48), by omega, by go_num, by congr 1; omega, h5, HR⟩
                  case measure => simp [intOf]; omega
              · by_cases h3 : c < 97
                · have he : e = 99 := by rw [HDV.out, if_neg (by omega), if_neg (by omega)]
                  have HR : Hid (tot = none) := Lib.hid (by rw [HT2.out, if_pos (.inl (by omega))])
                  clear HT2 HDV he
                  go_wp2
                  go_ret2
                  exact ⟨by rw [HR.out]; rfl, rfl⟩
                · by_cases h4 : c ≤ 102
                  · have he : e = c - 87 := by rw [HDV.out, if_neg (by omega), if_pos (by omega)]
                    subst he
                    have hcc : ((c : Int) - 97) + 10 = (c : Int) - 87 := by omega
                    by_cases h5 : (M - (c - 87)) / 16 < v
                    · have HR : Hid (tot = none) := Lib.hid (by rw [HT2.out, if_pos (.inr h5)])
                      have h6 : ((M : Int) - ((c : Int) - 87)) / 16 < (v : Int) := by omega
                      clear HT2 HDV
                      go_wp2
                      go_ret2
                      exact ⟨by rw [HR.out]; rfl, rfl⟩
                    · have HR : Hid (tot = rdg 16 M (16 * v + (c - 87)) (s.drop (k + 1))) := Lib.hid (by rw [HT2.out, if_neg (by omega)])
                      have h6 : ¬ ((M : Int) - ((c : Int) - 87)) / 16 < (v : Int) := by omega
                      have h7 : 16 * v + (c - 87) ≤ M := by omega
                      have h8 : 16 * (v : Int) + ((c : Int) - 87) < 18446744073709551616 := by omega
                      clear HT2 HDV
                      go_wp2
                      go_round
                      case rel => exact ⟨k + 1, 16 * v + (c - 87), by omega, by go_num, by congr 1; omega, h7, HR⟩
                      case measure => simp [intOf]; omega
                  · have he : e = 99 := by rw [HDV.out, if_neg (by omega), if_neg (by omega)]
                    have HR : Hid (tot = none) := Lib.hid (by rw [HT2.out, if_pos (.inl (by omega))])
                    clear HT2 HDV he
                    go_wp2
                    go_ret2
                    exact ⟨by rw [HR.out]; rfl, rfl⟩
          · obtain rfl : k = S.size := by omega
            have HR : Hid (tot = some v) := Lib.hid (by rw [HT.out, List.drop_of_length_le (by have := HSZ.out; omega)]; rfl)
            clear HT
            go_wp2
            go_ret2
            exact ⟨by rw [HR.out]; rfl, rfl⟩
      ·
        go_enter Tryd.func50, Tryd.ntmps50
        go_wp2
        go_loop [8, 9] (fun v8 v9 => ∃ k v : Nat, k ≤ S.size ∧ v9 = .int .i64 k ∧ v8 = .int .u64 v ∧ v ≤ M ∧ Hid (tot = rdg 16 M v (s.drop k))) (fun _ v9 => S.size - (intOf v9).toNat)
        case atStart => exact ⟨0, 0, by omega, rfl, rfl, by omega, HT⟩
        case round =>
          clear HT
          obtain ⟨k, v, hk, rfl, rfl, hv, HT⟩ := hrel
          by_cases hlt : k < S.size
          · have hlt2 : k < s.length := by have := HSZ.out; omega
            have HT2 := Lib.hid (HT.out.trans (by rw [drop_one s k hlt2, rdg]))
            have hx := HBT.out k
            have hc9 : (s.getD k 0).toNat < 256 := (s.getD k 0).toNat_lt
            have HDV : Hid (dv (s.getD k 0) = if 48 ≤ (s.getD k 0).toNat ∧ (s.getD k 0).toNat ≤ 57 then (s.getD k 0).toNat - 48 else if 97 ≤ (s.getD k 0).toNat ∧ (s.getD k 0).toNat ≤ 102 then (s.getD k 0).toNat - 87 else 99) := Lib.hid rfl
            clear HT
            generalize (s.getD k 0).toNat = c at hx hc9 HDV
            generalize dv (s.getD k 0) = e at HDV HT2
            by_cases h1 : c < 48
            · have he : e = 99 := by rw [HDV.out, if_neg (by omega), if_neg (by omega)]
              have HR : Hid (tot = none) := Lib.hid (by rw [HT2.out, if_pos (.inl (by omega))])
              clear HT2 HDV he
              go_wp2
              go_ret2
              exact ⟨by rw [HR.out]; rfl, rfl⟩
            · by_cases h2 : c ≤ 57
              · have he : e = c - 48 := by rw [HDV.out, if_pos (by omega)]
                subst he
                by_cases h3 : (M - (c - 48)) / 16 < v
                · have HR : Hid (tot = none) := Lib.hid (by rw [HT2.out, if_pos (.inr h3)])
                  have h4 : ((M : Int) - ((c : Int) - 48)) / 16 < (v : Int) := by omega
                  clear HT2 HDV
                  go_wp2
                  go_ret2
                  exact ⟨by rw [HR.out]; rfl, rfl⟩
                · have HR : Hid (tot = rdg 16 M (16 * v + (c - 48)) (s.drop (k + 1))) := Lib.hid (by rw [HT2.out, if_neg (by omega)])
                  have h4 : ¬ ((M : Int) - ((c : Int) - 48)) / 16 < (v : Int) := by omega
                  have h5 : 16 * v + (c - 48) ≤ M := by omega
                  have h6 : 16 * (v : Int) + ((c : Int) - 48) < 18446744073709551616 := by omega
                  clear HT2 HDV
                  go_wp2
                  go_round
                  case rel => exact ⟨k + 1, 16 * v + (c - 48), by omega, by go_num, by congr 1; omega, h5, HR⟩
                  case measure => simp [intOf]; omega
              · by_cases h3 : c < 97
                · have he : e = 99 := by rw [HDV.out, if_neg (by omega), if_neg (by omega)]
                  have HR : Hid (tot = none) := Lib.hid (by rw [HT2.out, if_pos (.inl (by omega))])
                  clear HT2 HDV he
                  go_wp2
                  go_ret2
                  exact ⟨by rw [HR.out]; rfl, rfl⟩
                · by_cases h4 : c ≤ 102
                  · have he : e = c - 87 := by rw [HDV.out, if_neg (by omega), if_pos (by omega)]
                    subst he
                    have hcc : ((c : Int) - 97) + 10 = (c : Int) - 87 := by omega
                    by_cases h5 : (M - (c - 87)) / 16 < v
                    · have HR : Hid (tot = none) := Lib.hid (by rw [HT2.out, if_pos (.inr h5)])
                      have h6 : ((M : Int) - ((c : Int) - 87)) / 16 < (v : Int) := by omega
                      clear HT2 HDV
                      go_wp2
                      go_ret2
                      exact ⟨by rw [HR.out]; rfl, rfl⟩
                    · have HR : Hid (tot = rdg 16 M (16 * v + (c - 87)) (s.drop (k + 1))) := Lib.hid (by rw [HT2.out, if_neg (by omega)])
                      have h6 : ¬ ((M : Int) - ((c : Int) - 87)) / 16 < (v : Int) := by omega
                      have h7 : 16 * v + (c - 87) ≤ M := by omega
                      have h8 : 16 * (v : Int) + ((c : Int) - 87) < 18446744073709551616 := by omega
                      clear HT2 HDV
                      go_wp2
                      go_round
                      case rel => exact ⟨k + 1, 16 * v + (c - 87), by omega, by go_num, by congr 1; omega, h7, HR⟩
                      case measure => simp [intOf]; omega
                  · have he : e = 99 := by rw [HDV.out, if_neg (by omega), if_neg (by omega)]
                    have HR : Hid (tot = none) := Lib.hid (by rw [HT2.out, if_pos (.inl (by omega))])
                    clear HT2 HDV he
                    go_wp2
                    go_ret2
                    exact ⟨by rw [HR.out]; rfl, rfl⟩
          · obtain rfl : k = S.size := by omega
            have HR : Hid (tot = some v) := Lib.hid (by rw [HT.out, List.drop_of_length_le (by have := HSZ.out; omega)]; rfl)
            clear HT
            go_wp2
            go_ret2
            exact ⟨by rw [HR.out]; rfl, rfl⟩
end Go.Proofs.YtmbnaejoiglckaaDoor
