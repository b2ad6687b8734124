/-
  strconv.ParseUint in sixteens.
-/
import Derived.Test.YtggfaalodojjkaaGreatDoorVKc
import Derived.Lib.ConvBytes
namespace Go.Proofs.YtggfaalodojjkaaGreatDoor
open Go.RowKit Go.ChangeShapes Go.WideShapes Go.ChangeAt
set_option linter.unusedVariables false
set_option linter.unusedSimpArgs false
def IP (o : Option Nat) (w : World) (e : Ending) (w' : World) : Prop :=
  ((∃ v : Nat, o = some v ∧ e = .returned (.tuple #[.int .u64 (v : Int), .nilIface])) ∨ (o = none ∧ ∃ (x k : Int), (k = 1 ∨ k = 2) ∧ e = .returned (.tuple #[.int .u64 x, .iface 247 (.int .i64 k)]))) ∧ Below w.heap.size w w'
theorem u8_or32 (c : Nat) (h : c < 256) : bits BinOp.or IntKind.u8 (c : Int) 32 = ((c ||| 32 : Nat) : Int) := by
  have : ∀ k : Fin 256, bits BinOp.or IntKind.u8 (k.val : Int) 32 = ((k.val ||| 32 : Nat) : Int) := by decide +kernel
  exact this ⟨c, h⟩
theorem or32_facts (c : Nat) (h : c < 256) : c ||| 32 < 256 ∧ (c < 48 → c ||| 32 < 97) ∧ (c = 95 → c ||| 32 = 127) := by
  have : ∀ k : Fin 256, k.val ||| 32 < 256 ∧ (k.val < 48 → k.val ||| 32 < 97) ∧ (k.val = 95 → k.val ||| 32 = 127) := by decide +kernel
  exact this ⟨c, h⟩
theorem drop_consB (s : List UInt8) (k : Nat) (h : k < s.length) : s.drop k = s.getD k 0 :: s.drop (k + 1) := by
  rw [List.drop_eq_getElem_cons h, List.getD_eq_getElem?_getD, List.getElem?_eq_getElem h]; rfl
theorem bs_empty {s : List UInt8} (h : s ≠ []) : (bs s).toList.isEmpty = false := by
  rw [bs_list]
  cases s with
  | nil => exact absurd rfl h
  | cons a l => rfl
theorem Lib_below (w : World) (s : ByteArray) : Below w.heap.size w (Lib.bytesWorld w 5 s) := Lib.bytesWorld_below w 5 s
set_option maxHeartbeats 8000000 in
set_option maxRecDepth 100000 in
theorem IPU16_32 (s : List UInt8) (hs : s.length ≤ 100) (hne : s ≠ []) (w : World) :
    Calls Tryz.prog 157 #[.string (bs s), .int .i64 16, .int .i64 32] w (IP (puH 4294967295 s) w) := by
  have hemp := bs_empty hne
  have hcv := Lib.run_convert_string_bytes (P := Tryz.prog) w 9 27 5 (bs s) (u := .string) Tryz.underlying9 Tryz.underlying27 Tryz.underlying5
  have hB : ∀ j, j < s.length → (Lib.bytesWorld w 5 (bs s)).cell? ⟨w.heap.size, j, none⟩ = some (.int .u8 ((s.getD j 0).toNat : Int)) := fun j hj => by
    have := Lib.bytesWorld_cell w 5 (bs s) j (by rw [bs_size]; exact hj)
    rw [this]; simp [bs]
  have HBl := Lib.hid (Lib_below w (bs s))
  rw [bs_size] at hcv
  obtain ⟨tot, htot⟩ : ∃ tot, tot = puH 4294967295 s := ⟨_, rfl⟩
  rw [← htot]
  have HT : Hid (tot = px 4294967295 0 (s.drop 0)) := Lib.hid (by rw [htot, puH, if_neg hne]; rfl)
  generalize Lib.bytesWorld w 5 (bs s) = W1 at hcv hB HBl
  generalize grownCap w s.length 0 5 = cap at hcv
  have HBY := Lib.hid hB
  have HN := Lib.hid hs
  have hmv : IntKind.u64.wrap (IntKind.u64.wrap 4294967296 - 1) = 4294967295 := by
    rw [IntKind.wrap_u64, IntKind.wrap_u64]
    decide
  obtain ⟨n, hn⟩ : ∃ n, n = s.length := ⟨_, rfl⟩
  rw [← hn] at hcv hs
  have HNN := Lib.hid hn
  generalize bs s = S at hemp hcv
  clear hne htot hB hn
  go_enter Tryz.func157, Tryz.ntmps157
  go_wp2
  go_loop [12, 13, 101] (fun vu vn vi => ∃ (k v : Nat) (a : Int), vu = .bool false ∧ vn = .int .u64 a ∧ vi = .int .i64 k ∧ k ≤ n ∧ 0 ≤ a ∧ a ≤ 4294967295 ∧ Hid (a = (v : Int)) ∧ Hid (tot = px 4294967295 v (s.drop k))) (fun _ _ vi => n - (intOf vi).toNat)
  case atStart => exact ⟨0, 0, 0, rfl, rfl, rfl, by omega, by omega, by omega, Lib.hid rfl, HT⟩
  case round =>
    clear HT hemp hcv
    obtain ⟨k, v, a, rfl, rfl, rfl, hk, ha0, ha1, HA, HT⟩ := hrel
    by_cases hlt : k < n
    · have hlt2 : k < s.length := by have := HNN.out; omega
      have x0 := HBY.out k hlt2
      have HT2 := Lib.hid (HT.out.trans (by rw [drop_consB s k hlt2, px]))
      have hc : (s.getD k 0).toNat < 256 := (s.getD k 0).toNat_lt
      have HDU : Hid (du (s.getD k 0) = if 48 ≤ (s.getD k 0).toNat ∧ (s.getD k 0).toNat ≤ 57 then (s.getD k 0).toNat - 48 else if 97 ≤ ((s.getD k 0).toNat ||| 32) ∧ ((s.getD k 0).toNat ||| 32) ≤ 122 then ((s.getD k 0).toNat ||| 32) - 87 else 99) := Lib.hid rfl
      obtain ⟨hl1, hl2, hl3⟩ := or32_facts _ hc
      have hor := u8_or32 _ hc
      clear HT
      generalize (s.getD k 0).toNat = c at x0 hc HDU hl1 hl2 hl3 hor
      generalize du (s.getD k 0) = d at HDU HT2
      have LO : Hid (∀ W : World, Calls Tryz.prog 168 #[.int .u8 c] W fun e w' => e = .returned (.int .u8 ((c ||| 32 : Nat) : Int)) ∧ W = w') := Lib.hid (fun W => by
        refine (Tryz.internal_strconv_lower (c : Int) W).mono ?_
        rintro e w' ⟨rfl, rfl⟩
        exact ⟨by rw [hor], rfl⟩)
      clear hor
      generalize c ||| 32 = l at HDU hl1 hl2 hl3 LO
      have EN : Hid (∀ (x : Int), tot = none → IP tot w (.returned (.tuple #[.int .u64 x, .iface 247 (.int .i64 2)])) W1) := Lib.hid (fun x e => ⟨.inr ⟨e, x, 2, .inr rfl, rfl⟩, HBl.out⟩)
      have ER : Hid (∀ (x : Int), tot = none → IP tot w (.returned (.tuple #[.int .u64 x, .iface 247 (.int .i64 1)])) W1) := Lib.hid (fun x e => ⟨.inr ⟨e, x, 1, .inl rfl, rfl⟩, HBl.out⟩)
      have key : (48 ≤ c ∧ c ≤ 57 ∧ Hid (d = c - 48)) ∨ (¬ (48 ≤ c ∧ c ≤ 57) ∧ 97 ≤ l ∧ l ≤ 122 ∧ Hid (d = l - 87)) ∨ (¬ (48 ≤ c ∧ c ≤ 57) ∧ ¬ (97 ≤ l ∧ l ≤ 122) ∧ Hid (tot = none)) := by
        by_cases q1 : 48 ≤ c ∧ c ≤ 57
        · exact .inl ⟨q1.1, q1.2, Lib.hid (by rw [HDU.out, if_pos q1])⟩
        · by_cases q2 : 97 ≤ l ∧ l ≤ 122
          · exact .inr (.inl ⟨q1, q2.1, q2.2, Lib.hid (by rw [HDU.out, if_neg q1, if_pos q2])⟩)
          · exact .inr (.inr ⟨q1, q2, Lib.hid (by rw [HT2.out, if_pos (.inl (by rw [HDU.out, if_neg q1, if_neg q2]; decide))])⟩)
      clear HDU hl2
      rcases key with ⟨q1, q2, HD⟩ | ⟨q0, q1, q2, HD⟩ | ⟨q0, q1, HN9⟩
      · have hd16 : Hid (d < 16) := Lib.hid (by have := HD.out; omega)
        clear hl3
        by_cases g1 : 1152921504606846976 ≤ a
        · have HN9 : Hid (tot = none) := Lib.hid (by rw [HT2.out, if_pos (.inr (.inl (by have := HA.out; omega)))])
          clear HT2
          go_wp2_with (go_at_call 168; refine (LO.out _).mono ?_; rintro e w' ⟨rfl, rfl⟩)
          all_goals (go_ret2; exact ER.out _ HN9.out)
        · obtain ⟨b, hb⟩ : ∃ b : Int, 16 * a + ((c : Int) - 48) = b := ⟨_, rfl⟩
          have hb1 : IntKind.u64.wrap (a * 16) = a * 16 := by rw [IntKind.wrap_u64]; omega
          have hb2 : a * 16 + ((c : Int) - 48) = b := by omega
          have hb0 : 0 ≤ b ∧ b < 18446744073709551616 := by omega
          have hb4 : ¬ b < a * 16 := by omega
          obtain ⟨p, hp⟩ : ∃ p : Int, a * 16 = p := ⟨_, rfl⟩
          rw [hp] at hb1 hb2 hb4
          have hp0 : 0 ≤ p ∧ p < 18446744073709551616 := by omega
          have HBB : Hid (b = ((16 * v + d : Nat) : Int)) := Lib.hid (by have := HA.out; have := HD.out; omega)
          clear hb
          by_cases g2 : 4294967295 < b
          · have HN9 : Hid (tot = none) := Lib.hid (by rw [HT2.out, if_pos (.inr (.inr (by have := HBB.out; omega)))])
            clear HT2
            go_wp2_with (go_at_call 168; refine (LO.out _).mono ?_; rintro e w' ⟨rfl, rfl⟩)
            all_goals (go_ret2; exact ER.out _ HN9.out)
          · have HT3 : Hid (tot = px 4294967295 (16 * v + d) (s.drop (k + 1))) := Lib.hid (by rw [HT2.out, if_neg (by have := HBB.out; have := HA.out; have := HD.out; omega)])
            clear HT2
            go_wp2_with (go_at_call 168; refine (LO.out _).mono ?_; rintro e w' ⟨rfl, rfl⟩)
            go_round
            case rel => exact ⟨k + 1, 16 * v + d, b, rfl, by go_num, by go_num, by omega, by omega, by omega, HBB, HT3⟩
            case measure => simp [intOf]; omega
      · have hc95 : ¬ (c : Int) = 95 := by omega
        have e95 : ((c : Int) == 95) = false := by simp; omega
        clear hl3
        by_cases g0 : 102 < l
        · have HN9 : Hid (tot = none) := Lib.hid (by rw [HT2.out, if_pos (.inl (by have := HD.out; omega))])
          clear HT2
          rcases (by omega : c < 48 ∨ 57 < c) with q0 | q0
          all_goals
            go_wp2_with (go_at_call 168; refine (LO.out _).mono ?_; rintro e w' ⟨rfl, rfl⟩)
            go_ret2
            exact EN.out _ HN9.out
        · rcases (by omega : c < 48 ∨ 57 < c) with q0 | q0
          all_goals
            by_cases g1 : 1152921504606846976 ≤ a
            · have HN9 : Hid (tot = none) := Lib.hid (by rw [HT2.out, if_pos (.inr (.inl (by have := HA.out; omega)))])
              clear HT2
              go_wp2_with (go_at_call 168; refine (LO.out _).mono ?_; rintro e w' ⟨rfl, rfl⟩)
              all_goals (go_ret2; exact ER.out _ HN9.out)
            · obtain ⟨b, hb⟩ : ∃ b : Int, 16 * a + ((l : Int) - 87) = b := ⟨_, rfl⟩
              have hb1 : IntKind.u64.wrap (a * 16) = a * 16 := by rw [IntKind.wrap_u64]; omega
              have hb2 : a * 16 + ((l : Int) - 87) = b := by omega
              have hb0 : 0 ≤ b ∧ b < 18446744073709551616 := by omega
              have hb4 : ¬ b < a * 16 := by omega
              obtain ⟨p, hp⟩ : ∃ p : Int, a * 16 = p := ⟨_, rfl⟩
              rw [hp] at hb1 hb2 hb4
              have hp0 : 0 ≤ p ∧ p < 18446744073709551616 := by omega
              have HBB : Hid (b = ((16 * v + d : Nat) : Int)) := Lib.hid (by have := HA.out; have := HD.out; omega)
              clear hb
              by_cases g2 : 4294967295 < b
              · have HN9 : Hid (tot = none) := Lib.hid (by rw [HT2.out, if_pos (.inr (.inr (by have := HBB.out; omega)))])
                clear HT2
                go_wp2_with (go_at_call 168; refine (LO.out _).mono ?_; rintro e w' ⟨rfl, rfl⟩)
                all_goals (go_ret2; exact ER.out _ HN9.out)
              · have HT3 : Hid (tot = px 4294967295 (16 * v + d) (s.drop (k + 1))) := Lib.hid (by rw [HT2.out, if_neg (by have := HBB.out; have := HA.out; have := HD.out; omega)])
                clear HT2
                go_wp2_with (go_at_call 168; refine (LO.out _).mono ?_; rintro e w' ⟨rfl, rfl⟩)
                go_round
                case rel => exact ⟨k + 1, 16 * v + d, b, rfl, by go_num, by go_num, by omega, by omega, by omega, HBB, HT3⟩
                case measure => simp [intOf]; omega
      · clear HT2
        by_cases h95 : c = 95
        · subst h95
          have L95 : Hid (∀ W : World, Calls Tryz.prog 168 #[.int .u8 95] W fun e w' => e = .returned (.int .u8 127) ∧ W = w') := Lib.hid (fun W => by
            refine (Tryz.internal_strconv_lower 95 W).mono ?_
            rintro e w' ⟨rfl, rfl⟩
            exact ⟨by rw [show bits BinOp.or IntKind.u8 95 32 = 127 by decide], rfl⟩)
          go_wp2_with (go_at_call 168; refine (L95.out _).mono ?_; rintro e w' ⟨rfl, rfl⟩)
          go_ret2
          exact EN.out _ HN9.out
        · have hc95 : ¬ (c : Int) = 95 := by omega
          have e95 : ((c : Int) == 95) = false := by simp; omega
          clear hl3
          rcases (by omega : c < 48 ∨ 57 < c) with q0 | q0 <;> rcases (by omega : l < 97 ∨ (97 ≤ l ∧ 122 < l)) with q1 | ⟨q1, q2⟩
          all_goals
            go_wp2_with (go_at_call 168; refine (LO.out _).mono ?_; rintro e w' ⟨rfl, rfl⟩)
            go_ret2
            exact EN.out _ HN9.out
    · obtain rfl : n = k := by omega
      have HR : Hid (tot = some v) := Lib.hid (by rw [HT.out, List.drop_of_length_le (by have := HNN.out; omega)]; rfl)
      clear HT
      go_wp2
      go_ret2
      exact ⟨.inl ⟨v, HR.out, by rw [HA.out]; rfl⟩, HBl.out⟩
set_option maxHeartbeats 8000000 in
set_option maxRecDepth 100000 in
theorem IPU16_64 (s : List UInt8) (hs : s.length ≤ 100) (hne : s ≠ []) (w : World) :
    Calls Tryz.prog 157 #[.string (bs s), .int .i64 16, .int .i64 64] w (IP (puH 18446744073709551615 s) w) := by
  have hemp := bs_empty hne
  have hcv := Lib.run_convert_string_bytes (P := Tryz.prog) w 9 27 5 (bs s) (u := .string) Tryz.underlying9 Tryz.underlying27 Tryz.underlying5
  have hB : ∀ j, j < s.length → (Lib.bytesWorld w 5 (bs s)).cell? ⟨w.heap.size, j, none⟩ = some (.int .u8 ((s.getD j 0).toNat : Int)) := fun j hj => by
    have := Lib.bytesWorld_cell w 5 (bs s) j (by rw [bs_size]; exact hj)
    rw [this]; simp [bs]
  have HBl := Lib.hid (Lib_below w (bs s))
  rw [bs_size] at hcv
  obtain ⟨tot, htot⟩ : ∃ tot, tot = puH 18446744073709551615 s := ⟨_, rfl⟩
  rw [← htot]
  have HT : Hid (tot = px 18446744073709551615 0 (s.drop 0)) := Lib.hid (by rw [htot, puH, if_neg hne]; rfl)
  generalize Lib.bytesWorld w 5 (bs s) = W1 at hcv hB HBl
  generalize grownCap w s.length 0 5 = cap at hcv
  have HBY := Lib.hid hB
  have HN := Lib.hid hs
  have hmv : IntKind.u64.wrap (IntKind.u64.wrap 18446744073709551616 - 1) = 18446744073709551615 := by
    rw [IntKind.wrap_u64, IntKind.wrap_u64]
    decide
  obtain ⟨n, hn⟩ : ∃ n, n = s.length := ⟨_, rfl⟩
  rw [← hn] at hcv hs
  have HNN := Lib.hid hn
  generalize bs s = S at hemp hcv
  clear hne htot hB hn
  go_enter Tryz.func157, Tryz.ntmps157
  go_wp2
  go_loop [12, 13, 101] (fun vu vn vi => ∃ (k v : Nat) (a : Int), vu = .bool false ∧ vn = .int .u64 a ∧ vi = .int .i64 k ∧ k ≤ n ∧ 0 ≤ a ∧ a ≤ 18446744073709551615 ∧ Hid (a = (v : Int)) ∧ Hid (tot = px 18446744073709551615 v (s.drop k))) (fun _ _ vi => n - (intOf vi).toNat)
  case atStart => exact ⟨0, 0, 0, rfl, rfl, rfl, by omega, by omega, by omega, Lib.hid rfl, HT⟩
  case round =>
    clear HT hemp hcv
    obtain ⟨k, v, a, rfl, rfl, rfl, hk, ha0, ha1, HA, HT⟩ := hrel
    by_cases hlt : k < n
    · have hlt2 : k < s.length := by have := HNN.out; omega
      have x0 := HBY.out k hlt2
      have HT2 := Lib.hid (HT.out.trans (by rw [drop_consB s k hlt2, px]))
      have hc : (s.getD k 0).toNat < 256 := (s.getD k 0).toNat_lt
      have HDU : Hid (du (s.getD k 0) = if 48 ≤ (s.getD k 0).toNat ∧ (s.getD k 0).toNat ≤ 57 then (s.getD k 0).toNat - 48 else if 97 ≤ ((s.getD k 0).toNat ||| 32) ∧ ((s.getD k 0).toNat ||| 32) ≤ 122 then ((s.getD k 0).toNat ||| 32) - 87 else 99) := Lib.hid rfl
      obtain ⟨hl1, hl2, hl3⟩ := or32_facts _ hc
      have hor := u8_or32 _ hc
      clear HT
      generalize (s.getD k 0).toNat = c at x0 hc HDU hl1 hl2 hl3 hor
      generalize du (s.getD k 0) = d at HDU HT2
      have LO : Hid (∀ W : World, Calls Tryz.prog 168 #[.int .u8 c] W fun e w' => e = .returned (.int .u8 ((c ||| 32 : Nat) : Int)) ∧ W = w') := Lib.hid (fun W => by
        refine (Tryz.internal_strconv_lower (c : Int) W).mono ?_
        rintro e w' ⟨rfl, rfl⟩
        exact ⟨by rw [hor], rfl⟩)
      clear hor
      generalize c ||| 32 = l at HDU hl1 hl2 hl3 LO
      have EN : Hid (∀ (x : Int), tot = none → IP tot w (.returned (.tuple #[.int .u64 x, .iface 247 (.int .i64 2)])) W1) := Lib.hid (fun x e => ⟨.inr ⟨e, x, 2, .inr rfl, rfl⟩, HBl.out⟩)
      have ER : Hid (∀ (x : Int), tot = none → IP tot w (.returned (.tuple #[.int .u64 x, .iface 247 (.int .i64 1)])) W1) := Lib.hid (fun x e => ⟨.inr ⟨e, x, 1, .inl rfl, rfl⟩, HBl.out⟩)
      have key : (48 ≤ c ∧ c ≤ 57 ∧ Hid (d = c - 48)) ∨ (¬ (48 ≤ c ∧ c ≤ 57) ∧ 97 ≤ l ∧ l ≤ 122 ∧ Hid (d = l - 87)) ∨ (¬ (48 ≤ c ∧ c ≤ 57) ∧ ¬ (97 ≤ l ∧ l ≤ 122) ∧ Hid (tot = none)) := by
        by_cases q1 : 48 ≤ c ∧ c ≤ 57
        · exact .inl ⟨q1.1, q1.2, Lib.hid (by rw [HDU.out, if_pos q1])⟩
        · by_cases q2 : 97 ≤ l ∧ l ≤ 122
          · exact .inr (.inl ⟨q1, q2.1, q2.2, Lib.hid (by rw [HDU.out, if_neg q1, if_pos q2])⟩)
          · exact .inr (.inr ⟨q1, q2, Lib.hid (by rw [HT2.out, if_pos (.inl (by rw [HDU.out, if_neg q1, if_neg q2]; decide))])⟩)
      clear HDU hl2
      rcases key with ⟨q1, q2, HD⟩ | ⟨q0, q1, q2, HD⟩ | ⟨q0, q1, HN9⟩
      · have hd16 : Hid (d < 16) := Lib.hid (by have := HD.out; omega)
        clear hl3
        by_cases g1 : 1152921504606846976 ≤ a
        · have HN9 : Hid (tot = none) := Lib.hid (by rw [HT2.out, if_pos (.inr (.inl (by have := HA.out; omega)))])
          clear HT2
          go_wp2_with (go_at_call 168; refine (LO.out _).mono ?_; rintro e w' ⟨rfl, rfl⟩)
          all_goals (go_ret2; exact ER.out _ HN9.out)
        · obtain ⟨b, hb⟩ : ∃ b : Int, 16 * a + ((c : Int) - 48) = b := ⟨_, rfl⟩
          have hb1 : IntKind.u64.wrap (a * 16) = a * 16 := by rw [IntKind.wrap_u64]; omega
          have hb2 : a * 16 + ((c : Int) - 48) = b := by omega
          have hb0 : 0 ≤ b ∧ b < 18446744073709551616 := by omega
          have hb4 : ¬ b < a * 16 := by omega
          obtain ⟨p, hp⟩ : ∃ p : Int, a * 16 = p := ⟨_, rfl⟩
          rw [hp] at hb1 hb2 hb4
          have hp0 : 0 ≤ p ∧ p < 18446744073709551616 := by omega
          have HBB : Hid (b = ((16 * v + d : Nat) : Int)) := Lib.hid (by have := HA.out; have := HD.out; omega)
          clear hb
          by_cases g2 : 18446744073709551615 < b
          · have HN9 : Hid (tot = none) := Lib.hid (by rw [HT2.out, if_pos (.inr (.inr (by have := HBB.out; omega)))])
            clear HT2
            go_wp2_with (go_at_call 168; refine (LO.out _).mono ?_; rintro e w' ⟨rfl, rfl⟩)
            all_goals (go_ret2; exact ER.out _ HN9.out)
          · have HT3 : Hid (tot = px 18446744073709551615 (16 * v + d) (s.drop (k + 1))) := Lib.hid (by rw [HT2.out, if_neg (by have := HBB.out; have := HA.out; have := HD.out; omega)])
            clear HT2
            go_wp2_with (go_at_call 168; refine (LO.out _).mono ?_; rintro e w' ⟨rfl, rfl⟩)
            go_round
            case rel => exact ⟨k + 1, 16 * v + d, b, rfl, by go_num, by go_num, by omega, by omega, by omega, HBB, HT3⟩
            case measure => simp [intOf]; omega
      · have hc95 : ¬ (c : Int) = 95 := by omega
        have e95 : ((c : Int) == 95) = false := by simp; omega
        clear hl3
        by_cases g0 : 102 < l
        · have HN9 : Hid (tot = none) := Lib.hid (by rw [HT2.out, if_pos (.inl (by have := HD.out; omega))])
          clear HT2
          rcases (by omega : c < 48 ∨ 57 < c) with q0 | q0
          all_goals
            go_wp2_with (go_at_call 168; refine (LO.out _).mono ?_; rintro e w' ⟨rfl, rfl⟩)
            go_ret2
            exact EN.out _ HN9.out
        · rcases (by omega : c < 48 ∨ 57 < c) with q0 | q0
          all_goals
            by_cases g1 : 1152921504606846976 ≤ a
            · have HN9 : Hid (tot = none) := Lib.hid (by rw [HT2.out, if_pos (.inr (.inl (by have := HA.out; omega)))])
              clear HT2
              go_wp2_with (go_at_call 168; refine (LO.out _).mono ?_; rintro e w' ⟨rfl, rfl⟩)
              all_goals (go_ret2; exact ER.out _ HN9.out)
            · obtain ⟨b, hb⟩ : ∃ b : Int, 16 * a + ((l : Int) - 87) = b := ⟨_, rfl⟩
              have hb1 : IntKind.u64.wrap (a * 16) = a * 16 := by rw [IntKind.wrap_u64]; omega
              have hb2 : a * 16 + ((l : Int) - 87) = b := by omega
              have hb0 : 0 ≤ b ∧ b < 18446744073709551616 := by omega
              have hb4 : ¬ b < a * 16 := by omega
              obtain ⟨p, hp⟩ : ∃ p : Int, a * 16 = p := ⟨_, rfl⟩
              rw [hp] at hb1 hb2 hb4
              have hp0 : 0 ≤ p ∧ p < 18446744073709551616 := by omega
              have HBB : Hid (b = ((16 * v + d : Nat) : Int)) := Lib.hid (by have := HA.out; have := HD.out; omega)
              clear hb
              by_cases g2 : 18446744073709551615 < b
              · have HN9 : Hid (tot = none) := Lib.hid (by rw [HT2.out, if_pos (.inr (.inr (by have := HBB.out; omega)))])
                clear HT2
                go_wp2_with (go_at_call 168; refine (LO.out _).mono ?_; rintro e w' ⟨rfl, rfl⟩)
                all_goals (go_ret2; exact ER.out _ HN9.out)
              · have HT3 : Hid (tot = px 18446744073709551615 (16 * v + d) (s.drop (k + 1))) := Lib.hid (by rw [HT2.out, if_neg (by have := HBB.out; have := HA.out; have := HD.out; omega)])
                clear HT2
                go_wp2_with (go_at_call 168; refine (LO.out _).mono ?_; rintro e w' ⟨rfl, rfl⟩)
                go_round
                case rel => exact ⟨k + 1, 16 * v + d, b, rfl, by go_num, by go_num, by omega, by omega, by omega, HBB, HT3⟩
                case measure => simp [intOf]; omega
      · clear HT2
        by_cases h95 : c = 95
        · subst h95
          have L95 : Hid (∀ W : World, Calls Tryz.prog 168 #[.int .u8 95] W fun e w' => e = .returned (.int .u8 127) ∧ W = w') := Lib.hid (fun W => by
            refine (Tryz.internal_strconv_lower 95 W).mono ?_
            rintro e w' ⟨rfl, rfl⟩
            exact ⟨by rw [show bits BinOp.or IntKind.u8 95 32 = 127 by decide], rfl⟩)
          go_wp2_with (go_at_call 168; refine (L95.out _).mono ?_; rintro e w' ⟨rfl, rfl⟩)
          go_ret2
          exact EN.out _ HN9.out
        · have hc95 : ¬ (c : Int) = 95 := by omega
          have e95 : ((c : Int) == 95) = false := by simp; omega
          clear hl3
          rcases (by omega : c < 48 ∨ 57 < c) with q0 | q0 <;> rcases (by omega : l < 97 ∨ (97 ≤ l ∧ 122 < l)) with q1 | ⟨q1, q2⟩
          all_goals
            go_wp2_with (go_at_call 168; refine (LO.out _).mono ?_; rintro e w' ⟨rfl, rfl⟩)
            go_ret2
            exact EN.out _ HN9.out
    · obtain rfl : n = k := by omega
      have HR : Hid (tot = some v) := Lib.hid (by rw [HT.out, List.drop_of_length_le (by have := HNN.out; omega)]; rfl)
      clear HT
      go_wp2
      go_ret2
      exact ⟨.inl ⟨v, HR.out, by rw [HA.out]; rfl⟩, HBl.out⟩
end Go.Proofs.YtggfaalodojjkaaGreatDoor
