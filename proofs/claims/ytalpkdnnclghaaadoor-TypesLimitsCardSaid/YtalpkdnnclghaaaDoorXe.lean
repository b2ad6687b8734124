/-
  The document's Read.
-/
import Derived.Test.YtalpkdnnclghaaaDoorXc
import Derived.Test.YtalpkdnnclghaaaDoorNq
import Derived.PlainAid
namespace Go.Proofs.YtalpkdnnclghaaaDoor
open Go.RowKit Go.ChangeShapes Go.WideShapes Go.ChangeAt Go.PlainAid
set_option linter.unusedVariables false
set_option linter.unusedSimpArgs false
def RdP (o : Option Nat) (w : World) (e : Ending) (w' : World) : Prop := e = .returned (.tuple #[.int .u64 ((o.getD 0 : Nat) : Int), .bool o.isSome]) ∧ w = w'
theorem drop_cons (s : List UInt8) (k : Nat) (h : k < s.length) : s.drop k = s.getD k 0 :: s.drop (k + 1) := by
  rw [List.drop_eq_getElem_cons h, List.getD_eq_getElem?_getD, List.getElem?_eq_getElem h]; rfl
set_option maxHeartbeats 4000000 in
set_option maxRecDepth 100000 in
theorem Read_ok (s : List UInt8) (hs : s.length ≤ 1000) (M : Nat) (hM0 : 16 ≤ M) (hM : M < 18446744073709551616) (w : World) :
    Calls Tryd.prog 56 #[.string (bs s), .int .u64 10, .int .u64 M] w (RdP (rdB 10 M s) w) := by
  have hb := get_bt (bs s)
  have HBT := Lib.hid (bt_bs s)
  have hsz := bs_size s
  have hX : (bs s).toList = s := by rw [Lib.toList_data]; simp [bs]
  obtain ⟨tot, htot⟩ : ∃ tot, tot = rdB 10 M s := ⟨_, rfl⟩
  rw [← htot]
  generalize bs s = S at hb HBT hsz hX
  have hS9 : S.size ≤ 1000 := by omega
  by_cases h0 : s = []
  · have HR : Hid (tot = none) := Lib.hid (by rw [htot, rdB, if_pos (.inl h0)])
    have q0 : S.toList = [] := by rw [hX, h0]
    clear htot h0 hX hsz
    go_enter Tryd.func56, Tryd.ntmps56
    go_wp2
    go_ret2
    exact ⟨by rw [HR.out]; rfl, rfl⟩
  · have q0 : ¬ S.toList = [] := by rw [hX]; exact h0
    have q1 : S.toList.isEmpty = false := by
      cases hx : S.toList with
      | nil => exact absurd hx q0
      | cons a l => rfl
    have hl0 : 0 < s.length := List.length_pos_iff.2 h0
    by_cases hz : 1 < s.length ∧ s.getD 0 0 = 48
    · have HR : Hid (tot = none) := Lib.hid (by rw [htot, rdB, if_pos (.inr hz)])
      have q2 : (1 : Int) < (S.size : Int) := by omega
      have q3 : (bt S 0 == 48) = true := by rw [HBT.out, hz.2]; rfl
      have q4 : 0 < S.size := by omega
      clear htot h0 hX hsz hz hl0
      go_enter Tryd.func56, Tryd.ntmps56
      go_wp2
      go_ret2
      exact ⟨by rw [HR.out]; rfl, rfl⟩
    · have HT : Hid (tot = rdg 10 M 0 (s.drop 0)) := Lib.hid (by
        rw [htot, rdB, if_neg]; rfl
        rintro (e | e)
        · exact h0 e
        · exact hz e)
      have HSZ := Lib.hid hsz
      have hq : (¬ (1 : Int) < (S.size : Int)) ∨ ((1 : Int) < (S.size : Int) ∧ (bt S 0 == 48) = false) := by
        by_cases h1 : 1 < s.length
        · refine .inr ⟨by omega, ?_⟩
          rw [HBT.out]
          have : s.getD 0 0 ≠ 48 := fun e => hz ⟨h1, e⟩
          have h2 := u8_toNat (s.getD 0 0) 48 (by decide)
          have h3 : (((s.getD 0 0).toNat : Int) == 48) = (s.getD 0 0 == 48) := h2
          rw [h3]; simpa using this
        · exact .inl (by omega)
      have q4 : 0 < S.size := by omega
      clear htot h0 hX hsz hz hl0
      rcases hq with hq | ⟨hq, hq'⟩
      ·
        go_enter Tryd.func56, Tryd.ntmps56
        go_wp2
        go_loop [8, 9] (fun v8 v9 => ∃ k v : Nat, k ≤ S.size ∧ v9 = .int .i64 k ∧ v8 = .int .u64 v ∧ v ≤ M ∧ Hid (tot = rdg 10 M v (s.drop k))) (fun _ v9 => S.size - (intOf v9).toNat)
        case atStart => exact ⟨0, 0, by omega, rfl, rfl, by omega, HT⟩
        case round =>
          clear HT
          obtain ⟨k, v, hk, rfl, rfl, hv, HT⟩ := hrel
          by_cases hlt : k < S.size
          · have hlt2 : k < s.length := by have := HSZ.out; omega
            have HT2 := Lib.hid (HT.out.trans (by rw [drop_cons s k hlt2, rdg]))
            have hx := HBT.out k
            have hc9 : (s.getD k 0).toNat < 256 := (s.getD k 0).toNat_lt
            have HDV : Hid (dv (s.getD k 0) = if 48 ≤ (s.getD k 0).toNat ∧ (s.getD k 0).toNat ≤ 57 then (s.getD k 0).toNat - 48 else if 97 ≤ (s.getD k 0).toNat ∧ (s.getD k 0).toNat ≤ 102 then (s.getD k 0).toNat - 87 else 99) := Lib.hid rfl
            clear HT
            generalize (s.getD k 0).toNat = c at hx hc9 HDV
            generalize dv (s.getD k 0) = e at HDV HT2
            by_cases h1 : c < 48
            · have he : e = 99 := by rw [HDV.out, if_neg (by omega), if_neg (by omega)]
              have HR : Hid (tot = none) := Lib.hid (by rw [HT2.out, if_pos (.inl (by omega))])
              clear HT2 HDV he
              go_wp2
              go_ret2
              exact ⟨by rw [HR.out]; rfl, rfl⟩
            · by_cases h2 : c ≤ 57
              · have he : e = c - 48 := by rw [HDV.out, if_pos (by omega)]
                subst he
                by_cases h3 : (M - (c - 48)) / 10 < v
                · have HR : Hid (tot = none) := Lib.hid (by rw [HT2.out, if_pos (.inr h3)])
                  have h4 : ((M : Int) - ((c : Int) - 48)) / 10 < (v : Int) := by omega
                  clear HT2 HDV
                  go_wp2
                  go_ret2
                  exact ⟨by rw [HR.out]; rfl, rfl⟩
                · have HR : Hid (tot = rdg 10 M (10 * v + (c - 48)) (s.drop (k + 1))) := Lib.hid (by rw [HT2.out, if_neg (by omega)])
                  have h4 : ¬ ((M : Int) - ((c : Int) - 48)) / 10 < (v : Int) := by omega
                  have h5 : 10 * v + (c - 48) ≤ M := by omega
                  have h6 : 10 * (v : Int) + ((c : Int) - 48) < 18446744073709551616 := by omega
                  clear HT2 HDV
                  go_wp2
                  go_round
                  case rel => exact ⟨k + 1, 10 * v + (c - 48), by omega, by go_num, by congr 1; omega, h5, HR⟩
                  case measure => simp [intOf]; omega
              · by_cases h3 : c < 97
                · have he : e = 99 := by rw [HDV.out, if_neg (by omega), if_neg (by omega)]
                  have HR : Hid (tot = none) := Lib.hid (by rw [HT2.out, if_pos (.inl (by omega))])
                  clear HT2 HDV he
                  go_wp2
                  go_ret2
                  exact ⟨by rw [HR.out]; rfl, rfl⟩
                · by_cases h4 : c ≤ 102
                  · have he : e = c - 87 := by rw [HDV.out, if_neg (by omega), if_pos (by omega)]
                    have HR : Hid (tot = none) := Lib.hid (by rw [HT2.out, if_pos (.inl (by omega))])
                    clear HT2 HDV he
                    go_wp2
                    go_ret2
                    exact ⟨by rw [HR.out]; rfl, rfl⟩
                  · have he : e = 99 := by rw [HDV.out, if_neg (by omega), if_neg (by omega)]
                    have HR : Hid (tot = none) := Lib.hid (by rw [HT2.out, if_pos (.inl (by omega))])
                    clear HT2 HDV he
                    go_wp2
                    go_ret2
                    exact ⟨by rw [HR.out]; rfl, rfl⟩
          · obtain rfl : k = S.size := by omega
            have HR : Hid (tot = some v) := Lib.hid (by rw [HT.out, List.drop_of_length_le (by have := HSZ.out; omega)]; rfl)
            clear HT
            go_wp2
            go_ret2
            exact ⟨by rw [HR.out]; rfl, rfl⟩
      ·
        go_enter Tryd.func56, Tryd.ntmps56
        go_wp2
        go_loop [8, 9] (fun v8 v9 => ∃ k v : Nat, k ≤ S.size ∧ v9 = .int .i64 k ∧ v8 = .int .u64 v ∧ v ≤ M ∧ Hid (tot = rdg 10 M v (s.drop k))) (fun _ v9 => S.size - (intOf v9).toNat)
        case atStart => exact ⟨0, 0, by omega, rfl, rfl, by omega, HT⟩
        case round =>
          clear HT
          obtain ⟨k, v, hk, rfl, rfl, hv, HT⟩ := hrel
          by_cases hlt : k < S.size
          · have hlt2 : k < s.length := by have := HSZ.out; omega
            have HT2 := Lib.hid (HT.out.trans (by rw [drop_cons s k hlt2, rdg]))
            have hx := HBT.out k
            have hc9 : (s.getD k 0).toNat < 256 := (s.getD k 0).toNat_lt
            have HDV : Hid (dv (s.getD k 0) = if 48 ≤ (s.getD k 0).toNat ∧ (s.getD k 0).toNat ≤ 57 then (s.getD k 0).toNat - 48 else if 97 ≤ (s.getD k 0).toNat ∧ (s.getD k 0).toNat ≤ 102 then (s.getD k 0).toNat - 87 else 99) := Lib.hid rfl
            clear HT
            generalize (s.getD k 0).toNat = c at hx hc9 HDV
            generalize dv (s.getD k 0) = e at HDV HT2
            by_cases h1 : c < 48
            · have he : e = 99 := by rw [HDV.out, if_neg (by omega), if_neg (by omega)]
              have HR : Hid (tot = none) := Lib.hid (by rw [HT2.out, if_pos (.inl (by omega))])
              clear HT2 HDV he
              go_wp2
              go_ret2
              exact ⟨by rw [HR.out]; rfl, rfl⟩
            · by_cases h2 : c ≤ 57
              · have he : e = c - 48 := by rw [HDV.out, if_pos (by omega)]
                subst he
                by_cases h3 : (M - (c - 48)) / 10 < v
                · have HR : Hid (tot = none) := Lib.hid (by rw [HT2.out, if_pos (.inr h3)])
                  have h4 : ((M : Int) - ((c : Int) - 48)) / 10 < (v : Int) := by omega
                  clear HT2 HDV
                  go_wp2
                  go_ret2
                  exact ⟨by rw [HR.out]; rfl, rfl⟩
                · have HR : Hid (tot = rdg 10 M (10 * v + (c - 48)) (s.drop (k + 1))) := Lib.hid (by rw [HT2.out, if_neg (by omega)])
                  have h4 : ¬ ((M : Int) - ((c : Int) - 48)) / 10 < (v : Int) := by omega
                  have h5 : 10 * v + (c - 48) ≤ M := by omega
                  have h6 : 10 * (v : Int) + ((c : Int) - 48) < 18446744073709551616 := by omega
                  clear HT2 HDV
                  go_wp2
                  go_round
                  case rel => exact ⟨k + 1, 10 * v + (c - 48), by omega, by go_num, by congr 1; omega, h5, HR⟩
                  case measure => simp [intOf]; omega
              · by_cases h3 : c < 97
                · have he : e = 99 := by rw [HDV.out, if_neg (by omega), if_neg (by omega)]
                  have HR : Hid (tot = none) := Lib.hid (by rw [HT2.out, if_pos (.inl (by omega))])
                  clear HT2 HDV he
                  go_wp2
                  go_ret2
                  exact ⟨by rw [HR.out]; rfl, rfl⟩
                · by_cases h4 : c ≤ 102
                  · have he : e = c - 87 := by rw [HDV.out, if_neg (by omega), if_pos (by omega)]
                    have HR : Hid (tot = none) := Lib.hid (by rw [HT2.out, if_pos (.inl (by omega))])
                    clear HT2 HDV he
                    go_wp2
                    go_ret2
                    exact ⟨by rw [HR.out]; rfl, rfl⟩
                  · have he : e = 99 := by rw [HDV.out, if_neg (by omega), if_neg (by omega)]
                    have HR : Hid (tot = none) := Lib.hid (by rw [HT2.out, if_pos (.inl (by omega))])
                    clear HT2 HDV he
                    go_wp2
                    go_ret2
                    exact ⟨by rw [HR.out]; rfl, rfl⟩
          · obtain rfl : k = S.size := by omega
            have HR : Hid (tot = some v) := Lib.hid (by rw [HT.out, List.drop_of_length_le (by have := HSZ.out; omega)]; rfl)
            clear HT
            go_wp2
            go_ret2
            exact ⟨by rw [HR.out]; rfl, rfl⟩
end Go.Proofs.YtalpkdnnclghaaaDoor
