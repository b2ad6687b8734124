/-
  conv.Word: what it answers, for every byte slice.
-/
import Derived.Test.YtmbnaejoiglckaaDoorCd
namespace Go.Proofs.YtmbnaejoiglckaaDoor
open Go.RowKit
set_option linter.unusedVariables false
/-- the number that the first k bytes are -/
def wv (f : Nat → Nat) : Nat → Nat
  | 0 => 0
  | k + 1 => wv f k + f k * 2 ^ (8 * k)
theorem wv_lt (f : Nat → Nat) : ∀ k, (∀ i, i < k → f i < 256) → wv f k < 2 ^ (8 * k)
  | 0, _ => by simp [wv]
  | k + 1, h => by
    have h1 := wv_lt f k (fun i hi => h i (by omega))
    have h2 := h k (by omega)
    have h3 : (f k + 1) * 2 ^ (8 * k) ≤ 256 * 2 ^ (8 * k) := Nat.mul_le_mul_right _ h2
    have h4 : 2 ^ (8 * (k + 1)) = 256 * 2 ^ (8 * k) := by rw [show 8 * (k + 1) = 8 * k + 8 from by omega, Nat.pow_add, Nat.mul_comm]
    rw [h4]
    unfold wv
    rw [Nat.succ_mul] at h3
    omega
theorem wv_by (a : Nat) : ∀ k, wv (by_ a) k = a % 2 ^ (8 * k)
  | 0 => by simp [wv, Nat.mod_one]
  | k + 1 => by
    unfold wv
    rw [wv_by a k, show 8 * (k + 1) = 8 * k + 8 from by omega, Nat.pow_add, Nat.mod_mul]
    unfold by_
    rw [Nat.mul_comm (a / 2 ^ (8 * k) % 256)]
set_option maxHeartbeats 1000000 in
set_option maxRecDepth 100000 in
theorem Word_ok (A : Option Addr) (n cap : Nat) (l : List Nat) (w : World) (h : n = 1 ∨ n = 2 ∨ n = 4 ∨ n = 8) (hb : Byt w A n cap l) :
    Calls Tryd.prog 24 #[.slice A n cap] w fun e w' => e = .returned (.tuple #[.int .u64 ((wv (fun i => l.getD i 0) n : Nat) : Int), .int .i64 0]) ∧ w = w' := by
  have M := Lib.hid (many_yes (n : Int) w (by omega))
  have hn1 : 1 ≤ n := by omega
  have hn8 : n ≤ 8 := by omega
  have hcap : n ≤ cap := hb.2.2.1
  have hcap2 : cap ≤ 9223372036854775807 := by have := hb.2.2.2.1; unfold maxLen at this; omega
  have hlt : ∀ i, l.getD i 0 < 256 := fun i => by
    by_cases q : i < l.length
    · rw [List.getD_eq_getElem?_getD, List.getElem?_eq_getElem q]; exact hb.2.1 _ (List.getElem_mem q)
    · rw [List.getD_eq_getElem?_getD, List.getElem?_eq_none (by omega)]; decide
  obtain ⟨b, off, rfl, hbl, hcell⟩ := hb.2.2.2.2 (by omega)
  obtain ⟨f, hf⟩ : ∃ f : Nat → Nat, f = fun i => l.getD i 0 := ⟨_, rfl⟩
  have hcell' : ∀ j, j < n → w.cell? ⟨b, off + j, none⟩ = some (.int .u8 ((f j : Nat) : Int)) := fun j hj => by rw [hf]; exact hcell j hj
  have hlt' : ∀ i, f i < 256 := fun i => by rw [hf]; exact hlt i
  rw [← hf]
  have HC := Lib.hid hcell'
  have HL := Lib.hid hlt'
  clear h hb hlt hcell hf hcell' hlt'
  go_enter Tryd.func24, Tryd.ntmps24
  go_wp2_with (go_at_call 44; refine M.out.mono ?_; rintro e w1 ⟨rfl, rfl⟩)
  go_loop [4, 5, 6, 13] (fun v4 v5 v6 v13 => ∃ k m : Nat, k ≤ n ∧ v13 = .int .i64 k ∧ v4 = .int .u64 m ∧ Hid (m = wv f k)) (fun _ _ _ v13 => n - (intOf v13).toNat)
  case atStart => exact ⟨0, 0, Nat.zero_le _, rfl, rfl, Lib.hid rfl⟩
  case round =>
    obtain ⟨k, m, hk, rfl, rfl, HM⟩ := hrel
    by_cases hlt : k < n
    · have hc := HC.out k hlt
      have hm := wv_lt f k (fun i _ => HL.out i)
      have hx := HL.out k
      have hV : wv f (k + 1) = wv f k + f k * 2 ^ (8 * k) := rfl
      have hV2 := wv_lt f (k + 1) (fun i _ => HL.out i)
      have hk64 : 2 ^ (8 * (k + 1)) ≤ 2 ^ 64 := Nat.pow_le_pow_right (by decide) (by omega)
      rw [← HM.out] at hm hV
      obtain ⟨x, ex⟩ : ∃ x, x = f k := ⟨_, rfl⟩
      rw [← ex] at hc hx hV
      have hle : m + x * 2 ^ (8 * k) < 18446744073709551616 := by rw [← hV]; exact Nat.lt_of_lt_of_le hV2 hk64
      have e1 : IntKind.u64.wrap ((x : Int) * 2 ^ (8 * k)) = ((x * 2 ^ (8 * k) : Nat) : Int) := by
        rw [wrap_nat, Nat.mod_eq_of_lt (by omega)]
      have e2 : bits BinOp.or IntKind.u64 (m : Int) ((x * 2 ^ (8 * k) : Nat) : Int) = ((m + x * 2 ^ (8 * k) : Nat) : Int) := by
        rw [or_nat m _ (by omega) (by omega), or_swap, Nat.mul_comm, ← Nat.two_pow_add_eq_or_of_lt hm, Nat.add_comm]
      obtain ⟨y, ey⟩ : ∃ y, y = x * 2 ^ (8 * k) := ⟨_, rfl⟩
      obtain ⟨z, ez⟩ : ∃ z, z = m + x * 2 ^ (8 * k) := ⟨_, rfl⟩
      rw [← ez] at e2
      rw [← ey] at e1 e2
      have HZ : Hid (z = wv f (k + 1)) := Lib.hid (by rw [ez, hV])
      clear hm hV hV2 hk64 hle ex ey ez
      go_wp2
      exact ⟨⟨k + 1, z, by omega, by go_num, rfl, HZ⟩, by simp [intOf]; omega⟩
    · obtain rfl : n = k := by omega
      go_wp2
      go_ret2
      exact ⟨ret_pair (by rw [HM.out]) rfl, rfl⟩
set_option maxHeartbeats 1000000 in
set_option maxRecDepth 100000 in
theorem ex_64_64 (s : Bool) (a : Nat) (w : World) (ha : a < 18446744073709551616) :
    Calls Tryd.prog 42 #[.int .i64 64, .int .i64 64, .bool s, .int .u64 a] w fun e w' => e = .returned (.int .u64 ((exv 64 64 s a : Nat) : Int)) ∧ w = w' := by
  have e0 : exv 64 64 s a = a := by simp [exv]; omega
  rw [e0]
  have z1 : IntKind.u64.wrap (a : Int) = (a : Int) := by rw [IntKind.wrap_u64]; omega
  have z2 : IntKind.u64.wrap (wrap64 (a : Int)) = (a : Int) := by rw [IntKind.wrap_u64]; unfold wrap64; omega
  clear e0
  cases s
  · go_enter Tryd.func42, Tryd.ntmps42
    go_wp2
    go_ret
    exact ⟨rfl, rfl⟩
  · have C := Lib.hid (Cut_any 64 a w)
    rw [show Wd.cut 64 a = a from by simp [Wd.cut]] at C
    go_enter Tryd.func42, Tryd.ntmps42
    go_wp2_with (go_at_call 12; first | (refine C.out.mono ?_; rintro e w1 ⟨rfl, rfl⟩) | (rw [z2]; refine C.out.mono ?_; rintro e w1 ⟨rfl, rfl⟩))
    go_ret
    exact ⟨rfl, rfl⟩
end Go.Proofs.YtmbnaejoiglckaaDoor
