/-
  math/bits.Len64, LeadingZeros64, OnesCount64: what they answer, for every word.
-/
import Derived.Test.YtmbnaejoiglckaaDoorWc
import Derived.Lib.BitFns
import Derived.Laws.Bits128
namespace Go.Proofs.YtmbnaejoiglckaaDoor
open Go.RowKit
set_option linter.unusedVariables false
theorem tab8 (x : Int) (h0 : 0 ≤ x) (h1 : x ≤ 255) (h : x.toNat < Lib.len8tab.size) : ((Lib.len8tab[x.toNat].toNat : Nat) : Int) = (Lib.bitLen x.toNat : Int) := by
  have e := Lib.len8_of x h0 h1
  unfold Lib.len8 at e
  rw [getElem?_pos Lib.len8tab x.toNat h] at e
  exact e
theorem fin_num (s m t : Nat) (e : t = s + m) (hm : m ≤ 8) (hs : s ≤ 56) : wrap64 ((s : Int) + wrap64 ((m : Nat) : Int)) = (t : Int) := by
  unfold wrap64
  omega
theorem fin_len (x y : Int) (s p : Nat) (hp : 2 ^ s = p) (hy : y.toNat = x.toNat / p) (hy0 : 0 ≤ y) (hy1 : y ≤ 255) (hx0 : p ≤ x.toNat) (hx : x.toNat < 2 ^ 64) (hs : s ≤ 56) (h : y.toNat < Lib.len8tab.size) :
    wrap64 ((s : Int) + wrap64 ((Lib.len8tab[y.toNat].toNat : Nat) : Int)) = (Lib.bitLen x.toNat : Int) := by
  subst hp
  rw [tab8 y hy0 hy1 h]
  refine fin_num s _ _ ?_ (Lib.bitLen_le8' y hy0 hy1) hs
  rw [hy]
  exact Lib.bitLen_shift s x.toNat hx0 hx
theorem fin_len0 (x : Int) (h0 : 0 ≤ x) (h1 : x ≤ 255) (h : x.toNat < Lib.len8tab.size) : wrap64 (wrap64 ((Lib.len8tab[x.toNat].toNat : Nat) : Int)) = (Lib.bitLen x.toNat : Int) := by
  have l := Lib.bitLen_le8' x h0 h1
  rw [tab8 x h0 h1 h]
  unfold wrap64
  omega
set_option maxHeartbeats 4000000 in
set_option maxRecDepth 100000 in
theorem Len64_any (x : Int) (w : World) (h0 : 0 ≤ x) (h1 : x ≤ 18446744073709551615) :
    Calls Tryd.prog 51 #[.int .u64 x] w fun e w' => e = .returned (.int .i64 (Lib.bitLen x.toNat)) ∧ w = w' := by
  have hs : Lib.len8tab.size = 256 := Lib.len8tab_size
  go_enter Tryd.func51, Tryd.ntmps51
  go_wp2
  all_goals (go_ret; refine ⟨congrArg Ending.returned (congrArg (Value.int IntKind.i64) ?_), rfl⟩)
  · exact fin_len x _ 56 72057594037927936 rfl (by omega) (by omega) (by omega) (by omega) (by omega) (by omega) _
  · exact fin_len x _ 48 281474976710656 rfl (by omega) (by omega) (by omega) (by omega) (by omega) (by omega) _
  · exact fin_len x _ 40 1099511627776 rfl (by omega) (by omega) (by omega) (by omega) (by omega) (by omega) _
  · exact fin_len x _ 32 4294967296 rfl (by omega) (by omega) (by omega) (by omega) (by omega) (by omega) _
  · exact fin_len x _ 24 16777216 rfl (by omega) (by omega) (by omega) (by omega) (by omega) (by omega) _
  · exact fin_len x _ 16 65536 rfl (by omega) (by omega) (by omega) (by omega) (by omega) (by omega) _
  · exact fin_len x _ 8 256 rfl (by omega) (by omega) (by omega) (by omega) (by omega) (by omega) _
  · exact fin_len0 x (by omega) (by omega) _
theorem Lz_any (x : Nat) (w : World) (h : x < 18446744073709551616) :
    Calls Tryd.prog 34 #[.int .u64 x] w fun e w' => e = .returned (.int .i64 (64 - (Lib.bitLen x : Int))) ∧ w = w' := by
  have hl := Lib.bitLen_le x 64 (by decide) h
  have L := Lib.hid (Len64_any (x : Int) w (by omega) (by omega))
  rw [Int.toNat_natCast] at L
  go_enter Tryd.func34, Tryd.ntmps34
  go_wp2_with (go_at_call 51; refine L.out.mono ?_; rintro e w' ⟨rfl, rfl⟩)
  go_ret
  exact ⟨rfl, rfl⟩
theorem bitLenAux_two : ∀ f x, x < 2 ^ f → x < 2 ^ Lib.bitLenAux f x ∧ (x ≠ 0 → 0 < Lib.bitLenAux f x ∧ 2 ^ (Lib.bitLenAux f x - 1) ≤ x)
  | 0, x, h => by simp at h; subst h; simp [Lib.bitLenAux]
  | f + 1, x, h => by
    unfold Lib.bitLenAux
    by_cases hx : x = 0
    · simp [hx]
    · rw [if_neg hx]
      obtain ⟨h1, h2⟩ := bitLenAux_two f (x / 2) (by rw [Nat.pow_succ] at h; omega)
      refine ⟨by rw [Nat.add_comm, Nat.pow_succ]; omega, fun _ => ⟨by omega, ?_⟩⟩
      rw [Nat.add_sub_cancel_left]
      by_cases hz : x / 2 = 0
      · rw [hz, show Lib.bitLenAux f 0 = 0 from by cases f <;> simp [Lib.bitLenAux]]; simp; omega
      · obtain ⟨p0, p1⟩ := h2 hz
        obtain ⟨m, hm⟩ : ∃ m, Lib.bitLenAux f (x / 2) = m + 1 := ⟨_, (Nat.succ_pred_eq_of_pos p0).symm⟩
        rw [hm] at p1 ⊢
        rw [Nat.pow_succ]
        simp at p1
        omega
theorem bitLen_two (x : Nat) (h : x < 18446744073709551616) : x < 2 ^ Lib.bitLen x ∧ (x ≠ 0 → 0 < Lib.bitLen x ∧ 2 ^ (Lib.bitLen x - 1) ≤ x) := bitLenAux_two 64 x h
theorem and_m (x c : Nat) (hx : x < 18446744073709551616) (hc : c < 18446744073709551616) : bits BinOp.and IntKind.u64 (x : Int) (c : Int) = ((x &&& c : Nat) : Int) := u64_and_nat x c hx hc
set_option maxHeartbeats 4000000 in
set_option maxRecDepth 100000 in
theorem Ones_any (x : Nat) (w : World) (h : x < 18446744073709551616) :
    Calls Tryd.prog 36 #[.int .u64 x] w fun e w' => e = .returned (.int .i64 (Wd.pop 64 x : Nat)) ∧ w = w' := by
  have m0 : Wd.mask 85 8 = 6148914691236517205 := rfl
  have m1 : Wd.mask 51 8 = 3689348814741910323 := rfl
  have m2 : Wd.mask 15 8 = 1085102592571150095 := rfl
  obtain ⟨a, ha⟩ : ∃ a, a = x / 2 &&& 6148914691236517205 := ⟨_, rfl⟩
  obtain ⟨b, hb⟩ : ∃ b, b = x &&& 6148914691236517205 := ⟨_, rfl⟩
  have la : a ≤ 6148914691236517205 := ha ▸ Nat.and_le_right
  have lb : b ≤ 6148914691236517205 := hb ▸ Nat.and_le_right
  have e1 : bits BinOp.and IntKind.u64 ((x : Int) / 2) 6148914691236517205 = (a : Int) := by
    have := and_m (x / 2) 6148914691236517205 (by omega) (by decide)
    rw [← ha] at this
    simpa using this
  have e2 : bits BinOp.and IntKind.u64 (x : Int) 6148914691236517205 = (b : Int) := by
    have := and_m x 6148914691236517205 (by omega) (by decide)
    rw [← hb] at this
    simpa using this
  have hy : Wd.s1 8 x = a + b := by unfold Wd.s1; rw [m0, ha, hb]
  obtain ⟨c, hc⟩ : ∃ c, c = (a + b) / 4 &&& 3689348814741910323 := ⟨_, rfl⟩
  obtain ⟨d, hd⟩ : ∃ d, d = (a + b) &&& 3689348814741910323 := ⟨_, rfl⟩
  have lc : c ≤ 3689348814741910323 := hc ▸ Nat.and_le_right
  have ld : d ≤ 3689348814741910323 := hd ▸ Nat.and_le_right
  have e3 : bits BinOp.and IntKind.u64 (((a : Int) + b) / 4) 3689348814741910323 = (c : Int) := by
    have := and_m ((a + b) / 4) 3689348814741910323 (by omega) (by decide)
    rw [← hc] at this
    simpa using this
  have e4 : bits BinOp.and IntKind.u64 ((a : Int) + b) 3689348814741910323 = (d : Int) := by
    have := and_m (a + b) 3689348814741910323 (by omega) (by decide)
    rw [← hd] at this
    simpa using this
  have hz : Wd.s2 8 (Wd.s1 8 x) = c + d := by rw [hy]; unfold Wd.s2; rw [m1, hc, hd]
  obtain ⟨u, hu⟩ : ∃ u, u = ((c + d) / 16 + (c + d)) &&& 1085102592571150095 := ⟨_, rfl⟩
  have lu : u ≤ 1085102592571150095 := hu ▸ Nat.and_le_right
  have e5 : bits BinOp.and IntKind.u64 (((c : Int) + d) / 16 + ((c : Int) + d)) 1085102592571150095 = (u : Int) := by
    have := and_m ((c + d) / 16 + (c + d)) 1085102592571150095 (by omega) (by decide)
    rw [← hu] at this
    simpa using this
  have hs : u = Wd.sums 8 x := by unfold Wd.sums; rw [hz]; unfold Wd.s3; rw [m2, hu]
  obtain ⟨b1, b2, b3, b4, b5⟩ := Wd.ones_64 x u (u + u / 256) (u + u / 256 + (u + u / 256) / 65536) (u + u / 256 + (u + u / 256) / 65536 + (u + u / 256 + (u + u / 256) / 65536) / 4294967296) hs rfl rfl rfl
  have HP := Lib.hid b5
  clear ha hb hc hd hu hs hy hz m0 m1 m2 b5
  go_enter Tryd.func36, Tryd.ntmps36
  go_wp2
  go_ret
  exact ⟨ret_int (by rw [i64_and127, ← HP.out]; simp), rfl⟩
end Go.Proofs.YtmbnaejoiglckaaDoor
