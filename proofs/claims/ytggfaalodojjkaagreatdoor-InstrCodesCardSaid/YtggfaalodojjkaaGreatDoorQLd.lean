/-
  leb.Signed, leb.Size, leb.SizeSigned and the given example (awake): what they answer, for every input.
-/
import Derived.Test.YtggfaalodojjkaaGreatDoorQLc
namespace Go.Proofs.YtggfaalodojjkaaGreatDoor
open Go.RowKit
set_option linter.unusedVariables false
theorem shl_hi (s : Nat) (h : s ≤ 10) : Op.shift BinOp.shl IntKind.u64 18446744073709551615 IntKind.i64 (7 * (s : Int)) = pure (.int .u64 (Leb.hi s)) := by
  rw [shift_shl_any _ _ _ _ (by omega)]
  have e1 : (7 * (s : Int)).toNat = 7 * s := by omega
  have e2 : IntKind.u64.bits = 64 := rfl
  have e3 : (18446744073709551615 : Int) * 2 ^ min (7 * s) 64 = ((18446744073709551615 * 2 ^ min (7 * s) 64 : Nat) : Int) := by
    rw [Int.natCast_mul, ← Leb.ipow_cast]; rfl
  rw [e1, e2, e3, IntKind.wrap_u64, ← Leb.hi_shift s h]
  rfl
theorem and64_lo (c : Nat) (h : c < 256) (h2 : ¬ 64 ≤ c % 128) : (bits BinOp.and IntKind.u8 (c : Int) 64 != 0) = false := by
  have e := u8_and_nat c 64 h (by omega)
  rw [show ((64 : Nat) : Int) = 64 from rfl] at e
  have : c &&& 64 = 0 := by
    have := nat_bit 6 c
    rw [show (2 : Nat) ^ 6 = 64 from rfl] at this
    rw [this]; omega
  rw [e, this]; rfl
theorem and64_hi (c : Nat) (h : c < 256) (h2 : 64 ≤ c % 128) : (bits BinOp.and IntKind.u8 (c : Int) 64 != 0) = true := by
  have e := u8_and_nat c 64 h (by omega)
  rw [show ((64 : Nat) : Int) = 64 from rfl] at e
  have : c &&& 64 = 64 := by
    have := nat_bit 6 c
    rw [show (2 : Nat) ^ 6 = 64 from rfl] at this
    rw [this]; omega
  rw [e, this]; rfl
set_option maxHeartbeats 400000 in
set_option maxRecDepth 100000 in
theorem signed_any (A : Option Addr) (n cap : Nat) (l : List Nat) (bits : Int) (w : World) (hb : Byt w A n cap l) :
    Calls Tryz.prog 129 #[.slice A n cap, .int .i64 bits] w fun e w' =>
      e = .returned (.tuple #[.int .i64 (Leb.sgn l bits).1, .int .i64 (Leb.sgn l bits).2.1, .int .i64 (Leb.sgn l bits).2.2]) ∧ w = w' := by
  by_cases hbad : Leb.bad bits
  · rw [sgn_bad l bits hbad]
    have HB := Lib.hid hbad
    clear hbad
    go_enter Tryz.func129, Tryz.ntmps129
    go_wp2_with (go_at_call 146; refine (extent_bad _ _ _ _ _ _ HB.out).mono ?_; rintro e w' ⟨rfl, rfl⟩)
    go_ret3
    exact ⟨rfl, rfl⟩
  · have HB := Lib.hid hbad
    have hbd : 1 ≤ bits ∧ bits ≤ 64 := by unfold Leb.bad at hbad; omega
    have hU := Leb.sgn_ext l bits
    rw [if_neg hbad] at hU
    have hsz := Leb.ext_size (Leb.last bits) (Leb.sok (Leb.own bits)) l 0
    have hbd0 := Leb.ext_bad (Leb.last bits) (Leb.sok (Leb.own bits)) l 0
    have hc := extent_s A n cap l bits w hb hbd.1 hbd.2
    clear hbad
    obtain ⟨⟨s, e⟩, hr⟩ : ∃ r, r = Leb.ext (Leb.last bits) (Leb.sok (Leb.own bits)) l 0 := ⟨_, rfl⟩
    rw [← hr] at hc hU hsz hbd0
    simp only at hU hsz hbd0 hc
    by_cases he : e = 0
    · subst he
      have hs := hsz rfl
      have hle : s ≤ 10 := by
        have := Leb.ext_le (Leb.last bits) (Leb.sok (Leb.own bits)) (fun c h => Leb.sok_lt _ _ h) l 0 (by omega)
        rw [← hr] at this
        have h9 := (Leb.own_bd HB.out).2.2.2
        have := this rfl
        omega
      rw [if_pos rfl] at hU
      have hU2 := Lib.hid hU
      have hlen : l.length = n := hb.1
      have hsn : s ≤ n := by omega
      have hcapn : n ≤ cap := hb.2.2.1
      have hj := Lib.hid (join_any A s cap (l.take s) w (hb.take s hsn) hle)
      have HC := Lib.hid hc
      obtain ⟨b, off, rfl, _, hcell⟩ := hb.2.2.2.2 (by omega)
      have hck := hcell (s - 1) (by omega)
      have hcx := getD_lt l (s - 1) hb.2.1
      clear hU hsz hbd0 hc hr hlen hcell
      obtain ⟨c, hcd⟩ : ∃ c, c = l.getD (s - 1) 0 := ⟨_, rfl⟩
      rw [← hcd] at hck hcx
      have hcE := Lib.hid hcd
      clear hcd
      have hb' := Lib.hid hb
      clear hb
      have hs1 : 1 ≤ s := by omega
      have hlen' : l.length = n := hb'.out.1
      have hlt' : (l.take s).length = s := by rw [List.length_take]; omega
      have hne : l.take s ≠ [] := by
        intro h0
        rw [h0] at hlt'
        simp at hlt'; omega
      have hrange := Leb.sgn_lt l bits
      rw [hU2.out] at hrange
      have htop := Leb.topset_take l s hs1 (by omega)
      rw [← hcE.out] at htop
      clear hlen'
      by_cases h64 : 64 ≤ c % 128
      · have ha := and64_hi c hcx h64
        obtain ⟨q, hq⟩ := Leb.sgn_top (l.take s) hne (by omega) (by rw [htop]; simp [h64])
        rw [hlt'] at hq
        have hor : Hid (Go.bits BinOp.or IntKind.u64 (Leb.jn (l.take s) : Int) (Leb.hi s : Int) = ((Leb.jn (l.take s) ||| Leb.hi s : Nat) : Int)) := Lib.hid (u64_or_nat _ _ (Leb.jn_lt _) (Leb.hi_lt s))
        have hsv : Hid (wrap64 (Go.bits BinOp.or IntKind.u64 (Leb.jn (l.take s) : Int) (Leb.hi s : Int)) = Leb.svl (l.take s)) := Lib.hid (by
          rw [hor.out, hq]; unfold wrap64; simp only at hrange; omega)
        have hsh := shl_hi s hle
        clear h64 hq hor hrange htop hne hlt'
        go_enter Tryz.func129, Tryz.ntmps129
        go_wp2_with (first | (go_at_call 146; refine HC.out.mono ?_; rintro e w' ⟨rfl, rfl⟩) | (go_at_call 148; refine hj.out.mono ?_; rintro e w' ⟨rfl, rfl⟩))
        go_ret3
        exact ⟨by rw [hU2.out]; exact ret_three hsv.out rfl rfl, rfl⟩
      · have ha := and64_lo c hcx h64
        obtain ⟨q, hq⟩ := Leb.sgn_notop (l.take s) hne (by rw [htop]; simp [h64])
        have hsv : Hid (wrap64 (Leb.jn (l.take s) : Int) = Leb.svl (l.take s)) := Lib.hid (by
          rw [hq]; unfold wrap64; simp only at hrange; omega)
        clear h64 hq hrange htop hne hlt'
        go_enter Tryz.func129, Tryz.ntmps129
        go_wp2_with (first | (go_at_call 146; refine HC.out.mono ?_; rintro e w' ⟨rfl, rfl⟩) | (go_at_call 148; refine hj.out.mono ?_; rintro e w' ⟨rfl, rfl⟩))
        go_ret3
        exact ⟨by rw [hU2.out]; exact ret_three hsv.out rfl rfl, rfl⟩
    · obtain rfl : s = 0 := hbd0 he
      have hU2 := Lib.hid (hU.trans (if_neg he))
      have hee : (((e : Nat) : Int) != 0) = true := by simp [he]
      have HC := Lib.hid hc
      clear hU hsz hbd0 he hc hr
      go_enter Tryz.func129, Tryz.ntmps129
      go_wp2_with (go_at_call 146; refine HC.out.mono ?_; rintro e w' ⟨rfl, rfl⟩)
      go_ret3
      exact ⟨by rw [hU2.out]; rfl, rfl⟩
set_option maxHeartbeats 400000 in
set_option maxRecDepth 100000 in
theorem size_any (n : Nat) (w : World) (h : n < 2 ^ 64) :
    Calls Tryz.prog 61 #[.int .u64 n] w fun e w' => e = .returned (.int .i64 (Leb.szU n + 1 : Nat)) ∧ w = w' := by
  obtain ⟨r, hr⟩ : ∃ r, r = Leb.szU n + 1 := ⟨_, rfl⟩
  rw [← hr]
  have hle := Leb.szU_le 9 n (by omega)
  have HR := Lib.hid hr
  clear hr
  clear h
  go_enter Tryz.func61, Tryz.ntmps61
  go_wp2
  go_loop [0, 3] (fun v s => ∃ m k : Nat, v = .int .u64 m ∧ s = .int .i64 (k : Nat) ∧ Hid (r = Leb.szU m + k) ∧ k ≤ r) (fun v _ => (intOf v).toNat)
  case atStart => exact ⟨n, 1, rfl, rfl, HR, by have := HR.out; omega⟩
  case round =>
    obtain ⟨m, k, rfl, rfl, H, hk⟩ := hrel
    by_cases hlt : m < 128
    · have H2 : Hid (k = r) := Lib.hid (by rw [H.out, Leb.szU_lo m hlt]; omega)
      go_wp2
      go_ret
      exact ⟨ret_int (by rw [H2.out]), rfl⟩
    · have H2 : Hid (r = Leb.szU (m / 128) + (k + 1)) := Lib.hid (by rw [H.out, Leb.szU_hi m hlt]; omega)
      have hk1 : k + 1 ≤ r := by have := H2.out; omega
      have hr10 : r ≤ 10 := by have := HR.out; omega
      go_wp2
      go_round
      case rel => exact ⟨m / 128, k + 1, by go_num, by go_num, H2, hk1⟩
      case measure => simp [intOf]; omega
set_option maxHeartbeats 400000 in
set_option maxRecDepth 100000 in
theorem sizeS_any (n : Int) (w : World) (h : -9223372036854775808 ≤ n) (h' : n < 9223372036854775808) :
    Calls Tryz.prog 58 #[.int .i64 n] w fun e w' => e = .returned (.int .i64 (Leb.szS n + 1 : Nat)) ∧ w = w' := by
  obtain ⟨r, hr⟩ : ∃ r, r = Leb.szS n + 1 := ⟨_, rfl⟩
  rw [← hr]
  have hle := Leb.szS_le 9 n (by omega) (by omega)
  have HR := Lib.hid hr
  clear hr
  go_enter Tryz.func58, Tryz.ntmps58
  go_wp2
  go_loop [0, 3] (fun v s => ∃ (m : Int) (k : Nat), v = .int .i64 m ∧ s = .int .i64 (k : Nat) ∧ Hid (r = Leb.szS m + k) ∧ k ≤ r) (fun v _ => (intOf v).natAbs)
  case atStart => exact ⟨n, 1, rfl, rfl, HR, by have := HR.out; omega⟩
  case round =>
    obtain ⟨m, k, rfl, rfl, H, hk⟩ := hrel
    by_cases hlt : -64 ≤ m ∧ m < 64
    · have H2 : Hid (k = r) := Lib.hid (by rw [H.out, Leb.szS_lo m hlt]; omega)
      obtain ⟨a1, a2⟩ := hlt
      go_wp2
      go_ret
      exact ⟨ret_int (by rw [H2.out]), rfl⟩
    · have H2 : Hid (r = Leb.szS (m / 128) + (k + 1)) := Lib.hid (by rw [H.out, Leb.szS_hi m hlt]; omega)
      have hk1 : k + 1 ≤ r := by have := H2.out; omega
      have hr10 : r ≤ 10 := by have := HR.out; omega
      rcases (by omega : m < -64 ∨ 64 ≤ m) with h3 | h3
      · clear hlt
        go_wp2
        go_round
        case rel => exact ⟨m / 128, k + 1, by go_num, by go_num, H2, hk1⟩
        case measure => simp [intOf]; omega
      · clear hlt
        have h4 : ¬ m < -64 := by omega
        go_wp2
        go_round
        case rel => exact ⟨m / 128, k + 1, by go_num, by go_num, H2, hk1⟩
        case measure => simp [intOf]; omega
theorem awake_read : Leb.uns [229, 142, 38] 32 = (624485, 3, 0) := by decide +kernel
theorem byt_alloc (w : World) (l : List Nat) (t : TypeId) (c : Array Value) (hl : c = (l.map fun x => Value.int .u8 (x : Nat)).toArray) (hx : ∀ x ∈ l, x < 256) (n : Nat) (hn : l.length = n) (hmax : n ≤ maxLen) :
    Byt (w.alloc (.cells c t)) (some ⟨w.heap.size, 0, none⟩) n n l := by
  refine ⟨hn, hx, Nat.le_refl _, hmax, fun _ => ⟨_, 0, rfl, by simp, fun j hj => ?_⟩⟩
  subst hl
  have := cell_of_row (w.alloc (.cells (l.map fun x => Value.int .u8 (x : Nat)).toArray t)) w.heap.size (0 + j) _ t (0, 0) (heap_alloc_new w _)
  rw [this]
  simp
  rw [List.getElem?_eq_getElem (by omega)]
  exact ⟨_, rfl, rfl⟩
end Go.Proofs.YtggfaalodojjkaaGreatDoor
