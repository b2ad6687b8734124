/-
  leb.Unsigned answers what the document asks, for every byte slice and every number of bits.
-/
import Derived.Test.YtggfaalodojjkaaGreatDoorQLb
namespace Go.Proofs.YtggfaalodojjkaaGreatDoor
open Go.RowKit
set_option linter.unusedVariables false
theorem Byt.take {w : World} {A : Option Addr} {n cap : Nat} {l : List Nat} (h : Byt w A n cap l) (s : Nat) (hs : s ≤ n) : Byt w A s cap (l.take s) := by
  obtain ⟨hl, hx, hn, hcap, hc⟩ := h
  refine ⟨by rw [List.length_take]; omega, fun x hm => hx x (List.mem_of_mem_take hm), by omega, hcap, fun h0 => ?_⟩
  obtain ⟨b, off, rfl, hb, hcell⟩ := hc (by omega)
  refine ⟨b, off, rfl, hb, fun j hj => ?_⟩
  rw [hcell j (by omega)]
  congr 3
  rw [List.getD_eq_getElem?_getD, List.getD_eq_getElem?_getD, List.getElem?_take_of_lt hj]
theorem uns_bad (l : List Nat) (n : Int) (h : Leb.bad n) : Leb.uns l n = (0, 0, 1) := by unfold Leb.uns; rw [if_pos h]
theorem sgn_bad (l : List Nat) (n : Int) (h : Leb.bad n) : Leb.sgn l n = (0, 0, 1) := by unfold Leb.sgn; rw [if_pos h]
set_option maxHeartbeats 400000 in
theorem extent_bad (v : Value) (A : Option Addr) (n cap : Nat) (bits : Int) (w : World) (h : Leb.bad bits) :
    Calls Tryz.prog 146 #[.slice A n cap, .int .i64 bits, v] w fun e w' => e = .returned (.tuple #[.int .i64 0, .int .i64 1]) ∧ w = w' := by
  by_cases h1 : bits < 1
  · go_enter Tryz.func146, Tryz.ntmps146
    go_wp2
    go_ret2
    exact ⟨rfl, rfl⟩
  · have h2 : 64 < bits := by unfold Leb.bad at h; omega
    clear h
    go_enter Tryz.func146, Tryz.ntmps146
    go_wp2
    go_ret2
    exact ⟨rfl, rfl⟩
set_option maxHeartbeats 400000 in
theorem unsigned_any (A : Option Addr) (n cap : Nat) (l : List Nat) (bits : Int) (w : World) (hb : Byt w A n cap l) :
    Calls Tryz.prog 127 #[.slice A n cap, .int .i64 bits] w fun e w' =>
      e = .returned (.tuple #[.int .u64 (Leb.uns l bits).1, .int .i64 (Leb.uns l bits).2.1, .int .i64 (Leb.uns l bits).2.2]) ∧ w = w' := by
  by_cases hbad : Leb.bad bits
  · rw [uns_bad l bits hbad]
    have HB := Lib.hid hbad
    clear hbad
    go_enter Tryz.func127, Tryz.ntmps127
    go_wp2_with (go_at_call 146; refine (extent_bad _ _ _ _ _ _ HB.out).mono ?_; rintro e w' ⟨rfl, rfl⟩)
    go_ret3
    exact ⟨rfl, rfl⟩
  · have HB := Lib.hid hbad
    have hbd : 1 ≤ bits ∧ bits ≤ 64 := by unfold Leb.bad at hbad; omega
    have hU := Leb.uns_ext l bits
    rw [if_neg hbad] at hU
    have hsz := Leb.ext_size (Leb.last bits) (Leb.zok (Leb.own bits)) l 0
    have hbd0 := Leb.ext_bad (Leb.last bits) (Leb.zok (Leb.own bits)) l 0
    have hc := extent_z A n cap l bits w hb hbd.1 hbd.2
    clear hbad
    obtain ⟨⟨s, e⟩, hr⟩ : ∃ r, r = Leb.ext (Leb.last bits) (Leb.zok (Leb.own bits)) l 0 := ⟨_, rfl⟩
    rw [← hr] at hc hU hsz hbd0
    simp only at hU hsz hbd0 hc
    by_cases he : e = 0
    · subst he
      have hs := hsz rfl
      have hle : s ≤ 10 := by
        have := Leb.ext_le (Leb.last bits) (Leb.zok (Leb.own bits)) (fun c h => Leb.zok_lt _ _ (Leb.own_bd HB.out).2.1 h) l 0 (by omega)
        rw [← hr] at this
        have h9 := (Leb.own_bd HB.out).2.2.2
        have := this rfl
        omega
      rw [if_pos rfl] at hU
      have hv : Leb.jn (l.take s) = (Leb.uns l bits).1 := by
        have := Leb.uns_lt l bits
        rw [hU] at this ⊢
        exact Nat.mod_eq_of_lt this
      have hU2 := Lib.hid hU
      have hU1 := Lib.hid hv
      have hlen : l.length = n := hb.1
      have hsn : s ≤ n := by omega
      have hcapn : n ≤ cap := hb.2.2.1
      have hj := Lib.hid (join_any A s cap (l.take s) w (hb.take s hsn) hle)
      have HC := Lib.hid hc
      clear hU hv hsz hbd0 hc hr hlen
      have hb := Lib.hid hb
      go_enter Tryz.func127, Tryz.ntmps127
      go_wp2_with (first | (go_at_call 146; refine HC.out.mono ?_; rintro e w' ⟨rfl, rfl⟩) | (go_at_call 148; refine hj.out.mono ?_; rintro e w' ⟨rfl, rfl⟩))
      go_ret3
      exact ⟨by rw [hU1.out, hU2.out]; rfl, rfl⟩
    · obtain rfl : s = 0 := hbd0 he
      have hU2 := Lib.hid (hU.trans (if_neg he))
      have hee : (((e : Nat) : Int) != 0) = true := by simp [he]
      have HC := Lib.hid hc
      clear hU hsz hbd0 he hc hr
      go_enter Tryz.func127, Tryz.ntmps127
      go_wp2_with (go_at_call 146; refine HC.out.mono ?_; rintro e w' ⟨rfl, rfl⟩)
      go_ret3
      exact ⟨by rw [hU2.out]; rfl, rfl⟩
end Go.Proofs.YtggfaalodojjkaaGreatDoor
