/-
  same: two lists of types.
-/
import Derived.Test.YtalpkdnnclghaaaDoorSa
import Derived.Deep.QuietTactic
import Derived.BigQuiet
import Derived.Outline
namespace Go.Proofs.YtalpkdnnclghaaaDoor
open Go.RowKit Go.ChangeShapes Go.WideShapes Go.ChangeAt
set_option linter.unusedVariables false
set_option linter.unusedSimpArgs false
theorem dec_neq (a b : Nat) : (((a : Nat) : Int) != ((b : Nat) : Int)) = !decide (a = b) := by
  rw [Bool.eq_iff_iff]; simp; omega
theorem take_eq_more {a b : List Nat} (k : Nat) (ha : k < a.length) (hb : k < b.length) (h : a.take k = b.take k) (he : a.getD k 0 = b.getD k 0) : a.take (k + 1) = b.take (k + 1) := by
  rw [take_more a k ha, take_more b k hb, h, he]
theorem below_drewN {B : Nat} {w w' : World} (h : Below B w w') (n : Nat) : Below B w (w'.drewN n) := ⟨h.os, h.tape, h.output, h.size, h.block⟩
set_option maxHeartbeats 4000000 in
set_option maxRecDepth 100000 in
/-- the same types: of equal lists -/
theorem Same_any (A B : Option Addr) (n m ca cb : Nat) (la lb : List Nat) (hn : n ≤ 1000) (hm : m ≤ 1000) (w : World) (ha : Byt w A n ca la) (hb : Byt w B m cb lb) :
    Calls Tryd.prog 40 #[.slice A n ca, .slice B m cb] w fun e w' => e = .returned (.bool (decide (la = lb))) ∧ Below w.heap.size w w' := by
  have hTo := To_ok B m cb lb hm w hb
  have HTo := Lib.hid hTo
  obtain ⟨hl, hx, hcap, hcm, hc⟩ := ha
  subst hl
  have hlb : lb.length = m := hb.1
  subst hlb
  have HC := Lib.hid hc
  have HXb := Lib.hid hb.2.1
  clear hc hx hb hTo hcap hcm
  by_cases hlen : la.length = lb.length
  · have HL : Hid (lb.length = la.length) := Lib.hid hlen.symm
    rw [← hlen] at hm HTo ⊢
    clear hlen
    go_enter Tryd.func40, Tryd.ntmps40
    go_wp2_with (go_at_call 14; (with_reducible refine HTo.out.mono ?_); rintro e w1 ⟨v, rfl, ho, hbl⟩
                 rw [HL.out] at ho
                 obtain ⟨Av, cv, rfl⟩ := own_slice ho
                 have HBy := Lib.hid (Byt.own ho HXb.out)
                 have HB1 := Lib.hid hbl
                 clear ho hbl)
    go_loopw [6] (fun v6 wr => ∃ k : Nat, k ≤ la.length ∧ v6 = .int .i64 k ∧ Hid (la.take k = lb.take k) ∧ ∃ d, Hid (wr = w1.drewN d)) (fun v6 _ => la.length - (intOf v6).toNat)
    case atStart => exact ⟨0, by omega, rfl, Lib.hid rfl, 0, Lib.hid rfl⟩
    case round =>
      obtain ⟨k, hk, rfl, HE, d, HD⟩ := hrel
      obtain rfl := HD.out
      clear HD
      by_cases hlt : k < la.length
      · obtain ⟨b, off, rfl, hbl, hcell⟩ := HC.out (by omega)
        obtain ⟨_, _, _, _, hcb⟩ := HBy.out
        obtain ⟨b2, off2, rfl, hbl2, hcell2⟩ := hcb (by omega)
        have h0 : ∀ q, (w1.drewN q).cell? ⟨b, off + k, none⟩ = some (.int .u8 ((la.getD k 0 : Nat) : Int)) := fun q => (HB1.out.cell (p := ⟨b, off + k, none⟩) hbl).trans (hcell k hlt)
        have h1 : ∀ q, (w1.drewN q).cell? ⟨b2, off2 + k, none⟩ = some (.int .u8 ((lb.getD k 0 : Nat) : Int)) := fun q => hcell2 k hlt
        have HEM := Lib.hid (fun h => take_eq_more k hlt (by rw [HL.out]; exact hlt) HE.out h)
        have HNE : Hid (la.getD k 0 ≠ lb.getD k 0 → la ≠ lb) := Lib.hid (fun h e => h (by rw [e]))
        have hk0 : (0 : Int) ≤ (k : Int) := by omega
        have hk1 : (k : Int) < (la.length : Int) := by omega
        clear hcell hcell2 hcb
        generalize la.getD k 0 = x at h0 HEM HNE
        generalize lb.getD k 0 = y at h1 HEM HNE
        by_cases hxy : x = y
        · subst hxy
          have HE2 := Lib.hid (HEM.out rfl)
          clear HEM HNE
          go_wp2_with fail
          go_quiet (fail)
          go_wp2
          go_roundw
          case rel => exact ⟨k + 1, by omega, by go_num, HE2, _, Lib.hid rfl⟩
          case measure => simp [intOf]; omega
        · have HN := Lib.hid (HNE.out hxy)
          have hne : (((x : Nat) : Int) != ((y : Nat) : Int)) = true := by rw [dec_neq]; simp [hxy]
          clear HEM HNE hxy
          go_wp2_with fail
          go_quiet (fail)
          go_wp2
          go_ret
          refine ⟨?_, below_drewN (below_drewN HB1.out _) _⟩
          rw [show decide (la = lb) = false by simpa using HN.out]; rfl
      · obtain rfl : k = la.length := by omega
        have HEQ : Hid (la = lb) := Lib.hid (by
          have h := HE.out
          rw [List.take_of_length_le (Nat.le_refl _), List.take_of_length_le (by rw [HL.out]; exact Nat.le_refl _)] at h
          exact h)
        go_wp2
        go_ret
        refine ⟨?_, below_drewN HB1.out _⟩
        rw [show decide (la = lb) = true by simpa using HEQ.out]; rfl
  · have hd : decide (la = lb) = false := by simp; intro h; exact hlen (by rw [h])
    rw [hd]
    have hne : (((la.length : Nat) : Int) != ((lb.length : Nat) : Int)) = true := by simp; omega
    clear hd hlen
    go_enter Tryd.func40, Tryd.ntmps40
    go_wp2_with (go_at_call 14; (with_reducible refine HTo.out.mono ?_); rintro e w1 ⟨v, rfl, ho, hbl⟩
                 obtain ⟨Av, cv, rfl⟩ := own_slice ho
                 have HB1 := Lib.hid hbl
                 clear ho hbl)
    go_ret
    exact ⟨rfl, HB1.out⟩
end Go.Proofs.YtalpkdnnclghaaaDoor
