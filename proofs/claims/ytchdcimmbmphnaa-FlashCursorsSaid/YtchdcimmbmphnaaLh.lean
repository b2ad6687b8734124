/-
  The answer of the document (Signed) is the one that leb.Signed gives, for every byte slice of at most 1000 bytes and every number of bits.
-/
import Derived.Test.YtchdcimmbmphnaaLf
import Derived.BigQuiet
import Derived.Deep.QuietTactic
namespace Go.Proofs.Ytchdcimmbmphnaa
open Go.RowKit
set_option linter.unusedVariables false
/-- the bits of bytes are those of the number with a sign that they are -/
theorem svl_bit (l : List Nat) (j : Nat) (hj : j < 7 * l.length) : Leb.bit l j = decide (Leb.svl l / 2 ^ j % 2 = 1) := by
  have hne : l ≠ [] := by rintro rfl; simp at hj
  have hv := Leb.val_svl l hne
  rw [Leb.bit_val]
  have e : ((Leb.val l / 2 ^ j % 2 : Nat) : Int) = Leb.svl l / 2 ^ j % 2 := by
    rw [Int.natCast_emod, Int.natCast_ediv, hv]
    have hp : ((2 ^ j : Nat) : Int) = 2 ^ j := (Leb.ipow_cast j).symm
    rw [hp]
    split
    · have e1 : (2 : Int) ^ (7 * l.length) = 2 ^ j * (2 * 2 ^ (7 * l.length - j - 1)) := by
        rw [← Int.pow_succ', ← Int.pow_add]; congr 1; omega
      rw [e1, Int.add_mul_ediv_left _ _ (by rw [Leb.ipow_cast]; have := Nat.two_pow_pos j; omega)]
      generalize Leb.svl l / 2 ^ j = q
      generalize (2 : Int) ^ (7 * l.length - j - 1) = z
      omega
    · rw [Int.add_zero]; rfl
  rw [Bool.eq_iff_iff]
  simp only [decide_eq_true_eq]
  omega
/-- all bits from h on are the same so far -/
def SA (s : Int) (h i : Nat) : Prop := ∀ j, h ≤ j → j < i → s / 2 ^ j % 2 = s / 2 ^ h % 2
theorem half (s : Int) (j : Nat) : s / 2 ^ j = 2 * (s / 2 ^ (j + 1)) + s / 2 ^ j % 2 := by
  have : s / 2 ^ (j + 1) = s / 2 ^ j / 2 := by
    rw [Int.pow_succ, Int.ediv_ediv_of_nonneg]
    rw [Leb.ipow_cast]; exact Int.natCast_nonneg _
  omega
theorem top_half (s : Int) (t : Nat) (h1 : -(2 ^ t : Int) ≤ s) (h2 : s < 2 ^ t) : s / 2 ^ t = 0 ∨ s / 2 ^ t = -1 := by
  have hp : (0 : Int) < 2 ^ t := by rw [Leb.ipow_cast]; have := Nat.two_pow_pos t; omega
  rcases Int.lt_or_le s 0 with h | h
  · right
    have a1 : -1 ≤ s / 2 ^ t := (Int.le_ediv_iff_mul_le hp).2 (by omega)
    have a2 : s / 2 ^ t < 0 := (Int.ediv_lt_iff_lt_mul hp).2 (by omega)
    omega
  · left
    exact Int.ediv_eq_zero_of_lt h h2
theorem fit_of (s : Int) (h : Nat) (hv : s / 2 ^ h = 0 ∨ s / 2 ^ h = -1) : -(2 ^ h : Int) ≤ s ∧ s < 2 ^ h := by
  have hp : (0 : Int) < 2 ^ h := by rw [Leb.ipow_cast]; have := Nat.two_pow_pos h; omega
  rcases hv with hv | hv
  · have := (Int.ediv_eq_iff_of_pos hp).1 hv
    omega
  · have := (Int.ediv_eq_iff_of_pos hp).1 hv
    omega
theorem SA_down (s : Int) (h t : Nat) (hht : h ≤ t) (ht : s / 2 ^ t = 0 ∨ s / 2 ^ t = -1) : ∀ d, SA s h (t + 1) → d ≤ t - h → s / 2 ^ (t - d) = s / 2 ^ t := by
  intro d hs
  induction d with
  | zero => intro _; rfl
  | succ d ih =>
    intro hd
    have i1 := ih (by omega)
    have e : t - (d + 1) + 1 = t - d := by omega
    have hh := half s (t - (d + 1))
    rw [e, i1] at hh
    have b1 := hs (t - (d + 1)) (by omega) (by omega)
    have b2 := hs t hht (by omega)
    rw [← b2] at b1
    rw [b1] at hh
    omega
theorem SA_end (s : Int) (h t : Nat) (hht : h ≤ t) (h1 : -(2 ^ t : Int) ≤ s) (h2 : s < 2 ^ t) (hs : SA s h (t + 1)) : (s / 2 ^ h = 0 ∨ s / 2 ^ h = -1) ∧ -(2 ^ h : Int) ≤ s ∧ s < 2 ^ h := by
  have ht := top_half s t h1 h2
  have := SA_down s h t hht ht (t - h) hs (Nat.le_refl _)
  rw [show t - (t - h) = h by omega] at this
  rw [← this] at ht
  exact ⟨ht, fit_of s h ht⟩
theorem SA_no (s : Int) (h j : Nat) (hj : h ≤ j) (hne : s / 2 ^ j % 2 ≠ s / 2 ^ h % 2) : ¬ (-(2 ^ h : Int) ≤ s ∧ s < 2 ^ h) := by
  rintro ⟨h1, h2⟩
  have g : ∀ i, h ≤ i → -(2 ^ i : Int) ≤ s ∧ s < 2 ^ i := fun i hi => by
    have := Leb.pow_le hi
    rw [Leb.ipow_cast] at *
    omega
  have a := top_half s h h1 h2
  have b := top_half s j (g j hj).1 (g j hj).2
  have hp : (0 : Int) < 2 ^ h := by rw [Leb.ipow_cast]; have := Nat.two_pow_pos h; omega
  have hq : (0 : Int) < 2 ^ j := by rw [Leb.ipow_cast]; have := Nat.two_pow_pos j; omega
  rcases a with a | a <;> rcases b with b | b <;> rw [a, b] at hne
  · exact hne rfl
  · have x1 := (Int.ediv_eq_iff_of_pos hp).1 a
    have x2 := (Int.ediv_eq_iff_of_pos hq).1 b
    omega
  · have x1 := (Int.ediv_eq_iff_of_pos hp).1 a
    have x2 := (Int.ediv_eq_iff_of_pos hq).1 b
    omega
  · exact hne rfl
theorem div_range (X : Int) (j : Nat) (h : -9223372036854775808 ≤ X ∧ X < 9223372036854775808) : -9223372036854775808 ≤ X / 2 ^ j ∧ X / 2 ^ j < 9223372036854775808 := by
  have hp : (1 : Int) ≤ 2 ^ j := by rw [Leb.ipow_cast]; have := Nat.two_pow_pos j; omega
  generalize (2 : Int) ^ j = p at *
  exact ⟨(Int.le_ediv_iff_mul_le (by omega)).2 (by omega), (Int.ediv_lt_iff_lt_mul (by omega)).2 (by omega)⟩
theorem half_step (X : Int) (j : Nat) (x : Int) (b : Bool) (h : -9223372036854775808 ≤ X ∧ X < 9223372036854775808) (hx : x = X / 2 ^ (j + 1)) (hb : b = decide (X / 2 ^ j % 2 = 1)) :
    (if b = true then wrap64 (wrap64 (2 * x) + 1) else wrap64 (2 * x)) = X / 2 ^ j := by
  have hh := half X j
  have hr := div_range X j h
  rw [← hx] at hh
  generalize X / 2 ^ j = q at *
  unfold wrap64
  cases b
  · have := of_decide_eq_false hb.symm
    simp only [Bool.false_eq_true, if_false]
    omega
  · have := of_decide_eq_true hb.symm
    simp only [if_true]
    omega
theorem SA_step (s : Int) (h i : Nat) (hs : SA s h i) (hb : s / 2 ^ i % 2 = s / 2 ^ h % 2) : SA s h (i + 1) := fun j h1 h2 => by
  by_cases e : j = i
  · subst e; exact hb
  · exact hs j h1 (by omega)
set_option maxHeartbeats 400000 in
set_option maxRecDepth 100000 in
theorem refS_any (A : Option Addr) (n cap : Nat) (l : List Nat) (bits : Int) (w : World) (hb : Byt w A n cap l) (hn1 : n ≤ 1000) :
    Calls Try.prog 17 #[.slice A n cap, .int .i64 bits] w fun e w' =>
      e = .returned (.tuple #[.int .i64 (Leb.sgn l bits).1, .int .i64 (Leb.sgn l bits).2.1, .int .i64 (Leb.sgn l bits).2.2]) ∧ Below w.heap.size w w' := by
  by_cases hbad : Leb.bad bits
  · rw [sgn_bad l bits hbad]
    have HB := Lib.hid hbad
    clear hbad
    go_enter Try.func17, Try.ntmps17
    go_wp2_with (go_at_call 43; refine (read_bad _ _ _ _ _ HB.out).mono ?_; rintro e w' ⟨rfl, rfl⟩)
    go_ret3
    exact ⟨rfl, Below.refl _ _⟩
  · have hbd : 1 ≤ bits ∧ bits ≤ 64 := by unfold Leb.bad at hbad; omega
    obtain ⟨h1, h64⟩ := hbd
    have hU : Hid (Leb.sgn l bits = _) := Lib.hid (by unfold Leb.sgn; rw [if_neg hbad])
    have hsz := Leb.rdE_size bits.toNat l 0
    have hbd0 := Leb.rdE_bad bits.toNat l 0
    obtain ⟨⟨s, e⟩, hr⟩ : ∃ r, r = Leb.rdE bits.toNat l 0 := ⟨_, rfl⟩
    rw [← hr] at hU hsz hbd0
    simp only at hU hsz hbd0
    have hlen : l.length = n := hb.1
    by_cases he : e = 0
    · subst he
      have hs := hsz rfl
      have hsn : 1 ≤ s ∧ s ≤ 1000 := by omega
      obtain ⟨hs1, hs2⟩ := hsn
      have HC := Lib.hid (read_ok A n cap l bits w s hb h1 h64 hn1 hr.symm hs1)
      have hls : (l.take s).length = s := by rw [List.length_take]; omega
      have hne : l.take s ≠ [] := by intro h0; rw [h0] at hls; simp at hls; omega
      obtain ⟨X, hX⟩ : ∃ X, X = Leb.svl (l.take s) := ⟨_, rfl⟩
      have hbt : Hid (∀ j, j < 7 * s → Leb.bit (l.take s) j = decide (X / 2 ^ j % 2 = 1)) := Lib.hid (fun j hj => by rw [svl_bit _ _ (by rw [hls]; exact hj), hX])
      have hXr : Hid (-(2 ^ (7 * s - 1) : Int) ≤ X ∧ X < 2 ^ (7 * s - 1)) := Lib.hid (by
        have := Leb.svl_range (l.take s) hne
        rw [hls] at this
        rw [hX]; exact this)
      have hU2 : Hid (Leb.sgn l bits = if Leb.fit bits.toNat X then (X, s, 0) else (0, 0, 4)) := Lib.hid (by rw [hU.out, if_pos rfl, hX])
      clear hsz hbd0 hs hlen hr hbad hb hX hU hls hne
      obtain ⟨h, hh⟩ : ∃ h : Nat, h + 1 = min bits.toNat (7 * s) := ⟨min bits.toNat (7 * s) - 1, by omega⟩
      have hh1 : (bits ≤ 7 * (s : Int) ∧ bits = (h : Int) + 1) ∨ (7 * (s : Int) < bits ∧ 7 * s = h + 1) := by omega
      clear hh
      rcases hh1 with ⟨c1, c2⟩ | ⟨c1, c2⟩
      · subst c2
        go_enter Try.func17, Try.ntmps17
        go_wp2_with (go_at_call 43; refine HC.out.mono ?_; rintro e w' ⟨g, cp, rfl, hcp, hmax, hcell, hbel⟩; have hbe := Lib.hid hbel; have hce := Lib.hid hcell; clear hbel hcell)
        go_loopw [11] (fun i wr => ∃ k : Nat, h ≤ k ∧ k ≤ 7 * s ∧ i = .int .i64 k ∧ Hid (SA X h k) ∧ Hid (∀ j, j < 7 * s → wr.cell? ⟨g, j, none⟩ = some (.bool (Leb.bit (l.take s) j))) ∧ Hid (Below w.heap.size w wr)) (fun i _ => 7 * s - (intOf i).toNat)
        case atStart => exact ⟨h, Nat.le_refl _, by omega, rfl, Lib.hid (fun j a b => by omega), Lib.hid (fun j hj => hce.out j (by omega)), hbe⟩
        case round =>
          obtain ⟨k, hhk, hkT, rfl, Hs, hce1, hbe1⟩ := hrel
          by_cases hlt : k < 7 * s
          · have hck := hce1.out k hlt
            have hch := hce1.out h (by omega)
            have e1 := hbt.out k (by omega)
            have e2 := hbt.out h (by omega)
            obtain ⟨bk, hbk⟩ : ∃ b, b = Leb.bit (l.take s) k := ⟨_, rfl⟩
            obtain ⟨bh, hbh⟩ : ∃ b, b = Leb.bit (l.take s) h := ⟨_, rfl⟩
            rw [← hbk] at hck e1
            rw [← hbh] at hch e2
            clear hbk hbh
            by_cases hne : bk = bh
            · subst hne
              have HS : Hid (SA X h (k + 1)) := Lib.hid (SA_step _ _ _ Hs.out (by
                rw [e1] at e2
                by_cases q : X / 2 ^ k % 2 = 1
                · simp only [q, decide_true] at e2
                  have := of_decide_eq_true e2.symm
                  omega
                · simp only [q, decide_false] at e2
                  have := of_decide_eq_false e2.symm
                  omega))
              have hd : (bk != bk) = false := by simp
              clear e1 e2
              go_wp2
              go_quiet (fail)
              go_wp2
              go_roundw
              case rel => exact ⟨k + 1, by omega, by omega, by go_num, HS, hce1, Lib.hid (below_drewN hbe1.out _)⟩
              case measure => simp [intOf]; omega
            · have HZ : Hid (Leb.sgn l ((h : Int) + 1) = (0, 0, 4)) := Lib.hid (by
                rw [hU2.out, if_neg]
                have hno := SA_no X h k hhk (by
                  intro q
                  apply hne
                  rw [e1, e2, q])
                have e : ((h : Int) + 1).toNat - 1 = h := by omega
                unfold Leb.fit
                rw [e]; exact hno)
              clear e1 e2
              cases bk <;> cases bh <;> (try exact absurd rfl hne)
              all_goals
                clear hne
                go_wp2
                go_quiet (fail)
                go_wp2
                go_ret3
                exact ⟨by rw [HZ.out]; rfl, below_drewN hbe1.out _⟩
          · obtain rfl : k = 7 * s := by omega
            have hend := SA_end X h (7 * s - 1) (by omega) hXr.out.1 hXr.out.2 (by
              have e : 7 * s - 1 + 1 = 7 * s := by omega
              rw [e]; exact Hs.out)
            have HZ : Hid (Leb.sgn l ((h : Int) + 1) = (X, s, 0)) := Lib.hid (by
              rw [hU2.out, if_pos]
              have e : ((h : Int) + 1).toNat - 1 = h := by omega
              unfold Leb.fit
              rw [e]; exact hend.2)
            have HT := Lib.hid hend.1
            have hX63 : Hid (-9223372036854775808 ≤ X ∧ X < 9223372036854775808) := Lib.hid (by
              have := Leb.pow_le (a := h) (b := 63) (by omega)
              have q := hend.2
              rw [Leb.ipow_cast] at q
              omega)
            clear hend
            go_wp2
            go_loop [12, 13] (fun v i => ∃ (k : Nat) (x : Int), k ≤ h + 1 ∧ i = .int .i64 ((k : Int) - 1) ∧ v = .int .i64 x ∧ Hid (x = if k = h + 1 then 0 else X / 2 ^ k)) (fun _ i => (intOf i + 1).toNat)
            case atStart => exact ⟨h + 1, 0, by omega, by go_num, rfl, Lib.hid (by rw [if_pos rfl])⟩
            case round =>
              obtain ⟨k, x, hk, rfl, rfl, Hx⟩ := hrel
              by_cases h0 : k = 0
              · subst h0
                have HX : Hid (x = X) := Lib.hid (by rw [Hx.out, if_neg (by omega)]; simp)
                go_wp2
                go_ret3
                exact ⟨by rw [HZ.out, HX.out]; rfl, hbe1.out⟩
              · obtain ⟨j, rfl⟩ : ∃ j, k = j + 1 := ⟨k - 1, by omega⟩
                have hbj := hbt.out j (by omega)
                have hcj := hce1.out j (by omega)
                obtain ⟨b, hb⟩ : ∃ b, b = Leb.bit (l.take s) j := ⟨_, rfl⟩
                rw [← hb] at hcj hbj
                clear hb
                by_cases hjh : j = h
                · subst hjh
                  have hx0 : x = 0 := by rw [Hx.out, if_pos rfl]
                  subst hx0
                  have HV : Hid ((if b = true then -1 else 0) = X / 2 ^ j) := Lib.hid (by
                    rw [hbj]
                    rcases HT.out with t | t <;> rw [t] <;> rfl)
                  have hjj : ((j : Int) == (j : Int)) = true := by simp
                  clear hbj
                  cases b
                  all_goals
                    go_wp2
                    go_round
                    case rel => exact ⟨j, _, by omega, by go_num, rfl, Lib.hid (by rw [if_neg (by omega), ← HV.out]; rfl)⟩
                    case measure => simp [intOf] <;> omega
                · have hjj : ((j : Int) == (h : Int)) = false := by rw [dec_beq]; simp [hjh]
                  have hxx : x = X / 2 ^ (j + 1) := by rw [Hx.out, if_neg (by omega)]
                  have HV := Lib.hid (half_step X j x b hX63.out hxx hbj)
                  clear hbj hjh hxx
                  cases b
                  all_goals
                    go_wp2
                    go_round
                    case rel => exact ⟨j, _, by omega, by go_num, rfl, Lib.hid (by rw [if_neg (by omega), ← HV.out]; rfl)⟩
                    case measure => simp [intOf] <;> omega
      · go_enter Try.func17, Try.ntmps17
        go_wp2_with (go_at_call 43; refine HC.out.mono ?_; rintro e w' ⟨g, cp, rfl, hcp, hmax, hcell, hbel⟩; have hbe := Lib.hid hbel; have hce := Lib.hid hcell; clear hbel hcell)
        go_loopw [11] (fun i wr => ∃ k : Nat, h ≤ k ∧ k ≤ (h + 1) ∧ i = .int .i64 k ∧ Hid (SA X h k) ∧ Hid (∀ j, j < (h + 1) → wr.cell? ⟨g, j, none⟩ = some (.bool (Leb.bit (l.take s) j))) ∧ Hid (Below w.heap.size w wr)) (fun i _ => (h + 1) - (intOf i).toNat)
        case atStart => exact ⟨h, Nat.le_refl _, by omega, rfl, Lib.hid (fun j a b => by omega), Lib.hid (fun j hj => hce.out j (by omega)), hbe⟩
        case round =>
          obtain ⟨k, hhk, hkT, rfl, Hs, hce1, hbe1⟩ := hrel
          by_cases hlt : k < (h + 1)
          · have hck := hce1.out k hlt
            have hch := hce1.out h (by omega)
            have e1 := hbt.out k (by omega)
            have e2 := hbt.out h (by omega)
            obtain ⟨bk, hbk⟩ : ∃ b, b = Leb.bit (l.take s) k := ⟨_, rfl⟩
            obtain ⟨bh, hbh⟩ : ∃ b, b = Leb.bit (l.take s) h := ⟨_, rfl⟩
            rw [← hbk] at hck e1
            rw [← hbh] at hch e2
            clear hbk hbh
            by_cases hne : bk = bh
            · subst hne
              have HS : Hid (SA X h (k + 1)) := Lib.hid (SA_step _ _ _ Hs.out (by
                rw [e1] at e2
                by_cases q : X / 2 ^ k % 2 = 1
                · simp only [q, decide_true] at e2
                  have := of_decide_eq_true e2.symm
                  omega
                · simp only [q, decide_false] at e2
                  have := of_decide_eq_false e2.symm
                  omega))
              have hd : (bk != bk) = false := by simp
              clear e1 e2
              go_wp2
              go_quiet (fail)
              go_wp2
              go_roundw
              case rel => exact ⟨k + 1, by omega, by omega, by go_num, HS, hce1, Lib.hid (below_drewN hbe1.out _)⟩
              case measure => simp [intOf]; omega
            · have HZ : Hid (Leb.sgn l bits = (0, 0, 4)) := Lib.hid (by
                rw [hU2.out, if_neg]
                have hno := SA_no X h k hhk (by
                  intro q
                  apply hne
                  rw [e1, e2, q])
                exact absurd (by rw [show k = h by omega]) (fun q : X / 2 ^ k % 2 = X / 2 ^ h % 2 => hne (by rw [e1, e2, q])))
              clear e1 e2
              cases bk <;> cases bh <;> (try exact absurd rfl hne)
              all_goals
                clear hne
                go_wp2
                go_quiet (fail)
                go_wp2
                go_ret3
                exact ⟨by rw [HZ.out]; rfl, below_drewN hbe1.out _⟩
          · obtain rfl : k = (h + 1) := by omega
            have hend := SA_end X h (7 * s - 1) (by omega) hXr.out.1 hXr.out.2 (by
              have e : 7 * s - 1 + 1 = (h + 1) := by omega
              rw [e]; exact Hs.out)
            have HZ : Hid (Leb.sgn l bits = (X, s, 0)) := Lib.hid (by
              rw [hU2.out, if_pos]
              have := Leb.pow_le (a := h) (b := bits.toNat - 1) (by omega)
              have q := hend.2
              unfold Leb.fit
              rw [Leb.ipow_cast] at *
              omega)
            have HT := Lib.hid hend.1
            have hX63 : Hid (-9223372036854775808 ≤ X ∧ X < 9223372036854775808) := Lib.hid (by
              have := Leb.pow_le (a := h) (b := 63) (by omega)
              have q := hend.2
              rw [Leb.ipow_cast] at q
              omega)
            clear hend
            go_wp2
            go_loop [12, 13] (fun v i => ∃ (k : Nat) (x : Int), k ≤ h + 1 ∧ i = .int .i64 ((k : Int) - 1) ∧ v = .int .i64 x ∧ Hid (x = if k = h + 1 then 0 else X / 2 ^ k)) (fun _ i => (intOf i + 1).toNat)
            case atStart => exact ⟨h + 1, 0, by omega, by go_num, rfl, Lib.hid (by rw [if_pos rfl])⟩
            case round =>
              obtain ⟨k, x, hk, rfl, rfl, Hx⟩ := hrel
              by_cases h0 : k = 0
              · subst h0
                have HX : Hid (x = X) := Lib.hid (by rw [Hx.out, if_neg (by omega)]; simp)
                go_wp2
                go_ret3
                exact ⟨by rw [HZ.out, HX.out]; rfl, hbe1.out⟩
              · obtain ⟨j, rfl⟩ : ∃ j, k = j + 1 := ⟨k - 1, by omega⟩
                have hbj := hbt.out j (by omega)
                have hcj := hce1.out j (by omega)
                obtain ⟨b, hb⟩ : ∃ b, b = Leb.bit (l.take s) j := ⟨_, rfl⟩
                rw [← hb] at hcj hbj
                clear hb
                by_cases hjh : j = h
                · subst hjh
                  have hx0 : x = 0 := by rw [Hx.out, if_pos rfl]
                  subst hx0
                  have HV : Hid ((if b = true then -1 else 0) = X / 2 ^ j) := Lib.hid (by
                    rw [hbj]
                    rcases HT.out with t | t <;> rw [t] <;> rfl)
                  have hjj : ((j : Int) == (j : Int)) = true := by simp
                  clear hbj
                  cases b
                  all_goals
                    go_wp2
                    go_round
                    case rel => exact ⟨j, _, by omega, by go_num, rfl, Lib.hid (by rw [if_neg (by omega), ← HV.out]; rfl)⟩
                    case measure => simp [intOf] <;> omega
                · have hjj : ((j : Int) == (h : Int)) = false := by rw [dec_beq]; simp [hjh]
                  have hxx : x = X / 2 ^ (j + 1) := by rw [Hx.out, if_neg (by omega)]
                  have HV := Lib.hid (half_step X j x b hX63.out hxx hbj)
                  clear hbj hjh hxx
                  cases b
                  all_goals
                    go_wp2
                    go_round
                    case rel => exact ⟨j, _, by omega, by go_num, rfl, Lib.hid (by rw [if_neg (by omega), ← HV.out]; rfl)⟩
                    case measure => simp [intOf] <;> omega
    · obtain rfl : s = 0 := hbd0 he
      have hU2 : Hid (Leb.sgn l bits = (0, 0, e)) := Lib.hid (by rw [hU.out, if_neg he])
      have hee : (((e : Nat) : Int) != 0) = true := by simp [he]
      have HC := Lib.hid (read_no A n cap l bits w e hb h1 h64 hn1 hr.symm)
      clear hsz hbd0 he hr hbad hb hU
      go_enter Try.func17, Try.ntmps17
      go_wp2_with (go_at_call 43; refine HC.out.mono ?_; rintro e w' ⟨v, rfl, hbel⟩; have hbe := Lib.hid hbel; clear hbel)
      go_ret3
      exact ⟨by rw [hU2.out]; rfl, hbe.out⟩
end Go.Proofs.Ytchdcimmbmphnaa
