/-
  instr: bits, tooGreat, blockType, lists of words.
-/
import Derived.Test.YtggfaalodojjkaaGreatDoorIFc
namespace Go.Proofs.YtggfaalodojjkaaGreatDoor
open Go.RowKit
set_option linter.unusedVariables false
set_option linter.unusedSimpArgs false
def btT (t : Nat) : Nat := if t = 127 then 32 else if t = 126 then 64 else 0
theorem kinds3 (t : Nat) (ht : t < 256) (P : Nat → Prop) (h1 : P 127) (h2 : P 126) (h3 : ∀ t, t < 256 → t ≠ 127 → t ≠ 126 → P t) : P t := by
  by_cases h : t = 127
  · exact h ▸ h1
  · by_cases h' : t = 126
    · exact h' ▸ h2
    · exact h3 t ht h h'
set_option maxRecDepth 100000 in
theorem Bits_ok (t : Nat) (ht : t < 256) (w : World) : Calls Tryz.prog 59 #[.int .u8 t] w fun e w' => e = .returned (.int .i64 (btT t)) ∧ w = w' := by
  revert w
  refine kinds3 t ht (fun t => ∀ w, Calls Tryz.prog 59 #[.int .u8 t] w fun e w' => e = .returned (.int .i64 (btT t)) ∧ w = w') ?_ ?_ ?_
  · intro w; try show Calls Tryz.prog _ _ w _
    go_enter Tryz.func59, Tryz.ntmps59
    go_wp2
    go_ret
    exact ⟨rfl, rfl⟩
  · intro w; try show Calls Tryz.prog _ _ w _
    go_enter Tryz.func59, Tryz.ntmps59
    go_wp2
    go_ret
    exact ⟨rfl, rfl⟩
  · intro t ht h1 h2 w
    have e : btT t = 0 := by unfold btT; rw [if_neg h1, if_neg h2]
    rw [e]
    have h1' : ((t : Int) == 127) = false := by rw [beq_eq_false_iff_ne]; omega
    have h2' : ((t : Int) == 126) = false := by rw [beq_eq_false_iff_ne]; omega
    clear e
    go_enter Tryz.func59, Tryz.ntmps59
    go_wp2
    go_ret
    exact ⟨rfl, rfl⟩
theorem byt_own113 {w : World} {B n : Nat} {v : Value} {l : List Nat} (h : w.ownsRow B 113 1 v n (l.map U8)) (hl : l.length = n) : ∃ A cp, v = .slice A n cp ∧ n ≤ cp ∧ cp ≤ maxLen ∧ (0 < n → ∃ g, A = some ⟨g, 0, none⟩ ∧ g < w.heap.size ∧ ∀ i, i < n → w.cell? ⟨g, i, none⟩ = some (.int .u8 (l.getD i 0 : Nat))) := by
  rcases h.2 with ⟨e, h1⟩ | ⟨g, cap, cur, e, h1, h2, h3, h4, h5, h6⟩
  · have : n = 0 := by
      rcases Nat.eq_zero_or_pos n with h0 | h0
      · exact h0
      · exact absurd h1 (by omega)
    subst this
    exact ⟨none, 0, e, Nat.le_refl _, Nat.zero_le _, fun q => absurd q (by omega)⟩
  · refine ⟨some ⟨g, 0, none⟩, cap, e, by omega, h4, fun h0 => ⟨g, rfl, ?_, fun i hi => ?_⟩⟩
    · subst e
      exact (h.lt g rfl).2
    · subst e
      rw [h.cellAt i (by omega), List.getElem?_map, List.getD_eq_getElem?_getD, List.getElem?_eq_getElem (by omega)]
      rfl
set_option maxHeartbeats 4000000 in
set_option maxRecDepth 100000 in
theorem bits33_ok (cd f : Int) (nm : ByteArray) (At : Option Addr) (nt ct g ng cg y : Nat) (hy : y < 256) (w : World) (hng : 0 < ng) (hcg : ng ≤ cg) (hcm : cg ≤ 9223372036854775807) (hgl : g < w.heap.size) (hc : w.cell? ⟨g, 0, none⟩ = some (.int .u8 (y : Nat))) (hnt : nt ≤ ct) (hct : ct ≤ 9223372036854775807) :
    Calls Tryz.prog 33 #[.agg #[.int .i64 cd, .string nm, .int .i64 f, .slice At nt ct, .slice (some ⟨g, 0, none⟩) ng cg]] w fun e w' => e = .returned (.int .i64 (btT y)) ∧ Below w.heap.size w w' := by
  have hb0 : Below w.heap.size w (w.alloc (.cells #[.int .i64 cd, .string nm, .int .i64 f, .slice At nt ct, .slice (some ⟨g, 0, none⟩) ng cg] 61)) := (Below.refl _ _).alloc (Nat.le_refl _) _
  have hc2 : (w.alloc (.cells #[.int .i64 cd, .string nm, .int .i64 f, .slice At nt ct, .slice (some ⟨g, 0, none⟩) ng cg] 61)).cell? ⟨g, 0, none⟩ = some (.int .u8 (y : Nat)) := (hb0.cell (p := ⟨g, 0, none⟩) hgl).trans hc
  have HB := Lib.hid hb0
  have H := Lib.hid (fun W => Bits_ok y hy W)
  generalize btT y = q at H
  clear hb0
  go_enter Tryz.func33, Tryz.ntmps33
  go_wp2_with (go_at_call 59; (with_reducible refine (H.out _).mono ?_); rintro e w1 ⟨rfl, rfl⟩)
  go_ret
  exact ⟨rfl, HB.out⟩
set_option maxHeartbeats 4000000 in
set_option maxRecDepth 100000 in
theorem tooGreat_ok (z : Int) (w : World) : Calls Tryz.prog 89 #[.int .u64 z] w fun e w' => e = .returned (.bool (decide (4294967295 < z))) ∧ w = w' := by
  by_cases h : 4294967295 < z
  all_goals
    go_enter Tryz.func89, Tryz.ntmps89
    go_wp2
    go_ret
    exact ⟨by simp [h], rfl⟩
def okW (l : List Int) : Bool := l.all (fun z => !decide (4294967295 < z))
theorem all_take_i {f : Int → Bool} {l : List Int} {k : Nat} (hk : k < l.length) (h : (l.take k).all f = true) (ht : f (l.getD k 0) = true) : (l.take (k + 1)).all f = true := by
  rw [List.take_add_one, List.getElem?_eq_getElem hk, List.all_append, h]
  rw [List.getD_eq_getElem?_getD, List.getElem?_eq_getElem hk] at ht
  simpa using ht
theorem all_not_i {f : Int → Bool} {l : List Int} {k : Nat} (hk : k < l.length) (ht : f (l.getD k 0) = false) : l.all f = false := by
  rw [List.all_eq_false]
  refine ⟨l[k], List.getElem_mem hk, ?_⟩
  rw [List.getD_eq_getElem?_getD, List.getElem?_eq_getElem hk] at ht
  simpa using ht
def IxW (q : Bool) (w : World) (e : Ending) (w' : World) : Prop := ∃ i : Int, e = .returned (.int .i64 i) ∧ decide (0 ≤ i) = !q ∧ w = w'
set_option maxHeartbeats 4000000 in
set_option maxRecDepth 100000 in
theorem IndexW_ok (A : Option Addr) (n c : Nat) (l : List Int) (hn : n ≤ 200000) (w : World) (hb : Sl w A n c l) :
    Calls Tryz.prog 120 #[.slice A n c, .func (.func 89) #[] #[]] w (IxW (okW l) w) := by
  obtain ⟨hl, hcap, hcm, hc⟩ := hb
  subst hl
  unfold maxLen at hcm
  unfold U64 at hc
  have HC := Lib.hid hc
  have hn9 : l.length ≤ 200000 := hn
  clear hc
  go_enter Tryz.func120, Tryz.ntmps120
  go_wp2
  go_loopw [8] (fun v8 wr => ∃ k : Nat, k ≤ l.length ∧ v8 = .int .i64 k ∧ Hid ((l.take k).all (fun z => !decide (4294967295 < z)) = true) ∧ wr = w) (fun v8 _ => l.length - (intOf v8).toNat)
  case atStart => exact ⟨0, by omega, rfl, Lib.hid rfl, rfl⟩
  case round =>
    obtain ⟨k, hk, rfl, HA, rfl⟩ := hrel
    by_cases hlt : k < l.length
    · obtain ⟨b, off, rfl, hbl, hcell⟩ := HC.out (by omega)
      have h0 := hcell k hlt
      have HT := Lib.hid (fun h => all_take_i (f := fun z => !decide (4294967295 < z)) hlt HA.out h)
      have HN := Lib.hid (fun h => all_not_i (f := fun z => !decide (4294967295 < z)) (l := l) (k := k) hlt h)
      clear hcell
      generalize l.getD k 0 = y at h0 HT HN
      have HU := Lib.hid (fun W => tooGreat_ok y W)
      cases hty : decide (4294967295 < y) with
      | false =>
        rw [hty] at HU HT
        have HT2 := Lib.hid (HT.out rfl)
        clear HT HN hty
        go_wp2_with (go_at_call 89; (with_reducible refine (HU.out _).mono ?_); rintro e w1 ⟨rfl, rfl⟩)
        go_roundw
        case rel => exact ⟨k + 1, by omega, by go_num, HT2, by first | trivial | rfl⟩
        case measure => simp [intOf]; omega
      | true =>
        rw [hty] at HU HN
        have HN2 := Lib.hid (HN.out rfl)
        clear HT HN hty
        go_wp2_with (go_at_call 89; (with_reducible refine (HU.out _).mono ?_); rintro e w1 ⟨rfl, rfl⟩)
        go_ret
        exact ⟨(k : Int), rfl, by unfold okW; rw [HN2.out]; simp, rfl⟩
    · obtain rfl : k = l.length := by omega
      have HE : Hid (okW l = true) := Lib.hid (by have h := HA.out; rwa [List.take_of_length_le (Nat.le_refl _)] at h)
      go_wp2
      go_ret
      exact ⟨-1, rfl, by rw [HE.out]; rfl, rfl⟩
set_option maxHeartbeats 4000000 in
set_option maxRecDepth 100000 in
theorem ContainsW_ok (A : Option Addr) (n c : Nat) (l : List Int) (hn : n ≤ 200000) (w : World) (hb : Sl w A n c l) :
    Calls Tryz.prog 88 #[.slice A n c, .func (.func 89) #[] #[]] w fun e w' => e = .returned (.bool (!okW l)) ∧ w = w' := by
  have HI := Lib.hid (IndexW_ok A n c l hn w hb)
  clear hb
  go_enter Tryz.func88, Tryz.ntmps88
  go_wp2_with (go_at_call 120; (with_reducible refine HI.out.mono ?_); (rintro e w1 ⟨i, rfl, hi, rfl⟩); have HQ := Lib.hid hi; clear hi)
  go_ret
  exact ⟨by rw [← HQ.out]; simp, rfl⟩
def bkB (a : Int) : Bool := decide (a = 64) || decide (a = 127) || decide (a = 126)
set_option maxHeartbeats 4000000 in
set_option maxRecDepth 100000 in
theorem blockType_ok (a : Int) (w : World) : Calls Tryz.prog 56 #[.int .u64 a] w fun e w' => e = .returned (.bool (bkB a)) ∧ w = w' := by
  by_cases h1 : a = 64
  · subst h1
    go_enter Tryz.func56, Tryz.ntmps56
    go_wp2
    go_ret
    exact ⟨rfl, rfl⟩
  have e1 : (a == 64) = false := by simpa using h1
  by_cases h2 : a = 127
  · subst h2
    go_enter Tryz.func56, Tryz.ntmps56
    go_wp2
    go_ret
    exact ⟨rfl, rfl⟩
  have e2 : (a == 127) = false := by simpa using h2
  by_cases h3 : a = 126
  · subst h3
    go_enter Tryz.func56, Tryz.ntmps56
    go_wp2
    go_ret
    exact ⟨rfl, rfl⟩
  have e3 : (a == 126) = false := by simpa using h3
  have HE : Hid (bkB a = false) := Lib.hid (by unfold bkB; simp [h1, h2, h3])
  clear h1 h2 h3
  go_enter Tryz.func56, Tryz.ntmps56
  go_wp2
  go_ret
  exact ⟨by rw [HE.out]; rfl, rfl⟩
end Go.Proofs.YtggfaalodojjkaaGreatDoor
