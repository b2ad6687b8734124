/-
  The export of a name.
-/
import Derived.Test.YtackompihengfaaGb
namespace Go.Proofs.Ytackompihengfaa
open Go.RowKit Go.PlainAid
set_option linter.unusedVariables false
set_option linter.unusedSimpArgs false
theorem str_eq (a b : ByteArray) : (a.toList == b.toList) = decide (a = b) := by
  rw [Bool.eq_iff_iff, beq_iff_eq, decide_eq_true_eq, ByteArray.toList_eq, ByteArray.toList_eq]
  constructor
  · intro h; exact ByteArray.ext (Array.toList_inj.1 h)
  · intro h; rw [h]
def ExC (x : ExT) : Value := .agg #[.string x.nm, .int .i64 x.kd, .int .i64 x.ix]
set_option maxHeartbeats 4000000 in
set_option maxRecDepth 100000 in
theorem find1_ok (x : ExT) (s : ByteArray) (g : Nat) (w : World) (hg : w.cell? ⟨g, 0, none⟩ = some (.string s)) (hl : g < w.heap.size) :
    Calls Try.prog 32 #[ExC x, .pointer (some ⟨g, 0, none⟩)] w fun e w' => e = .returned (.bool (decide (x.nm = s))) ∧ Below w.heap.size w w' := by
  obtain ⟨nm, kd, ix⟩ := x
  unfold ExC
  dsimp only
  have h2 : (w.alloc (.cells #[.string nm, .int .i64 kd, .int .i64 ix] 53)).cell? ⟨g, 0, none⟩ = some (.string s) := (((Below.refl w.heap.size w).alloc (Nat.le_refl _) _).cell (p := ⟨g, 0, none⟩) hl).trans hg
  go_enter Try.func32, Try.ntmps32
  go_wp2
  go_ret
  exact ⟨by rw [← str_eq]; rfl, (Below.refl _ _).alloc (Nat.le_refl _) _⟩
/-- the first export of a name, from a place on -/
def exF (X : Nat → ExT) (s : ByteArray) : Nat → Nat → Option Nat
  | 0, _ => none
  | m + 1, k => if (X k).nm = s then some k else exF X s m (k + 1)
def ixv : Option Nat → Int
  | some k => (k : Int)
  | none => -1
set_option maxHeartbeats 4000000 in
set_option maxRecDepth 100000 in
theorem indexFunc_ok (A : Option Addr) (n c : Nat) (X : Nat → ExT) (s : ByteArray) (g : Nat) (hn : n ≤ 1000) (w : World) (hr : Row 3 ExAt w A n c X) (hg : w.cell? ⟨g, 0, none⟩ = some (.string s)) (hl : g < w.heap.size) :
    Calls Try.prog 31 #[.slice A n c, .func (.func 32) #[] #[.pointer (some ⟨g, 0, none⟩)]] w fun e w' => e = .returned (.int .i64 (ixv (exF X s n 0))) ∧ Below w.heap.size w w' := by
  obtain ⟨hnc, hcm, hX⟩ := hr
  unfold maxLen at hcm
  have HX := Lib.hid hX
  obtain ⟨tot, htot⟩ : ∃ tot, tot = ixv (exF X s n 0) := ⟨_, rfl⟩
  rw [← htot]
  have HT := Lib.hid htot
  have HG := Lib.hid hg
  clear hX htot hg
  go_enter Try.func31, Try.ntmps31
  go_wp2
  go_loopw [8] (fun v8 wr => ∃ k : Nat, k ≤ n ∧ v8 = .int .i64 k ∧ Hid (tot = ixv (exF X s (n - k) k)) ∧ Hid (Below w.heap.size w wr)) (fun v8 _ => n - (intOf v8).toNat)
  case atStart => exact ⟨0, Nat.zero_le _, rfl, HT, Lib.hid (Below.refl _ _)⟩
  case round =>
    clear HT
    obtain ⟨k, hk, rfl, HT, HB⟩ := hrel
    by_cases hlt : k < n
    · obtain ⟨b, off, rfl, hbl, hat⟩ := HX.out (by omega)
      obtain ⟨c0, c1, c2⟩ := ex_stay _ _ _ _ _ (hat k hlt) HB.out hbl
      have HF : Hid (Calls Try.prog 32 #[.agg #[.string (X k).nm, .int .i64 (X k).kd, .int .i64 (X k).ix], .pointer (some ⟨g, 0, none⟩)] wr fun e w' => e = .returned (.bool (decide ((X k).nm = s))) ∧ Below wr.heap.size wr w') :=
        Lib.hid (find1_ok (X k) s g wr ((HB.out.cell (p := ⟨g, 0, none⟩) hl).trans HG.out) (Nat.lt_of_lt_of_le hl HB.out.size))
      have HS : Hid (tot = ixv (if (X k).nm = s then some k else exF X s (n - (k + 1)) (k + 1))) := Lib.hid (by
        rw [HT.out, show n - k = (n - (k + 1)) + 1 from by omega]; rfl)
      clear hat
      generalize hxk : X k = x at c0 c1 c2 HF HS
      obtain ⟨nm, kd, ix⟩ := x
      dsimp only at c0 c1 c2 HF HS
      by_cases he : nm = s
      · have HR : Hid (tot = (k : Int)) := Lib.hid (by rw [HS.out, if_pos he]; rfl)
        have HF2 : Hid (Calls Try.prog 32 #[.agg #[.string nm, .int .i64 kd, .int .i64 ix], .pointer (some ⟨g, 0, none⟩)] wr fun e w' => e = .returned (.bool true) ∧ Below wr.heap.size wr w') := Lib.hid (by have h := HF.out; rw [show decide (nm = s) = true from by simpa using he] at h; exact h)
        clear HF he hxk
        go_wp2_with (go_at_call 32; (with_reducible refine HF2.out.mono ?_); rintro e w1 ⟨rfl, hb⟩
                     have HB1 : Hid (Below w.heap.size w w1) := Lib.hid (HB.out.trans (hb.mono HB.out.size))
                     clear hb)
        go_ret
        exact ⟨by rw [HR.out]; rfl, HB1.out⟩
      · have HR : Hid (tot = ixv (exF X s (n - (k + 1)) (k + 1))) := Lib.hid (by rw [HS.out, if_neg he])
        have HF2 : Hid (Calls Try.prog 32 #[.agg #[.string nm, .int .i64 kd, .int .i64 ix], .pointer (some ⟨g, 0, none⟩)] wr fun e w' => e = .returned (.bool false) ∧ Below wr.heap.size wr w') := Lib.hid (by have h := HF.out; rw [show decide (nm = s) = false from by simpa using he] at h; exact h)
        clear HF he hxk
        go_wp2_with (go_at_call 32; (with_reducible refine HF2.out.mono ?_); rintro e w1 ⟨rfl, hb⟩
                     have HB1 : Hid (Below w.heap.size w w1) := Lib.hid (HB.out.trans (hb.mono HB.out.size))
                     clear hb)
        go_roundw
        case rel => exact ⟨k + 1, by omega, by go_num, HR, HB1⟩
        case measure => simp [intOf]; omega
    · obtain rfl : k = n := by omega
      have HR : Hid (tot = -1) := Lib.hid (by rw [HT.out, Nat.sub_self]; rfl)
      go_wp2
      go_ret
      exact ⟨by rw [HR.out]; rfl, HB.out⟩
end Go.Proofs.Ytackompihengfaa
