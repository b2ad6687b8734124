/-
  instr: within.
-/
import Derived.Test.YtggfaalodojjkaaGreatDoorIb
import Derived.BigGuard
namespace Go.Proofs.YtggfaalodojjkaaGreatDoor
open Go.RowKit
set_option linter.unusedVariables false
set_option linter.unusedSimpArgs false
/-- is an instruction within bounds? -/
def wiB (x : In) (m : Bn) : Bool := decide (x.a ≤ m.a) && decide (x.b ≤ m.b) && decide (0 ≤ x.al) && decide (x.al ≤ m.al) && decide ((x.l.length : Int) ≤ m.lb) && okW x.l
set_option maxHeartbeats 4000000 in
set_option maxRecDepth 100000 in
theorem within_ok (cd a b al : Int) (A : Option Addr) (c : Nat) (l : List Int) (ma mb mal mlb : Int) (hn : l.length ≤ 200000) (w : World) (hl : Sl w A l.length c l) :
    Calls Tryz.prog 54 #[.agg #[.int .i64 cd, .int .u64 a, .int .u64 b, .int .i64 al, .slice A l.length c], .agg #[.int .u64 ma, .int .u64 mb, .int .i64 mal, .int .i64 mlb]] w fun e w' => e = .returned (.bool (wiB ⟨cd, a, b, al, l⟩ ⟨ma, mb, mal, mlb⟩)) ∧ Below w.heap.size w w' := by
  have hb0 : Below w.heap.size w ((w.alloc (.cells #[.int .i64 cd, .int .u64 a, .int .u64 b, .int .i64 al, .slice A l.length c] 30)).alloc (.cells #[.int .u64 ma, .int .u64 mb, .int .i64 mal, .int .i64 mlb] 107)) := ((Below.refl w.heap.size w).alloc (Nat.le_refl _) _).alloc (Nat.le_of_lt (by simp)) _
  have HC := Lib.hid (ContainsW_ok A l.length c l hn _ (hl.below hb0))
  have HB := Lib.hid hb0
  have c1 := hl.2.1
  have c2 := hl.2.2.1
  unfold maxLen at c2
  have HQ : Hid (wiB ⟨cd, a, b, al, l⟩ ⟨ma, mb, mal, mlb⟩ = (decide (a ≤ ma) && decide (b ≤ mb) && decide (0 ≤ al) && decide (al ≤ mal) && decide ((l.length : Int) ≤ mlb) && okW l)) := Lib.hid rfl
  generalize wiB ⟨cd, a, b, al, l⟩ ⟨ma, mb, mal, mlb⟩ = r at HQ ⊢
  generalize okW l = q at HC HQ
  generalize l.length = n at *
  clear hb0 hl
  by_cases h1 : a ≤ ma
  case neg =>
    have HF : Hid (r = false) := Lib.hid (by rw [HQ.out]; simp [h1])
    go_enter Tryz.func54, Tryz.ntmps54
    go_wp2
    go_ret
    exact ⟨by rw [HF.out]; rfl, HB.out⟩
  by_cases h2 : b ≤ mb
  case neg =>
    have HF : Hid (r = false) := Lib.hid (by rw [HQ.out]; simp [h1, h2])
    go_enter Tryz.func54, Tryz.ntmps54
    go_wp2
    go_ret
    exact ⟨by rw [HF.out]; rfl, HB.out⟩
  by_cases h3 : 0 ≤ al
  case neg =>
    have HF : Hid (r = false) := Lib.hid (by rw [HQ.out]; simp [h1, h2, h3])
    go_enter Tryz.func54, Tryz.ntmps54
    go_wp2
    go_ret
    exact ⟨by rw [HF.out]; rfl, HB.out⟩
  by_cases h4 : al ≤ mal
  case neg =>
    have HF : Hid (r = false) := Lib.hid (by rw [HQ.out]; simp [h1, h2, h3, h4])
    go_enter Tryz.func54, Tryz.ntmps54
    go_wp2
    go_ret
    exact ⟨by rw [HF.out]; rfl, HB.out⟩
  by_cases h5 : (n : Int) ≤ mlb
  case neg =>
    have HF : Hid (r = false) := Lib.hid (by rw [HQ.out]; simp [h1, h2, h3, h4, h5])
    go_enter Tryz.func54, Tryz.ntmps54
    go_wp2
    go_ret
    exact ⟨by rw [HF.out]; rfl, HB.out⟩
  have HR : Hid (r = q) := Lib.hid (by rw [HQ.out]; simp [h1, h2, h3, h4, h5])
  cases q
  all_goals
    go_enter Tryz.func54, Tryz.ntmps54
    go_wp2_with (go_at_call 88; (with_reducible refine HC.out.mono ?_); rintro e w1 ⟨rfl, rfl⟩)
    go_ret
    exact ⟨by rw [HR.out]; rfl, HB.out⟩
end Go.Proofs.YtggfaalodojjkaaGreatDoor
