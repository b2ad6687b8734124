/-
  The document's own shift and exclusive or: for WordBinary.
-/
import Derived.Test.YtmbnaejoiglckaaRi
namespace Go.Proofs.Ytmbnaejoiglckaa
open Go.RowKit
set_option linter.unusedVariables false
set_option maxHeartbeats 4000000 in
set_option maxRecDepth 100000 in
theorem Shift_any (g1 c1 n : Nat) (f : Nat → Bool) (K : Int) (fill : Bool) (w : World) (hn : 1 ≤ n) (hn2 : n ≤ 65) (hK1 : -65 ≤ K) (hK2 : K ≤ 65) (hc1 : n ≤ c1) (hd1 : c1 ≤ 9223372036854775807) (h1 : Bo w g1 n f) {x : Nat} (hx : vl (sh n f K fill) 0 n = x) :
    Calls Try.prog 28 #[.slice (some ⟨g1, 0, none⟩) n c1, .int .i64 K, .bool fill] w (FPost w.heap.size n x w) := by
  obtain ⟨i0, hi, hz0, hz1, hz2⟩ := info4_parts
  have H1 := Lib.hid h1
  have HX := Lib.hid hx
  clear h1 hx
  go_enter Try.func28, Try.ntmps28
  go_wp2
  go_loopw [7, 8] (fun v7 v8 wr => ∃ k : Nat, k ≤ n ∧ v8 = .int .i64 k ∧ Hid (wr.ownsRow w.heap.size 4 1 v7 k (BL (sh n f K fill) k)) ∧ Hid (Below w.heap.size w wr)) (fun _ v8 _ => n - (intOf v8).toNat)
  case atStart => exact ⟨0, Nat.zero_le _, rfl, Lib.hid (World.ownsRow_nil _ _ _ _), Lib.hid (Below.refl _ _)⟩
  case round =>
    obtain ⟨k, hk, rfl, HO, HBl⟩ := hrel
    by_cases hlt : k < n
    · have hS := BL_succ (sh n f K fill) k
      by_cases hin : 0 ≤ (k : Int) - K ∧ (k : Int) - K < n
      · obtain ⟨j, hj⟩ : ∃ j : Nat, (k : Int) - K = (j : Int) := ⟨((k : Int) - K).toNat, by omega⟩
        have d1 := (H1.out.below HBl.out H1.out.1).2 j (by omega)
        have hV : sh n f K fill k = f j := by unfold sh; rw [if_pos hin, hj, Int.toNat_natCast]
        rw [hV] at hS
        obtain ⟨b, eb⟩ : ∃ b, b = f j := ⟨_, rfl⟩
        rw [← eb] at d1 hS
        have HS := Lib.hid hS
        have hjn : j < n := by omega
        clear eb hS hV hin
        go_wp2_with (at_builtin; refine wpList_append_own _ rfl (.tmp 27) (.tmp 34) 41 rfl w.heap.size 4 i0 _ 1 1 Try.underlying41 hi hz0 hz1 hz2 rfl (by decide) _ k _ rfl (HO.out.alloc _) ⟨wr.heap.size, 0, none⟩ 1 1 [Value.bool b] rfl rfl (cell_new _ _ _) ?c2 ?c3 ?c4 ?c5 ?_)
        case c2 => first | (intro u hu; simp at hu; subst hu; rfl) | rfl
        case c3 => unfold maxLen; omega
        case c4 => omega
        case c5 => have := HBl.out.size; simp; omega
        intro v1 w3 hown1 hg1 _
        have HO2 : Hid (w3.ownsRow w.heap.size 4 1 v1 (k + 1) (BL (sh n f K fill) (k + 1))) := Lib.hid (by rw [HS.out]; exact hown1)
        have HB2 : Hid (Below w.heap.size w w3) := Lib.hid (own_below HBl.out HBl.out.size HO.out hg1)
        clear hown1 hg1 HS
        go_wp2
        go_roundw
        case rel => exact ⟨k + 1, by omega, by go_num, HO2, HB2⟩
        case measure => simp [intOf]; omega
      · have hV : sh n f K fill k = fill := by unfold sh; rw [if_neg hin]
        rw [hV] at hS
        have HS := Lib.hid hS
        have hor : (k : Int) - K < 0 ∨ (0 ≤ (k : Int) - K ∧ (n : Int) ≤ (k : Int) - K) := by omega
        obtain ⟨j, hj⟩ : ∃ j : Int, (k : Int) - K = j := ⟨_, rfl⟩
        rw [hj] at hor
        clear hin hV hS
        rcases hor with hq | ⟨hq, hq'⟩
        all_goals
          go_wp2_with (at_builtin; refine wpList_append_own _ rfl (.tmp 36) (.tmp 38) 41 rfl w.heap.size 4 i0 _ 1 1 Try.underlying41 hi hz0 hz1 hz2 rfl (by decide) _ k _ rfl (HO.out.alloc _) ⟨wr.heap.size, 0, none⟩ 1 1 [Value.bool fill] rfl rfl (cell_new _ _ _) ?c2 ?c3 ?c4 ?c5 ?_)
          case c2 => first | (intro u hu; simp at hu; subst hu; rfl) | rfl
          case c3 => unfold maxLen; omega
          case c4 => omega
          case c5 => have := HBl.out.size; simp; omega
          intro v1 w3 hown1 hg1 _
          have HO2 : Hid (w3.ownsRow w.heap.size 4 1 v1 (k + 1) (BL (sh n f K fill) (k + 1))) := Lib.hid (by rw [HS.out]; exact hown1)
          have HB2 : Hid (Below w.heap.size w w3) := Lib.hid (own_below HBl.out HBl.out.size HO.out hg1)
          clear hown1 hg1 HS
          go_wp2
          go_roundw
          case rel => exact ⟨k + 1, by omega, by go_num, HO2, HB2⟩
          case measure => simp [intOf]; omega
    · obtain rfl : n = k := by omega
      go_wp2
      go_ret
      obtain ⟨g, cp, hv, h1, h2, hb, hg, hz⟩ := bo_of_own2 HO.out (by omega)
      exact ⟨g, cp, by rw [hv]; rfl, h1, by unfold maxLen at h2; omega, hb.is HX.out, hg, HBl.out, hz⟩
end Go.Proofs.Ytmbnaejoiglckaa
