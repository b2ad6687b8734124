/-
  The document's own rows of bits, bit by bit (mix): for WordBinary.
-/
import Derived.Test.YtmbnaejoiglckaaRf
namespace Go.Proofs.Ytmbnaejoiglckaa
open Go.RowKit
set_option linter.unusedVariables false
/-- and, or, exclusive or -/
def mx (how : Int) (x y : Bool) : Bool := if how = 0 then x && y else if how = 1 then x || y else x != y
set_option maxHeartbeats 4000000 in
set_option maxRecDepth 100000 in
theorem Mix_01 (how : Int) (hh : how = 0 ∨ how = 1) (g1 c1 g2 c2 n : Nat) (f1 f2 : Nat → Bool) (w : World) (hn : 1 ≤ n) (hn2 : n ≤ 65) (hc1 : n ≤ c1) (hc2 : n ≤ c2) (hd1 : c1 ≤ 9223372036854775807) (hd2 : c2 ≤ 9223372036854775807) (h1 : Bo w g1 n f1) (h2 : Bo w g2 n f2) :
    Calls Try.prog 27 #[.slice (some ⟨g1, 0, none⟩) n c1, .slice (some ⟨g2, 0, none⟩) n c2, .int .i64 how] w (LPost w.heap.size n (fun i => mx how (f1 i) (f2 i)) w) := by
  obtain ⟨i0, hi, hz0, hz1, hz2⟩ := info4_parts
  have H1 := Lib.hid h1
  have H2 := Lib.hid h2
  clear h1 h2
  rcases hh with rfl | rfl
  · go_enter Try.func27, Try.ntmps27
    go_wp2
    go_loopw [7, 8] (fun v7 v8 wr => ∃ k : Nat, k ≤ n ∧ v8 = .int .i64 k ∧ Hid (wr.ownsRow w.heap.size 4 1 v7 k (BL (fun i => mx 0 (f1 i) (f2 i)) k)) ∧ Hid (Below w.heap.size w wr)) (fun _ v8 _ => n - (intOf v8).toNat)
    case atStart => exact ⟨0, Nat.zero_le _, rfl, Lib.hid (World.ownsRow_nil _ _ _ _), Lib.hid (Below.refl _ _)⟩
    case round =>
      obtain ⟨k, hk, rfl, HO, HBl⟩ := hrel
      by_cases hlt : k < n
      · have d1 := (H1.out.below HBl.out H1.out.1).2 k hlt
        have d2 := (H2.out.below HBl.out H2.out.1).2 k hlt
        have hS := BL_succ (fun i => mx 0 (f1 i) (f2 i)) k
        obtain ⟨x, ex⟩ : ∃ b, b = f1 k := ⟨_, rfl⟩
        obtain ⟨y, ey⟩ : ∃ b, b = f2 k := ⟨_, rfl⟩
        simp only [← ex, ← ey] at hS
        rw [← ex] at d1
        rw [← ey] at d2
        have HS := Lib.hid hS
        clear ex ey hS
        cases x <;> cases y
        all_goals
          go_wp2_with (at_builtin; refine wpList_append_own _ rfl (.tmp 30) (.tmp 41) 41 rfl w.heap.size 4 i0 _ 1 1 Try.underlying41 hi hz0 hz1 hz2 rfl (by decide) _ k _ rfl (HO.out.alloc _) ⟨wr.heap.size, 0, none⟩ 1 1 [Value.bool _] rfl rfl (cell_new _ _ _) ?c2 ?c3 ?c4 ?c5 ?_)
          case c2 => intro u hu; simp at hu; subst hu; rfl
          case c3 => unfold maxLen; omega
          case c4 => omega
          case c5 => have := HBl.out.size; simp; omega
          intro v1 w3 hown1 hg1 _
          have HO2 : Hid (w3.ownsRow w.heap.size 4 1 v1 (k + 1) (BL (fun i => mx 0 (f1 i) (f2 i)) (k + 1))) := Lib.hid (by rw [HS.out]; exact hown1)
          have HB2 : Hid (Below w.heap.size w w3) := Lib.hid (own_below HBl.out HBl.out.size HO.out hg1)
          clear hown1 hg1 HS
          go_wp2
          go_roundw
          case rel => exact ⟨k + 1, by omega, by go_num, HO2, HB2⟩
          case measure => simp [intOf]; omega
      · obtain rfl : n = k := by omega
        go_wp2
        go_ret
        obtain ⟨g, cp, hv, h1, h2, hb, hg⟩ := bo_of_own HO.out (by omega)
        exact ⟨g, cp, by rw [hv]; rfl, h1, by unfold maxLen at h2; omega, hb, hg, HBl.out⟩
  · go_enter Try.func27, Try.ntmps27
    go_wp2
    go_loopw [7, 8] (fun v7 v8 wr => ∃ k : Nat, k ≤ n ∧ v8 = .int .i64 k ∧ Hid (wr.ownsRow w.heap.size 4 1 v7 k (BL (fun i => mx 1 (f1 i) (f2 i)) k)) ∧ Hid (Below w.heap.size w wr)) (fun _ v8 _ => n - (intOf v8).toNat)
    case atStart => exact ⟨0, Nat.zero_le _, rfl, Lib.hid (World.ownsRow_nil _ _ _ _), Lib.hid (Below.refl _ _)⟩
    case round =>
      obtain ⟨k, hk, rfl, HO, HBl⟩ := hrel
      by_cases hlt : k < n
      · have d1 := (H1.out.below HBl.out H1.out.1).2 k hlt
        have d2 := (H2.out.below HBl.out H2.out.1).2 k hlt
        have hS := BL_succ (fun i => mx 1 (f1 i) (f2 i)) k
        obtain ⟨x, ex⟩ : ∃ b, b = f1 k := ⟨_, rfl⟩
        obtain ⟨y, ey⟩ : ∃ b, b = f2 k := ⟨_, rfl⟩
        simp only [← ex, ← ey] at hS
        rw [← ex] at d1
        rw [← ey] at d2
        have HS := Lib.hid hS
        clear ex ey hS
        cases x <;> cases y
        all_goals
          go_wp2_with (at_builtin; refine wpList_append_own _ rfl (.tmp 45) (.tmp 56) 41 rfl w.heap.size 4 i0 _ 1 1 Try.underlying41 hi hz0 hz1 hz2 rfl (by decide) _ k _ rfl (HO.out.alloc _) ⟨wr.heap.size, 0, none⟩ 1 1 [Value.bool _] rfl rfl (cell_new _ _ _) ?c2 ?c3 ?c4 ?c5 ?_)
          case c2 => intro u hu; simp at hu; subst hu; rfl
          case c3 => unfold maxLen; omega
          case c4 => omega
          case c5 => have := HBl.out.size; simp; omega
          intro v1 w3 hown1 hg1 _
          have HO2 : Hid (w3.ownsRow w.heap.size 4 1 v1 (k + 1) (BL (fun i => mx 1 (f1 i) (f2 i)) (k + 1))) := Lib.hid (by rw [HS.out]; exact hown1)
          have HB2 : Hid (Below w.heap.size w w3) := Lib.hid (own_below HBl.out HBl.out.size HO.out hg1)
          clear hown1 hg1 HS
          go_wp2
          go_roundw
          case rel => exact ⟨k + 1, by omega, by go_num, HO2, HB2⟩
          case measure => simp [intOf]; omega
      · obtain rfl : n = k := by omega
        go_wp2
        go_ret
        obtain ⟨g, cp, hv, h1, h2, hb, hg⟩ := bo_of_own HO.out (by omega)
        exact ⟨g, cp, by rw [hv]; rfl, h1, by unfold maxLen at h2; omega, hb, hg, HBl.out⟩
end Go.Proofs.Ytmbnaejoiglckaa
