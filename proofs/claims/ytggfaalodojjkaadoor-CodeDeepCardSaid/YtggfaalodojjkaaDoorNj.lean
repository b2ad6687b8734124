/-
  code: awake.
-/
import Derived.Test.YtggfaalodojjkaaDoorNi
namespace Go.Proofs.YtggfaalodojjkaaDoor
open Go.RowKit
set_option linter.unusedVariables false
set_option linter.unusedSimpArgs false
theorem ex_th : thN [2, 11, 11] n0 = (0, ⟨3, [(0, -1, 1)], [], 1, true⟩) := by
  simp [thN, spN, stN, opnB, n0, setF, setE]
def exC : Array Value := #[.int .i64 2, .int .u64 64, .int .u64 0, .int .i64 0, .slice none 0 0, .int .i64 11, .int .u64 0, .int .u64 0, .int .i64 0, .slice none 0 0, .int .i64 11, .int .u64 0, .int .u64 0, .int .i64 0, .slice none 0 0]
theorem ex_ins (w : World) : Ins (w.alloc (.cells exC 42)) (some ⟨w.heap.size, 0, none⟩) 3 [2, 11, 11] := by
  have hb := Blk.new w 42 exC
  refine ⟨by decide, by decide, fun _ => ⟨_, _, rfl, by simp, fun i hi => ?_⟩⟩
  have h : i = 0 ∨ i = 1 ∨ i = 2 := by simp at hi; omega
  rcases h with rfl | rfl | rfl <;> exact ⟨_, _, _, _, _, _, hb.cell _, hb.cell _, hb.cell _, hb.cell _, hb.cell _⟩
theorem ex_spans (w : World) : Calls Tryd.prog 10 #[.slice (some ⟨w.heap.size, 0, none⟩) 3 3] (w.alloc (.cells exC 42)) fun e w' => Below w.heap.size w w' ∧ ∃ g c, w.heap.size < g ∧ e = .returned (.tuple #[.slice (some ⟨g, 0, none⟩) 1 c, .int .i64 0, .int .i64 0]) ∧ 1 ≤ c ∧ c ≤ maxLen ∧ w'.cell? ⟨g, 0, none⟩ = some (.int .i64 0) ∧ w'.cell? ⟨g, 1, none⟩ = some (.int .i64 (-1)) ∧ w'.cell? ⟨g, 2, none⟩ = some (.int .i64 1) := by
  refine (Spans_ok (some ⟨w.heap.size, 0, none⟩) 3 [2, 11, 11] (by decide) _ (ex_ins w)).mono ?_
  rintro e w' ⟨hb, h⟩
  have hb2 : Below w.heap.size w w' := ((Below.refl _ _).alloc (Nat.le_refl _) _).trans (hb.mono (by simp))
  rw [ex_th] at h
  refine ⟨hb2, ?_⟩
  rcases h with ⟨n, hn, A, c, rfl, ho⟩ | ⟨n, r, hr, hn, _⟩
  · cases hn
    obtain ⟨g, cp, e, h1, h2⟩ := own_some ho (by decide)
    cases e
    refine ⟨g, c, ?_, rfl, h1, h2, ?_, ?_, ?_⟩
    · obtain ⟨e, _⟩ | ⟨g2, cap, cur, e, hB, _⟩ := ho.2
      · cases e
      · cases e; simp at hB; omega
    · exact ho.cellAt 0 (by decide)
    · exact ho.cellAt 1 (by decide)
    · exact ho.cellAt 2 (by decide)
  · cases hn; exact absurd rfl hr
set_option maxHeartbeats 4000000 in
set_option maxRecDepth 100000 in
theorem awake_any (w : World) : Calls Tryd.prog 5 #[] w fun e w' => e = .returned (.bool true) ∧ Below w.heap.size w w' := by
  have HS := Lib.hid (ex_spans w)
  unfold exC at HS
  go_enter Tryd.func5, Tryd.ntmps5
  go_wp2_with (go_at_call 10; (with_reducible refine HS.out.mono ?_); rintro e w1 ⟨hb, g, c, hg, rfl, h1, h2, x0, x1, x2⟩
               unfold maxLen at h2
               have HB := Lib.hid hb
               clear hb)
  go_ret
  exact ⟨rfl, HB.out⟩
end Go.Proofs.YtggfaalodojjkaaDoor
