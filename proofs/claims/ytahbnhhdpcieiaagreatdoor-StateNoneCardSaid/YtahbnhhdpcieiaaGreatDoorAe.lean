/-
  arena.New; Room, Live, Height, Size; the given example (awake).
-/
import Derived.Test.YtahbnhhdpcieiaaGreatDoorAd
namespace Go.Proofs.YtahbnhhdpcieiaaGreatDoor
open Go.RowKit
set_option linter.unusedVariables false
def zsA (n : Nat) : List Nat := List.replicate n 0
def nuA (n : Nat) : Ad := ⟨n, 0, 0, 0, fun _ => none, fun _ => [], fun _ => undef, zsA n⟩
set_option maxRecDepth 100000 in
theorem ANew_bad (n : Int) (w : World) (h : n < 0 ∨ (0 ≤ n ∧ 4194304 < n)) :
    Calls Tryz.prog 10 #[.int .i64 n] w fun e w' => e = .returned (.tuple #[.pointer none, .int .i64 1]) ∧ w = w' := by
  rcases h with h | ⟨h, h'⟩
  all_goals
    go_enter Tryz.func10, Tryz.ntmps10
    go_wp2
    go_ret2
    exact ⟨rfl, rfl⟩
theorem madeA (n : Nat) : madeCells (Value.int .u8 0).cells n = ((zsA n).map U8).toArray := by
  apply Array.ext'
  show (madeCells #[Value.int .u8 0] n).toList = _
  rw [toList_madeCells_one]
  simp [zsA, U8, List.map_replicate]
def NaPost (n : Nat) (w : World) (e : Ending) (w' : World) : Prop :=
  ∃ a bb rm gm : Nat, e = .returned (.tuple #[.pointer (some ⟨a, 0, none⟩), .int .i64 0]) ∧ Are w' a bb rm gm (nuA n) ∧ Below w.heap.size w w' ∧ w.heap.size ≤ a ∧ w.heap.size ≤ bb ∧ w.heap.size ≤ rm ∧ w.heap.size ≤ gm
set_option maxHeartbeats 1000000 in
set_option maxRecDepth 100000 in
theorem ANew_ok (n : Nat) (w : World) (h : n ≤ 4194304) : Calls Tryz.prog 10 #[.int .i64 n] w (NaPost n w) := by
  obtain ⟨i0, hi, hz0, hz1, hz2⟩ := info_parts info5
  have hmm := @run_makeMap Tryz.prog
  have hMA := Lib.hid (madeA n)
  go_enter Tryz.func10, Tryz.ntmps10
  go_wp2_with (first
    | (at_make
       refine wpList_make_lc _ rfl (.tmp 10) (.tmp 10) 83 rfl 5 i0 _ Tryz.underlying83 hi hz0 hz1 .i64 .i64 _ _ n n rfl rfl rfl rfl (Nat.le_refl _) (by rw [hz2]; omega) (by unfold maxLen; omega) ?_
       intro w1 hg1 hbel1
       have HG1 := Lib.hid hg1.out
       have HB1 := Lib.hid hbel1
       clear hg1 hbel1))
  go_ret2
  have e1 : (w1.alloc (.map #[] 0)).heap.size = w1.heap.size + 1 := by simp
  have e2 : ((w1.alloc (.map #[] 0)).alloc (.map #[] 0)).heap.size = w1.heap.size + 1 + 1 := by simp
  have hr : IM (((w1.alloc (.map #[] 0)).alloc (.map #[] 0)).alloc (.cells (arC w.heap.size w1.heap.size (w1.heap.size + 1) (nuA n)) 96)) Tryz.prog 3 w1.heap.size 0 (nuA n).fr :=
    (((IM.made w1 Tryz.prog 3).alloc _).alloc _).congr (fun j _ => by unfold Ad.fr nuA; split <;> rfl)
  have hg : IM (((w1.alloc (.map #[] 0)).alloc (.map #[] 0)).alloc (.cells (arC w.heap.size w1.heap.size (w1.heap.size + 1) (nuA n)) 96)) Tryz.prog 3 (w1.heap.size + 1) 0 (nuA n).fg := by
    have := (IM.made (w1.alloc (.map #[] 0)) Tryz.prog 3).alloc (.cells (arC w.heap.size w1.heap.size (w1.heap.size + 1) (nuA n)) 96)
    rw [e1] at this
    exact this.congr (fun j _ => by unfold Ad.fg nuA; split <;> simp)
  have hb : Blk (((w1.alloc (.map #[] 0)).alloc (.map #[] 0)).alloc (.cells (arC w.heap.size w1.heap.size (w1.heap.size + 1) (nuA n)) 96)) (w1.heap.size + 1 + 1) 96 (arC w.heap.size w1.heap.size (w1.heap.size + 1) (nuA n)) := by
    have := Blk.new ((w1.alloc (.map #[] 0)).alloc (.map #[] 0)) 96 (arC w.heap.size w1.heap.size (w1.heap.size + 1) (nuA n))
    rw [e2] at this
    exact this
  have hm : Blk w1 w.heap.size 5 ((zsA n).map U8).toArray := by
    have := HG1.out
    rw [hMA.out] at this
    exact this
  have hs := HB1.out.size
  refine ⟨w1.heap.size + 1 + 1, w.heap.size, w1.heap.size, w1.heap.size + 1, rfl, ⟨hb, ((hm.alloc _).alloc _).alloc _, by simp [nuA, zsA], ?_, h, ⟨0, Nat.le_refl _, hr⟩, ⟨0, Nat.le_refl _, hg⟩, ?_, ?_, ?_, ?_, ?_, Nat.zero_le _, by simp [nuA], by simp [nuA], by omega⟩, ?_, by omega, Nat.le_refl _, hs, by omega⟩
  · intro x hx
    have := List.eq_of_mem_replicate hx
    omega
  · intro c hc; exact absurd rfl hc
  · intro c c' hc; exact absurd rfl hc
  · intro c; exact Nat.le_refl _
  · intro p c hp; cases hp
  · intro c p hp; cases hp
  · exact ((HB1.out.alloc hs _).alloc (by rw [e1]; omega) _).alloc (by rw [e2]; omega) _
section
variable {a bb rm gm : Nat} {d : Ad} {w : World}
set_option maxRecDepth 100000 in
theorem Live_any (h : Are w a bb rm gm d) : Calls Tryz.prog 23 #[.pointer (some ⟨a, 0, none⟩)] w fun e w' => e = .returned (.int .i64 d.live) ∧ w = w' := by
  have c3 : w.cell? ⟨a, 3, none⟩ = some (.int .i64 d.live) := h.blk.cell 3
  clear h
  go_enter Tryz.func23, Tryz.ntmps23
  go_wp2
  go_ret
  exact ⟨rfl, rfl⟩
end
end Go.Proofs.YtahbnhhdpcieiaaGreatDoor
