/-
  The sort's closure (pages by their number), and what a sort of a row of pages leaves.
-/
import Derived.Test.YtlnffcledpccjaaDa
import Derived.Shelf.SlSortCmp.InsertionK
import Derived.Lib.Small
namespace Go.Proofs.Ytlnffcledpccjaa
open Go.RowKit Go.Shelf Go.Lib Go.Sort
set_option linter.unusedVariables false
def encPg (x : Nat × Nat) : List Value := [I64 x.1, I64 x.2]
theorem isNaN_ok (x : Int) (w : World) : Calls Try.prog 80 #[.int .i64 x] w fun e w' => e = .returned (.bool false) ∧ w = w' := by
  have hx : (x != x) = false := by simp
  go_enter Try.func80, Try.ntmps80
  go_wp2
  go_ret
  exact ⟨rfl, rfl⟩
set_option maxRecDepth 100000 in
theorem Compare_ok (x y : Int) (w : World) : Calls Try.prog 66 #[.int .i64 x, .int .i64 y] w fun e w' => e = .returned (.int .i64 (compareInt x y)) ∧ w = w' := by
  unfold compareInt
  by_cases h1 : x < y
  · rw [if_pos h1]
    go_enter Try.func66, Try.ntmps66
    go_wp2_with (go_at_call 80; refine (isNaN_ok _ _).mono ?_; rintro e w1 ⟨rfl, rfl⟩)
    go_ret
    exact ⟨rfl, rfl⟩
  · rw [if_neg h1]
    by_cases h2 : x > y
    · rw [if_pos h2]
      go_enter Try.func66, Try.ntmps66
      go_wp2_with (go_at_call 80; refine (isNaN_ok _ _).mono ?_; rintro e w1 ⟨rfl, rfl⟩)
      go_ret
      exact ⟨rfl, rfl⟩
    · rw [if_neg h2]
      go_enter Try.func66, Try.ntmps66
      go_wp2_with (go_at_call 80; refine (isNaN_ok _ _).mono ?_; rintro e w1 ⟨rfl, rfl⟩)
      go_ret
      exact ⟨rfl, rfl⟩
set_option maxHeartbeats 1000000 in
theorem closure65 (x y : Nat × Nat) (W : World) : Calls Try.prog 65 #[.agg #[I64 x.1, I64 x.2], .agg #[I64 y.1, I64 y.2]] W fun e w' => e = .returned (.int .i64 (compareInt x.2 y.2)) ∧ ∃ q os', w' = grow (W.drewN q) os' := by
  have hcon := fun W' => Compare_ok x.2 y.2 W'
  generalize compareInt x.2 y.2 = r at hcon ⊢
  obtain ⟨x1, x2⟩ := x
  obtain ⟨y1, y2⟩ := y
  show Calls Try.prog 65 #[.agg #[.int .i64 x1, .int .i64 x2], .agg #[.int .i64 y1, .int .i64 y2]] W _
  go_enter Try.func65, Try.ntmps65
  go_wp2_with (go_at_call 66; refine (hcon _).mono ?_; rintro e w' ⟨rfl, rfl⟩)
  go_ret
  exact ⟨rfl, 0, _, by rw [alloc_eq_grow, alloc_eq_grow, grow_grow]; rfl⟩
theorem cmpLays65 (blk off size : Nat) (w : World) : CmpLays Try.prog 65 #[] encPg 2 (fun x y => compareInt x.2 y.2) blk off size w :=
  fun _ _ _ _ x y => closure65 x y _
theorem ltPg (x y : Nat × Nat) : ltOf (fun x y : Nat × Nat => compareInt x.2 y.2) x y = decide (x.2 < y.2) := by
  unfold ltOf compareInt
  by_cases h1 : x.2 < y.2
  · simp [h1]
  · by_cases h2 : y.2 < x.2 <;> simp [h1, h2]
theorem swoPg : SWO (ltOf fun x y : Nat × Nat => compareInt x.2 y.2) where
  irrefl x := by rw [ltPg]; simp
  trans x y z h1 h2 := by rw [ltPg] at *; simp at *; omega
  ntrans x y z h1 h2 := by rw [ltPg] at *; simp at *; omega
theorem sortW_fr (w : World) (blk off n : Nat) (d : Array (Nat × Nat)) (os : Array Obj) : Fr (· = blk) w (sortWorldK encPg 2 w blk off n d os) := by
  unfold sortWorldK grow putRowK putRow mapBlock Sort.ahead
  refine ⟨rfl, rfl, rfl, by simp, fun k hk hs => ?_⟩
  simp only
  rw [Array.getElem?_append_left (by simpa using hk)]
  rw [Array.getElem?_modify, if_neg (fun e => hs e.symm)]
end Go.Proofs.Ytlnffcledpccjaa
