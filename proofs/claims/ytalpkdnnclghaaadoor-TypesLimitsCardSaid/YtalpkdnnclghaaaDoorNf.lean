/-
  types.parse: where the text is no list in brackets, or an empty one.
-/
import Derived.Test.YtalpkdnnclghaaaDoorNe
namespace Go.Proofs.YtalpkdnnclghaaaDoor
open Go.RowKit Go.Shelf
set_option linter.unusedVariables false
attribute [local go_sem] Oper.semAt_some
def PrP (o : Option (List Nat)) (w : World) (e : Ending) (w' : World) : Prop :=
  ∃ v, e = .returned (.tuple #[v, .bool o.isSome]) ∧ w'.ownsRow w.heap.size 51 1 v (o.getD []).length ((o.getD []).map U8) ∧ Below w.heap.size w w'
set_option maxHeartbeats 2000000 in
set_option maxRecDepth 100000 in
theorem parse_no (s s1 s2 : List UInt8) (b1 b2 : Bool) (hb : (b1 && b2) = false)
    (h1 : ∀ W, Calls Tryd.prog 59 #[.string ⟨s.toArray⟩, .string ⟨#[40]⟩] W fun e w' => e = .returned (.tuple #[.string ⟨s1.toArray⟩, .bool b1]) ∧ w' = W)
    (h2 : ∀ W, Calls Tryd.prog 53 #[.string ⟨s1.toArray⟩, .string ⟨#[41]⟩] W fun e w' => e = .returned (.tuple #[.string ⟨s2.toArray⟩, .bool b2]) ∧ w' = W)
    (w : World) : Calls Tryd.prog 45 #[.string ⟨s.toArray⟩] w (PrP none w) := by
  have H1 := Lib.hid h1
  have H2 := Lib.hid h2
  clear h1 h2
  refine callsIn_wide.1 (callsIn_of_wp_marks (n := 3) Tryd.func45 rfl trivial (wpIn_wide.2 ?_))
  simp only [Tryd.ntmps45, List.size_toArray, List.length_cons, List.length_nil, Nat.reduceAdd, Nat.reduceSub, Array.replicate_succ, Array.replicate_zero, List.push_toArray, List.append_toArray, List.nil_append, List.cons_append]
  cases b1 <;> cases b2 <;> simp at hb
  all_goals
    go_wp2_with (first | (go_at_call 59; with_reducible refine (H1.out _).mono ?_; rintro e w1 ⟨rfl, rfl⟩) | (go_at_call 53; with_reducible refine (H2.out _).mono ?_; rintro e w1 ⟨rfl, rfl⟩))
  all_goals
    refine ⟨.tuple #[.slice none 0 0, .bool false], ?_, ?_⟩
    · have e0 := ((Blk.new w 24 #[Value.slice none 0 0]).alloc (Obj.cells #[Value.bool false] 4)).cell 0
      have e1 := (Blk.new (w.alloc (Obj.cells #[Value.slice none 0 0] 24)) 4 #[Value.bool false]).cell 0
      rw [World.size_alloc] at e1
      have e0' : ((w.alloc (Obj.cells #[Value.slice none 0 0] 24)).alloc (Obj.cells #[Value.bool false] 4)).cell? ⟨w.heap.size, 0, none⟩ = some (.slice none 0 0) := e0
      have e1' : ((w.alloc (Obj.cells #[Value.slice none 0 0] 24)).alloc (Obj.cells #[Value.bool false] 4)).cell? ⟨w.heap.size + 1, 0, none⟩ = some (.bool false) := e1
      simp [results, go_sem, e0', e1']
    · exact ⟨_, rfl, World.ownsRow_nil _ _ _ _, ((Below.refl _ w).alloc (Nat.le_refl _) _).alloc (by simp) _⟩
set_option maxHeartbeats 2000000 in
set_option maxRecDepth 100000 in
theorem parse_empty (s s1 : List UInt8)
    (h1 : ∀ W, Calls Tryd.prog 59 #[.string ⟨s.toArray⟩, .string ⟨#[40]⟩] W fun e w' => e = .returned (.tuple #[.string ⟨s1.toArray⟩, .bool true]) ∧ w' = W)
    (h2 : ∀ W, Calls Tryd.prog 53 #[.string ⟨s1.toArray⟩, .string ⟨#[41]⟩] W fun e w' => e = .returned (.tuple #[.string ⟨#[]⟩, .bool true]) ∧ w' = W)
    (w : World) : Calls Tryd.prog 45 #[.string ⟨s.toArray⟩] w (PrP (some []) w) := by
  have H1 := Lib.hid h1
  have H2 := Lib.hid h2
  clear h1 h2
  refine callsIn_wide.1 (callsIn_of_wp_marks (n := 3) Tryd.func45 rfl trivial (wpIn_wide.2 ?_))
  simp only [Tryd.ntmps45, List.size_toArray, List.length_cons, List.length_nil, Nat.reduceAdd, Nat.reduceSub, Array.replicate_succ, Array.replicate_zero, List.push_toArray, List.append_toArray, List.nil_append, List.cons_append]
  go_wp2_with (first | (go_at_call 59; with_reducible refine (H1.out _).mono ?_; rintro e w1 ⟨rfl, rfl⟩) | (go_at_call 53; with_reducible refine (H2.out _).mono ?_; rintro e w1 ⟨rfl, rfl⟩))
  refine ⟨.tuple #[.slice none 0 0, .bool true], ?_, ?_⟩
  · have e0 := ((Blk.new w 24 #[Value.slice none 0 0]).alloc (Obj.cells #[Value.bool true] 4)).cell 0
    have e1 := (Blk.new (w.alloc (Obj.cells #[Value.slice none 0 0] 24)) 4 #[Value.bool true]).cell 0
    rw [World.size_alloc] at e1
    have e0' : ((w.alloc (Obj.cells #[Value.slice none 0 0] 24)).alloc (Obj.cells #[Value.bool true] 4)).cell? ⟨w.heap.size, 0, none⟩ = some (.slice none 0 0) := e0
    have e1' : ((w.alloc (Obj.cells #[Value.slice none 0 0] 24)).alloc (Obj.cells #[Value.bool true] 4)).cell? ⟨w.heap.size + 1, 0, none⟩ = some (.bool true) := e1
    simp [results, go_sem, e0', e1']
  · exact ⟨_, rfl, World.ownsRow_nil _ _ _ _, ((Below.refl _ w).alloc (Nat.le_refl _) _).alloc (by simp) _⟩
end Go.Proofs.YtalpkdnnclghaaaDoor
