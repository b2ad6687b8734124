/-
  The document's example of layer 10.
-/
import Derived.Test.YtalpkdnnclghaaaDoorOh
import Derived.OwnWalk
import Derived.Outline
namespace Go.Proofs.YtalpkdnnclghaaaDoor
open Go.RowKit Go.ChangeShapes Go.WideShapes Go.ChangeAt
set_option linter.unusedVariables false
set_option linter.unusedSimpArgs false
theorem RowOf.lt {code : Int} {k : Nat} {r : Rw} (h : RowOf code k r) : k < 38 := by rw [← RW_length]; exact (List.getElem?_eq_some_iff.1 h.1).1
theorem RowOf.fst {code : Int} {k : Nat} {r : Rw} (h : RowOf code k r) : (fstK k : Int) ≤ code := by
  unfold fstK; rw [h.1]; exact h.2.1
theorem RowOf.uniq {code : Int} {k k' : Nat} {r r' : Rw} (h : RowOf code k r) (h' : RowOf code k' r') : k = k' ∧ r = r' := by
  have e : k = k' := by
    rcases Nat.lt_trichotomy k k' with h1 | h1 | h1
    · have := h.2.2 k' h1 h'.lt; have := h'.fst; omega
    · exact h1
    · have := h'.2.2 k h1 h.lt; have := h.fst; omega
  subst e
  exact ⟨rfl, Option.some.inj (h.1.symm.trans h'.1)⟩
theorem row106 : RowOf 106 29 rw29 := ⟨by kernel_rfl, by decide, fun j h1 h2 => by
  have h : ((List.range 38).all fun j => !(decide (29 < j)) || decide (106 < fstK j)) = true := by kernel_rfl
  have := List.all_eq_true.1 h j (by simp; exact h2)
  simp only [h1, decide_true, Bool.not_true, Bool.false_or, decide_eq_true_eq] at this
  omega⟩
theorem words29 : (Lib.fields rw29.names).length = 15 := by kernel_rfl
theorem nm29 : nmS rw29 0 = ⟨#[105, 51, 50, 46, 97, 100, 100]⟩ := by kernel_rfl
theorem Find_add (w : World) (hT : Tb w) : Calls Tryd.prog 31 #[.int .i64 106] w fun e w' => ∃ At ct Ag cg, e = .returned (.tuple #[.agg #[.int .i64 106, .string ⟨#[105, 51, 50, 46, 97, 100, 100]⟩, .int .i64 0, .slice At 2 ct, .slice Ag 1 cg], .bool true]) ∧ Below w.heap.size w w' := by
  refine (Find_any 106 (by decide) w hT).mono ?_
  intro e w' h
  rcases h with ⟨h, _⟩ | ⟨k, r, hr, h⟩
  · omega
  · obtain ⟨rfl, rfl⟩ := hr.uniq row106
    rcases h with ⟨h, _⟩ | ⟨_, At, ct, Ag, cg, h1, h2, h3, h4⟩
    · rw [words29] at h
      have : ((106 : Int) - (rw29.first : Nat)).toNat = 0 := by decide
      omega
    · have e0 : ((106 : Int) - (rw29.first : Nat)).toNat = 0 := by decide
      rw [e0] at h1
      rw [nm29] at h1
      exact ⟨At, ct, Ag, cg, h1, h4⟩
set_option maxHeartbeats 4000000 in
set_option maxRecDepth 100000 in
theorem awake_any (w : World) (hT : Tb w) : Calls Tryd.prog 37 #[] w fun e w' => e = .returned (.bool true) ∧ Below w.heap.size w w' := by
  have HF := Lib.hid (Find_add w hT)
  have HA := Lib.hid All_any
  have HT := Lib.hid hT
  clear hT
  go_enter Tryd.func37, Tryd.ntmps37
  go_wp2_with (first
    | (go_at_call 31; (with_reducible refine HF.out.mono ?_); rintro e w1 ⟨At, ct, Ag, cg, rfl, h1⟩
       have H1 := Lib.hid h1
       clear h1)
    | (with_reducible refine wpList_store57 rfl (.tmp 1) (.tmp 5) rfl w1.heap.size #[.int .i64 0, .string ⟨#[]⟩, .int .i64 0, .slice none 0 0, .slice none 0 0] _ _ _ _ _ _ _ _ _ rfl rfl (Blk.new w1 57 _) (Lib.hid rfl) ?_
       rw [World.setRow_alloc_new]
       generalize hw2 : w1.alloc (.cells #[.int .i64 106, .string ⟨#[105, 51, 50, 46, 97, 100, 100]⟩, .int .i64 0, .slice At 2 ct, .slice Ag 1 cg] 57) = w2
       have HBB : Hid (Below w.heap.size w w2) := Lib.hid (by rw [← hw2]; exact (H1.out.alloc H1.out.size _))
       have HT2 := Lib.hid (HT.out.below HBB.out HT.out.size)
       have hc := fun i => (show Blk w2 w1.heap.size 57 _ by rw [← hw2]; exact Blk.new _ _ _).cell i
       have c0 := hc 0
       have c1 := hc 1
       have c3 := hc 3
       simp at c0 c1 c3
       clear hc hw2)
    | (go_at_call 42; (with_reducible refine (HA.out _ HT2.out).mono ?_); rintro e w3 ⟨v, xs, rfl, ho, hx, hb⟩
       obtain ⟨Av, cv, rfl⟩ := own_slice ho
       have HB3 := Lib.hid (HBB.out.trans (hb.mono HBB.out.size))
       clear ho hx hb))
  go_ret
  exact ⟨rfl, HB3.out⟩
end Go.Proofs.YtalpkdnnclghaaaDoor
