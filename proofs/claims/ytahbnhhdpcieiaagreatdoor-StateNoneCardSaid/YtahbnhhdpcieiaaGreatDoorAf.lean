/-
  An arena that a call has made, and what it does with it; the given example of the fourth layer (awake).
-/
import Derived.Test.YtahbnhhdpcieiaaGreatDoorAe
namespace Go.Proofs.YtahbnhhdpcieiaaGreatDoor
open Go.RowKit
set_option linter.unusedVariables false
structure ARel (w : World) (a bb rm gm : Nat) (d : Ad) (wr : World) : Prop where
  are : Are wr a bb rm gm d
  bel : Below w.heap.size w wr
  ha : w.heap.size ≤ a
  hb : w.heap.size ≤ bb
  hr : w.heap.size ≤ rm
  hg : w.heap.size ≤ gm
  own : ∀ c, d.G c ≠ [] → ∀ k, (d.V c).ownBlock = some k → w.heap.size ≤ k
section
variable {w w1 w2 : World} {a bb rm gm : Nat} {d : Ad}
theorem ARel.drewN (h : ARel w a bb rm gm d w1) (k : Nat) : ARel w a bb rm gm d (w1.drewN k) :=
  ⟨h.are.drewN k, ⟨h.bel.os, h.bel.tape, h.bel.output, h.bel.size, h.bel.block⟩, h.ha, h.hb, h.hr, h.hg, h.own⟩
theorem ARel.takeG {n : Int} {xs : List Nat} {p : Nat} {v : Value} (h : ARel w a bb rm gm d w1) (hG : d.G (cl n) = xs ++ [p]) (hs : Are w2 a bb rm gm ((d.pop (cl n) xs v).take p (cl n))) (hf : Fr (arb a bb rm gm) w1 w2) (hv : v.ownBlock = (d.V (cl n)).ownBlock) :
    ARel w a bb rm gm ((d.pop (cl n) xs v).take p (cl n)) w2 :=
  ⟨hs, hf.below h.bel h.bel.size (fun k hk => by rcases hk with rfl | rfl | rfl | rfl <;> first | exact h.ha | exact h.hb | exact h.hr | exact h.hg), h.ha, h.hb, h.hr, h.hg, fun c hc k hk => by
    by_cases e : c = cl n
    · subst e
      simp only [Ad.take, Ad.pop, if_pos] at hk
      exact h.own _ (by rw [hG]; simp) k (by rw [← hv]; exact hk)
    · simp only [Ad.take, Ad.pop, if_neg e] at hc hk
      exact h.own c hc k hk⟩
theorem ARel.takeC {n : Int} (h : ARel w a bb rm gm d w1) (hs : Are w2 a bb rm gm ((d.cut (cl n)).take d.height (cl n))) (hf : Fr (arb a bb rm gm) w1 w2) :
    ARel w a bb rm gm ((d.cut (cl n)).take d.height (cl n)) w2 :=
  ⟨hs, hf.below h.bel h.bel.size (fun k hk => by rcases hk with rfl | rfl | rfl | rfl <;> first | exact h.ha | exact h.hb | exact h.hr | exact h.hg), h.ha, h.hb, h.hr, h.hg, h.own⟩
theorem ARel.give {p c : Nat} {v : Value} (h : ARel w a bb rm gm d w1) (hs : Are w2 a bb rm gm (d.give p c v)) (hf : Fr (gvS a rm gm d c) w1 w2) (hv : v.ownBlock = (d.v0 c).ownBlock ∨ ∃ k, v.ownBlock = some k ∧ w1.heap.size ≤ k) :
    ARel w a bb rm gm (d.give p c v) w2 := by
  have h0 := h.are.own0 c
  have hv0 : ∀ k, (d.v0 c).ownBlock = some k → w.heap.size ≤ k := fun k hk => by
    by_cases e : d.G c = []
    · rw [h0.2.2 e] at hk; cases hk
    · rw [h0.2.1 e] at hk; exact h.own c e k hk
  refine ⟨hs, hf.below h.bel h.bel.size (fun k hk => ?_), h.ha, h.hb, h.hr, h.hg, fun i hi k hk => ?_⟩
  · rcases hk with rfl | rfl | rfl | hk
    · exact h.ha
    · exact h.hr
    · exact h.hg
    · exact hv0 k hk
  · by_cases e : i = c
    · subst e
      simp only [Ad.give, if_pos] at hk
      rcases hv with q | ⟨k', q, hk'⟩
      · exact hv0 k (by rw [← q]; exact hk)
      · rw [q] at hk
        injection hk with hk
        have := h.bel.size
        omega
    · simp only [Ad.give, if_neg e] at hi hk
      exact h.own i hi k hk
theorem ARel.new {n : Nat} (hb : Below w.heap.size w w1) (hs : Are w2 a bb rm gm (nuA n)) (hb2 : Below w1.heap.size w1 w2) (h1 : w1.heap.size ≤ a) (h2 : w1.heap.size ≤ bb) (h3 : w1.heap.size ≤ rm) (h4 : w1.heap.size ≤ gm) : ARel w a bb rm gm (nuA n) w2 :=
  ⟨hs, hb.trans (hb2.mono hb.size), Nat.le_trans hb.size h1, Nat.le_trans hb.size h2, Nat.le_trans hb.size h3, Nat.le_trans hb.size h4, fun c hc => absurd rfl hc⟩
end
theorem cl20 : cl 20 = 32 := by decide
theorem cl5 : cl 5 = 16 := by decide
theorem cl17 : cl 17 = 32 := by decide
end Go.Proofs.YtahbnhhdpcieiaaGreatDoor
