/-
  An arena that a call has made, and what it does with it; the given example of the fourth layer (awake).
-/
import Derived.Test.YtkmocjbpinmlaaaAe
namespace Go.Proofs.Ytkmocjbpinmlaaa
open Go.RowKit
set_option linter.unusedVariables false
structure ARel (w : World) (a bb rm gm : Nat) (d : Ad) (wr : World) : Prop where
  are : Are wr a bb rm gm d
  bel : Below w.heap.size w wr
  ha : w.heap.size ≤ a
  hb : w.heap.size ≤ bb
  hr : w.heap.size ≤ rm
  hg : w.heap.size ≤ gm
  own : ∀ c, d.G c ≠ [] → ∀ k, (d.V c).ownBlock = some k → w.heap.size ≤ k
section
variable {w w1 w2 : World} {a bb rm gm : Nat} {d : Ad}
theorem ARel.drewN (h : ARel w a bb rm gm d w1) (k : Nat) : ARel w a bb rm gm d (w1.drewN k) :=
  ⟨h.are.drewN k, ⟨h.bel.os, h.bel.tape, h.bel.output, h.bel.size, h.bel.block⟩, h.ha, h.hb, h.hr, h.hg, h.own⟩
theorem ARel.takeG {n : Int} {xs : List Nat} {p : Nat} {v : Value} (h : ARel w a bb rm gm d w1) (hG : d.G (cl n) = xs ++ [p]) (hs : Are w2 a bb rm gm ((d.pop (cl n) xs v).take p (cl n))) (hf : Fr (arb a bb rm gm) w1 w2) (hv : v.ownBlock = (d.V (cl n)).ownBlock) :
    ARel w a bb rm gm ((d.pop (cl n) xs v).take p (cl n)) w2 :=
  ⟨hs, hf.below h.bel h.bel.size (fun k hk => by rcases hk with rfl | rfl | rfl | rfl <;> first | exact h.ha | exact h.hb | exact h.hr | exact h.hg), h.ha, h.hb, h.hr, h.hg, fun c hc k hk => by
    by_cases e : c = cl n
    · subst e
      simp only [Ad.take, Ad.pop, if_pos] at hk
      exact h.own _ (by rw [hG]; simp) k (by rw [← hv]; exact hk)
    · simp only [Ad.take, Ad.pop, if_neg e] at hc hk
      exact h.own c hc k hk⟩
theorem ARel.takeC {n : Int} (h : ARel w a bb rm gm d w1) (hs : Are w2 a bb rm gm ((d.cut (cl n)).take d.height (cl n))) (hf : Fr (arb a bb rm gm) w1 w2) :
    ARel w a bb rm gm ((d.cut (cl n)).take d.height (cl n)) w2 :=
  ⟨hs, hf.below h.bel h.bel.size (fun k hk => by rcases hk with rfl | rfl | rfl | rfl <;> first | exact h.ha | exact h.hb | exact h.hr | exact h.hg), h.ha, h.hb, h.hr, h.hg, h.own⟩
theorem ARel.give {p c : Nat} {v : Value} (h : ARel w a bb rm gm d w1) (hs : Are w2 a bb rm gm (d.give p c v)) (hf : Fr (gvS a rm gm d c) w1 w2) (hv : v.ownBlock = (d.v0 c).ownBlock ∨ ∃ k, v.ownBlock = some k ∧ w1.heap.size ≤ k) :
    ARel w a bb rm gm (d.give p c v) w2 := by
  have h0 := h.are.own0 c
  have hv0 : ∀ k, (d.v0 c).ownBlock = some k → w.heap.size ≤ k := fun k hk => by
    by_cases e : d.G c = []
    · rw [h0.2.2 e] at hk; cases hk
    · rw [h0.2.1 e] at hk; exact h.own c e k hk
  refine ⟨hs, hf.below h.bel h.bel.size (fun k hk => ?_), h.ha, h.hb, h.hr, h.hg, fun i hi k hk => ?_⟩
  · rcases hk with rfl | rfl | rfl | hk
    · exact h.ha
    · exact h.hr
    · exact h.hg
    · exact hv0 k hk
  · by_cases e : i = c
    · subst e
      simp only [Ad.give, if_pos] at hk
      rcases hv with q | ⟨k', q, hk'⟩
      · exact hv0 k (by rw [← q]; exact hk)
      · rw [q] at hk
        injection hk with hk
        have := h.bel.size
        omega
    · simp only [Ad.give, if_neg e] at hi hk
      exact h.own i hi k hk
theorem ARel.new {n : Nat} (hb : Below w.heap.size w w1) (hs : Are w2 a bb rm gm (nuA n)) (hb2 : Below w1.heap.size w1 w2) (h1 : w1.heap.size ≤ a) (h2 : w1.heap.size ≤ bb) (h3 : w1.heap.size ≤ rm) (h4 : w1.heap.size ≤ gm) : ARel w a bb rm gm (nuA n) w2 :=
  ⟨hs, hb.trans (hb2.mono hb.size), Nat.le_trans hb.size h1, Nat.le_trans hb.size h2, Nat.le_trans hb.size h3, Nat.le_trans hb.size h4, fun c hc => absurd rfl hc⟩
end
theorem cl20 : cl 20 = 32 := by decide
theorem cl5 : cl 5 = 16 := by decide
theorem cl17 : cl 17 = 32 := by decide
set_option maxHeartbeats 1000000 in
set_option maxRecDepth 100000 in
theorem awake4_any (w : World) : Calls Try.prog 7 #[] w fun e w' => e = .returned (.bool true) ∧ Below w.heap.size w w' := by
  go_enter Try.func7, Try.ntmps7
  go_wp2_with fail
  refine (ANew_ok 100 _ (by omega)).mono ?_
  rintro e w1 ⟨a, bb, rm, gm, rfl, h1, b1, ha, hb, hr, hg⟩
  have H1 : Hid (ARel w a bb rm gm (nuA 100) w1) := Lib.hid (ARel.new (Below.refl _ _) h1 b1 ha hb hr hg)
  clear h1 b1 ha hb hr hg
  go_wp2_with fail
  refine (Take_cut a bb rm gm (nuA 100) 20 w1 H1.out.are (by omega) (by omega) rfl (by rw [cl20]; show (32 : Nat) ≤ 100; decide) (by show (0 : Nat) < 1000000; decide)).mono ?_
  rintro e w2 ⟨rfl, h2, f2⟩
  have H2 := H1.out.takeC h2 f2
  rw [cl20] at H2
  have H2 := Lib.hid H2
  clear h2 f2
  go_wp2_with fail
  refine (Take_cut a bb rm gm _ 5 w2 H2.out.are (by omega) (by omega) rfl (by rw [cl5]; show (48 : Nat) ≤ 100; decide) (by show (1 : Nat) < 1000000; decide)).mono ?_
  rintro e w3 ⟨rfl, h3, f3⟩
  have H3 := H2.out.takeC h3 f3
  rw [cl5] at H3
  have H3 := Lib.hid H3
  clear h3 f3
  go_wp2_with fail
  refine (Give_ok a bb rm gm _ 0 32 w3 H3.out.are rfl (by show (2 : Nat) < 1000000; decide)).mono ?_
  rintro e w4 ⟨v, rfl, h4, f4, hv⟩
  have H4 := Lib.hid (H3.out.give h4 f4 hv)
  clear h4 f4 hv
  go_wp2_with fail
  refine (Take_given a bb rm gm _ 17 [] 0 w4 H4.out.are (by omega) (by omega) (by rw [cl17]; rfl) (by show (3 : Nat) < 1000000; decide)).mono ?_
  rintro e w5 ⟨v2, rfl, h5, f5, hv⟩
  have H5 := H4.out.takeG (by rw [cl17]; rfl) h5 f5 hv
  rw [cl17] at H5
  have H5 := Lib.hid H5
  clear h5 f5 hv
  have HL : Hid (Calls Try.prog 12 #[.pointer (some ⟨a, 0, none⟩)] w5 fun e w' => e = .returned (.int .i64 48) ∧ w5 = w') := Lib.hid (Live_any H5.out.are)
  go_wp2_with (go_at_call 12; refine HL.out.mono ?_; rintro e w' ⟨rfl, rfl⟩)
  go_ret
  exact ⟨rfl, H5.out.bel⟩
end Go.Proofs.Ytkmocjbpinmlaaa
