/-
  Fit of a fit module.
-/
import Derived.Test.YtackompihengfaaX6
import Derived.Test.YtackompihengfaaNa
import Derived.Test.YtackompihengfaaEb
import Derived.Test.YtackompihengfaaUc
namespace Go.Proofs.Ytackompihengfaa
open Go.RowKit Go.PlainAid
set_option linter.unusedVariables false
set_option linter.unusedSimpArgs false
theorem lsE_zero {most : Int} {n : Nat} {E : Nat → Int} (hn : (n : Int) ≤ most) (h : ∀ i, i < n → E i = 0) : lsE most n E = 0 := by
  unfold lsE
  rw [if_neg (by omega)]
  exact firstE_zero n 0 (fun i _ hi => h i (by omega))
theorem MtFit.sg {x : Mt} (h : MtFit x) : ∀ f, f < x.s1.n + x.s2.n → 0 ≤ sgOf x f ∧ sgOf x f < (x.s0.n : Int) := fun f hf => by
  unfold sgOf
  split
  · rename_i h1
    exact ⟨(h.l1 f h1).2.2.1, (h.l1 f h1).2.2.2⟩
  · exact h.l2 (f - x.s1.n) (by omega)
theorem MtFit.e0 {x : Mt} (h : MtFit x) : lsE 50 x.s0.n (fun i => sgE (x.X0 i)) = 0 := lsE_zero (by have := h.n0; omega) (fun i hi => by
  unfold sgE
  rw [(h.l0 i hi).1, (h.l0 i hi).2]
  rfl)
theorem MtFit.e1 {x : Mt} (h : MtFit x) : lsE 20 x.s1.n (fun i => imE x.s0.n (x.X1 i)) = 0 := lsE_zero (by have := h.n1; omega) (fun i hi => by
  unfold imE
  rw [(h.l1 i hi).1, (h.l1 i hi).2.1, if_neg (by decide), if_pos]
  rw [Bool.and_eq_true, decide_eq_true_eq, decide_eq_true_eq]
  exact (h.l1 i hi).2.2)
theorem MtFit.e2 {x : Mt} (h : MtFit x) : lsE (100 - (x.s1.n : Int)) x.s2.n (fun i => fuE x.s0.n (x.X2 i)) = 0 := lsE_zero (by have := h.na; omega) (fun i hi => by
  unfold fuE
  rw [if_pos]
  rw [Bool.and_eq_true, decide_eq_true_eq, decide_eq_true_eq]
  exact h.l2 i hi)
theorem MtFit.e3 {x : Mt} (h : MtFit x) : taE x.tab = 0 := by
  have := h.tab
  unfold taE
  rw [if_neg (by omega), if_pos (by omega)]
theorem MtFit.e4 {x : Mt} (h : MtFit x) : lsE 4 x.s4.n (fun i => liE (x.X4 i)) = 0 := lsE_zero (by have := h.n4; omega) (fun i hi => by
  have := h.l4 i hi
  unfold liE limB
  rw [if_pos]
  simp only [Bool.and_eq_true, Bool.not_eq_true', Bool.or_eq_false_iff, Bool.or_eq_true, decide_eq_true_eq, decide_eq_false_iff_not]
  omega)
theorem MtFit.e5 {x : Mt} (h : MtFit x) : lsE 50 x.s5.n (fun i => gE (x.X5 i)) = 0 := lsE_zero (by have := h.n5; omega) (fun i hi => by
  have := h.l5 i hi
  unfold gE glB
  rw [if_pos]
  simp only [Bool.and_eq_true, Bool.or_eq_true, decide_eq_true_eq]
  omega)
theorem hadB_no {X : Nat → ExT} {i : Nat} (h : ∀ k, k < i → (X k).nm ≠ (X i).nm) : hadB X i = false := by
  unfold hadB
  rw [List.any_eq_false]
  intro k hk
  rw [List.mem_range] at hk
  simpa using h k hk
theorem MtFit.e6 {x : Mt} (h : MtFit x) : lsE 50 x.s6.n (fun i => exE (hadB x.X6 i) ((x.s1.n + x.s2.n : Nat) : Int) x.tab x.s4.n x.s5.n (x.X6 i)) = 0 := lsE_zero (by have := h.n6; omega) (fun i hi => by
  obtain ⟨h1, h2, h3⟩ := h.l6 i hi
  unfold exE
  rw [hadB_no h2, h1, if_neg (by decide), if_pos]
  unfold thB inB cntOf
  rcases h3 with ⟨a, b, c⟩ | ⟨a, b, c⟩ | ⟨a, b, c⟩ | ⟨a, b, c⟩
  · rw [a]; simp only [Bool.and_eq_true, decide_eq_true_eq]; simp; omega
  · rw [a, c]; simp [b]
  · rw [a]; simp only [Bool.and_eq_true, decide_eq_true_eq]; simp; omega
  · rw [a]; simp only [Bool.and_eq_true, decide_eq_true_eq]; simp; omega)
theorem MtFit.e7 {x : Mt} (h : MtFit x) : stE x = 0 := by
  unfold stE
  rcases h.st with e | ⟨a, b, c, d⟩
  · rw [if_pos e]
  · by_cases e : x.start = -1
    · rw [if_pos e]
    · rw [if_neg e, if_pos (by unfold inB; simp only [Bool.and_eq_true, decide_eq_true_eq]; exact ⟨a, b⟩), c, d]
      rfl
theorem MtFit.e8 {x : Mt} (h : MtFit x) : lsE 20 x.s8.n (fun i => elE x.tab ((x.s1.n + x.s2.n : Nat) : Int) (x.X8 i).at_ (x.X8 i).fs) = 0 := lsE_zero (by have := h.n8; omega) (fun i hi => by
  obtain ⟨h1, h2, h3, h4⟩ := h.l8 i hi
  unfold elE
  rw [if_neg (by omega), if_pos]
  simp only [Bool.and_eq_true, decide_eq_true_eq]
  refine ⟨⟨h2, by omega⟩, ?_⟩
  rw [List.all_eq_true]
  intro a ha
  obtain ⟨j, hj, rfl⟩ := List.getElem_of_mem ha
  have h5 := h4 j hj
  rw [List.getD_eq_getElem?_getD, List.getElem?_eq_getElem hj] at h5
  unfold inB
  simp only [Bool.and_eq_true, decide_eq_true_eq]
  exact h5)
theorem MtFit.e9 {x : Mt} (h : MtFit x) : lsE 20 x.s9.n (fun i => daE x.s4.n x.X4 (x.X9 i).me (x.X9 i).at_ (x.X9 i).bs.length) = 0 := lsE_zero (by have := h.n9; omega) (fun i hi => by
  obtain ⟨h1, h2, h3, h4⟩ := h.l9 i hi
  unfold daE
  rw [if_neg (by omega), if_pos]
  unfold inB
  simp only [Bool.and_eq_true, Bool.or_eq_true, decide_eq_true_eq]
  exact ⟨⟨h2, h3⟩, by rcases h4 with e | e; exact .inl e; exact .inr (by omega)⟩)
/-- a module that To has made of a told one, as FtAt wants it -/
theorem MdAt.ft {w : World} {B g : Nat} {x : Mt} {sv fv : Value} {SP SR LV IV : Nat → Value} {S : Nat → Nat → Value} (h : MdAt w B g x sv fv SP SR LV IV S) (hx : MtAt w x) (hs : MtSm x) : ∃ A0 c0 A2 c2, FtAt w g { x with s0 := ⟨A0, x.s0.n, c0⟩, s2 := ⟨A2, x.s2.n, c2⟩ } := by
  obtain ⟨A0, c0, A2, c2, hm⟩ := h.mo hx hs
  exact ⟨A0, c0, A2, c2, ⟨hm.blk, ⟨hm.r0, hx.r1, hm.r2, hx.r4, hx.r5, hx.r6, hx.r8, hx.r9⟩, ⟨hs.n0, hs.n1, hs.n2, hs.n4, hs.n5, hs.n6, hs.n8, hs.n9, hs.l0, hs.l1, hs.l2, hs.l6, hs.l8, hs.l9⟩⟩⟩
/-- a fit module is fit -/
theorem Fit_yes {w : World} {B g : Nat} {x : Mt} {sv fv : Value} {SP SR LV IV : Nat → Value} {S : Nat → Nat → Value} (hm : MdAt w B g x sv fv SP SR LV IV S) (hx : MtAt w x) (hs : MtSm x) (hf : MtFit x) :
    Calls Try.prog 22 #[.pointer (some ⟨g, 0, none⟩)] w fun e w' => e = .returned (.tuple #[.string ⟨#[]⟩, .int .i64 0]) ∧ Below w.heap.size w w' := by
  refine Fit_ok g w (fun f h1 h2 W hW => ?_)
  obtain ⟨A0, c0, A2, c2, hft⟩ := hm.ft hx hs
  have h := hft.below hW
  have hx' := hx.below hW
  have hm' := hm.kept hW
  have hd : f = 38 ∨ f = 39 ∨ f = 40 ∨ f = 41 ∨ f = 42 ∨ f = 43 ∨ f = 44 ∨ f = 45 ∨ f = 46 ∨ f = 47 := by omega
  rcases hd with rfl | rfl | rfl | rfl | rfl | rfl | rfl | rfl | rfl | rfl
  · have k := part38_ok _ g W h; rw [show lsE 50 _ _ = 0 from hf.e0] at k; exact k
  · have k := part39_ok _ g W h; rw [show lsE 20 _ _ = 0 from hf.e1] at k; exact k
  · have k := part40_ok _ g W h; rw [show lsE _ _ _ = 0 from hf.e2] at k; exact k
  · have k := part41_ok _ g W h; rw [show taE _ = 0 from hf.e3] at k; exact k
  · have k := part42_ok _ g W h; rw [show lsE 4 _ _ = 0 from hf.e4] at k; exact k
  · have k := part43_ok _ g W h; rw [show lsE 50 _ _ = 0 from hf.e5] at k; exact k
  · have k := part44_ok _ g W h; rw [show lsE 50 _ _ = 0 from hf.e6] at k; exact k
  · have k := part45_ok x B g sv fv SP SR LV IV S W hx' hm' hs hf.sg; rw [hf.e7] at k; exact k
  · have k := part46_ok _ g W h; rw [show lsE 20 _ _ = 0 from hf.e8] at k; exact k
  · have k := part47_ok _ g W h; rw [show lsE 20 _ _ = 0 from hf.e9] at k; exact k
end Go.Proofs.Ytackompihengfaa
