/-
  Plain: a whole body's blocks.
-/
import Derived.Test.YtggfaalodojjkaaMb
namespace Go.Proofs.Ytggfaalodojjkaa
open Go.RowKit
set_option linter.unusedVariables false
set_option linter.unusedSimpArgs false
theorem NInv.step {C : Nat → Int} {n : Ne} (h : NInv C n) (h0 : (spN n (C n.pos)).1 = 0) (hcl : n.cl = true → n.op = []) :
    NInv C (spN n (C n.pos)).2 ∧ ((spN n (C n.pos)).2.cl = true → (spN n (C n.pos)).2.op = []) := by
  obtain ⟨c, hc⟩ : ∃ c, c = C n.pos := ⟨_, rfl⟩
  rw [← hc] at h0 ⊢
  have hs0 : (stN n c).1 = 0 := by
    by_cases q : (stN n c).1 = 0
    · exact q
    · rw [spN_no n c q] at h0; exact absurd h0 q
  rw [spN_yes n c hs0]
  cases hn : n.cl with
  | true =>
    have : stN n c = (4, n) := by unfold stN; rw [hn]; rfl
    rw [this] at hs0; exact nomatch (show _ = _ from hs0)
  | false =>
    cases h1 : opnB c with
    | true =>
      rw [stN_bg n c hn h1] at hs0 ⊢
      by_cases h64 : n.op.length = 64
      · have : bgN n (c == 4) = (15, n) := by unfold bgN; rw [if_pos h64]
        rw [this] at hs0; exact nomatch (show _ = _ from hs0)
      · have e0 : bgN n (c == 4) = (0, { n with op := n.op ++ [(n.sp.length, c == 4)], sp := n.sp ++ [(n.pos, -1, 0)], dp := max n.dp (n.op.length + 1) }) := by unfold bgN; rw [if_neg h64]
        rw [e0]
        refine ⟨?_, fun hh => by rw [show _ = n.cl from rfl, hn] at hh; cases hh⟩
        rw [hc] at h1 ⊢
        exact h.step_bg h1
    | false =>
      by_cases h2 : (c == 5) = true
      · rw [stN_pt n c hn h1 h2] at hs0 ⊢
        rcases op_last n.op with q | ⟨l, j, p, q⟩
        · have e0 : ptN n = (4, n) := by unfold ptN; rw [q]; rfl
          rw [e0] at hs0; exact nomatch (show _ = _ from hs0)
        · cases p with
          | false =>
            have e0 : ptN n = (4, n) := by unfold ptN; rw [q, List.getLast?_concat]
            rw [e0] at hs0; exact nomatch (show _ = _ from hs0)
          | true =>
            have e0 : ptN n = (0, { n with op := l ++ [(j, false)], sp := setE n.sp j n.pos }) := by unfold ptN; rw [q, List.getLast?_concat, List.dropLast_concat]
            rw [e0]
            exact ⟨h.step_pt q (by rw [← hc]; simpa using h2), fun hh => by rw [show _ = n.cl from rfl, hn] at hh; cases hh⟩
      · have h2 := Bool.eq_false_iff.2 h2
        by_cases h3 : (c == 11) = true
        · rw [stN_en n c hn h1 h2 h3] at hs0 ⊢
          rcases op_last n.op with q | ⟨l, j, p, q⟩
          · have e0 : enN n = { n with cl := true } := by unfold enN; rw [q]; rfl
            rw [e0]
            exact ⟨(h.step_no (by rw [← hc]; exact h1)).shut true, fun _ => q⟩
          · have e0 : enN n = { n with op := l, sp := setF n.sp j n.pos } := by unfold enN; rw [q, List.getLast?_concat, List.dropLast_concat]
            rw [e0]
            exact ⟨h.step_en q (by rw [← hc]; simpa using h3), fun hh => by rw [show _ = n.cl from rfl, hn] at hh; cases hh⟩
        · have h3 := Bool.eq_false_iff.2 h3
          rw [stN_no n c hn h1 h2 h3] at hs0 ⊢
          exact ⟨h.step_no (by rw [← hc]; exact h1), fun hh => by rw [show _ = n.cl from rfl, hn] at hh; cases hh⟩
theorem thN_inv (C : Nat → Int) : ∀ (L : List Int) (n m : Ne), NInv C n → (n.cl = true → n.op = []) → (∀ i, i < L.length → L.getD i 0 = C (n.pos + i)) → thN L n = (0, m) → NInv C m ∧ m.op = [] ∧ m.pos = n.pos + L.length := by
  intro L
  induction L with
  | nil =>
    intro n m h hcl _ ht
    unfold thN at ht
    cases hn : n.cl with
    | true => rw [hn] at ht; cases ht; exact ⟨h, hcl hn, rfl⟩
    | false => rw [hn] at ht; cases ht
  | cons c L ih =>
    intro n m h hcl hC ht
    have hc : c = C n.pos := hC 0 (by simp)
    subst hc
    unfold thN at ht
    by_cases h0 : (spN n (C n.pos)).1 = 0
    · rw [if_pos h0] at ht
      obtain ⟨k1, k2⟩ := h.step h0 hcl
      have hp := spN_pos n _ h0
      obtain ⟨r1, r2, r3⟩ := ih _ m k1 k2 (fun i hi => by
        have := hC (i + 1) (by simp; omega)
        rw [hp, show n.pos + 1 + i = n.pos + (i + 1) by omega, ← this]; rfl) ht
      exact ⟨r1, r2, by rw [r3, hp, List.length_cons]; omega⟩
    · rw [if_neg h0] at ht
      rw [ht] at h0; exact absurd rfl h0
/-- a body that may stand: what is told of its blocks -/
theorem thN_all {L : List Int} {n : Ne} (h : thN L n0 = (0, n)) : NInv (fun i => L.getD i 0) n ∧ n.op = [] ∧ n.pos = L.length := by
  obtain ⟨a, b, c⟩ := thN_inv (fun i => L.getD i 0) L n0 n (inv0 _) (fun hh => by cases hh) (fun i hi => by show _ = L.getD (0 + i) 0; rw [Nat.zero_add]) h
  exact ⟨a, b, by rw [c]; show 0 + _ = _; omega⟩
end Go.Proofs.Ytggfaalodojjkaa
