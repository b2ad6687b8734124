/-
  Plain: what blocks are like, at each place of a body.
-/
import Derived.Test.YtggfaalodojjkaaNh
namespace Go.Proofs.Ytggfaalodojjkaa
open Go.RowKit
set_option linter.unusedVariables false
set_option linter.unusedSimpArgs false
/-- a span's else -/
def ElsAt (C : Nat → Int) (p : Nat) (s : Nat × Int × Nat) : Prop := s.2.1 = -1 ∨ ∃ x : Nat, s.2.1 = x ∧ s.1 < x ∧ x < p ∧ C x = 5 ∧ C s.1 = 4
def cntO (C : Nat → Int) : Nat → Nat
  | 0 => 0
  | k + 1 => cntO C k + (if opnB (C k) then 1 else 0)
/-- a block is open -/
def Ne.opn (n : Ne) (j : Nat) : Prop := ∃ p, (j, p) ∈ n.op
structure NInv (C : Nat → Int) (n : Ne) : Prop where
  beg : ∀ (j : Nat) (s : Nat × Int × Nat), n.sp[j]? = some s → s.1 < n.pos ∧ opnB (C s.1) = true
  els : ∀ (j : Nat) (s : Nat × Int × Nat), n.sp[j]? = some s → ElsAt C n.pos s
  fin : ∀ (j : Nat) (s : Nat × Int × Nat), n.sp[j]? = some s → ¬ n.opn j → s.1 < s.2.2 ∧ s.2.2 < n.pos ∧ C s.2.2 = 11 ∧ s.2.1 < (s.2.2 : Int)
  ris : ∀ (i j : Nat) (s t : Nat × Int × Nat), n.sp[i]? = some s → n.sp[j]? = some t → i < j → s.1 < t.1
  opr : n.op.Pairwise fun a b => a.1 < b.1
  iff_ : ∀ (j : Nat) (s : Nat × Int × Nat), n.sp[j]? = some s → (j, true) ∈ n.op → C s.1 = 4
  nst : ∀ (i j : Nat) (s t : Nat × Int × Nat), n.sp[i]? = some s → n.sp[j]? = some t → i < j → ¬ n.opn i → ¬ n.opn j → t.1 < s.2.2 → t.2.2 < s.2.2
  nso : ∀ (i j : Nat) (s t : Nat × Int × Nat), n.sp[i]? = some s → n.sp[j]? = some t → i < j → ¬ n.opn i → n.opn j → s.2.2 < t.1
  cnt : n.sp.length = cntO C n.pos
  ok : n.ok
theorem inv0 (C : Nat → Int) : NInv C n0 := by
  refine ⟨?_, ?_, ?_, ?_, ?_, ?_, ?_, ?_, rfl, ?_⟩
  all_goals simp [n0, Ne.ok]
theorem ElsAt.up {C : Nat → Int} {p : Nat} {s : Nat × Int × Nat} (h : ElsAt C p s) : ElsAt C (p + 1) s :=
  h.imp id fun ⟨x, h1, h2, h3, h4⟩ => ⟨x, h1, h2, by omega, h4⟩
/-- an instruction that is no block's -/
theorem NInv.step_no {C : Nat → Int} {n : Ne} (h : NInv C n) (hc : opnB (C n.pos) = false) : NInv C { n with pos := n.pos + 1 } := by
  refine ⟨fun j s e => ?_, fun j s e => (h.els j s e).up, fun j s e o => ?_, h.ris, h.opr, h.iff_, h.nst, h.nso, ?_, h.ok⟩
  · have := h.beg j s e; exact ⟨by show s.1 < n.pos + 1; omega, this.2⟩
  · have := h.fin j s e o; exact ⟨this.1, by show s.2.2 < n.pos + 1; omega, this.2.2⟩
  · show n.sp.length = cntO C n.pos + _; rw [hc, h.cnt]; rfl
theorem get_app {α : Type} {l : List α} {x s : α} {j : Nat} (h : (l ++ [x])[j]? = some s) : (l[j]? = some s ∧ j < l.length) ∨ (j = l.length ∧ s = x) := by
  rcases Nat.lt_trichotomy j l.length with hj | hj | hj
  · rw [List.getElem?_append_left hj] at h; exact .inl ⟨h, hj⟩
  · subst hj; rw [List.getElem?_append_right (Nat.le_refl _)] at h; simp at h; exact .inr ⟨rfl, h.symm⟩
  · rw [List.getElem?_eq_none (by simp; omega)] at h; cases h
/-- a block begins -/
theorem NInv.step_bg {C : Nat → Int} {n : Ne} (h : NInv C n) (hc : opnB (C n.pos) = true) :
    NInv C { n with op := n.op ++ [(n.sp.length, C n.pos == 4)], sp := n.sp ++ [(n.pos, -1, 0)], dp := max n.dp (n.op.length + 1), pos := n.pos + 1 } := by
  have hlow : ∀ j s, n.sp[j]? = some s → ¬ (∃ p, (j, p) ∈ n.op ++ [(n.sp.length, C n.pos == 4)]) → ¬ n.opn j := fun j s _ hn ⟨p, hp⟩ => hn ⟨p, List.mem_append_left _ hp⟩
  have hnew : ∀ j, j < n.sp.length → (∃ p, (j, p) ∈ n.op ++ [(n.sp.length, C n.pos == 4)]) → n.opn j := fun j hj ⟨p, hp⟩ => by
    rcases List.mem_append.1 hp with h1 | h1
    · exact ⟨p, h1⟩
    · simp at h1; omega
  have hlast : ∃ p, (n.sp.length, p) ∈ n.op ++ [(n.sp.length, C n.pos == 4)] := ⟨_, List.mem_append_right _ (List.mem_singleton.2 rfl)⟩
  refine ⟨fun j s e => ?_, fun j s e => ?_, fun j s e o => ?_, fun i j s t e f hij => ?_, ?_, fun j s e hm => ?_, fun i j s t e f hij o1 o2 => ?_, fun i j s t e f hij o1 o2 => ?_, ?_, fun o ho => ?_⟩
  · rcases get_app e with ⟨e, _⟩ | ⟨_, rfl⟩
    · have := h.beg j s e; exact ⟨by show s.1 < n.pos + 1; omega, this.2⟩
    · exact ⟨Nat.lt_succ_self _, hc⟩
  · rcases get_app e with ⟨e, _⟩ | ⟨_, rfl⟩
    · exact (h.els j s e).up
    · exact .inl rfl
  · rcases get_app e with ⟨e, _⟩ | ⟨rfl, rfl⟩
    · have := h.fin j s e (hlow j s e o); exact ⟨this.1, by show s.2.2 < n.pos + 1; omega, this.2.2⟩
    · exact absurd hlast o
  · rcases get_app e with ⟨e, hi⟩ | ⟨rfl, rfl⟩
    · rcases get_app f with ⟨f, hj⟩ | ⟨rfl, rfl⟩
      · exact h.ris i j s t e f hij
      · exact (h.beg i s e).1
    · rcases get_app f with ⟨f, hj⟩ | ⟨rfl, rfl⟩ <;> omega
  · show (n.op ++ [_]).Pairwise _
    rw [List.pairwise_append]
    exact ⟨h.opr, List.pairwise_singleton _ _, fun a ha b hb => by rw [List.mem_singleton.1 hb]; exact h.ok a ha⟩
  · rcases get_app e with ⟨e, hj⟩ | ⟨rfl, rfl⟩
    · rcases List.mem_append.1 hm with h1 | h1
      · exact h.iff_ j s e h1
      · simp at h1; omega
    · rcases List.mem_append.1 hm with h1 | h1
      · exact absurd (h.ok _ h1) (by simp)
      · simp at h1; exact h1
  · rcases get_app f with ⟨f, hj⟩ | ⟨rfl, rfl⟩
    · rcases get_app e with ⟨e, hi⟩ | ⟨rfl, rfl⟩
      · exact h.nst i j s t e f hij (hlow i s e o1) (hlow j t f o2)
      · omega
    · exact absurd hlast o2
  · rcases get_app e with ⟨e, hi⟩ | ⟨rfl, rfl⟩
    · rcases get_app f with ⟨f, hj⟩ | ⟨rfl, rfl⟩
      · exact h.nso i j s t e f hij (hlow i s e o1) (hnew j hj o2)
      · exact (h.fin i s e (hlow i s e o1)).2.1
    · exact absurd hlast o1
  · show (n.sp ++ [_]).length = cntO C n.pos + _; rw [hc, List.length_append, h.cnt]; rfl
  · rcases List.mem_append.1 ho with h1 | h1
    · have := h.ok o h1; show o.1 < (n.sp ++ [_]).length; simp; omega
    · rw [List.mem_singleton.1 h1]; show n.sp.length < (n.sp ++ [_]).length; simp
end Go.Proofs.Ytggfaalodojjkaa
