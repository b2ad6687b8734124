/-
  Plain: an else, an end; a whole body.
-/
import Derived.Test.YtggfaalodojjkaaMa
namespace Go.Proofs.Ytggfaalodojjkaa
open Go.RowKit
set_option linter.unusedVariables false
set_option linter.unusedSimpArgs false
theorem get_setE {sp : List (Nat × Int × Nat)} {j i : Nat} {e : Int} {s : Nat × Int × Nat} (h : (setE sp j e)[i]? = some s) : ∃ s0, sp[i]? = some s0 ∧ s.1 = s0.1 ∧ s.2.2 = s0.2.2 ∧ ((i = j ∧ s.2.1 = e) ∨ (i ≠ j ∧ s = s0)) := by
  unfold setE at h
  rw [List.getElem?_modify] at h
  cases h0 : sp[i]? with
  | none => rw [h0] at h; cases h
  | some s0 =>
    rw [h0] at h
    refine ⟨s0, rfl, ?_⟩
    by_cases hij : j = i
    · subst hij; simp at h; subst h; exact ⟨rfl, rfl, .inl ⟨rfl, rfl⟩⟩
    · simp [hij] at h; subst h; exact ⟨rfl, rfl, .inr ⟨fun e => hij e.symm, rfl⟩⟩
theorem get_setF {sp : List (Nat × Int × Nat)} {j i e : Nat} {s : Nat × Int × Nat} (h : (setF sp j e)[i]? = some s) : ∃ s0, sp[i]? = some s0 ∧ s.1 = s0.1 ∧ s.2.1 = s0.2.1 ∧ ((i = j ∧ s.2.2 = e) ∨ (i ≠ j ∧ s = s0)) := by
  unfold setF at h
  rw [List.getElem?_modify] at h
  cases h0 : sp[i]? with
  | none => rw [h0] at h; cases h
  | some s0 =>
    rw [h0] at h
    refine ⟨s0, rfl, ?_⟩
    by_cases hij : j = i
    · subst hij; simp at h; subst h; exact ⟨rfl, rfl, .inl ⟨rfl, rfl⟩⟩
    · simp [hij] at h; subst h; exact ⟨rfl, rfl, .inr ⟨fun e => hij e.symm, rfl⟩⟩
theorem NInv.step_pt {C : Nat → Int} {n : Ne} {op : List (Nat × Bool)} {j : Nat} (h : NInv C n) (hop : n.op = op ++ [(j, true)]) (hc : C n.pos = 5) :
    NInv C { n with op := op ++ [(j, false)], sp := setE n.sp j n.pos, pos := n.pos + 1 } := by
  have hjo : n.opn j := ⟨true, by rw [hop]; simp⟩
  have hdn : ∀ i, ¬ (∃ p, (i, p) ∈ op ++ [(j, false)]) → ¬ n.opn i := fun i hn ⟨p, hp⟩ => by
    rw [hop] at hp
    rcases List.mem_append.1 hp with h1 | h1
    · exact hn ⟨p, List.mem_append_left _ h1⟩
    · simp at h1; exact hn ⟨false, by rw [h1.1]; simp⟩
  have hup : ∀ i, (∃ p, (i, p) ∈ op ++ [(j, false)]) → n.opn i := fun i ⟨p, hp⟩ => by
    rcases List.mem_append.1 hp with h1 | h1
    · exact ⟨p, by rw [hop]; exact List.mem_append_left _ h1⟩
    · simp at h1; rw [h1.1]; exact hjo
  have hb : opnB (C n.pos) = false := by rw [hc]; rfl
  refine ⟨fun i s e => ?_, fun i s e => ?_, fun i s e o => ?_, fun i k s t e f hik => ?_, ?_, fun i s e hm => ?_, fun i k s t e f hik o1 o2 => ?_, fun i k s t e f hik o1 o2 => ?_, ?_, fun o ho => ?_⟩
  · obtain ⟨s0, e0, e1, _⟩ := get_setE e
    have := h.beg i s0 e0
    rw [e1]; exact ⟨by show s0.1 < n.pos + 1; omega, this.2⟩
  · obtain ⟨s0, e0, e1, e2, ⟨rfl, e3⟩ | ⟨_, rfl⟩⟩ := get_setE e
    · refine .inr ⟨n.pos, e3, ?_, Nat.lt_succ_self _, hc, ?_⟩
      · rw [e1]; exact (h.beg _ s0 e0).1
      · rw [e1]; exact h.iff_ _ s0 e0 (by rw [hop]; simp)
    · exact (h.els i s e0).up
  · obtain ⟨s0, e0, e1, e2, ⟨rfl, e3⟩ | ⟨_, rfl⟩⟩ := get_setE e
    · exact absurd hjo (hdn _ o)
    · have := h.fin i s e0 (hdn i o); exact ⟨this.1, by show s.2.2 < n.pos + 1; omega, this.2.2⟩
  · obtain ⟨s0, e0, e1, _⟩ := get_setE e
    obtain ⟨t0, f0, f1, _⟩ := get_setE f
    rw [e1, f1]; exact h.ris i k s0 t0 e0 f0 hik
  · have := h.opr
    rw [hop, List.pairwise_append] at this
    show (op ++ [(j, false)]).Pairwise _
    rw [List.pairwise_append]
    exact ⟨this.1, List.pairwise_singleton _ _, fun a ha b hb => by rw [List.mem_singleton.1 hb]; exact this.2.2 a ha (j, true) (List.mem_singleton.2 rfl)⟩
  · obtain ⟨s0, e0, e1, _⟩ := get_setE e
    rw [e1]
    rcases List.mem_append.1 hm with h1 | h1
    · exact h.iff_ i s0 e0 (by rw [hop]; exact List.mem_append_left _ h1)
    · simp at h1
  · obtain ⟨s0, e0, e1, e2, _⟩ := get_setE e
    obtain ⟨t0, f0, f1, f2, _⟩ := get_setE f
    rw [f1, e2, f2]; exact h.nst i k s0 t0 e0 f0 hik (hdn i o1) (hdn k o2)
  · obtain ⟨s0, e0, e1, e2, _⟩ := get_setE e
    obtain ⟨t0, f0, f1, f2, _⟩ := get_setE f
    rw [f1, e2]; exact h.nso i k s0 t0 e0 f0 hik (hdn i o1) (hup k o2)
  · show (setE n.sp j n.pos).length = cntO C n.pos + _; rw [hb, setE_len, h.cnt]; rfl
  · show o.1 < (setE n.sp j n.pos).length
    rw [setE_len]
    rcases List.mem_append.1 ho with h1 | h1
    · exact h.ok o (by rw [hop]; exact List.mem_append_left _ h1)
    · rw [List.mem_singleton.1 h1]; exact h.ok (j, true) (by rw [hop]; simp)
theorem NInv.step_en {C : Nat → Int} {n : Ne} {op : List (Nat × Bool)} {j : Nat} {p : Bool} (h : NInv C n) (hop : n.op = op ++ [(j, p)]) (hc : C n.pos = 11) :
    NInv C { n with op := op, sp := setF n.sp j n.pos, pos := n.pos + 1 } := by
  have hjo : n.opn j := ⟨p, by rw [hop]; simp⟩
  have hpw := h.opr
  rw [hop, List.pairwise_append] at hpw
  have hlt : ∀ i q, (i, q) ∈ op → i < j := fun i q hq => hpw.2.2 (i, q) hq (j, p) (List.mem_singleton.2 rfl)
  have hdn : ∀ i, i ≠ j → ¬ (∃ p, (i, p) ∈ op) → ¬ n.opn i := fun i hij hn ⟨q, hq⟩ => by
    rw [hop] at hq
    rcases List.mem_append.1 hq with h1 | h1
    · exact hn ⟨q, h1⟩
    · simp at h1; exact hij h1.1
  have hup : ∀ i, (∃ p, (i, p) ∈ op) → n.opn i := fun i ⟨q, hq⟩ => ⟨q, by rw [hop]; exact List.mem_append_left _ hq⟩
  have hb : opnB (C n.pos) = false := by rw [hc]; rfl
  refine ⟨fun i s e => ?_, fun i s e => ?_, fun i s e o => ?_, fun i k s t e f hik => ?_, hpw.1, fun i s e hm => ?_, fun i k s t e f hik o1 o2 => ?_, fun i k s t e f hik o1 o2 => ?_, ?_, fun o ho => ?_⟩
  · obtain ⟨s0, e0, e1, _⟩ := get_setF e
    have := h.beg i s0 e0
    rw [e1]; exact ⟨by show s0.1 < n.pos + 1; omega, this.2⟩
  · obtain ⟨s0, e0, e1, e2, _⟩ := get_setF e
    have := (h.els i s0 e0).up
    unfold ElsAt at this ⊢
    rw [e1, e2]; exact this
  · obtain ⟨s0, e0, e1, e2, ⟨rfl, e3⟩ | ⟨hij, rfl⟩⟩ := get_setF e
    · rw [e1, e2, e3]
      refine ⟨(h.beg _ s0 e0).1, Nat.lt_succ_self _, hc, ?_⟩
      rcases h.els _ s0 e0 with q | ⟨x, q, _, q2, _⟩
      · rw [q]; omega
      · rw [q]; omega
    · have := h.fin i s e0 (hdn i hij o); exact ⟨this.1, by show s.2.2 < n.pos + 1; omega, this.2.2⟩
  · obtain ⟨s0, e0, e1, _⟩ := get_setF e
    obtain ⟨t0, f0, f1, _⟩ := get_setF f
    rw [e1, f1]; exact h.ris i k s0 t0 e0 f0 hik
  · obtain ⟨s0, e0, e1, _⟩ := get_setF e
    rw [e1]; exact h.iff_ i s0 e0 (by rw [hop]; exact List.mem_append_left _ hm)
  · obtain ⟨s0, e0, e1, e2, ⟨rfl, e3⟩ | ⟨hij, rfl⟩⟩ := get_setF e
    · obtain ⟨t0, f0, f1, f2, ⟨rfl, f3⟩ | ⟨hkj, rfl⟩⟩ := get_setF f
      · omega
      · rw [e3]; intro _; exact (h.fin k t f0 (hdn k hkj o2)).2.1
    · obtain ⟨t0, f0, f1, f2, ⟨rfl, f3⟩ | ⟨hkj, rfl⟩⟩ := get_setF f
      · have := h.nso i _ s t0 e0 f0 hik (hdn i hij o1) hjo
        rw [f1]; intro hh; omega
      · exact h.nst i k s t e0 f0 hik (hdn i hij o1) (hdn k hkj o2)
  · obtain ⟨q, hq⟩ := o2
    have hk := hlt k q hq
    obtain ⟨s0, e0, e1, e2, ⟨rfl, e3⟩ | ⟨hij, rfl⟩⟩ := get_setF e
    · omega
    · obtain ⟨t0, f0, f1, _⟩ := get_setF f
      rw [f1]; exact h.nso i k s t0 e0 f0 hik (hdn i hij o1) (hup k ⟨q, hq⟩)
  · show (setF n.sp j n.pos).length = cntO C n.pos + _; rw [hb, setF_len, h.cnt]; rfl
  · show o.1 < (setF n.sp j n.pos).length
    rw [setF_len]; exact h.ok o (by rw [hop]; exact List.mem_append_left _ ho)
theorem NInv.shut {C : Nat → Int} {n : Ne} (h : NInv C n) (b : Bool) : NInv C { n with cl := b } :=
  ⟨h.beg, h.els, h.fin, h.ris, h.opr, h.iff_, h.nst, h.nso, h.cnt, h.ok⟩
end Go.Proofs.Ytggfaalodojjkaa
