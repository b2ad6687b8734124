/-
  What a pager holds while a memory is dropped: of its pages nothing is said till all are gone; then all are 0.
-/
import Derived.Test.YtlnffcledpccjaaDc
import Derived.Test.YtlnffcledpccjaaGq
namespace Go.Proofs.Ytlnffcledpccjaa
open Go.RowKit
set_option linter.unusedVariables false
section
variable {d : Pd} {mem : List Nat} {C : Nat × Nat → List Nat} {W : List (Nat × Nat)} {E : Nat × Nat → Prop}
theorem PI.weak (h : PI d mem C W (fun _ => False)) (E : Nat × Nat → Prop) : PI d mem C W E :=
  ⟨h.rin, h.rap, h.st, h.sm, h.len, fun i hi ht _ => h.cont i hi ht (fun q => q), h.bin, h.inj, fun x id _ => h.cb x id (fun q => q), fun x _ => h.cz x (fun q => q), fun i hi ht _ => h.cl i hi ht (fun q => q), h.wb, h.wc, h.un⟩
/-- a block of a page of which nothing is said is freed -/
theorem PI.freE (h : PI d mem C W E) {x : Nat × Nat} {id : Nat} (hid : d.blk x = some id) (hE : E x) : PI (d.fre x id) mem C W E := by
  have hB : ∀ y id', y ≠ x → d.blk y = some id' → (d.sd.op.fr id).B id' = d.sd.B id' := fun y id' hy hq => by
    have : id' ≠ id := fun e => hy (h.inj y x id (e ▸ hq) hid)
    simp [Sd.fr, Sd.op, this]
  have hup : ∀ y, y ≠ x → (d.fre x id).blk y = d.blk y := fun y hy => upd_other _ _ _ hy
  have hsame : (d.fre x id).blk x = none := upd_same _ _ _
  have hne : ∀ y, ¬ E y → y ≠ x := fun y hy e => hy (e ▸ hE)
  refine ⟨h.rin, h.rap, h.st, h.sm, h.len, h.cont, fun y id' hy => ?_, fun y z id' hy hz => ?_, fun y id' hEy hs hy => ?_, fun y hEy hs hy => ?_, fun j hj htj hEj hc => ?_, fun y hy => ?_, h.wc, h.un⟩
  · by_cases e : y = x
    · rw [e, hsame] at hy; cases hy
    · rw [hup y e] at hy
      show ((d.sd.op.fr id).B id').isSome = true
      rw [hB y id' e hy]; exact h.bin y id' hy
  · by_cases e : y = x
    · rw [e, hsame] at hy; cases hy
    · by_cases e' : z = x
      · rw [e', hsame] at hz; cases hz
      · rw [hup y e] at hy
        rw [hup z e'] at hz
        exact h.inj y z id' hy hz
  · have e := hne y hEy
    rw [hup y e] at hy
    have := h.cb y id' hEy hs hy
    exact ⟨(hB y id' e hy).trans this.1, this.2⟩
  · have e := hne y hEy
    rw [hup y e] at hy
    exact h.cz y hEy hs hy
  · have e : d.pg j ≠ x := hne _ hEj
    show (∀ id', (d.fre x id).blk (d.pg j) = some id' → (d.sd.op.fr id).B id' = some (C (d.pg j))) ∧ ((d.fre x id).blk (d.pg j) = none → _)
    rw [hup _ e]
    refine ⟨fun id' hq => ?_, fun hq => (h.cl j hj htj hEj hc).2 hq⟩
    rw [hB _ id' e hq]
    exact (h.cl j hj htj hEj hc).1 id' hq
  · by_cases e : y = x
    · rw [e, hsame] at hy; exact absurd rfl hy
    · rw [hup y e] at hy; exact h.wb y hy
def drp (C : Nat × Nat → List Nat) (m sz : Nat) (x : Nat × Nat) : List Nat := if x.1 = m then zs sz else C x
/-- all of a memory's pages are gone: they are 0 -/
theorem PI.gone {m : Nat} (h : PI d mem C W (fun x => x.1 = m)) (hb : ∀ x, x.1 = m → d.blk x = none) (hs : ∀ x, x.1 = m → d.st x = none) : PI d mem (drp C m d.sd.size) W (fun _ => False) := by
  have hpg : ∀ i, i < d.n → d.tk i = true → ¬ (d.pg i).1 = m := fun i hi ht e => by
    have := h.stand hi ht
    rw [hs _ e] at this; cases this
  have hC : ∀ x, ¬ x.1 = m → drp C m d.sd.size x = C x := fun x hx => if_neg hx
  refine ⟨h.rin, h.rap, h.st, h.sm, fun x => ?_, fun i hi ht _ => ?_, h.bin, h.inj, fun x id _ hs' hb' => ?_, fun x _ hs' hb' => ?_, fun i hi ht _ hc => ?_, h.wb, h.wc, h.un⟩
  · by_cases e : x.1 = m
    · unfold drp
      rw [if_pos e]
      exact ⟨by simp [zs], fun y hy => by rw [List.eq_of_mem_replicate hy]; decide⟩
    · rw [hC x e]; exact h.len x
  · rw [hC _ (hpg i hi ht)]; exact h.cont i hi ht (hpg i hi ht)
  · have e : ¬ x.1 = m := fun e => by rw [hb x e] at hb'; cases hb'
    rw [hC x e]; exact h.cb x id e hs' hb'
  · by_cases e : x.1 = m
    · unfold drp; rw [if_pos e]
    · rw [hC x e]; exact h.cz x e hs' hb'
  · rw [hC _ (hpg i hi ht)]; exact h.cl i hi ht (hpg i hi ht) hc
end
/-- while blocks are freed: those of the first k pages are -/
structure DrI (A : Pa) (d d1 : Pd) (mem : List Nat) (C : Nat × Nat → List Nat) (W : List (Nat × Nat)) (m : Nat) (M : List (Nat × Nat)) (k : Nat) (w wr : World) : Prop where
  lay : Lay wr A d1
  pi : PI d1 mem C W (fun x => x.1 = m)
  n : d1.n = d.n
  room : d1.room = d.room
  size : d1.sd.size = d.sd.size
  cap : d1.sd.cap = d.sd.cap
  ops : d1.sd.ops ≤ d.sd.ops + k
  ch : d1.ch = d.ch
  pg : d1.pg = d.pg
  st : d1.st = d.st
  blk : ∀ x, d1.blk x = if x ∈ M.take k then none else d.blk x
  fr : Fr (foot A d) w wr
  ft : ∀ q, foot A d1 q → foot A d q
theorem DrI.quiet {A : Pa} {d d1 : Pd} {mem : List Nat} {C : Nat × Nat → List Nat} {W : List (Nat × Nat)} {m : Nat} {M : List (Nat × Nat)} {k : Nat} {w wr w' : World} (h : DrI A d d1 mem C W m M k w wr) (hf : Fr (fun _ => False) wr w') : DrI A d d1 mem C W m M k w w' :=
  ⟨h.lay.fr hf (fun _ _ q => q), h.pi, h.n, h.room, h.size, h.cap, h.ops, h.ch, h.pg, h.st, h.blk, h.fr.trans (hf.more (fun _ q => q.elim)), h.ft⟩
theorem DrI.step {A : Pa} {d d1 : Pd} {mem : List Nat} {C : Nat × Nat → List Nat} {W : List (Nat × Nat)} {m : Nat} {M : List (Nat × Nat)} {k : Nat} {w wr w' : World} (h : DrI A d d1 mem C W m M k w wr) (hk : k < M.length) {x : Nat × Nat} (hx : M.getD k (0, 0) = x) (hm : x.1 = m) {id : Nat} (hid : d1.blk x = some id) (hl : Lay w' A (d1.fre x id)) (hf : Fr (frS A) wr w') : DrI A d (d1.fre x id) mem C W m M (k + 1) w w' := by
  have htk : M.take (k + 1) = M.take k ++ [x] := by
    rw [List.take_add_one, ← hx, List.getD_eq_getElem?_getD, List.getElem?_eq_getElem hk]; rfl
  refine ⟨hl, h.pi.freE hid hm, h.n, h.room, h.size, h.cap, ?_, h.ch, h.pg, h.st, fun y => ?_, h.fr.trans (hf.more (fun q hq => h.ft q (frS_foot hq))), fun q hq => h.ft q (foot_fre hq)⟩
  · have := h.ops
    show d1.sd.ops + 1 ≤ _
    omega
  · show upd d1.blk x none y = _
    rw [htk]
    by_cases e : y = x
    · subst e; rw [upd_same, if_pos (by simp)]
    · rw [upd_other _ _ _ e, h.blk y]
      by_cases e' : y ∈ M.take k
      · rw [if_pos e', if_pos (List.mem_append_left _ e')]
      · rw [if_neg e', if_neg (fun q => by
          rcases List.mem_append.1 q with q | q
          · exact e' q
          · exact e (by simpa using q))]
/-- while frames are vacated: of the first i none has a page of that memory -/
structure DvI (A : Pa) (d d1 : Pd) (mem : List Nat) (C : Nat × Nat → List Nat) (W : List (Nat × Nat)) (m N i : Nat) (w wr : World) : Prop where
  lay : Lay wr A d1
  pi : PI d1 mem C W (fun x => x.1 = m)
  n : d1.n = d.n
  room : d1.room = d.room
  size : d1.sd.size = d.sd.size
  cap : d1.sd.cap = d.sd.cap
  ops : d1.sd.ops ≤ d.sd.ops + N
  chg : ∀ k, d1.ch k = true → d.ch k = true ∧ d1.pg k = d.pg k
  blk : ∀ x, x.1 = m → d1.blk x = none
  gone : ∀ j, j < i → d1.tk j = true → ¬ (d1.pg j).1 = m
  fr : Fr (foot A d) w wr
  ft : ∀ q, foot A d1 q → foot A d q
section
variable {A : Pa} {d d1 : Pd} {mem : List Nat} {C : Nat × Nat → List Nat} {W : List (Nat × Nat)} {m N i : Nat} {w wr w' : World}
theorem DvI.quiet (h : DvI A d d1 mem C W m N i w wr) (hf : Fr (fun _ => False) wr w') : DvI A d d1 mem C W m N i w w' :=
  ⟨h.lay.fr hf (fun _ _ q => q), h.pi, h.n, h.room, h.size, h.cap, h.ops, h.chg, h.blk, h.gone, h.fr.trans (hf.more (fun _ q => q.elim)), h.ft⟩
theorem DvI.next (h : DvI A d d1 mem C W m N i w wr) (hi : d1.tk i = true → ¬ (d1.pg i).1 = m) : DvI A d d1 mem C W m N (i + 1) w wr :=
  ⟨h.lay, h.pi, h.n, h.room, h.size, h.cap, h.ops, h.chg, h.blk, fun j hj => by
    by_cases e : j = i
    · subst e; exact hi
    · exact h.gone j (by omega), h.fr, h.ft⟩
theorem DvI.vac (h : DvI A d d1 mem C W m N i w wr) (hi : i < d.n) (ht : d1.tk i = true) (hm : (d1.pg i).1 = m) (hl : Lay w' A (d1.vac i)) (hf : Fr (fun k => k = A.sm ∨ k = A.fb) wr w') : DvI A d (d1.vac i) mem C W m N (i + 1) w w' := by
  refine ⟨hl, h.pi.vac (by rw [h.n]; exact hi) ht (fun q => absurd hm q), h.n, h.room, h.size, h.cap, h.ops, fun k hk => ?_, h.blk, fun j hj htj => ?_, h.fr.trans (hf.more (fun q hq => h.ft q (by
    rcases hq with q1 | q1
    · exact .inr (.inr (.inl q1))
    · exact .inr (.inl q1)))), h.ft⟩
  · have hki : k ≠ i := fun e => by simp [Pd.vac, setB, e] at hk
    have hk1 : d1.ch k = true := by simpa [Pd.vac, setB, hki] using hk
    have := h.chg k hk1
    exact ⟨this.1, by simp [Pd.vac, hki, this.2]⟩
  · have hji : j ≠ i := fun e => by simp [Pd.vac, setB, e] at htj
    have h1 : d1.tk j = true := by simpa [Pd.vac, setB, hji] using htj
    have h2 : (d1.vac i).pg j = d1.pg j := by simp [Pd.vac, hji]
    rw [h2]
    exact h.gone j (by omega) h1
theorem DvI.done (h : DvI A d d1 mem C W m N d.n w wr) : Mv A d d1 mem (drp C m d.sd.size) W N w wr := by
  have hpi := h.pi.gone h.blk (fun x hx => by
    cases hs : d1.st x with
    | none => rfl
    | some j =>
      obtain ⟨q1, q2, q3⟩ := (h.pi.st x j).1 hs
      exact absurd (by rw [q3]; exact hx) (h.gone j (by rw [← h.n]; exact q1) q2))
  rw [h.size] at hpi
  exact ⟨h.lay, hpi, h.n, h.room, h.size, h.cap, h.ops, h.fr, fun q hq => .inl (h.ft q hq), h.chg⟩
end
end Go.Proofs.Ytlnffcledpccjaa
