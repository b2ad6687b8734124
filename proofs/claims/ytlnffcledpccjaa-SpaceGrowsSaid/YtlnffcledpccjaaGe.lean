/-
  A pager's frames written; what a pager holds (the pages' bytes), as a plain matter of numbers and lists.
-/
import Derived.Test.YtlnffcledpccjaaGd
namespace Go.Proofs.Ytlnffcledpccjaa
open Go.RowKit
set_option linter.unusedVariables false
/-- a cell of frame i is written -/
theorem Frs.set_ {w : World} {A : Pa} {d d' : Pd} {i k : Nat} {v : Value} (h : Frs w A d) (hi : i < d.n) (hk : k < 6) (hn : d'.n = d.n) (h1 : frC d' i = (frC d i).set k v) (h2 : ∀ j, j ≠ i → frC d' j = frC d j) : Frs (w.setCell ⟨A.fb, i * 6 + k, none⟩ v) A d' := by
  obtain ⟨cur, hb, hc⟩ := h
  refine ⟨_, hb.set_ (i * 6 + k) v, fun j hj q u hu => ?_⟩
  rw [hn] at hj
  rw [Array.getElem?_setIfInBounds]
  have hq6 : q < 6 := by
    have := (List.getElem?_eq_some_iff.1 hu).1
    simpa [frC] using this
  by_cases e : j = i
  · subst e
    rw [h1] at hu
    by_cases eq : q = k
    · subst eq
      have hv : v = u := by
        rw [List.getElem?_set_self (by simpa [frC] using hq6)] at hu
        exact Option.some.inj hu
      subst hv
      obtain ⟨v0, hv0⟩ : ∃ v0, (frC d j)[q]? = some v0 := ⟨_, List.getElem?_eq_getElem (by simpa [frC] using hq6)⟩
      have hsz := (Array.getElem?_eq_some_iff.1 (hc j hj q v0 hv0)).1
      rw [if_pos rfl, if_pos hsz]
    · rw [List.getElem?_set_ne (fun e => eq e.symm)] at hu
      rw [if_neg (by omega)]
      exact hc j hj q u hu
  · rw [h2 j e] at hu
    rw [if_neg (by omega)]
    exact hc j hj q u hu
def setB (f : Nat → Bool) (i : Nat) (b : Bool) (j : Nat) : Bool := if j = i then b else f j
section
variable {w w' : World} {A : Pa} {d : Pd}
theorem Lay.frame {S : Nat → Prop} {d' : Pd} (h : Lay w A d) (hf : Fr (· = A.fb) w w') (hfr : Frs w' A d') (h1 : d'.n = d.n) (h2 : d'.hand = d.hand) (h3 : d'.st = d.st) (h4 : d'.blk = d.blk) (h5 : d'.sd = d.sd) : Lay w' A d' := by
  obtain ⟨q, hq, hs⟩ := h.sts
  refine ⟨?_, hfr, ⟨q, hq, ?_⟩, ?_, ?_, h.ne1, h.ne2, h.ne3, by rw [h1]; exact h.n1, by rw [h1]; exact h.n2, by rw [h1]; exact h.cap1, h.cap2, by rw [h1, h2]; exact h.hd, by rw [h5]; exact h.nof⟩
  · have : pgC A d' = pgC A d := by unfold pgC; rw [h1, h2]
    rw [this]; exact h.blk.fr hf (Ne.symm h.pfb)
  · rw [h3]; exact hs.fr hf h.fsm
  · rw [h4, h5]; exact h.bls.fr hf h.fbm
  · rw [h5]; exact h.sto.fr hf (fun k hk e => h.mine_fb (e ▸ hk))
theorem Lay.setch (h : Lay w A d) {i : Nat} (hi : i < d.n) (b : Bool) : Lay (w.setCell ⟨A.fb, i * 6 + 5, none⟩ (.bool b)) A { d with ch := setB d.ch i b } :=
  h.frame (S := fun _ => True) ((Fr.refl (· = A.fb) w).set_ (p := ⟨A.fb, i * 6 + 5, none⟩) rfl _) (h.frs.set_ hi (by omega) rfl (by simp [frC, setB]) (fun j hj => by simp [frC, setB, hj])) rfl rfl rfl rfl rfl
theorem Lay.setth (h : Lay w A d) {i : Nat} (hi : i < d.n) (b : Bool) : Lay (w.setCell ⟨A.fb, i * 6 + 4, none⟩ (.bool b)) A { d with th := setB d.th i b } :=
  h.frame (S := fun _ => True) ((Fr.refl (· = A.fb) w).set_ (p := ⟨A.fb, i * 6 + 4, none⟩) rfl _) (h.frs.set_ hi (by omega) rfl (by simp [frC, setB]) (fun j hj => by simp [frC, setB, hj])) rfl rfl rfl rfl rfl
theorem Lay.sethand (h : Lay w A d) {j : Nat} (hj : j < d.n) : Lay (w.setCell ⟨A.p, 5, none⟩ (.int .i64 j)) A { d with hand := j } := by
  have hf : Fr (· = A.p) w (w.setCell ⟨A.p, 5, none⟩ (.int .i64 j)) := (Fr.refl (· = A.p) w).set_ (p := ⟨A.p, 5, none⟩) rfl _
  obtain ⟨q, hq, hs⟩ := h.sts
  exact ⟨h.blk.set_ 5 _, h.frs.same (hf.block _ h.frs.lt h.pfb), ⟨q, hq, hs.fr hf h.psm⟩, h.bls.fr hf h.pbm, h.sto.fr hf (fun k hk e => h.mine_p (e ▸ hk)), h.ne1, h.ne2, h.ne3, h.n1, h.n2, h.cap1, h.cap2, hj, h.nof⟩
end
/-- what a pager holds: C: each page's bytes; W: pages among which those are that were written; E: pages of which nothing is said -/
structure PI (d : Pd) (mem : List Nat) (C : Nat × Nat → List Nat) (W : List (Nat × Nat)) (E : Nat × Nat → Prop) : Prop where
  rin : ∀ i, i < d.n → d.room i + d.sd.size ≤ mem.length
  rap : ∀ i j, i < d.n → j < d.n → i ≠ j → d.room i + d.sd.size ≤ d.room j ∨ d.room j + d.sd.size ≤ d.room i
  st : ∀ x i, d.st x = some i ↔ i < d.n ∧ d.tk i = true ∧ d.pg i = x
  sm : ∀ i, i < d.n → small (d.pg i)
  len : ∀ x, (C x).length = d.sd.size ∧ ∀ y ∈ C x, y < 256
  cont : ∀ i, i < d.n → d.tk i = true → ¬ E (d.pg i) → (mem.drop (d.room i)).take d.sd.size = C (d.pg i)
  bin : ∀ x id, d.blk x = some id → (d.sd.B id).isSome = true
  inj : ∀ x y id, d.blk x = some id → d.blk y = some id → x = y
  cb : ∀ x id, ¬ E x → d.st x = none → d.blk x = some id → d.sd.B id = some (C x) ∧ C x ≠ zs d.sd.size
  cz : ∀ x, ¬ E x → d.st x = none → d.blk x = none → C x = zs d.sd.size
  cl : ∀ i, i < d.n → d.tk i = true → ¬ E (d.pg i) → d.ch i = false → (∀ id, d.blk (d.pg i) = some id → d.sd.B id = some (C (d.pg i))) ∧ (d.blk (d.pg i) = none → C (d.pg i) = zs d.sd.size)
  wb : ∀ x, d.blk x ≠ none → x ∈ W
  wc : ∀ i, i < d.n → d.tk i = true → d.ch i = true → d.pg i ∈ W
  un : ∀ i, i < d.n → d.tk i = false → d.ch i = false
theorem all_zs {l : List Nat} {n : Nat} (hl : l.length = n) : l.all (· == 0) = decide (l = zs n) := by
  rw [Bool.eq_iff_iff, decide_eq_true_eq, List.all_eq_true]
  constructor
  · intro h
    unfold zs
    rw [← hl]
    exact List.eq_replicate_of_mem (fun x hx => by simpa using h x hx)
  · rintro rfl x hx
    have := List.eq_of_mem_replicate hx
    simp [this]
section
variable {d : Pd} {mem : List Nat} {C : Nat × Nat → List Nat} {W : List (Nat × Nat)} {E : Nat × Nat → Prop}
theorem PI.stand (h : PI d mem C W E) {i : Nat} (hi : i < d.n) (ht : d.tk i = true) : d.st (d.pg i) = some i := (h.st _ i).2 ⟨hi, ht, rfl⟩
/-- a block is freed, of a page that stands, all of whose bytes are 0 -/
theorem PI.fre (h : PI d mem C W E) {i id : Nat} (hi : i < d.n) (ht : d.tk i = true) (hid : d.blk (d.pg i) = some id) (hz : ¬ E (d.pg i) → C (d.pg i) = zs d.sd.size) : PI (d.fre (d.pg i) id) mem C W E := by
  have hB : ∀ y id', y ≠ d.pg i → d.blk y = some id' → (d.sd.op.fr id).B id' = d.sd.B id' := fun y id' hy hq => by
    have : id' ≠ id := fun e => hy (h.inj y (d.pg i) id (e ▸ hq) hid)
    simp [Sd.fr, Sd.op, this]
  have hup : ∀ y, y ≠ d.pg i → (d.fre (d.pg i) id).blk y = d.blk y := fun y hy => upd_other _ _ _ hy
  have hsame : (d.fre (d.pg i) id).blk (d.pg i) = none := upd_same _ _ _
  have hne : ∀ y, d.st y = none → y ≠ d.pg i := fun y hy e => by rw [e, h.stand hi ht] at hy; cases hy
  refine ⟨h.rin, h.rap, h.st, h.sm, h.len, h.cont, fun x id' hx => ?_, fun x y id' hx hy => ?_, fun x id' hE hs hx => ?_, fun x hE hs hx => ?_, fun j hj htj hE hc => ?_, fun x hx => ?_, h.wc, h.un⟩
  · by_cases e : x = d.pg i
    · rw [e, hsame] at hx; cases hx
    · rw [hup x e] at hx
      show ((d.sd.op.fr id).B id').isSome = true
      rw [hB x id' e hx]; exact h.bin x id' hx
  · by_cases e : x = d.pg i
    · rw [e, hsame] at hx; cases hx
    · by_cases e' : y = d.pg i
      · rw [e', hsame] at hy; cases hy
      · rw [hup x e] at hx
        rw [hup y e'] at hy
        exact h.inj x y id' hx hy
  · have e := hne x hs
    rw [hup x e] at hx
    have := h.cb x id' hE hs hx
    exact ⟨(hB x id' e hx).trans this.1, this.2⟩
  · have e := hne x hs
    rw [hup x e] at hx
    exact h.cz x hE hs hx
  · show (∀ id', (d.fre (d.pg i) id).blk (d.pg j) = some id' → (d.sd.op.fr id).B id' = some (C (d.pg j))) ∧ _
    by_cases e : d.pg j = d.pg i
    · refine ⟨fun id' hq => ?_, fun _ => ?_⟩
      · rw [e, hsame] at hq; cases hq
      · show C (d.pg j) = _
        rw [e]; exact hz (e ▸ hE)
    · refine ⟨fun id' hq => ?_, fun hq => ?_⟩
      · rw [hup _ e] at hq
        rw [hB _ id' e hq]
        exact (h.cl j hj htj hE hc).1 id' hq
      · exact (h.cl j hj htj hE hc).2 ((hup _ e).symm.trans hq)
  · by_cases e : x = d.pg i
    · rw [e, hsame] at hx; exact absurd rfl hx
    · rw [hup x e] at hx; exact h.wb x hx
/-- a page's frame is like its block -/
theorem PI.clean (h : PI d mem C W E) {i : Nat} (hi : i < d.n) (ht : d.tk i = true) (hc : ¬ E (d.pg i) → (∀ id, d.blk (d.pg i) = some id → d.sd.B id = some (C (d.pg i))) ∧ (d.blk (d.pg i) = none → C (d.pg i) = zs d.sd.size)) : PI { d with ch := setB d.ch i false } mem C W E := by
  refine ⟨h.rin, h.rap, h.st, h.sm, h.len, h.cont, h.bin, h.inj, h.cb, h.cz, fun j hj htj hE hcj => ?_, h.wb, fun j hj htj hcj => ?_, fun j hj htj => ?_⟩
  · by_cases e : j = i
    · subst e; exact hc hE
    · simp only [setB, if_neg e] at hcj
      exact h.cl j hj htj hE hcj
  · by_cases e : j = i
    · simp [setB, e] at hcj
    · simp only [setB, if_neg e] at hcj
      exact h.wc j hj htj hcj
  · by_cases e : j = i
    · simp [setB, e]
    · simp only [setB, if_neg e]
      exact h.un j hj htj
/-- a standing page's bytes are written to its block -/
theorem PI.wr (h : PI d mem C W E) {i id : Nat} {l : List Nat} (hi : i < d.n) (ht : d.tk i = true) (hid : d.blk (d.pg i) = some id) (hl : ¬ E (d.pg i) → l = C (d.pg i)) : PI { d with sd := d.sd.op.wr id l } mem C W E := by
  have hB : ∀ y id', y ≠ d.pg i → d.blk y = some id' → (d.sd.op.wr id l).B id' = d.sd.B id' := fun y id' hy hq => by
    have : id' ≠ id := fun e => hy (h.inj y (d.pg i) id (e ▸ hq) hid)
    simp [Sd.wr, Sd.op, this]
  have hBi : (d.sd.op.wr id l).B id = some l := by simp [Sd.wr]
  have hne : ∀ y, d.st y = none → y ≠ d.pg i := fun y hy e => by rw [e, h.stand hi ht] at hy; cases hy
  refine ⟨h.rin, h.rap, h.st, h.sm, h.len, h.cont, fun x id' hx => ?_, h.inj, fun x id' hE hs hx => ?_, h.cz, fun j hj htj hE hc => ?_, h.wb, h.wc, h.un⟩
  · show ((d.sd.op.wr id l).B id').isSome = true
    by_cases e : id' = id
    · rw [e, hBi]; rfl
    · have := h.bin x id' hx
      simp only [Sd.wr, if_neg e]; exact this
  · have e := hne x hs
    have := h.cb x id' hE hs hx
    exact ⟨(hB x id' e hx).trans this.1, this.2⟩
  · show (∀ id', d.blk (d.pg j) = some id' → (d.sd.op.wr id l).B id' = some (C (d.pg j))) ∧ _
    refine ⟨fun id' hq => ?_, fun hq => (h.cl j hj htj hE hc).2 hq⟩
    by_cases e : d.pg j = d.pg i
    · have : id' = id := by rw [e, hid] at hq; exact (Option.some.inj hq).symm
      rw [this, hBi, hl (e ▸ hE), e]
    · rw [hB _ id' e hq]
      exact (h.cl j hj htj hE hc).1 id' hq
/-- a standing page that had no block has one -/
theorem PI.new (h : PI d mem C W E) {i L G : Nat} {l : List Nat} (hi : i < d.n) (ht : d.tk i = true) (hn : d.blk (d.pg i) = none) (hL : d.sd.Low L) (hw : d.pg i ∈ W) (hl : ¬ E (d.pg i) → l = C (d.pg i)) :
    PI { d with blk := upd d.blk (d.pg i) (some L), sd := (d.sd.op.al L G).op.wr L l } mem C W E := by
  have hfresh : ∀ y id', d.blk y = some id' → id' ≠ L := fun y id' hq e => by
    have := h.bin y id' hq
    rw [e, hL.1] at this; cases this
  have hB : ∀ id', id' ≠ L → ((d.sd.op.al L G).op.wr L l).B id' = d.sd.B id' := fun id' hq => by simp [Sd.wr, Sd.op, Sd.al, hq]
  have hBi : ((d.sd.op.al L G).op.wr L l).B L = some l := by simp [Sd.wr]
  have hne : ∀ y, d.st y = none → y ≠ d.pg i := fun y hy e => by rw [e, h.stand hi ht] at hy; cases hy
  have hup : ∀ y, y ≠ d.pg i → upd d.blk (d.pg i) (some L) y = d.blk y := fun y hy => upd_other _ _ _ hy
  have hsame : upd d.blk (d.pg i) (some L) (d.pg i) = some L := upd_same _ _ _
  refine ⟨h.rin, h.rap, h.st, h.sm, h.len, h.cont, fun x id' hx => ?_, fun x y id' hx hy => ?_, fun x id' hE hs hx => ?_, fun x hE hs hx => ?_, fun j hj htj hE hc => ?_, fun x hx => ?_, h.wc, h.un⟩
  · show (((d.sd.op.al L G).op.wr L l).B id').isSome = true
    by_cases e : id' = L
    · rw [e, hBi]; rfl
    · by_cases e' : x = d.pg i
      · rw [e'] at hx; exact absurd (Option.some.inj (hsame.symm.trans hx)).symm e
      · rw [hB id' e]; exact h.bin x id' ((hup x e').symm.trans hx)
  · by_cases e : x = d.pg i <;> by_cases e' : y = d.pg i
    · rw [e, e']
    · subst e
      have h1 : L = id' := Option.some.inj (hsame.symm.trans hx)
      exact absurd h1.symm (hfresh y id' ((hup y e').symm.trans hy))
    · subst e'
      have h1 : L = id' := Option.some.inj (hsame.symm.trans hy)
      exact absurd h1.symm (hfresh x id' ((hup x e).symm.trans hx))
    · exact h.inj x y id' ((hup x e).symm.trans hx) ((hup y e').symm.trans hy)
  · have e := hne x hs
    have hx' : d.blk x = some id' := (hup x e).symm.trans hx
    have := h.cb x id' hE hs hx'
    exact ⟨(hB id' (hfresh x id' hx')).trans this.1, this.2⟩
  · have e := hne x hs
    exact h.cz x hE hs ((hup x e).symm.trans hx)
  · show (∀ id', upd d.blk (d.pg i) (some L) (d.pg j) = some id' → ((d.sd.op.al L G).op.wr L l).B id' = some (C (d.pg j))) ∧ (upd d.blk (d.pg i) (some L) (d.pg j) = none → _)
    by_cases e : d.pg j = d.pg i
    · refine ⟨fun id' hq => ?_, fun hq => ?_⟩
      · rw [e] at hq
        have h1 : L = id' := Option.some.inj (hsame.symm.trans hq)
        rw [← h1, hBi, hl (e ▸ hE), e]
      · rw [e, hsame] at hq; cases hq
    · refine ⟨fun id' hq => ?_, fun hq => (h.cl j hj htj hE hc).2 ((hup _ e).symm.trans hq)⟩
      have hq' : d.blk (d.pg j) = some id' := (hup _ e).symm.trans hq
      rw [hB id' (hfresh _ id' hq')]
      exact (h.cl j hj htj hE hc).1 id' hq'
  · by_cases e : x = d.pg i
    · rw [e]; exact hw
    · exact h.wb x (by rw [← hup x e]; exact hx)
end
end Go.Proofs.Ytlnffcledpccjaa
