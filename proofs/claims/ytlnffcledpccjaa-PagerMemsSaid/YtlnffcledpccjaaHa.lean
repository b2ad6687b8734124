/-
  Two pagers in one arena: what each holds, whatever is done with the other one.
-/
import Derived.Test.YtlnffcledpccjaaTa
import Derived.Test.YtlnffcledpccjaaFg
import Derived.Test.YtlnffcledpccjaaDe
import Derived.Test.YtlnffcledpccjaaDf
namespace Go.Proofs.Ytlnffcledpccjaa
open Go.RowKit
set_option linter.unusedVariables false
theorem take_drop_ext {m m' : List Nat} {r sz : Nat} (h : ∀ q, r ≤ q → q < r + sz → m'[q]? = m[q]?) : (m'.drop r).take sz = (m.drop r).take sz := by
  apply List.ext_getElem?
  intro i
  by_cases hi : i < sz
  · rw [List.getElem?_take_of_lt hi, List.getElem?_take_of_lt hi, List.getElem?_drop, List.getElem?_drop]
    exact h _ (by omega) (by omega)
  · rw [List.getElem?_eq_none (by rw [List.length_take]; omega), List.getElem?_eq_none (by rw [List.length_take]; omega)]
theorem KX.bytX {w0 w w' : World} {X : Nat → Prop} (h : KX w0 X w w') {B : Option Addr} {nn cp : Nat} {l : List Nat} (hb : Byt w B nn cp l) (hg : ∀ g, B.map (·.block) = some g → 0 < nn → X g ∨ g < w0.heap.size) : Byt w' B nn cp l := by
  rcases Nat.eq_zero_or_pos nn with h0 | h0
  · exact ⟨hb.1, hb.2.1, hb.2.2.1, hb.2.2.2.1, fun q => by omega⟩
  · obtain ⟨g, off, rfl, _⟩ := hb.2.2.2.2 h0
    exact h.byt hb (hg g rfl h0)
theorem PI.mem {d : Pd} {mem mem' : List Nat} {C : Nat × Nat → List Nat} {W : List (Nat × Nat)} {E : Nat × Nat → Prop} (h : PI d mem C W E) (hl : mem'.length = mem.length) (hm : ∀ i, i < d.n → ∀ q, d.room i ≤ q → q < d.room i + d.sd.size → mem'[q]? = mem[q]?) : PI d mem' C W E :=
  ⟨fun i hi => by rw [hl]; exact h.rin i hi, h.rap, h.st, h.sm, h.len, fun i hi ht hE => by rw [take_drop_ext (hm i hi)]; exact h.cont i hi ht hE, h.bin, h.inj, h.cb, h.cz, h.cl, h.wb, h.wc, h.un⟩
/-- all that is held of two pagers -/
structure S2 (w0 : World) (A1 A2 : Pa) (bb rm gm n1 n2 sz cap : Nat) (C1 C2 : Nat × Nat → List Nat) (ka kb o : Nat) (X : Nat → Prop) (w : World) : Prop where
  ex : ∃ d1 d2 ad W1 W2, Sv w A1 d1 bb rm gm ad C1 W1 ∧ Sv w A2 d2 bb rm gm ad C2 W2 ∧ (W1.length ≤ ka ∧ d1.n = n1 ∧ d1.sd.size = sz ∧ d1.sd.cap = cap ∧ d1.sd.ops ≤ o) ∧ (W2.length ≤ kb ∧ d2.n = n2 ∧ d2.sd.size = sz ∧ d2.sd.cap = cap ∧ d2.sd.ops ≤ o) ∧
    (∀ q, foot A1 d1 q → w0.heap.size ≤ q ∧ ¬ X q ∧ ¬ foot A2 d2 q) ∧ (∀ q, foot A2 d2 q → w0.heap.size ≤ q ∧ ¬ X q) ∧ (∀ q, ad.mine A1.a bb rm gm q → w0.heap.size ≤ q ∧ ¬ X q) ∧ (∀ i j, i < n1 → j < n2 → d1.room i + sz ≤ d2.room j ∨ d2.room j + sz ≤ d1.room i)
  same : A2.a = A1.a
  bel : Below w0.heap.size w0 w
  xs : ∀ q, X q → w0.heap.size ≤ q ∧ q < w.heap.size
section
variable {w0 w w' : World} {A1 A2 : Pa} {bb rm gm n1 n2 sz cap ka kb o : Nat} {C1 C2 : Nat × Nat → List Nat} {X X' : Nat → Prop}
theorem S2.swap (h : S2 w0 A1 A2 bb rm gm n1 n2 sz cap C1 C2 ka kb o X w) : S2 w0 A2 A1 bb rm gm n2 n1 sz cap C2 C1 kb ka o X w := by
  obtain ⟨⟨d1, d2, ad, W1, W2, h1, h2, h3, h4, h5, h6, h7, h8⟩, hs, hb, hx⟩ := h
  refine ⟨⟨d2, d1, ad, W2, W1, h2, h1, h4, h3, fun q hq => ⟨(h6 q hq).1, (h6 q hq).2, fun q' => (h5 q q').2.2 hq⟩, fun q hq => ⟨(h5 q hq).1, (h5 q hq).2.1⟩, by rw [hs]; exact h7, fun i j hi hj => ?_⟩, hs.symm, hb, hx⟩
  rcases h8 j i hj hi with q | q
  · exact .inr q
  · exact .inl q
theorem S2.more (h : S2 w0 A1 A2 bb rm gm n1 n2 sz cap C1 C2 ka kb o X w) {ka' kb' o' : Nat} (hk : ka ≤ ka') (hk2 : kb ≤ kb') (ho : o ≤ o') : S2 w0 A1 A2 bb rm gm n1 n2 sz cap C1 C2 ka' kb' o' X w := by
  obtain ⟨⟨d1, d2, ad, W1, W2, h1, h2, h3, h4, h5⟩, hs, hb, hx⟩ := h
  exact ⟨⟨d1, d2, ad, W1, W2, h1, h2, ⟨by omega, h3.2.1, h3.2.2.1, h3.2.2.2.1, by omega⟩, ⟨by omega, h4.2.1, h4.2.2.1, h4.2.2.2.1, by omega⟩, h5⟩, hs, hb, hx⟩
theorem S2.ext (h : S2 w0 A1 A2 bb rm gm n1 n2 sz cap C1 C2 ka kb o X w) {S : Nat → Prop} (hf : Fr S w w') (hS : ∀ q, S q → X q ∨ w.heap.size ≤ q) (hX : ∀ q, X' q → X q ∨ (w.heap.size ≤ q ∧ q < w'.heap.size)) : S2 w0 A1 A2 bb rm gm n1 n2 sz cap C1 C2 ka kb o X' w' := by
  obtain ⟨⟨d1, d2, ad, W1, W2, h1, h2, h3, h4, h5, h6, h7, h8⟩, hs, hb, hx⟩ := h
  have hl1 : ∀ q, foot A1 d1 q → q < w.heap.size := fun q hq => h1.lay.flt hq
  have hl2 : ∀ q, foot A2 d2 q → q < w.heap.size := fun q hq => h2.lay.flt hq
  have hm : ∀ q, ad.mine A1.a bb rm gm q → q < w.heap.size := fun q hq => h1.are.mlt hq
  have hns : ∀ q, q < w.heap.size → ¬ X q → ¬ S q := fun q h1 h2 h3 => by
    rcases hS q h3 with e | e
    · exact h2 e
    · omega
  have hnx : ∀ q, q < w.heap.size → ¬ X q → ¬ X' q := fun q h1 h2 h3 => by
    rcases hX q h3 with e | ⟨e, _⟩
    · exact h2 e
    · omega
  refine ⟨⟨d1, d2, ad, W1, W2, h1.fr hf (fun q hq => hns q (hl1 q hq) (h5 q hq).2.1) (fun q hq => hns q (hm q hq) (h7 q hq).2), h2.fr hf (fun q hq => hns q (hl2 q hq) (h6 q hq).2) (fun q hq => by rw [hs] at hq; exact hns q (hm q hq) (h7 q hq).2), h3, h4,
    fun q hq => ⟨(h5 q hq).1, hnx q (hl1 q hq) (h5 q hq).2.1, (h5 q hq).2.2⟩, fun q hq => ⟨(h6 q hq).1, hnx q (hl2 q hq) (h6 q hq).2⟩, fun q hq => ⟨(h7 q hq).1, hnx q (hm q hq) (h7 q hq).2⟩, h8⟩, hs, ?_, fun q hq => ?_⟩
  · refine hf.below hb hb.size (fun q hq => ?_)
    rcases hS q hq with e | e
    · exact (hx q e).1
    · exact Nat.le_trans hb.size e
  · rcases hX q hq with e | ⟨e, e'⟩
    · exact ⟨(hx q e).1, Nat.lt_of_lt_of_le (hx q e).2 hf.size⟩
    · exact ⟨Nat.le_trans hb.size e, e'⟩
theorem S2.quiet (h : S2 w0 A1 A2 bb rm gm n1 n2 sz cap C1 C2 ka kb o X w) (hf : Fr (fun _ => False) w w') : S2 w0 A1 A2 bb rm gm n1 n2 sz cap C1 C2 ka kb o X w' := h.ext hf (fun _ q => q.elim) (fun _ q => .inl q)
theorem S2.drewN (h : S2 w0 A1 A2 bb rm gm n1 n2 sz cap C1 C2 ka kb o X w) (j : Nat) : S2 w0 A1 A2 bb rm gm n1 n2 sz cap C1 C2 ka kb o X (w.drewN j) := h.quiet ((Fr.refl _ w).drewN j)
theorem S2.less (h : S2 w0 A1 A2 bb rm gm n1 n2 sz cap C1 C2 ka kb o X w) (hX : ∀ q, X' q → X q) : S2 w0 A1 A2 bb rm gm n1 n2 sz cap C1 C2 ka kb o X' w := h.ext (Fr.refl (fun _ => False) w) (fun _ q => q.elim) (fun q hq => .inl (hX q hq))
/-- one of them does what changes its own, and the arena's bytes in its rooms -/
theorem S2.mx (h : S2 w0 A1 A2 bb rm gm n1 n2 sz cap C1 C2 ka kb o X w) {P : Ending → World → Prop} {Y : Ending → Nat → Prop} {C1' : Nat × Nat → List Nat} {N dk : Nat} {f : FuncId} {args : Array Value} {R : Ending → World → Prop}
    (hc : ∀ d ad W, Sv w A1 d bb rm gm ad C1 W → W.length ≤ ka → d.n = n1 → d.sd.size = sz → d.sd.cap = cap → d.sd.ops ≤ o → (∀ q, X q → ¬ foot A1 d q ∧ q ≠ bb) → (∀ q, q < w0.heap.size → ¬ foot A1 d q ∧ q ≠ bb) → Calls Try.prog f args w fun e w' => (∃ d' m' W', Mx A1 d d' bb rm gm ad m' C1' W' N w w' ∧ W'.length ≤ ka + dk ∧ ∀ q, Y e q → w.heap.size ≤ q ∧ q < w'.heap.size ∧ ¬ foot A1 d' q) ∧ P e w')
    (hR : ∀ e w', P e w' → S2 w0 A1 A2 bb rm gm n1 n2 sz cap C1' C2 (ka + dk) kb (o + N) (fun q => X q ∨ Y e q) w' → KX w0 X w w' → R e w') : Calls Try.prog f args w R := by
  obtain ⟨⟨d1, d2, ad, W1, W2, h1, h2, h3, h4, h5, h6, h7, h8⟩, hs, hb, hx⟩ := h
  have hbb := h7 bb (.inr (.inl rfl))
  refine (hc d1 ad W1 h1 h3.1 h3.2.1 h3.2.2.1 h3.2.2.2.1 h3.2.2.2.2 (fun q hq => ⟨fun q' => (h5 q q').2.1 hq, fun e => hbb.2 (e ▸ hq)⟩) (fun q hq => ⟨fun q' => by have := (h5 q q').1; omega, fun e => by have := hbb.1; omega⟩)).mono ?_
  rintro e w' ⟨⟨d', m', W', hm, hk, hY⟩, hP⟩
  have hfr : ∀ q, (foot A1 d1 q ∨ q = bb) → w0.heap.size ≤ q ∧ ¬ X q := fun q hq => by
    rcases hq with e | e
    · exact ⟨(h5 q e).1, (h5 q e).2.1⟩
    · rw [e]; exact hbb
  have hf2 : ∀ q, foot A2 d2 q → ¬ (foot A1 d1 q ∨ q = bb) := fun q hq hq' => by
    rcases hq' with e | e
    · exact (h5 q e).2.2 hq
    · rw [e] at hq; exact h2.dis bb (.inr (.inl rfl)) hq
  refine hR e w' hP ⟨⟨d', d2, { ad with mem := m' }, W', W2, h1.mx hm, ⟨h2.lay.fr hm.fr hf2, by rw [hs]; exact hm.are, h2.dis, ?_⟩, ⟨hk, hm.n.trans h3.2.1, hm.size.trans h3.2.2.1, hm.cap.trans h3.2.2.2.1, by have := hm.ops; have := h3.2.2.2.2; omega⟩, ⟨by have := h4.1; omega, h4.2.1, h4.2.2.1, h4.2.2.2.1, by have := h4.2.2.2.2; omega⟩,
    fun q hq => ?_, fun q hq => ⟨(h6 q hq).1, fun hq' => ?_⟩, fun q hq => ⟨(h7 q hq).1, fun hq' => ?_⟩, fun i j hi hj => by rw [hm.room]; exact h8 i j hi hj⟩, hs, hm.fr.below hb hb.size (fun q hq => (hfr q hq).1), fun q hq => ?_⟩ (Fr.more hm.fr hfr)
  · refine h2.pi.mem hm.len (fun j hj q hq1 hq2 => hm.out q (fun i hi => ?_))
    rw [h4.2.2.1] at hq2
    rw [h3.2.2.1]
    rcases h8 i j (by rw [← h3.2.1]; exact hi) (by rw [← h4.2.1]; exact hj) with e | e
    · exact .inr (by omega)
    · exact .inl (by omega)
  · have hYn : ¬ Y e q := fun q' => (hY q q').2.2 hq
    rcases hm.ft q hq with e | e
    · exact ⟨(h5 q e).1, fun q' => q'.elim (h5 q e).2.1 hYn, (h5 q e).2.2⟩
    · exact ⟨Nat.le_trans hb.size e, fun hq' => by
        rcases hq' with hq' | hq'
        · have := (hx q hq').2; omega
        · exact hYn hq', fun hq' => by have := h2.lay.flt hq'; omega⟩
  · have := h2.lay.flt hq
    rcases hq' with q' | q'
    · exact (h6 q hq).2 q'
    · have := (hY q q').1; omega
  · have := h1.are.mlt (k := q) hq
    rcases hq' with q' | q'
    · exact (h7 q hq).2 q'
    · have := (hY q q').1; omega
  · rcases hq with q' | q'
    · exact ⟨(hx q q').1, Nat.lt_of_lt_of_le (hx q q').2 hm.fr.size⟩
    · exact ⟨Nat.le_trans hb.size (hY q q').1, (hY q q').2.1⟩
theorem S2.mv (h : S2 w0 A1 A2 bb rm gm n1 n2 sz cap C1 C2 ka kb o X w) {P : Ending → World → Prop} {C1' : Nat × Nat → List Nat} {N : Nat} {f : FuncId} {args : Array Value} {R : Ending → World → Prop}
    (hc : ∀ d ad W, Sv w A1 d bb rm gm ad C1 W → W.length ≤ ka → d.n = n1 → d.sd.size = sz → d.sd.cap = cap → d.sd.ops ≤ o → Calls Try.prog f args w fun e w' => (∃ d', Mv A1 d d' ad.mem C1' W N w w') ∧ P e w')
    (hR : ∀ e w', P e w' → S2 w0 A1 A2 bb rm gm n1 n2 sz cap C1' C2 ka kb (o + N) X w' → KX w0 X w w' → R e w') : Calls Try.prog f args w R := by
  obtain ⟨⟨d1, d2, ad, W1, W2, h1, h2, h3, h4, h5, h6, h7, h8⟩, hs, hb, hx⟩ := h
  refine (hc d1 ad W1 h1 h3.1 h3.2.1 h3.2.2.1 h3.2.2.2.1 h3.2.2.2.2).mono ?_
  rintro e w' ⟨⟨d', hm⟩, hP⟩
  refine hR e w' hP ⟨⟨d', d2, ad, W1, W2, h1.mv hm, ⟨h2.lay.fr hm.fr (fun q hq hq' => (h5 q hq').2.2 hq), h2.are.fr hm.fr (fun q hq hq' => h1.dis q (by rw [← hs]; exact hq) hq'), h2.dis, h2.pi⟩, ⟨h3.1, hm.n.trans h3.2.1, hm.size.trans h3.2.2.1, hm.cap.trans h3.2.2.2.1, by have := hm.ops; have := h3.2.2.2.2; omega⟩, ⟨h4.1, h4.2.1, h4.2.2.1, h4.2.2.2.1, by have := h4.2.2.2.2; omega⟩,
    fun q hq => ?_, h6, h7, fun i j hi hj => by rw [hm.room]; exact h8 i j hi hj⟩, hs, hm.fr.below hb hb.size (fun q hq => (h5 q hq).1), fun q hq => ⟨(hx q hq).1, Nat.lt_of_lt_of_le (hx q hq).2 hm.fr.size⟩⟩ (Fr.more hm.fr (fun q hq => ⟨(h5 q hq).1, (h5 q hq).2.1⟩))
  rcases hm.ft q hq with e | e
  · exact h5 q e
  · exact ⟨Nat.le_trans hb.size e, fun hq' => by have := (hx q hq').2; omega, fun hq' => by have := h2.lay.flt hq'; omega⟩
end
end Go.Proofs.Ytlnffcledpccjaa
