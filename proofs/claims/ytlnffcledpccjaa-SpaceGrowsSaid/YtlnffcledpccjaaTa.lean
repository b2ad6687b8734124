/-
  A pager with its arena and what it holds, over a base; what others hold beside it stays (X): Read, Write of some bytes, Flush.
-/
import Derived.Test.YtlnffcledpccjaaGq
namespace Go.Proofs.Ytlnffcledpccjaa
open Go.RowKit
set_option linter.unusedVariables false
structure S1 (w0 : World) (A : Pa) (bb rm gm n sz cap : Nat) (C : Nat × Nat → List Nat) (k o : Nat) (X : Nat → Prop) (w : World) : Prop where
  ex : ∃ d ad W, Sv w A d bb rm gm ad C W ∧ W.length ≤ k ∧ d.n = n ∧ d.sd.size = sz ∧ d.sd.cap = cap ∧ d.sd.ops ≤ o ∧ (∀ q, foot A d q → w0.heap.size ≤ q ∧ ¬ X q) ∧ (∀ q, ad.mine A.a bb rm gm q → w0.heap.size ≤ q ∧ ¬ X q)
  bel : Below w0.heap.size w0 w
  xs : ∀ q, X q → w0.heap.size ≤ q ∧ q < w.heap.size
/-- what is done may change: not what is told of below, and nothing of X -/
def KX (w0 : World) (X : Nat → Prop) (w w' : World) : Prop := Fr (fun q => w0.heap.size ≤ q ∧ ¬ X q) w w'
section
variable {w0 w w' : World} {A : Pa} {bb rm gm n sz cap k o : Nat} {C : Nat × Nat → List Nat} {X X' : Nat → Prop}
theorem S1.lt (h : S1 w0 A bb rm gm n sz cap C k o X w) : w0.heap.size ≤ w.heap.size := h.bel.size
theorem S1.more (h : S1 w0 A bb rm gm n sz cap C k o X w) {k' o' : Nat} (hk : k ≤ k') (ho : o ≤ o') : S1 w0 A bb rm gm n sz cap C k' o' X w := by
  obtain ⟨⟨d, ad, W, h1, h2, h3, h4, h5, h6, h7⟩, hb, hx⟩ := h
  exact ⟨⟨d, ad, W, h1, by omega, h3, h4, h5, by omega, h7⟩, hb, hx⟩
theorem S1.con (h : S1 w0 A bb rm gm n sz cap C k o X w) {C' : Nat × Nat → List Nat} (e : C = C') : S1 w0 A bb rm gm n sz cap C' k o X w := e ▸ h
/-- what others do, and make -/
theorem S1.ext (h : S1 w0 A bb rm gm n sz cap C k o X w) {S : Nat → Prop} (hf : Fr S w w') (hS : ∀ q, S q → X q ∨ w.heap.size ≤ q) (hX : ∀ q, X' q → X q ∨ (w.heap.size ≤ q ∧ q < w'.heap.size)) : S1 w0 A bb rm gm n sz cap C k o X' w' := by
  obtain ⟨⟨d, ad, W, h1, h2, h3, h4, h5, h6, h7, h8⟩, hb, hx⟩ := h
  have hl : ∀ q, foot A d q → q < w.heap.size := fun q hq => h1.lay.flt hq
  have hm : ∀ q, ad.mine A.a bb rm gm q → q < w.heap.size := fun q hq => h1.are.mlt hq
  refine ⟨⟨d, ad, W, h1.fr hf (fun q hq hs => ?_) (fun q hq hs => ?_), h2, h3, h4, h5, h6, fun q hq => ⟨(h7 q hq).1, fun hx' => ?_⟩, fun q hq => ⟨(h8 q hq).1, fun hx' => ?_⟩⟩, ?_, fun q hq => ?_⟩
  · rcases hS q hs with e | e
    · exact (h7 q hq).2 e
    · have := hl q hq; omega
  · rcases hS q hs with e | e
    · exact (h8 q hq).2 e
    · have := hm q hq; omega
  · rcases hX q hx' with e | ⟨e, _⟩
    · exact (h7 q hq).2 e
    · have := hl q hq; omega
  · rcases hX q hx' with e | ⟨e, _⟩
    · exact (h8 q hq).2 e
    · have := hm q hq; omega
  · refine hf.below hb hb.size (fun q hq => ?_)
    rcases hS q hq with e | e
    · exact (hx q e).1
    · exact Nat.le_trans hb.size e
  · rcases hX q hq with e | ⟨e, e'⟩
    · exact ⟨(hx q e).1, Nat.lt_of_lt_of_le (hx q e).2 hf.size⟩
    · exact ⟨Nat.le_trans hb.size e, e'⟩
theorem S1.quiet (h : S1 w0 A bb rm gm n sz cap C k o X w) (hf : Fr (fun _ => False) w w') : S1 w0 A bb rm gm n sz cap C k o X w' := h.ext hf (fun _ q => q.elim) (fun _ q => .inl q)
theorem S1.drewN (h : S1 w0 A bb rm gm n sz cap C k o X w) (j : Nat) : S1 w0 A bb rm gm n sz cap C k o X (w.drewN j) := h.quiet ((Fr.refl _ w).drewN j)
theorem S1.alloc (h : S1 w0 A bb rm gm n sz cap C k o X w) (ob : Obj) : S1 w0 A bb rm gm n sz cap C k o (fun q => X q ∨ q = w.heap.size) (w.alloc ob) := h.ext (S := fun _ => False) ((Fr.refl _ w).alloc ob) (fun _ q => q.elim) (fun q hq => by
  rcases hq with e | e
  · exact .inl e
  · refine .inr ⟨by omega, ?_⟩
    rw [e]
    unfold World.alloc
    simp)
theorem S1.less (h : S1 w0 A bb rm gm n sz cap C k o X w) (hX : ∀ q, X' q → X q) : S1 w0 A bb rm gm n sz cap C k o X' w := h.ext (Fr.refl (fun _ => False) w) (fun _ q => q.elim) (fun q hq => .inl (hX q hq))
theorem KX.fr (h : KX w0 X w w') : Fr (fun q => w0.heap.size ≤ q ∧ ¬ X q) w w' := h
theorem KX.refl (w0 : World) (X : Nat → Prop) (w : World) : KX w0 X w w := Fr.refl _ w
theorem KX.trans {w'' : World} (h : KX w0 X w w') (h' : KX w0 X w' w'') : KX w0 X w w'' := Fr.trans h h'
/-- a step that only makes -/
theorem KX.new (h : KX w0 X w w') {w'' : World} (hf : Fr (fun _ => False) w' w'') : KX w0 X w w'' := Fr.trans h (hf.more (fun _ q => q.elim))
theorem KX.less (h : KX w0 X' w w') (hX : ∀ q, X q → X' q) : KX w0 X w w' := Fr.more h (fun q hq => ⟨hq.1, fun hx => hq.2 (hX q hx)⟩)
/-- X may be grown by what is newly made -/
theorem KX.in_ {w1 : World} (h : KX w0 X w w') (hf : Fr (fun _ => False) w1 w) : KX w0 X w1 w' := Fr.trans (hf.more (fun _ q => q.elim)) h
theorem KX.byt (h : KX w0 X w w') {g off nn cp : Nat} {l : List Nat} (hb : Byt w (some ⟨g, off, none⟩) nn cp l) (hg : X g ∨ g < w0.heap.size) : Byt w' (some ⟨g, off, none⟩) nn cp l :=
  ⟨hb.1, hb.2.1, hb.2.2.1, hb.2.2.2.1, fun h0 => by
    obtain ⟨b, of', e, hlt, hc⟩ := hb.2.2.2.2 h0
    injection e with e
    injection e with e1 e2 _
    subst e1 e2
    refine ⟨g, off, rfl, Nat.lt_of_lt_of_le hlt (KX.fr h).size, fun j hj => ?_⟩
    rw [← hc j hj]
    unfold World.cell?
    rw [(KX.fr h).block g hlt (fun q => by
      rcases hg with e | e
      · exact q.2 e
      · have := q.1; omega)]⟩
def WrP (w0 : World) (A : Pa) (bb rm gm n sz cap : Nat) (C : Nat × Nat → List Nat) (k o : Nat) (X : Nat → Prop) (w : World) (e : Ending) (w' : World) : Prop :=
  e = .returned (.int .i64 0) ∧ S1 w0 A bb rm gm n sz cap C k o X w' ∧ KX w0 X w w'
theorem S1.mx {d d' : Pd} {ad : Ad} {m' : List Nat} {C' : Nat × Nat → List Nat} {W W' : List (Nat × Nat)} {k' N : Nat} (h1 : Sv w A d bb rm gm ad C W) (hbel : Below w0.heap.size w0 w) (hxs : ∀ q, X q → w0.heap.size ≤ q ∧ q < w.heap.size) (h3 : d.n = n) (h4 : d.sd.size = sz) (h5 : d.sd.cap = cap) (h6 : d.sd.ops ≤ o)
    (h7 : ∀ q, foot A d q → w0.heap.size ≤ q ∧ ¬ X q) (h8 : ∀ q, ad.mine A.a bb rm gm q → w0.heap.size ≤ q ∧ ¬ X q) (hm : Mx A d d' bb rm gm ad m' C' W' N w w') (hk : W'.length ≤ k') : S1 w0 A bb rm gm n sz cap C' k' (o + N) X w' ∧ KX w0 X w w' := by
  have hbb := h8 bb (.inr (.inl rfl))
  refine ⟨⟨⟨d', _, W', h1.mx hm, hk, hm.n.trans h3, hm.size.trans h4, hm.cap.trans h5, by have := hm.ops; omega, fun q hq => ?_, fun q hq => h8 q hq⟩, ?_, fun q hq => ⟨(hxs q hq).1, Nat.lt_of_lt_of_le (hxs q hq).2 hm.fr.size⟩⟩, ?_⟩
  · rcases hm.ft q hq with e | e
    · exact h7 q e
    · exact ⟨Nat.le_trans hbel.size e, fun hx => by have := (hxs q hx).2; omega⟩
  · exact hm.fr.below hbel hbel.size (fun q hq => by
      rcases hq with e | e
      · exact (h7 q e).1
      · rw [e]; exact hbb.1)
  · exact Fr.more hm.fr (fun q hq => by
      rcases hq with e | e
      · exact h7 q e
      · rw [e]; exact hbb)
theorem S1.write (h : S1 w0 A bb rm gm n sz cap C k o X w) (a b of_ nn cp g off : Nat) (l : List Nat) (hx : small (a, b)) (h0 : 0 < nn) (hon : of_ + nn ≤ sz) (hb : Byt w (some ⟨g, off, none⟩) nn cp l) (hg : X g ∨ g < w0.heap.size) (ho : o < 900000) (hk : k ≤ cap) :
    Calls Try.prog 16 #[.pointer (some ⟨A.p, 0, none⟩), .int .i64 a, .int .i64 b, .int .i64 of_, .slice (some ⟨g, off, none⟩) nn cp] w (WrP w0 A bb rm gm n sz cap (upd C (a, b) (putM (C (a, b)) of_ l)) (k + 1) (o + 3) X w) := by
  obtain ⟨⟨d, ad, W, h1, h2, h3, h4, h5, h6, h7, h8⟩, hbel, hxs⟩ := h
  have hng : ∀ q, (w0.heap.size ≤ q ∧ ¬ X q) → g ≠ q := fun q hq e => by
    subst e
    rcases hg with e | e
    · exact hq.2 e
    · have := hq.1; omega
  refine (PWrite_ok h1.lay h1.are h1.dis h1.pi (by omega) (by omega) a b of_ nn cp g off l hx h0 (by omega) hb (fun hq => hng g (h7 g hq) rfl) (hng bb (h8 bb (.inr (.inl rfl))))).mono ?_
  rintro e w' ⟨d', m', j, rfl, hm, _⟩
  have := S1.mx h1 hbel hxs h3 h4 h5 h6 h7 h8 hm (k' := k + 1) (by simp; omega)
  exact ⟨rfl, this.1, this.2⟩
def RdP (w0 : World) (A : Pa) (bb rm gm n sz cap : Nat) (C : Nat × Nat → List Nat) (k o : Nat) (X : Nat → Prop) (x : Nat × Nat) (of_ nn : Nat) (w : World) (e : Ending) (w' : World) : Prop :=
  ∃ g : Nat, e = .returned (.tuple #[.slice (some ⟨g, 0, none⟩) nn nn, .int .i64 0]) ∧ w.heap.size ≤ g ∧ Byt w' (some ⟨g, 0, none⟩) nn nn (((C x).drop of_).take nn) ∧ S1 w0 A bb rm gm n sz cap C k o X w' ∧ KX w0 X w w'
theorem S1.read (h : S1 w0 A bb rm gm n sz cap C k o X w) (a b of_ nn : Nat) (hx : small (a, b)) (h0 : 0 < nn) (hon : of_ + nn ≤ sz) (ho : o < 900000) (hk : k ≤ cap) :
    Calls Try.prog 15 #[.pointer (some ⟨A.p, 0, none⟩), .int .i64 a, .int .i64 b, .int .i64 of_, .int .i64 nn] w (RdP w0 A bb rm gm n sz cap C k (o + 3) X (a, b) of_ nn w) := by
  obtain ⟨⟨d, ad, W, h1, h2, h3, h4, h5, h6, h7, h8⟩, hbel, hxs⟩ := h
  refine (PRead_ok h1.lay h1.are h1.dis h1.pi (by omega) (by omega) a b of_ nn hx h0 (by omega)).mono ?_
  rintro e w' ⟨g, j, d', m', rfl, hy, hm, _, _, _, _, hfresh, _⟩
  have := S1.mx h1 hbel hxs h3 h4 h5 h6 h7 h8 hm (k' := k) h2
  exact ⟨g, rfl, hfresh, hy, this.1, this.2⟩
def FlP (w0 : World) (A : Pa) (bb rm gm n sz cap : Nat) (C : Nat × Nat → List Nat) (k o : Nat) (X : Nat → Prop) (w : World) (e : Ending) (w' : World) : Prop :=
  e = .returned (.int .i64 0) ∧ S1 w0 A bb rm gm n sz cap C k o X w' ∧ KX w0 X w w' ∧ ∀ (L : List (Nat × Nat)) (m : Nat), L.Nodup → (∀ x, x ∈ L ↔ C x ≠ zs sz) → Calls Try.prog 21 #[.pointer (some ⟨A.s, 0, none⟩)] (w'.drewN m) fun e w'' => e = .returned (.int .i64 L.length) ∧ w'' = w'.drewN m
theorem S1.flush (h : S1 w0 A bb rm gm n sz cap C k o X w) (ho : o < 800000) (hk : k ≤ cap) :
    Calls Try.prog 18 #[.pointer (some ⟨A.p, 0, none⟩)] w (FlP w0 A bb rm gm n sz cap C k (o + 2 * n) X w) := by
  obtain ⟨⟨d, ad, W, h1, h2, h3, h4, h5, h6, h7, h8⟩, hbel, hxs⟩ := h
  refine (Flush_ok h1.lay h1.are h1.dis h1.pi (by omega) (by omega)).mono ?_
  rintro e w' ⟨rfl, d', hf⟩
  have hv := h1.mv hf.mv
  refine ⟨rfl, ⟨⟨d', ad, W, hv, h2, hf.mv.n.trans h3, hf.mv.size.trans h4, hf.mv.cap.trans h5, by have := hf.mv.ops; rw [h3] at this; omega, fun q hq => ?_, h8⟩, ?_, fun q hq => ⟨(hxs q hq).1, Nat.lt_of_lt_of_le (hxs q hq).2 hf.mv.fr.size⟩⟩, ?_, fun L m hn hL => ?_⟩
  · rcases hf.mv.ft q hq with e | e
    · exact h7 q e
    · exact ⟨Nat.le_trans hbel.size e, fun hx => by have := (hxs q hx).2; omega⟩
  · exact hf.mv.fr.below hbel hbel.size (fun q hq => (h7 q hq).1)
  · exact Fr.more hf.mv.fr (fun q hq => h7 q hq)
  · have hu := Used_any (hv.lay.drewN m).sto
    have hq : d'.sd.n = L.length := hv.used L hn (fun x => by rw [hL x, hf.whole x, h4])
    rw [hq] at hu
    exact hu.mono fun e w'' q => ⟨q.1, q.2.symm⟩
theorem S1.writeI (h : S1 w0 A bb rm gm n sz cap C k o X w) (a b of_ nn cp g off : Nat) (l : List Nat) (hx : small (a, b)) (h0 : 0 < nn) (hon : of_ + nn ≤ sz) (hb : Byt w (some ⟨g, off, none⟩) nn cp l) (hg : X g ∨ g < w0.heap.size) (ho : o < 900000) (hk : k ≤ cap) {C' : Nat × Nat → List Nat} (hC : upd C (a, b) (putM (C (a, b)) of_ l) = C') {ai bi oi ni : Int} (ea : ai = a) (eb : bi = b) (eo : oi = of_) (en : ni = nn) :
    Calls Try.prog 16 #[.pointer (some ⟨A.p, 0, none⟩), .int .i64 ai, .int .i64 bi, .int .i64 oi, .slice (some ⟨g, off, none⟩) nn cp] w (WrP w0 A bb rm gm n sz cap C' (k + 1) (o + 3) X w) := by
  subst ea eb eo hC
  exact h.write a b of_ nn cp g off l hx h0 hon hb hg ho hk
theorem S1.readI (h : S1 w0 A bb rm gm n sz cap C k o X w) (a b of_ nn : Nat) (hx : small (a, b)) (h0 : 0 < nn) (hon : of_ + nn ≤ sz) (ho : o < 900000) (hk : k ≤ cap) {ai bi oi ni : Int} (ea : ai = a) (eb : bi = b) (eo : oi = of_) (en : ni = nn) :
    Calls Try.prog 15 #[.pointer (some ⟨A.p, 0, none⟩), .int .i64 ai, .int .i64 bi, .int .i64 oi, .int .i64 ni] w (RdP w0 A bb rm gm n sz cap C k (o + 3) X (a, b) of_ nn w) := by
  subst ea eb eo en
  exact h.read a b of_ nn hx h0 hon ho hk
theorem S1.new {w0 w1 w2 : World} {a bb rm gm s m N sz cp k : Nat} (h1 : Are w1 a bb rm gm (nuA N)) (b1 : Below w0.heap.size w0 w1) (ha : w0.heap.size ≤ a ∧ w0.heap.size ≤ bb ∧ w0.heap.size ≤ rm ∧ w0.heap.size ≤ gm) (h2 : Sto w2 s m (nu sz cp)) (b2 : Below w1.heap.size w1 w2) (hs : w1.heap.size ≤ s) (hm : w1.heap.size ≤ m)
    (hcl : cl ((sz : Nat) : Int) = sz) (hk1 : 1 ≤ k) (hk2 : k ≤ 64) (hfit : k * sz ≤ N) :
    Calls Try.prog 14 #[.pointer (some ⟨a, 0, none⟩), .pointer (some ⟨s, 0, none⟩), .int .i64 k] w2 fun e w3 => ∃ A : Pa, A.s = s ∧ e = .returned (.tuple #[.pointer (some ⟨A.p, 0, none⟩), .int .i64 0]) ∧ S1 w0 A bb rm gm k sz cp (fun _ => zs sz) 0 0 (fun _ => False) w3 := by
  have hds : ∀ q, (nu sz cp).mine s m q → ¬ arb a bb rm gm q := fun q hq hq4 => by
    have hlt : q < w1.heap.size := h1.mlt (by
      rcases hq4 with q1 | q1 | q1 | q1
      · exact .inl q1
      · exact .inr (.inl q1)
      · exact .inr (.inr (.inl q1))
      · exact .inr (.inr (.inr (.inl q1))))
    rcases hq with q1 | q1 | ⟨i, hi, _⟩
    · omega
    · omega
    · cases hi
  have h12 : Are w2 a bb rm gm (nuA N) := h1.below b2 (Nat.le_refl _)
  have b12 : Below w0.heap.size w0 w2 := b1.trans (b2.mono b1.size)
  have hh : (nuA N).height = 0 := rfl
  refine (New_ok h12 h2 hds sz k hcl hk1 hk2 (fun _ => rfl) rfl (by rw [hh]; show 0 + k * sz ≤ N; omega) (by show (0:Nat) < 900000; decide) rfl (by show (-1 : Int) < 0; decide)).mono ?_
  rintro e w3 h3
  obtain ⟨A, ad, hAs, hAm, hAa, rfl, hsv, htk, hft⟩ := Sv.new (c := sz) h12 hds (Nat.le_refl _) (by rw [hh]; show 0 + k * sz ≤ N; omega) h3
  have b3 : Below w0.heap.size w0 w3 := htk.fr.below b12 b12.size (fun q hq => by
    rcases hq with q1 | q1 | q1 | q1 <;> rw [q1]
    · exact ha.1
    · exact ha.2.1
    · exact ha.2.2.1
    · exact ha.2.2.2)
  refine ⟨A, hAs, rfl, ⟨_, ad, [], hsv, Nat.le_refl _, rfl, rfl, rfl, Nat.le_refl _, fun q hq => ⟨?_, fun q => q⟩, fun q hq => ⟨?_, fun q => q⟩⟩, b3, fun q hq => hq.elim⟩
  · rcases hft q hq with q1 | q1 | q1 | ⟨i, hi, _⟩
    · have := b12.size; omega
    · have := b1.size; omega
    · have := b1.size; omega
    · cases hi
  · rcases hq with q1 | q1 | q1 | q1 | ⟨c', hc', _⟩
    · rw [q1, hAa]; exact ha.1
    · rw [q1]; exact ha.2.1
    · rw [q1]; exact ha.2.2.1
    · rw [q1]; exact ha.2.2.2
    · exact absurd (htk.gn c') hc'
end
end Go.Proofs.Ytlnffcledpccjaa
