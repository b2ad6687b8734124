/-
  Two pagers in one arena: Read, Write, Drop, Flush, Fault, Resident of whatever numbers; New of both.
-/
import Derived.Test.YtlnffcledpccjaaHa
namespace Go.Proofs.Ytlnffcledpccjaa
open Go.RowKit
set_option linter.unusedVariables false
def rdl (sz : Nat) (C : Nat × Nat → List Nat) (a b p n : Int) : List Nat := if rerr sz a b p n = 0 then ((C (a.toNat, b.toNat)).drop p.toNat).take n.toNat else []
def wrC (sz : Nat) (C : Nat × Nat → List Nat) (a b p : Int) (l : List Nat) : Nat × Nat → List Nat := if rerr sz a b p l.length = 0 ∧ l ≠ [] then upd C (a.toNat, b.toNat) (putM (C (a.toNat, b.toNat)) p.toNat l) else C
def drC (sz : Nat) (C : Nat × Nat → List Nat) (m : Int) : Nat × Nat → List Nat := if m < 0 then C else drp C m.toNat sz
theorem rerr_zero {sz : Nat} {a b p n : Int} (h : rerr sz a b p n = 0) : 0 ≤ a ∧ 0 ≤ b ∧ 0 ≤ p ∧ 0 ≤ n ∧ p + n ≤ sz := by
  unfold rerr at h
  split at h
  · cases h
  · split at h
    · cases h
    · omega
section
variable {w0 w w' : World} {A1 A2 : Pa} {bb rm gm n1 n2 sz cap ka kb o : Nat} {C1 C2 : Nat × Nat → List Nat} {X X' : Nat → Prop}
def RdU (w0 : World) (A1 A2 : Pa) (bb rm gm n1 n2 sz cap : Nat) (C1 C2 : Nat × Nat → List Nat) (ka kb o : Nat) (X : Nat → Prop) (a b p n : Int) (w : World) (e : Ending) (w' : World) : Prop :=
  ∃ (B : Option Addr) (nn cp : Nat), e = .returned (.tuple #[.slice B nn cp, .int .i64 (rerr sz a b p n)]) ∧ Byt w' B nn cp (rdl sz C1 a b p n) ∧ S2 w0 A1 A2 bb rm gm n1 n2 sz cap C1 C2 ka kb o (fun q => X q ∨ (0 < nn ∧ B.map (·.block) = some q)) w' ∧ KX w0 X w w'
theorem S2.read (h : S2 w0 A1 A2 bb rm gm n1 n2 sz cap C1 C2 ka kb o X w) (a b p n : Int) (ha : a ≤ 9223372036854775807) (hb : b ≤ 9223372036854775807) (hp : p ≤ 9223372036854775807) (ho : o < 900000) (hk : ka ≤ cap) :
    Calls Try.prog 15 #[.pointer (some ⟨A1.p, 0, none⟩), .int .i64 a, .int .i64 b, .int .i64 p, .int .i64 n] w (RdU w0 A1 A2 bb rm gm n1 n2 sz cap C1 C2 ka kb (o + 3) X a b p n w) := by
  by_cases hr : rerr sz a b p n = 0
  · obtain ⟨h1, h2, h3, h4, h5⟩ := rerr_zero hr
    obtain ⟨a, rfl⟩ := Int.eq_ofNat_of_zero_le h1
    obtain ⟨b, rfl⟩ := Int.eq_ofNat_of_zero_le h2
    obtain ⟨p, rfl⟩ := Int.eq_ofNat_of_zero_le h3
    obtain ⟨n, rfl⟩ := Int.eq_ofNat_of_zero_le h4
    refine h.mx (dk := 0) (N := 3) (C1' := C1) (Y := fun e q => 0 < n ∧ e = .returned (.tuple #[.slice (some ⟨q, 0, none⟩) n n, .int .i64 0])) (P := fun e w' => ∃ g : Nat, e = .returned (.tuple #[.slice (some ⟨g, 0, none⟩) n n, .int .i64 0]) ∧ Byt w' (some ⟨g, 0, none⟩) n n (((C1 (a, b)).drop p).take n)) (fun d ad W hs hl hn hz hcp hop _ _ => ?_) (fun e w' hP hS hK => ?_)
    · refine (PRead_all hs.lay hs.are hs.dis hs.pi (by omega) (by omega) a b p n ⟨by show a ≤ _; omega, by show b ≤ _; omega⟩ (by rw [hz]; omega)).mono ?_
      rintro e w' ⟨g, j, d', m', rfl, hy, hm, _, _, _, _, hf, hf2⟩
      refine ⟨⟨d', m', W, hm, hl, fun q hq => ?_⟩, g, rfl, hy⟩
      obtain ⟨hn0, hq⟩ := hq
      simp at hq
      subst hq
      obtain ⟨g', off, eg, hlt, _⟩ := hy.2.2.2.2 hn0
      injection eg with eg
      injection eg with eg _ _
      exact ⟨hf, by rw [eg]; exact hlt, hf2⟩
    · obtain ⟨g, rfl, hy⟩ := hP
      refine ⟨some ⟨g, 0, none⟩, n, n, by rw [hr], ?_, hS.less (fun q hq => ?_), hK⟩
      · unfold rdl
        rw [if_pos hr]
        exact hy
      · rcases hq with hq | ⟨h0, hq⟩
        · exact .inl hq
        · refine .inr ⟨h0, ?_⟩
          simp at hq
          rw [hq]
  · obtain ⟨d1, d2, ad, W1, W2, hs1, _, h3, _⟩ := h.ex
    have hz := h3.2.2.1
    refine (PRead_bad hs1.lay a b p n hp (by rw [hz]; exact hr)).mono ?_
    rintro e w' ⟨rfl, rfl⟩
    refine ⟨none, 0, 0, by rw [hz], ?_, (h.more (Nat.le_refl _) (Nat.le_refl _) (by omega)).less (fun q hq => hq.elim id (fun q' => absurd q'.1 (Nat.lt_irrefl _))), KX.refl _ _ _⟩
    unfold rdl
    rw [if_neg hr]
    exact ⟨rfl, by simp, Nat.le_refl _, Nat.zero_le _, fun q => absurd q (Nat.lt_irrefl _)⟩
def WrU (w0 : World) (A1 A2 : Pa) (bb rm gm n1 n2 sz cap : Nat) (C1 C2 : Nat × Nat → List Nat) (ka kb o : Nat) (X : Nat → Prop) (r : Int) (w : World) (e : Ending) (w' : World) : Prop :=
  e = .returned (.int .i64 r) ∧ S2 w0 A1 A2 bb rm gm n1 n2 sz cap C1 C2 ka kb o X w' ∧ KX w0 X w w'
theorem S2.write (h : S2 w0 A1 A2 bb rm gm n1 n2 sz cap C1 C2 ka kb o X w) (a b p : Int) (B : Option Addr) (n cp : Nat) (l : List Nat) (hB : Byt w B n cp l) (hX : ∀ g, B.map (·.block) = some g → 0 < n → X g ∨ g < w0.heap.size) (ha : a ≤ 9223372036854775807) (hb : b ≤ 9223372036854775807) (hp : p ≤ 9223372036854775807) (ho : o < 900000) (hk : ka ≤ cap) :
    Calls Try.prog 16 #[.pointer (some ⟨A1.p, 0, none⟩), .int .i64 a, .int .i64 b, .int .i64 p, .slice B n cp] w (WrU w0 A1 A2 bb rm gm n1 n2 sz cap (wrC sz C1 a b p l) C2 (ka + 1) kb (o + 3) X (rerr sz a b p n) w) := by
  have hl : l.length = n := hB.1
  by_cases hr : rerr sz a b p n = 0
  · obtain ⟨h1, h2, h3, h4, h5⟩ := rerr_zero hr
    obtain ⟨a, rfl⟩ := Int.eq_ofNat_of_zero_le h1
    obtain ⟨b, rfl⟩ := Int.eq_ofNat_of_zero_le h2
    obtain ⟨p, rfl⟩ := Int.eq_ofNat_of_zero_le h3
    rcases Nat.eq_zero_or_pos n with hn | hn
    · subst hn
      have hl0 : l = [] := List.eq_nil_of_length_eq_zero hl
      have hC : wrC sz C1 a b p l = C1 := by unfold wrC; rw [if_neg (fun q => q.2 hl0)]
      rw [hC]
      refine h.mx (dk := 1) (N := 3) (C1' := C1) (Y := fun _ _ => False) (P := fun e w' => e = .returned (.int .i64 0)) (fun d ad W hs hl hn hz hcp hop _ _ => ?_) (fun e w' hP hS hK => ⟨by rw [hr]; exact hP, hS.less (fun q hq => .inl hq), hK⟩)
      refine (PWrite_zero hs.lay hs.are hs.dis hs.pi (by omega) (by omega) a b p cp B ⟨by show a ≤ _; omega, by show b ≤ _; omega⟩ (by rw [hz]; omega) hB.2.2.2.1).mono ?_
      rintro e w' ⟨d', m', rfl, hm⟩
      exact ⟨⟨d', m', W, hm, by omega, fun _ q => q.elim⟩, rfl⟩
    · obtain ⟨g, off, rfl, hg, _⟩ := hB.2.2.2.2 hn
      have hgx := hX g rfl hn
      have hC : wrC sz C1 a b p l = upd C1 (a, b) (putM (C1 (a, b)) p l) := by unfold wrC; rw [if_pos ⟨by rw [hl]; exact hr, fun q => by rw [q] at hl; simp at hl; omega⟩]; rfl
      rw [hC]
      refine h.mx (dk := 1) (N := 3) (C1' := upd C1 (a, b) (putM (C1 (a, b)) p l)) (Y := fun _ _ => False) (P := fun e w' => e = .returned (.int .i64 0)) (fun d ad W hs hl hn' hz hcp hop hx1 hx2 => ?_) (fun e w' hP hS hK => ⟨by rw [hr]; exact hP, hS.less (fun q hq => .inl hq), hK⟩)
      have hgg : ¬ foot A1 d g ∧ g ≠ bb := by
        rcases hgx with q | q
        · exact hx1 g q
        · exact hx2 g q
      refine (PWrite_ok hs.lay hs.are hs.dis hs.pi (by omega) (by omega) a b p n cp g off l ⟨by show a ≤ _; omega, by show b ≤ _; omega⟩ hn (by rw [hz]; omega) hB hgg.1 hgg.2).mono ?_
      rintro e w' ⟨d', m', j, rfl, hm, _⟩
      exact ⟨⟨d', m', _, hm, by simp; omega, fun _ q => q.elim⟩, rfl⟩
  · have hC : wrC sz C1 a b p l = C1 := by unfold wrC; rw [if_neg (fun q => hr (by rw [← hl]; exact q.1))]
    rw [hC]
    obtain ⟨d1, d2, ad, W1, W2, hs1, _, h3, _⟩ := h.ex
    have hz := h3.2.2.1
    refine (PWrite_bad hs1.lay a b p B n cp hB.2.2.1 hB.2.2.2.1 hp (by rw [hz]; exact hr)).mono ?_
    rintro e w' ⟨rfl, rfl⟩
    exact ⟨by rw [hz], h.more (by omega) (by omega) (by omega), KX.refl _ _ _⟩
theorem S2.drop (h : S2 w0 A1 A2 bb rm gm n1 n2 sz cap C1 C2 ka kb o X w) (m : Int) (hm9 : m ≤ 9223372036854775807) (ho : o < 900000) :
    Calls Try.prog 17 #[.pointer (some ⟨A1.p, 0, none⟩), .int .i64 m] w (WrU w0 A1 A2 bb rm gm n1 n2 sz cap (drC sz C1 m) C2 ka kb (o + 4096) X (if m < 0 then 1 else 0) w) := by
  by_cases hm : m < 0
  · have hC : drC sz C1 m = C1 := by unfold drC; rw [if_pos hm]
    rw [hC, if_pos hm]
    obtain ⟨d1, d2, ad, W1, W2, hs1, _, h3, _⟩ := h.ex
    refine (Drop_bad hs1.lay m hm).mono ?_
    rintro e w' ⟨rfl, rfl⟩
    exact ⟨rfl, h.more (by omega) (by omega) (by omega), KX.refl _ _ _⟩
  · obtain ⟨m, rfl⟩ := Int.eq_ofNat_of_zero_le (Int.not_lt.1 hm)
    have hC : drC sz C1 m = drp C1 m sz := by unfold drC; rw [if_neg hm]; rfl
    rw [hC, if_neg hm]
    refine h.mv (N := 4096) (C1' := drp C1 m sz) (P := fun e w' => e = .returned (.int .i64 0)) (fun d ad W hs hl hn hz hcp hop => ?_) (fun e w' hP hS hK => ⟨hP, hS, hK⟩)
    refine (Drop_ok sort_ok hs.lay hs.pi m (by omega) (by omega)).mono ?_
    rintro e w' ⟨rfl, d', hm⟩
    exact ⟨⟨d', by rw [← hz]; exact hm⟩, rfl⟩
theorem S2.flush (h : S2 w0 A1 A2 bb rm gm n1 n2 sz cap C1 C2 ka kb o X w) (ho : o < 800000) (hk : ka ≤ cap) :
    Calls Try.prog 18 #[.pointer (some ⟨A1.p, 0, none⟩)] w (WrU w0 A1 A2 bb rm gm n1 n2 sz cap C1 C2 ka kb (o + 2 * n1) X 0 w) := by
  refine h.mv (N := 2 * n1) (C1' := C1) (P := fun e w' => e = .returned (.int .i64 0)) (fun d ad W hs hl hn hz hcp hop => ?_) (fun e w' hP hS hK => ⟨hP, hS, hK⟩)
  refine (Flush_ok hs.lay hs.are hs.dis hs.pi (by omega) (by omega)).mono ?_
  rintro e w' ⟨rfl, d', hf⟩
  exact ⟨⟨d', by rw [← hn]; exact hf.mv⟩, rfl⟩
theorem S2.fault (h : S2 w0 A1 A2 bb rm gm n1 n2 sz cap C1 C2 ka kb o X w) : Calls Try.prog 19 #[.pointer (some ⟨A1.p, 0, none⟩)] w fun e w' => e = .returned (.int .i64 0) ∧ w = w' := by
  obtain ⟨d1, d2, ad, W1, W2, hs1, _⟩ := h.ex
  exact Fault_ok hs1.lay
theorem S2.resident (h : S2 w0 A1 A2 bb rm gm n1 n2 sz cap C1 C2 ka kb o X w) : ∃ q : Nat, q ≤ n1 ∧ Calls Try.prog 20 #[.pointer (some ⟨A1.p, 0, none⟩)] w fun e w' => e = .returned (.int .i64 q) ∧ w = w' := by
  obtain ⟨d1, d2, ad, W1, W2, hs1, _, h3, _⟩ := h.ex
  obtain ⟨q, _, hq⟩ := hs1.lay.sts
  exact ⟨q, by rw [← h3.2.1]; exact hs1.pi.count hq, Resident_ok hs1.lay hq⟩
/-- both are made -/
theorem S2.new {w1 w2 : World} {a s m s' m' N k1 k2 : Nat} (h1 : Are w1 a bb rm gm (nuA N)) (b1 : Below w0.heap.size w0 w1) (ha : w0.heap.size ≤ a ∧ w0.heap.size ≤ bb ∧ w0.heap.size ≤ rm ∧ w0.heap.size ≤ gm) (h2 : Sto w2 s m (nu sz cap)) (h2' : Sto w2 s' m' (nu sz cap)) (b2 : Below w1.heap.size w1 w2) (hs : w1.heap.size ≤ s) (hm : w1.heap.size ≤ m) (hs' : w1.heap.size ≤ s') (hm' : w1.heap.size ≤ m') (hne : s ≠ s' ∧ s ≠ m' ∧ m ≠ s' ∧ m ≠ m')
    (hcl : cl ((sz : Nat) : Int) = sz) (hk1 : 1 ≤ k1) (hk1' : k1 ≤ 64) (hk2 : 1 ≤ k2) (hk2' : k2 ≤ 64) (hfit : k1 * sz + k2 * sz ≤ N) :
    Calls Try.prog 14 #[.pointer (some ⟨a, 0, none⟩), .pointer (some ⟨s, 0, none⟩), .int .i64 k1] w2 fun e w3 => ∃ A1 : Pa, e = .returned (.tuple #[.pointer (some ⟨A1.p, 0, none⟩), .int .i64 0]) ∧ Below w0.heap.size w0 w3 ∧
      Calls Try.prog 14 #[.pointer (some ⟨a, 0, none⟩), .pointer (some ⟨s', 0, none⟩), .int .i64 k2] w3 fun e w4 => ∃ A2 : Pa, e = .returned (.tuple #[.pointer (some ⟨A2.p, 0, none⟩), .int .i64 0]) ∧ S2 w0 A1 A2 bb rm gm k1 k2 sz cap (fun _ => zs sz) (fun _ => zs sz) 0 0 0 (fun _ => False) w4 := by
  have hlt4 : ∀ q, arb a bb rm gm q → q < w1.heap.size := fun q hq4 => h1.mlt (by
    rcases hq4 with q1 | q1 | q1 | q1
    · exact .inl q1
    · exact .inr (.inl q1)
    · exact .inr (.inr (.inl q1))
    · exact .inr (.inr (.inr (.inl q1))))
  have hdd : ∀ {x y : Nat}, w1.heap.size ≤ x → w1.heap.size ≤ y → ∀ q, (nu sz cap).mine x y q → ¬ arb a bb rm gm q := fun hx hy q hq hq4 => by
    have := hlt4 q hq4
    rcases hq with q1 | q1 | ⟨i, hi, _⟩
    · omega
    · omega
    · cases hi
  have h12 : Are w2 a bb rm gm (nuA N) := h1.below b2 (Nat.le_refl _)
  have b12 : Below w0.heap.size w0 w2 := b1.trans (b2.mono b1.size)
  have h4w0 : ∀ q, arb a bb rm gm q → w0.heap.size ≤ q := fun q hq => by
    rcases hq with q1 | q1 | q1 | q1 <;> rw [q1]
    · exact ha.1
    · exact ha.2.1
    · exact ha.2.2.1
    · exact ha.2.2.2
  have hh : (nuA N).height = 0 := rfl
  have hN : (nuA N).sz = N := rfl
  refine (New_ok h12 h2 (hdd hs hm) sz k1 hcl hk1 hk1' (fun _ => rfl) rfl (by rw [hh, hN]; omega) (by show (0 : Nat) < 900000; decide) rfl (by show (-1 : Int) < 0; decide)).mono ?_
  rintro e w3 ⟨A1, ad1, rfl, rfl, rfl, rfl, hlay1, ht1, hp1, hfb1, hsm1, hbm1⟩
  have b3 : Below w0.heap.size w0 w3 := ht1.fr.below b12 b12.size h4w0
  have hf1 : ∀ q, foot A1 (nwd k1 (nuA N).height sz (nu sz cap)) q → w2.heap.size ≤ q ∨ q = A1.s ∨ q = A1.m := fun q hq => by
    rcases hq with q1 | q1 | q1 | q1 | q1 | q1 | ⟨i, hi, _⟩
    · exact .inl (by omega)
    · exact .inl (by omega)
    · exact .inl (by omega)
    · exact .inl (by omega)
    · exact .inr (.inl q1)
    · exact .inr (.inr q1)
    · cases hi
  have h3' : Sto w3 s' m' (nu sz cap) := h2'.fr ht1.fr (fun q hq => hdd hs' hm' q hq)
  refine ⟨A1, rfl, b3, ?_⟩
  have hht1 : ad1.height = k1 * sz := by rw [ht1.height, hh, Nat.zero_add]
  refine (New_ok ht1.are h3' (hdd hs' hm') sz k2 hcl hk2 hk2' ht1.gn ht1.live (by rw [hht1, ht1.sz, hN]; omega) (by rw [ht1.ops]; show 0 + k1 < 900000; omega) rfl (by show (-1 : Int) < 0; decide)).mono ?_
  rintro e w4 ⟨A2, ad2, rfl, rfl, hAa, rfl, hlay2, ht2, hp2, hfb2, hsm2, hbm2⟩
  have hf2 : ∀ q, foot A2 (nwd k2 ad1.height sz (nu sz cap)) q → w3.heap.size ≤ q ∨ q = A2.s ∨ q = A2.m := fun q hq => by
    rcases hq with q1 | q1 | q1 | q1 | q1 | q1 | ⟨i, hi, _⟩
    · exact .inl (by omega)
    · exact .inl (by omega)
    · exact .inl (by omega)
    · exact .inl (by omega)
    · exact .inr (.inl q1)
    · exact .inr (.inr q1)
    · cases hi
  have hs12 := b2.size
  have hs23 := ht1.fr.size
  have hm2 : ∀ q, ad2.mine A1.a bb rm gm q → arb A1.a bb rm gm q := fun q hq => by
    rcases hq with q1 | q1 | q1 | q1 | ⟨c', hc', _⟩
    · exact .inl q1
    · exact .inr (.inl q1)
    · exact .inr (.inr (.inl q1))
    · exact .inr (.inr (.inr q1))
    · exact absurd (ht2.gn c') hc'
  have hsf : ∀ q, arb A1.a bb rm gm q → ¬ foot A1 (nwd k1 (nuA N).height sz (nu sz cap)) q := fun q hq hq' => by
    have := hlt4 q hq
    rcases hf1 q hq' with e | e | e
    · omega
    · omega
    · omega
  have hsf2 : ∀ q, arb A1.a bb rm gm q → ¬ foot A2 (nwd k2 ad1.height sz (nu sz cap)) q := fun q hq hq' => by
    have := hlt4 q hq
    rcases hf2 q hq' with e | e | e
    · omega
    · omega
    · omega
  have b4 : Below w0.heap.size w0 w4 := ht2.fr.below b3 b3.size h4w0
  have hml : ad2.mem.length = N := by rw [ht2.are.len, ht2.sz, ht1.sz, hN]
  refine ⟨A2, rfl, ⟨_, _, ad2, [], [], ⟨hlay1.fr ht2.fr (fun q hq hq' => hsf q hq' hq), ht2.are, fun q hq => hsf q (hm2 q hq), nwd_pi (Nat.le_refl sz) (by rw [hh, hml]; omega)⟩, ⟨hlay2, by rw [hAa]; exact ht2.are, fun q hq => hsf2 q (hm2 q (by rw [hAa] at hq; exact hq)), nwd_pi (Nat.le_refl sz) (by rw [hht1, hml]; omega)⟩,
    ⟨Nat.le_refl _, rfl, rfl, rfl, Nat.le_refl _⟩, ⟨Nat.le_refl _, rfl, rfl, rfl, Nat.le_refl _⟩, fun q hq => ⟨?_, fun x => x, fun hq2 => ?_⟩, fun q hq => ⟨?_, fun x => x⟩, fun q hq => ⟨h4w0 q (hm2 q hq), fun x => x⟩, fun i j hi hj => .inl ?_⟩, hAa, b4, fun q hq => hq.elim⟩
  · have := b1.size
    rcases hf1 q hq with e | e | e <;> omega
  · have hlt := hlay1.flt hq
    rcases hf2 q hq2 with e | e | e
    · omega
    · rcases hf1 q hq with e' | e' | e'
      · have := h2'.lt; omega
      · exact hne.1 (e'.symm.trans e)
      · exact hne.2.2.1 (e'.symm.trans e)
    · rcases hf1 q hq with e' | e' | e'
      · have := h2'.mlt (k := A2.m) (.inr (.inl rfl)); omega
      · exact hne.2.1 (e'.symm.trans e)
      · exact hne.2.2.2 (e'.symm.trans e)
  · have := b1.size
    rcases hf2 q hq with e | e | e <;> omega
  · show (nuA N).height + i * sz + sz ≤ ad1.height + j * sz
    rw [hh, hht1]
    have : (i + 1) * sz ≤ k1 * sz := Nat.mul_le_mul_right sz hi
    rw [Nat.add_mul, Nat.one_mul] at this
    omega
end
end Go.Proofs.Ytlnffcledpccjaa
