/-
  Fit's parts: what they are told to answer.
-/
import Derived.Test.YtackompihengfaaX5
import Derived.Test.YtackompihengfaaX3
import Derived.Test.YtackompihengfaaGf
import Derived.Test.YtackompihengfaaX2
import Derived.BigQuiet
import Derived.Deep.RegionHeld3
import Derived.Carry
import Derived.Test.YtackompihengfaaHa
namespace Go.Proofs.Ytackompihengfaa
open Go.RowKit Go.PlainAid
set_option linter.unusedVariables false
set_option linter.unusedSimpArgs false
theorem pick_ {α : Type} [Inhabited α] {n : Nat} {P : Nat → α → Prop} (h : ∀ i, i < n → ∃ a, P i a) : ∃ f : Nat → α, ∀ i, i < n → P i (f i) := by
  have h2 : ∀ i, ∃ a, i < n → P i a := fun i => by
    by_cases hi : i < n
    · obtain ⟨a, ha⟩ := h i hi
      exact ⟨a, fun _ => ha⟩
    · exact ⟨default, fun q => absurd q hi⟩
  exact ⟨fun i => Classical.choose (h2 i), fun i hi => Classical.choose_spec (h2 i) hi⟩
def lsE (most : Int) (n : Nat) (E : Nat → Int) : Int := if most < (n : Int) then 15 else firstE E n 0
def sgE (x : SigT) : Int := if tyB x.P && tyB x.R then 0 else 5
def imE (n0 : Nat) (x : ImpT) : Int := if !(nmB x.mo && nmB x.nm) then 16 else if decide (0 ≤ x.sg) && decide (x.sg < (n0 : Int)) then 0 else 2
def fuE (n0 : Nat) (x : FunT) : Int := if decide (0 ≤ x.sg) && decide (x.sg < (n0 : Int)) then 0 else 2
def liE (x : LimT) : Int := if limB x.mn x.mx 65536 then 0 else 5
def gE (x : GlT) : Int := if glB x.ty x.va then 0 else 5
def taE (tab : Int) : Int := if 1000 < tab then 15 else if -1 ≤ tab then 0 else 2
/-- has an export ahead the same name? -/
def hadB (X : Nat → ExT) (i : Nat) : Bool := (List.range i).any fun k => decide ((X k).nm = (X i).nm)
/-- a module in memory, as it is told -/
structure FtAt (w : World) (g : Nat) (y : Mt) : Prop where
  blk : Blk w g 73 y.cells
  at_ : MtAt w y
  sm : MtSm y
theorem FtAt.below {w w' : World} {g : Nat} {y : Mt} (h : FtAt w g y) (hb : Below w.heap.size w w') : FtAt w' g y := ⟨h.blk.below hb h.blk.lt, h.at_.below hb, h.sm⟩
end Go.Proofs.Ytackompihengfaa
/-
  Fit's part: signatures.
-/
namespace Go.Proofs.Ytackompihengfaa
open Go.RowKit Go.PlainAid
set_option linter.unusedVariables false
set_option linter.unusedSimpArgs false
set_option maxHeartbeats 4000000 in
set_option maxRecDepth 100000 in
theorem part38_ok (y : Mt) (g : Nat) (w : World) (h : FtAt w g y) : Calls Try.prog 38 #[.pointer (some ⟨g, 0, none⟩)] w fun e w' => e = .returned (.int .i64 (lsE 50 y.s0.n (fun i => sgE (y.X0 i)))) ∧ Below w.heap.size w w' := by
  obtain ⟨⟨A0, n0, c0⟩, X0, ⟨A1, n1, c1⟩, X1, ⟨A2, n2, c2⟩, X2, tab, ⟨A4, n4, c4⟩, X4, ⟨A5, n5, c5⟩, X5, ⟨A6, n6, c6⟩, X6, start, ⟨A8, n8, c8⟩, X8, ⟨A9, n9, c9⟩, X9⟩ := y
  obtain ⟨hblk, hat, hsm⟩ := h
  have n0s := hsm.n0
  have n1s := hsm.n1
  have n2s := hsm.n2
  have n4s := hsm.n4
  have n5s := hsm.n5
  have n6s := hsm.n6
  have n8s := hsm.n8
  have n9s := hsm.n9
  have r0 := hat.r0
  unfold Mt.cells Sv.v at hblk
  dsimp only at hblk n0s n1s n2s n4s n5s n6s n8s n9s r0 ⊢
  have y0 : w.cell? ⟨g, 0, none⟩ = some (.slice A0 n0 c0) := hblk.cell 0
  have hgl := hblk.lt
  have hlx := hsm.l0
  dsimp only at hlx
  have hF : ∀ i, i < n0 → ∃ a : Option Addr × Nat × Option Addr × Nat, (∃ b off, A0 = some ⟨b, off, none⟩ ∧ b < w.heap.size ∧ w.cell? ⟨b, off + i * 2, none⟩ = some (.slice a.1 (X0 i).P.length a.2.1) ∧ w.cell? ⟨b, off + i * 2 + 1, none⟩ = some (.slice a.2.2.1 (X0 i).R.length a.2.2.2)) ∧ Byt w a.1 (X0 i).P.length a.2.1 (X0 i).P ∧ Byt w a.2.2.1 (X0 i).R.length a.2.2.2 (X0 i).R := fun i hi => by
    obtain ⟨b, off, e, hb, hx⟩ := r0.2.2 (by omega)
    obtain ⟨A, c, B, d, h1, h2, h3, h4⟩ := hx i hi
    exact ⟨(A, c, B, d), ⟨b, off, e, hb, h1, h2⟩, h3, h4⟩
  obtain ⟨f, hf⟩ := pick_ hF
  have HE : Hid (Calls Try.prog 62 #[.slice A0 n0 c0, .int .i64 50, .func (.func 63) #[] #[]] w fun e w' => e = .returned (.int .i64 (lsE 50 n0 (fun i => sgE (X0 i)))) ∧ Below w.heap.size w w') := Lib.hid (each62_ok A0 n0 c0 (fun i => (f i).1) (fun i => (X0 i).P.length) (fun i => (f i).2.1) (fun i => (f i).2.2.1) (fun i => (X0 i).R.length) (fun i => (f i).2.2.2) (fun i => sgE (X0 i)) 50 w (fun _ W => Below w.heap.size w W) (fun W => Below w.heap.size w W)
    (by omega) r0.1 r0.2.1 (Below.refl _ _) (fun _ W o hW => hW.alloc hW.size o) (fun _ _ hW => hW)
    (fun h0 => by
      obtain ⟨b, off, e, hb, _⟩ := r0.2.2 h0
      refine ⟨b, off, e, fun i W hi hW => ?_⟩
      obtain ⟨b2, off2, e2, _, h1, h2⟩ := (hf i hi).1
      rw [e] at e2
      cases e2
      exact ⟨keepC hW hb h1, keepC hW hb h2⟩)
    (fun i W hi hW => (sigs1_ok _ _ _ _ _ _ _ _ (by have := hlx i hi; first | omega | (dsimp only; omega)) (by have := hlx i hi; first | omega | (dsimp only; omega)) W ((hf i hi).2.1.below hW) ((hf i hi).2.2.below hW)).mono (fun e w' ⟨h1, h2⟩ => ⟨h1, hW.trans (h2.mono hW.size), fun _ => hW.trans (h2.mono hW.size)⟩)))
  clear hblk hat hsm r0 hlx hf
  generalize lsE _ _ _ = r at HE ⊢
  go_enter Try.func38, Try.ntmps38
  go_wp2_with (go_at_call 62; (with_reducible refine HE.out.mono ?_); rintro e w1 ⟨rfl, hb⟩; have HB := Lib.hid hb; clear hb)
  go_ret
  exact ⟨rfl, HB.out⟩
end Go.Proofs.Ytackompihengfaa
/-
  Fit's part: imports.
-/
namespace Go.Proofs.Ytackompihengfaa
open Go.RowKit Go.PlainAid
set_option linter.unusedVariables false
set_option linter.unusedSimpArgs false
set_option maxHeartbeats 4000000 in
set_option maxRecDepth 100000 in
theorem part39_ok (y : Mt) (g : Nat) (w : World) (h : FtAt w g y) : Calls Try.prog 39 #[.pointer (some ⟨g, 0, none⟩)] w fun e w' => e = .returned (.int .i64 (lsE 20 y.s1.n (fun i => imE y.s0.n (y.X1 i)))) ∧ Below w.heap.size w w' := by
  obtain ⟨⟨A0, n0, c0⟩, X0, ⟨A1, n1, c1⟩, X1, ⟨A2, n2, c2⟩, X2, tab, ⟨A4, n4, c4⟩, X4, ⟨A5, n5, c5⟩, X5, ⟨A6, n6, c6⟩, X6, start, ⟨A8, n8, c8⟩, X8, ⟨A9, n9, c9⟩, X9⟩ := y
  obtain ⟨hblk, hat, hsm⟩ := h
  have n0s := hsm.n0
  have n1s := hsm.n1
  have n2s := hsm.n2
  have n4s := hsm.n4
  have n5s := hsm.n5
  have n6s := hsm.n6
  have n8s := hsm.n8
  have n9s := hsm.n9
  have r1 := hat.r1
  unfold Mt.cells Sv.v at hblk
  dsimp only at hblk n0s n1s n2s n4s n5s n6s n8s n9s r1 ⊢
  have y0 : w.cell? ⟨g, 0, none⟩ = some (.slice A0 n0 c0) := hblk.cell 0
  have y1 : w.cell? ⟨g, 1, none⟩ = some (.slice A1 n1 c1) := hblk.cell 1
  have hgl := hblk.lt
  obtain ⟨W1, hW⟩ : ∃ V, V = w.alloc (.cells #[.pointer (some ⟨g, 0, none⟩)] 34) := ⟨_, rfl⟩
  obtain ⟨p, hp⟩ : ∃ p, p = w.heap.size := ⟨_, rfl⟩
  have hbl : Below w.heap.size w W1 := by rw [hW]; exact (Below.refl _ _).alloc (Nat.le_refl _) _
  have yp : W1.cell? ⟨p, 0, none⟩ = some (.pointer (some ⟨g, 0, none⟩)) := by rw [hW, hp]; exact (Blk.new w 34 _).cell 0
  have hpl : p < W1.heap.size := by rw [hW, hp, World.size_alloc]; omega
  have hgl1 : g < W1.heap.size := Nat.lt_of_lt_of_le hgl hbl.size
  have z0 : W1.cell? ⟨g, 0, none⟩ = some (.slice A0 n0 c0) := keepC hbl hgl y0
  have z1 : W1.cell? ⟨g, 1, none⟩ = some (.slice A1 n1 c1) := keepC hbl hgl y1
  have hlx := hsm.l1
  dsimp only at hlx
  have r1b := r1.below imp_stay hbl
  have HE : Hid (Calls Try.prog 66 #[.slice A1 n1 c1, .int .i64 20, .func (.func 67) #[] #[.pointer (some ⟨p, 0, none⟩)]] W1 fun e w' => e = .returned (.int .i64 (lsE 20 n1 (fun i => imE n0 (X1 i)))) ∧ Below W1.heap.size W1 w') := Lib.hid (each66_ok A1 n1 c1 (fun i => (X1 i).mo) (fun i => (X1 i).nm) (fun i => (X1 i).sg) (fun i => imE n0 (X1 i)) 20 p W1 (fun _ W => Below W1.heap.size W1 W) (fun W => Below W1.heap.size W1 W)
    (by omega) r1.1 r1.2.1 (Below.refl _ _) (fun _ W o hW => hW.alloc hW.size o) (fun _ _ hW => hW)
    (fun h0 => by
      obtain ⟨b, off, e, hb, hx⟩ := r1b.2.2 h0
      exact ⟨b, off, e, fun i W hi hW => ⟨keepC hW hb (hx i hi).1, keepC hW hb (hx i hi).2.1, keepC hW hb (hx i hi).2.2⟩⟩)
    (fun i W hi hW => (imports1_ok _ _ _ p g A0 n0 c0 (by have := hlx i hi; first | omega | (dsimp only; omega)) (by have := hlx i hi; first | omega | (dsimp only; omega)) (by omega) W (keepC hW hpl yp) (Nat.lt_of_lt_of_le hpl hW.size) (keepC hW hgl1 z0) (Nat.lt_of_lt_of_le hgl1 hW.size)).mono (fun e w' ⟨h1, h2⟩ => ⟨h1, hW.trans (h2.mono hW.size), fun _ => hW.trans (h2.mono hW.size)⟩)))
  have HBL := Lib.hid hbl
  have HW := Lib.hid hW
  have HP := Lib.hid hp
  have hc1 : n1 ≤ c1 := r1.1
  have hc1m := r1.2.1
  unfold maxLen at hc1m
  clear hblk hat hsm r1 r1b hlx hbl hW hp y0 y1
  generalize lsE _ _ _ = r at HE ⊢
  go_enter Try.func39, Try.ntmps39
  go_upto_region 1 with fail
  rw [← HW.out, ← HP.out]
  go_wp2_with (go_at_call 66; (with_reducible refine HE.out.mono ?_); rintro e w1 ⟨rfl, hb⟩; have HB := Lib.hid hb; clear hb)
  go_ret
  exact ⟨rfl, HBL.out.trans (HB.out.mono HBL.out.size)⟩
end Go.Proofs.Ytackompihengfaa
/-
  Fit's part: functions.
-/
namespace Go.Proofs.Ytackompihengfaa
open Go.RowKit Go.PlainAid
set_option linter.unusedVariables false
set_option linter.unusedSimpArgs false
set_option maxHeartbeats 4000000 in
set_option maxRecDepth 100000 in
theorem part40_ok (y : Mt) (g : Nat) (w : World) (h : FtAt w g y) : Calls Try.prog 40 #[.pointer (some ⟨g, 0, none⟩)] w fun e w' => e = .returned (.int .i64 (lsE (100 - (y.s1.n : Int)) y.s2.n (fun i => fuE y.s0.n (y.X2 i)))) ∧ Below w.heap.size w w' := by
  obtain ⟨⟨A0, n0, c0⟩, X0, ⟨A1, n1, c1⟩, X1, ⟨A2, n2, c2⟩, X2, tab, ⟨A4, n4, c4⟩, X4, ⟨A5, n5, c5⟩, X5, ⟨A6, n6, c6⟩, X6, start, ⟨A8, n8, c8⟩, X8, ⟨A9, n9, c9⟩, X9⟩ := y
  obtain ⟨hblk, hat, hsm⟩ := h
  have n0s := hsm.n0
  have n1s := hsm.n1
  have n2s := hsm.n2
  have n4s := hsm.n4
  have n5s := hsm.n5
  have n6s := hsm.n6
  have n8s := hsm.n8
  have n9s := hsm.n9
  have r1 := hat.r1
  have r2 := hat.r2
  unfold Mt.cells Sv.v at hblk
  dsimp only at hblk n0s n1s n2s n4s n5s n6s n8s n9s r1 r2 ⊢
  have y0 : w.cell? ⟨g, 0, none⟩ = some (.slice A0 n0 c0) := hblk.cell 0
  have y1 : w.cell? ⟨g, 1, none⟩ = some (.slice A1 n1 c1) := hblk.cell 1
  have y2 : w.cell? ⟨g, 2, none⟩ = some (.slice A2 n2 c2) := hblk.cell 2
  have hgl := hblk.lt
  obtain ⟨W1, hW⟩ : ∃ V, V = w.alloc (.cells #[.pointer (some ⟨g, 0, none⟩)] 34) := ⟨_, rfl⟩
  obtain ⟨p, hp⟩ : ∃ p, p = w.heap.size := ⟨_, rfl⟩
  have hbl : Below w.heap.size w W1 := by rw [hW]; exact (Below.refl _ _).alloc (Nat.le_refl _) _
  have yp : W1.cell? ⟨p, 0, none⟩ = some (.pointer (some ⟨g, 0, none⟩)) := by rw [hW, hp]; exact (Blk.new w 34 _).cell 0
  have hpl : p < W1.heap.size := by rw [hW, hp, World.size_alloc]; omega
  have hgl1 : g < W1.heap.size := Nat.lt_of_lt_of_le hgl hbl.size
  have z0 : W1.cell? ⟨g, 0, none⟩ = some (.slice A0 n0 c0) := keepC hbl hgl y0
  have z1 : W1.cell? ⟨g, 1, none⟩ = some (.slice A1 n1 c1) := keepC hbl hgl y1
  have z2 : W1.cell? ⟨g, 2, none⟩ = some (.slice A2 n2 c2) := keepC hbl hgl y2
  have hlx := hsm.l2
  dsimp only at hlx
  have r2b := r2.below fun_stay hbl
  have hF : ∀ i, i < n2 → ∃ a : Option Addr × Nat × Option Addr × Nat, (∃ b off, A2 = some ⟨b, off, none⟩ ∧ b < W1.heap.size ∧ W1.cell? ⟨b, off + i * 3, none⟩ = some (.int .i64 (X2 i).sg) ∧ W1.cell? ⟨b, off + i * 3 + 1, none⟩ = some (.slice a.1 (X2 i).lc.length a.2.1) ∧ W1.cell? ⟨b, off + i * 3 + 2, none⟩ = some (.slice a.2.2.1 (X2 i).m a.2.2.2)) ∧ ((X2 i).lc.length ≤ a.2.1 ∧ a.2.1 ≤ 9223372036854775807) ∧ ((X2 i).m ≤ a.2.2.2 ∧ a.2.2.2 ≤ 9223372036854775807) := fun i hi => by
    obtain ⟨b, off, e, hb, hx⟩ := r2b.2.2 (by omega)
    obtain ⟨A, c, B, d, h1, h2, h3, h4, h5⟩ := hx i hi
    exact ⟨(A, c, B, d), ⟨b, off, e, hb, h1, h2, h3⟩, ⟨h4.2.2.1, by have := h4.2.2.2.1; unfold maxLen at this; dsimp only; omega⟩, ⟨h5.1, by have := h5.2.1; unfold maxLen at this; dsimp only; omega⟩⟩
  obtain ⟨f, hf⟩ := pick_ hF
  have HE0 : Hid (∀ (V : World), Below W1.heap.size W1 V → Calls Try.prog 68 #[.slice A2 n2 c2, .int .i64 (100 - (n1 : Int)), .func (.func 69) #[] #[.pointer (some ⟨p, 0, none⟩)]] V fun e w' => e = .returned (.int .i64 (lsE (100 - (n1 : Int)) n2 (fun i => fuE n0 (X2 i)))) ∧ Below W1.heap.size W1 w') := Lib.hid (fun (V : World) (hV : Below W1.heap.size W1 V) => each68_ok A2 n2 c2 (fun i => (X2 i).sg) (fun i => (f i).1) (fun i => (X2 i).lc.length) (fun i => (f i).2.1) (fun i => (f i).2.2.1) (fun i => (X2 i).m) (fun i => (f i).2.2.2) (fun i => fuE n0 (X2 i)) (100 - (n1 : Int)) p V (fun _ W => Below W1.heap.size W1 W) (fun W => Below W1.heap.size W1 W)
    (by omega) r2.1 r2.2.1 hV (fun _ W o hW => hW.alloc hW.size o) (fun _ _ hW => hW)
    (fun h0 => by
      obtain ⟨b, off, e, hb, _⟩ := r2b.2.2 h0
      refine ⟨b, off, e, fun i W hi hW => ?_⟩
      obtain ⟨b2, off2, e2, _, h1, h2, h3⟩ := (hf i hi).1
      rw [e] at e2
      cases e2
      exact ⟨keepC hW hb h1, keepC hW hb h2, keepC hW hb h3⟩)
    (fun i W hi hW => (funcs1_ok _ _ _ _ _ _ _ p g A0 n0 c0 (hf i hi).2.1.1 (hf i hi).2.1.2 (hf i hi).2.2.1 (hf i hi).2.2.2 (by omega) W (keepC hW hpl yp) (Nat.lt_of_lt_of_le hpl hW.size) (keepC hW hgl1 z0) (Nat.lt_of_lt_of_le hgl1 hW.size)).mono (fun e w' ⟨h1, h2⟩ => ⟨h1, hW.trans (h2.mono hW.size), fun _ => hW.trans (h2.mono hW.size)⟩)))
  have HE := Lib.hid (HE0.out W1.drew (below_drew (Below.refl _ _)))
  generalize lsE _ _ _ = r at HE ⊢
  have hwr : IntKind.i64.wrap (100 - (n1 : Int)) = 100 - (n1 : Int) := by rw [IntKind.wrap_i64]; omega
  rw [← hwr] at HE
  have HKS := Lib.hid (fun V (hV : Below W1.heap.size W1 V) => (⟨keepC hV hpl yp, keepC hV hgl1 z1, keepC hV hgl1 z2⟩ : V.cell? ⟨p, 0, none⟩ = some (.pointer (some ⟨g, 0, none⟩)) ∧ V.cell? ⟨g, 1, none⟩ = some (.slice A1 n1 c1) ∧ V.cell? ⟨g, 2, none⟩ = some (.slice A2 n2 c2)))
  have HBL := Lib.hid hbl
  have HW := Lib.hid hW
  have HP := Lib.hid hp
  have hc1 : n1 ≤ c1 := r1.1
  have hc1m := r1.2.1
  have hc2 : n2 ≤ c2 := r2.1
  have hc2m := r2.2.1
  unfold maxLen at hc1m hc2m
  have HWR := Lib.hid hwr
  clear hblk hat hsm r1 r2 r2b hlx hbl hW hp y0 y1 y2 hf HE0 hwr
  go_enter Try.func40, Try.ntmps40
  go_upto_region 1 with fail
  rw [← HW.out, ← HP.out]
  refine wp_region_noPanic ?_
  refine wp_region_held_drew (S := (fun W => W.cell? ⟨p, 0, none⟩ = some (.pointer (some ⟨g, 0, none⟩)) ∧ W.cell? ⟨g, 1, none⟩ = some (.slice A1 n1 c1) ∧ W.cell? ⟨g, 2, none⟩ = some (.slice A2 n2 c2))) (by kernel_rfl) ⟨yp, z1, z2⟩ (fun hHeld => ?_)
  refine wpAnyH_take (i := 0) (oi := ?oi_21) (v := ?_) ?hi_21 (by kernel_rfl) ?hf_21 (by kernel_rfl) ?hQ_21 ?hy_21 (by assumption) ?_
  case hi_21 => simp only [List.getElem?_toArray, List.getElem?_cons_zero, List.getElem?_cons_succ]; try rfl
  case hf_21 => kernel_rfl
  case hQ_21 => exact fun _ _ _ h => h
  case hy_21 =>
    refine Or.inl ⟨by rfl, ?_⟩
    intro W hSw
    obtain ⟨q0, q1, q2⟩ := hSw
    go_simp
    try with_reducible rfl
  try simp only [Act.put, List.setIfInBounds_toArray, List.set_cons_zero, List.set_cons_succ]
  refine wpAnyH_take (i := 1) (oi := ?oi_22) (v := ?_) ?hi_22 (by kernel_rfl) ?hf_22 (by kernel_rfl) ?hQ_22 ?hy_22 (by assumption) ?_
  case hi_22 => simp only [List.getElem?_toArray, List.getElem?_cons_zero, List.getElem?_cons_succ]; try rfl
  case hf_22 => kernel_rfl
  case hQ_22 => exact fun _ _ _ h => h
  case hy_22 =>
    refine Or.inl ⟨by rfl, ?_⟩
    intro W hSw
    obtain ⟨q0, q1, q2⟩ := hSw
    go_simp
    try with_reducible rfl
  try simp only [Act.put, List.setIfInBounds_toArray, List.set_cons_zero, List.set_cons_succ]
  refine wpAnyH_take (i := 2) (oi := ?oi_23) (v := ?_) ?hi_23 (by kernel_rfl) ?hf_23 (by kernel_rfl) ?hQ_23 ?hy_23 (by assumption) ?_
  case hi_23 => simp only [List.getElem?_toArray, List.getElem?_cons_zero, List.getElem?_cons_succ]; try rfl
  case hf_23 => kernel_rfl
  case hQ_23 => exact fun _ _ _ h => h
  case hy_23 =>
    refine Or.inl ⟨by rfl, ?_⟩
    intro W hSw
    obtain ⟨q0, q1, q2⟩ := hSw
    go_simp
    try with_reducible rfl
  try simp only [Act.put, List.setIfInBounds_toArray, List.set_cons_zero, List.set_cons_succ]
  refine wpAnyH_take (i := 3) (oi := ?oi_24) (v := ?_) ?hi_24 (by kernel_rfl) ?hf_24 (by kernel_rfl) ?hQ_24 ?hy_24 (by assumption) ?_
  case hi_24 => simp only [List.getElem?_toArray, List.getElem?_cons_zero, List.getElem?_cons_succ]; try rfl
  case hf_24 => kernel_rfl
  case hQ_24 => exact fun _ _ _ h => h
  case hy_24 =>
    refine Or.inl ⟨by rfl, ?_⟩
    intro W hSw
    obtain ⟨q0, q1, q2⟩ := hSw
    go_simp
    try with_reducible rfl
  try simp only [Act.put, List.setIfInBounds_toArray, List.set_cons_zero, List.set_cons_succ]
  refine wpAnyH_take (i := 4) (oi := ?oi_25) (v := ?_) ?hi_25 (by kernel_rfl) ?hf_25 (by kernel_rfl) ?hQ_25 ?hy_25 (by assumption) ?_
  case hi_25 => simp only [List.getElem?_toArray, List.getElem?_cons_zero, List.getElem?_cons_succ]; try rfl
  case hf_25 => kernel_rfl
  case hQ_25 => exact fun _ _ _ h => h
  case hy_25 =>
    refine Or.inl ⟨by rfl, ?_⟩
    intro W hSw
    obtain ⟨q0, q1, q2⟩ := hSw
    go_simp
    try with_reducible rfl
  try simp only [Act.put, List.setIfInBounds_toArray, List.set_cons_zero, List.set_cons_succ]
  refine wpAnyH_take (i := 5) (oi := ?oi_26) (v := ?_) ?hi_26 (by kernel_rfl) ?hf_26 (by kernel_rfl) ?hQ_26 ?hy_26 (by assumption) ?_
  case hi_26 => simp only [List.getElem?_toArray, List.getElem?_cons_zero, List.getElem?_cons_succ]; try rfl
  case hf_26 => kernel_rfl
  case hQ_26 => exact fun _ _ _ h => h
  case hy_26 =>
    refine Or.inl ⟨by rfl, ?_⟩
    intro W hSw
    obtain ⟨q0, q1, q2⟩ := hSw
    go_simp
    try with_reducible rfl
  try simp only [Act.put, List.setIfInBounds_toArray, List.set_cons_zero, List.set_cons_succ]
  refine wpAnyH_take (i := 6) (oi := ?oi_27) (v := ?_) ?hi_27 (by kernel_rfl) ?hf_27 (by kernel_rfl) ?hQ_27 ?hy_27 (by assumption) ?_
  case hi_27 => simp only [List.getElem?_toArray, List.getElem?_cons_zero, List.getElem?_cons_succ]; try rfl
  case hf_27 => kernel_rfl
  case hQ_27 => exact fun _ _ _ h => h
  case hy_27 =>
    refine Or.inl ⟨by rfl, ?_⟩
    intro W hSw
    obtain ⟨q0, q1, q2⟩ := hSw
    go_simp
    try with_reducible rfl
  try simp only [Act.put, List.setIfInBounds_toArray, List.set_cons_zero, List.set_cons_succ]
  refine wpAnyH_take (i := 7) (oi := ?oi_28) (v := ?_) ?hi_28 (by kernel_rfl) ?hf_28 (by kernel_rfl) ?hQ_28 ?hy_28 (by assumption) ?_
  case hi_28 => simp only [List.getElem?_toArray, List.getElem?_cons_zero, List.getElem?_cons_succ]; try rfl
  case hf_28 => kernel_rfl
  case hQ_28 => exact fun _ _ _ h => h
  case hy_28 =>
    refine Or.inl ⟨by rfl, ?_⟩
    intro W hSw
    obtain ⟨q0, q1, q2⟩ := hSw
    go_simp
    try with_reducible rfl
  try simp only [Act.put, List.setIfInBounds_toArray, List.set_cons_zero, List.set_cons_succ]
  refine wpAnyH_take (i := 8) (oi := ?oi_29) (v := ?_) ?hi_29 (by kernel_rfl) ?hf_29 (by kernel_rfl) ?hQ_29 ?hy_29 (by assumption) ?_
  case hi_29 => simp only [List.getElem?_toArray, List.getElem?_cons_zero, List.getElem?_cons_succ]; try rfl
  case hf_29 => kernel_rfl
  case hQ_29 => exact fun _ _ _ h => h
  case hy_29 =>
    refine Or.inl ⟨by rfl, ?_⟩
    intro W hSw
    obtain ⟨q0, q1, q2⟩ := hSw
    go_simp
    try with_reducible rfl
  try simp only [Act.put, List.setIfInBounds_toArray, List.set_cons_zero, List.set_cons_succ]
  refine wpAnyH_take (i := 9) (oi := ?oi_30) (v := ?_) ?hi_30 (by kernel_rfl) ?hf_30 (by kernel_rfl) ?hQ_30 ?hy_30 (by assumption) ?_
  case hi_30 => simp only [List.getElem?_toArray, List.getElem?_cons_zero, List.getElem?_cons_succ]; try rfl
  case hf_30 => kernel_rfl
  case hQ_30 => exact fun _ _ _ h => h
  case hy_30 =>
    refine Or.inl ⟨by rfl, ?_⟩
    intro W hSw
    obtain ⟨q0, q1, q2⟩ := hSw
    go_simp
    try with_reducible rfl
  try simp only [Act.put, List.setIfInBounds_toArray, List.set_cons_zero, List.set_cons_succ]
  refine wpAnyH_take (i := 10) (oi := ?oi_31) (v := ?_) ?hi_31 (by kernel_rfl) ?hf_31 (by kernel_rfl) ?hQ_31 ?hy_31 (by assumption) ?_
  case hi_31 => simp only [List.getElem?_toArray, List.getElem?_cons_zero, List.getElem?_cons_succ]; try rfl
  case hf_31 => kernel_rfl
  case hQ_31 => exact fun _ _ _ h => h
  case hy_31 =>
    refine Or.inl ⟨by rfl, ?_⟩
    intro W hSw
    obtain ⟨q0, q1, q2⟩ := hSw
    go_simp
    try with_reducible rfl
  try simp only [Act.put, List.setIfInBounds_toArray, List.set_cons_zero, List.set_cons_succ]
  refine wpAnyH_ready (rs := [11]) (by kernel_rfl) (by simp) ?_
  refine AllReadyH.cons (o := ?oi_32) ?hi_32 (fun K hK => ?_) AllReadyH.nil
  case hi_32 => simp only [List.getElem?_toArray, List.getElem?_cons_zero, List.getElem?_cons_succ]; try rfl
  go_simp
  (go_at_call 68
   (with_reducible refine HE.out.mono ?_)
   rintro e w3 ⟨rfl, hb⟩
   have HB := Lib.hid hb
   have hk3 := HKS.out _ hb
   clear hb)
  refine hK.out _ _ hk3 (fun hHeld => ?_)
  clear hK K
  try simp only [Act.put, List.setIfInBounds_toArray, List.set_cons_zero, List.set_cons_succ]
  refine wpAnyH_take (i := 12) (oi := ?oi_33) (v := ?_) ?hi_33 (by kernel_rfl) ?hf_33 (by kernel_rfl) ?hQ_33 ?hy_33 (by assumption) ?_
  case hi_33 => simp only [List.getElem?_toArray, List.getElem?_cons_zero, List.getElem?_cons_succ]; try rfl
  case hf_33 => kernel_rfl
  case hQ_33 => exact fun _ _ _ h => h
  case hy_33 =>
    refine Or.inl ⟨by rfl, ?_⟩
    intro W hSw
    obtain ⟨q0, q1, q2⟩ := hSw
    go_simp
    try with_reducible rfl
  try simp only [Act.put, List.setIfInBounds_toArray, List.set_cons_zero, List.set_cons_succ]
  refine wpAnyH_done (by kernel_rfl) ?_ _
  refine NoPanic.normal ?_
  clear hHeld
  go_wp2
  go_ret
  exact ⟨rfl, HBL.out.trans (HB.out.mono HBL.out.size)⟩
end Go.Proofs.Ytackompihengfaa
/-
  Fit's part: the table.
-/
namespace Go.Proofs.Ytackompihengfaa
open Go.RowKit Go.PlainAid
set_option linter.unusedVariables false
set_option linter.unusedSimpArgs false
set_option maxHeartbeats 4000000 in
set_option maxRecDepth 100000 in
theorem part41_ok (y : Mt) (g : Nat) (w : World) (h : FtAt w g y) : Calls Try.prog 41 #[.pointer (some ⟨g, 0, none⟩)] w fun e w' => e = .returned (.int .i64 (taE y.tab)) ∧ Below w.heap.size w w' := by
  obtain ⟨⟨A0, n0, c0⟩, X0, ⟨A1, n1, c1⟩, X1, ⟨A2, n2, c2⟩, X2, tab, ⟨A4, n4, c4⟩, X4, ⟨A5, n5, c5⟩, X5, ⟨A6, n6, c6⟩, X6, start, ⟨A8, n8, c8⟩, X8, ⟨A9, n9, c9⟩, X9⟩ := y
  obtain ⟨hblk, hat, hsm⟩ := h
  have n0s := hsm.n0
  have n1s := hsm.n1
  have n2s := hsm.n2
  have n4s := hsm.n4
  have n5s := hsm.n5
  have n6s := hsm.n6
  have n8s := hsm.n8
  have n9s := hsm.n9
  unfold Mt.cells Sv.v at hblk
  dsimp only at hblk n0s n1s n2s n4s n5s n6s n8s n9s  ⊢
  have y3 : w.cell? ⟨g, 3, none⟩ = some (.int .i64 tab) := hblk.cell 3
  have hgl := hblk.lt
  clear hblk hat hsm
  unfold taE
  by_cases h1 : 1000 < tab
  · rw [if_pos h1]
    go_enter Try.func41, Try.ntmps41
    go_wp2
    go_ret
    exact ⟨rfl, Below.refl _ _⟩
  · rw [if_neg h1]
    by_cases h2 : -1 ≤ tab
    · rw [if_pos h2]
      have H64 := Lib.hid (fun W => unless_any true 2 W)
      have h3 : decide (-1 ≤ tab) = true := by simp [h2]
      go_enter Try.func41, Try.ntmps41
      go_wp2_with (go_at_call 64; (with_reducible refine (H64.out _).mono ?_); rintro e w1 ⟨rfl, rfl⟩)
      go_ret
      exact ⟨rfl, Below.refl _ _⟩
    · rw [if_neg h2]
      have H64 := Lib.hid (fun W => unless_any false 2 W)
      have h3 : decide (-1 ≤ tab) = false := by simp; omega
      go_enter Try.func41, Try.ntmps41
      go_wp2_with (go_at_call 64; (with_reducible refine (H64.out _).mono ?_); rintro e w1 ⟨rfl, rfl⟩)
      go_ret
      exact ⟨rfl, Below.refl _ _⟩
end Go.Proofs.Ytackompihengfaa
/-
  Fit's part: memories.
-/
namespace Go.Proofs.Ytackompihengfaa
open Go.RowKit Go.PlainAid
set_option linter.unusedVariables false
set_option linter.unusedSimpArgs false
set_option maxHeartbeats 4000000 in
set_option maxRecDepth 100000 in
theorem part42_ok (y : Mt) (g : Nat) (w : World) (h : FtAt w g y) : Calls Try.prog 42 #[.pointer (some ⟨g, 0, none⟩)] w fun e w' => e = .returned (.int .i64 (lsE 4 y.s4.n (fun i => liE (y.X4 i)))) ∧ Below w.heap.size w w' := by
  obtain ⟨⟨A0, n0, c0⟩, X0, ⟨A1, n1, c1⟩, X1, ⟨A2, n2, c2⟩, X2, tab, ⟨A4, n4, c4⟩, X4, ⟨A5, n5, c5⟩, X5, ⟨A6, n6, c6⟩, X6, start, ⟨A8, n8, c8⟩, X8, ⟨A9, n9, c9⟩, X9⟩ := y
  obtain ⟨hblk, hat, hsm⟩ := h
  have n0s := hsm.n0
  have n1s := hsm.n1
  have n2s := hsm.n2
  have n4s := hsm.n4
  have n5s := hsm.n5
  have n6s := hsm.n6
  have n8s := hsm.n8
  have n9s := hsm.n9
  have r4 := hat.r4
  unfold Mt.cells Sv.v at hblk
  dsimp only at hblk n0s n1s n2s n4s n5s n6s n8s n9s r4 ⊢
  have y4 : w.cell? ⟨g, 4, none⟩ = some (.slice A4 n4 c4) := hblk.cell 4
  have hgl := hblk.lt
  have HE : Hid (Calls Try.prog 70 #[.slice A4 n4 c4, .int .i64 4, .func (.func 71) #[] #[]] w fun e w' => e = .returned (.int .i64 (lsE 4 n4 (fun i => liE (X4 i)))) ∧ Below w.heap.size w w') := Lib.hid (each70_ok A4 n4 c4 (fun i => (X4 i).mn) (fun i => (X4 i).mx) (fun i => (X4 i).wd) (fun i => liE (X4 i)) 4 w (fun _ W => Below w.heap.size w W) (fun W => Below w.heap.size w W)
    (by omega) r4.1 r4.2.1 (Below.refl _ _) (fun _ W o hW => hW.alloc hW.size o) (fun _ _ hW => hW)
    (fun h0 => by
      obtain ⟨b, off, e, hb, hx⟩ := r4.2.2 h0
      exact ⟨b, off, e, fun i W hi hW => ⟨keepC hW hb (hx i hi).1, keepC hW hb (hx i hi).2.1, keepC hW hb (hx i hi).2.2⟩⟩)
    (fun i W hi hW => (mems1_ok _ _ _ W).mono (fun e w' ⟨h1, h2⟩ => ⟨h1, hW.trans (h2.mono hW.size), fun _ => hW.trans (h2.mono hW.size)⟩)))
  clear hblk hat hsm r4
  generalize lsE _ _ _ = r at HE ⊢
  go_enter Try.func42, Try.ntmps42
  go_wp2_with (go_at_call 70; (with_reducible refine HE.out.mono ?_); rintro e w1 ⟨rfl, hb⟩; have HB := Lib.hid hb; clear hb)
  go_ret
  exact ⟨rfl, HB.out⟩
end Go.Proofs.Ytackompihengfaa
/-
  Fit's part: globals.
-/
namespace Go.Proofs.Ytackompihengfaa
open Go.RowKit Go.PlainAid
set_option linter.unusedVariables false
set_option linter.unusedSimpArgs false
set_option maxHeartbeats 4000000 in
set_option maxRecDepth 100000 in
theorem part43_ok (y : Mt) (g : Nat) (w : World) (h : FtAt w g y) : Calls Try.prog 43 #[.pointer (some ⟨g, 0, none⟩)] w fun e w' => e = .returned (.int .i64 (lsE 50 y.s5.n (fun i => gE (y.X5 i)))) ∧ Below w.heap.size w w' := by
  obtain ⟨⟨A0, n0, c0⟩, X0, ⟨A1, n1, c1⟩, X1, ⟨A2, n2, c2⟩, X2, tab, ⟨A4, n4, c4⟩, X4, ⟨A5, n5, c5⟩, X5, ⟨A6, n6, c6⟩, X6, start, ⟨A8, n8, c8⟩, X8, ⟨A9, n9, c9⟩, X9⟩ := y
  obtain ⟨hblk, hat, hsm⟩ := h
  have n0s := hsm.n0
  have n1s := hsm.n1
  have n2s := hsm.n2
  have n4s := hsm.n4
  have n5s := hsm.n5
  have n6s := hsm.n6
  have n8s := hsm.n8
  have n9s := hsm.n9
  have r5 := hat.r5
  unfold Mt.cells Sv.v at hblk
  dsimp only at hblk n0s n1s n2s n4s n5s n6s n8s n9s r5 ⊢
  have y5 : w.cell? ⟨g, 5, none⟩ = some (.slice A5 n5 c5) := hblk.cell 5
  have hgl := hblk.lt
  have HE : Hid (Calls Try.prog 73 #[.slice A5 n5 c5, .int .i64 50, .func (.func 74) #[] #[]] w fun e w' => e = .returned (.int .i64 (lsE 50 n5 (fun i => gE (X5 i)))) ∧ Below w.heap.size w w') := Lib.hid (each73_ok A5 n5 c5 (fun i => ((X5 i).ty : Nat)) (fun i => (X5 i).mu) (fun i => (X5 i).va) (fun i => gE (X5 i)) 50 w (fun _ W => Below w.heap.size w W) (fun W => Below w.heap.size w W)
    (by omega) r5.1 r5.2.1 (Below.refl _ _) (fun _ W o hW => hW.alloc hW.size o) (fun _ _ hW => hW)
    (fun h0 => by
      obtain ⟨b, off, e, hb, hx⟩ := r5.2.2 h0
      exact ⟨b, off, e, fun i W hi hW => ⟨keepC hW hb (hx i hi).1, keepC hW hb (hx i hi).2.1, keepC hW hb (hx i hi).2.2.1⟩⟩)
    (fun i W hi hW => (globals1_ok _ _ _ W).mono (fun e w' ⟨h1, h2⟩ => ⟨h1, hW.trans (h2.mono hW.size), fun _ => hW.trans (h2.mono hW.size)⟩)))
  clear hblk hat hsm r5
  generalize lsE _ _ _ = r at HE ⊢
  go_enter Try.func43, Try.ntmps43
  go_wp2_with (go_at_call 73; (with_reducible refine HE.out.mono ?_); rintro e w1 ⟨rfl, hb⟩; have HB := Lib.hid hb; clear hb)
  go_ret
  exact ⟨rfl, HB.out⟩
end Go.Proofs.Ytackompihengfaa
/-
  Fit's part: exports.
-/
namespace Go.Proofs.Ytackompihengfaa
open Go.RowKit Go.PlainAid
set_option linter.unusedVariables false
set_option linter.unusedSimpArgs false
/-- the map of names, where the first i exports have been looked at -/
def fI (X : Nat → ExT) : Nat → ByteArray → Option Value
  | 0 => fun _ => none
  | i + 1 => fun s => if s = (X i).nm then some (.agg #[]) else fI X i s
theorem fI_at (X : Nat → ExT) : ∀ (i : Nat) (s : ByteArray), fI X i s = if ((List.range i).any fun k => decide ((X k).nm = s)) then some (.agg #[]) else none
  | 0, s => rfl
  | i + 1, s => by
    show (if s = (X i).nm then some (.agg #[]) else fI X i s) = _
    rw [fI_at X i s, List.range_succ, List.any_append]
    by_cases h : s = (X i).nm
    · rw [if_pos h]
      simp [h]
    · rw [if_neg h]
      have h2 : decide ((X i).nm = s) = false := by simp; exact fun e => h e.symm
      simp [h2]
set_option maxHeartbeats 4000000 in
set_option maxRecDepth 100000 in
theorem part44_ok (y : Mt) (g : Nat) (w : World) (h : FtAt w g y) : Calls Try.prog 44 #[.pointer (some ⟨g, 0, none⟩)] w fun e w' => e = .returned (.int .i64 (lsE 50 y.s6.n (fun i => exE (hadB y.X6 i) ((y.s1.n + y.s2.n : Nat) : Int) y.tab y.s4.n y.s5.n (y.X6 i)))) ∧ Below w.heap.size w w' := by
  obtain ⟨⟨A0, n0, c0⟩, X0, ⟨A1, n1, c1⟩, X1, ⟨A2, n2, c2⟩, X2, tab, ⟨A4, n4, c4⟩, X4, ⟨A5, n5, c5⟩, X5, ⟨A6, n6, c6⟩, X6, start, ⟨A8, n8, c8⟩, X8, ⟨A9, n9, c9⟩, X9⟩ := y
  obtain ⟨hblk, hat, hsm⟩ := h
  have n0s := hsm.n0
  have n1s := hsm.n1
  have n2s := hsm.n2
  have n4s := hsm.n4
  have n5s := hsm.n5
  have n6s := hsm.n6
  have n8s := hsm.n8
  have n9s := hsm.n9
  have r4 := hat.r4
  have r5 := hat.r5
  have r6 := hat.r6
  unfold Mt.cells Sv.v at hblk
  dsimp only at hblk n0s n1s n2s n4s n5s n6s n8s n9s r4 r5 r6 ⊢
  have y3 : w.cell? ⟨g, 3, none⟩ = some (.int .i64 tab) := hblk.cell 3
  have y4 : w.cell? ⟨g, 4, none⟩ = some (.slice A4 n4 c4) := hblk.cell 4
  have y5 : w.cell? ⟨g, 5, none⟩ = some (.slice A5 n5 c5) := hblk.cell 5
  have y6 : w.cell? ⟨g, 6, none⟩ = some (.slice A6 n6 c6) := hblk.cell 6
  have hgl := hblk.lt
  have HCT : Hid (∀ W, Below w.heap.size w W → Calls Try.prog 10 #[.pointer (some ⟨g, 0, none⟩)] W fun e w' => e = .returned (.int .i64 ((n1 + n2 : Nat) : Int)) ∧ Below W.heap.size W w') := Lib.hid (fun W hW => Count_ok g A1 A2 n1 c1 n2 c2 _ (by omega) (by omega) rfl rfl W (hblk.below hW hblk.lt))
  obtain ⟨p, hp⟩ : ∃ p, p = w.heap.size := ⟨_, rfl⟩
  have hlx := hsm.l6
  dsimp only at hlx
  have hT : ∀ V (i : Nat), Below w.heap.size w V → Calls Try.prog 77 #[.pointer (some ⟨g, 0, none⟩), .agg #[.string (X6 i).nm, .int .i64 (X6 i).kd, .int .i64 (X6 i).ix]] V fun e w' => e = .returned (.bool (thB ((n1 + n2 : Nat) : Int) tab n4 n5 (X6 i).kd (X6 i).ix)) ∧ Below V.heap.size V w' := fun V i hV =>
    there_ok _ _ _ ((n1 + n2 : Nat) : Int) tab g A4 A5 n4 c4 n5 c5 r4.1 (by have := r4.2.1; unfold maxLen at this; omega) r5.1 (by have := r5.2.1; unfold maxLen at this; omega) V (keepC hV hgl y3) (keepC hV hgl y4) (keepC hV hgl y5) (Nat.lt_of_lt_of_le hgl hV.size) (fun U hU => HCT.out U (hV.trans (hU.mono hV.size)))
  obtain ⟨bm, hbm⟩ : ∃ b, b = p + 1 := ⟨_, rfl⟩
  obtain ⟨pm, hpm⟩ : ∃ b, b = p + 2 := ⟨_, rfl⟩
  obtain ⟨Wa, hWa⟩ : ∃ V, V = w.alloc (.cells #[.pointer (some ⟨g, 0, none⟩)] 34) := ⟨_, rfl⟩
  obtain ⟨Wb, hWb⟩ : ∃ V, V = Wa.alloc (.map #[] 0) := ⟨_, rfl⟩
  obtain ⟨W1, hW⟩ : ∃ V, V = Wb.alloc (.cells #[.map (some bm)] 138) := ⟨_, rfl⟩
  have hba : Below w.heap.size w Wa := by rw [hWa]; exact (Below.refl _ _).alloc (Nat.le_refl _) _
  have hbb : Below Wa.heap.size Wa Wb := by rw [hWb]; exact (Below.refl _ _).alloc (Nat.le_refl _) _
  have hbc : Below Wb.heap.size Wb W1 := by rw [hW]; exact (Below.refl _ _).alloc (Nat.le_refl _) _
  have sza : Wa.heap.size = p + 1 := by rw [hWa, World.size_alloc, hp]
  have szb : Wb.heap.size = p + 2 := by rw [hWb, World.size_alloc, sza]
  have sz1 : W1.heap.size = p + 3 := by rw [hW, World.size_alloc, szb]
  have hbl : Below w.heap.size w W1 := (hba.trans (hbb.mono hba.size)).trans (hbc.mono (hba.trans (hbb.mono hba.size)).size)
  have hj0 : ExJ w p pm bm g 0 (fI X6 0) W1 := by
    refine ⟨hbl, ?_, ?_, by omega, by omega, ?_, by omega, by omega, by omega⟩
    · have h : Wa.cell? ⟨p, 0, none⟩ = some (.pointer (some ⟨g, 0, none⟩)) := by rw [hWa, hp]; exact (Blk.new w 34 _).cell 0
      exact keepC (hbb.trans (hbc.mono hbb.size)) (by omega) h
    · have h : W1.cell? ⟨Wb.heap.size, 0, none⟩ = some (.map (some bm)) := by rw [hW]; exact (Blk.new Wb 138 _).cell 0
      rw [szb, ← hpm] at h
      exact h
    · have h : SM Wb Try.prog 9 Wa.heap.size 0 (fun _ => none) := by rw [hWb]; exact SM.made Wa Try.prog 9
      rw [sza, ← hbm] at h
      exact h.below hbc (by omega)
  have HE : Hid (Calls Try.prog 75 #[.slice A6 n6 c6, .int .i64 50, .func (.func 76) #[] #[.pointer (some ⟨pm, 0, none⟩), .pointer (some ⟨p, 0, none⟩)]] W1 fun e w' => e = .returned (.int .i64 (lsE 50 n6 (fun i => exE (hadB X6 i) ((n1 + n2 : Nat) : Int) tab n4 n5 (X6 i)))) ∧ Below w.heap.size w w') := Lib.hid (each75_ok A6 n6 c6 (fun i => (X6 i).nm) (fun i => (X6 i).kd) (fun i => (X6 i).ix) (fun i => exE (hadB X6 i) ((n1 + n2 : Nat) : Int) tab n4 n5 (X6 i)) 50 pm p W1 (fun i W => ExJ w p pm bm g i (fI X6 i) W) (fun W => Below w.heap.size w W)
    (by omega) r6.1 r6.2.1 hj0 (fun _ W o hJ => hJ.below ((Below.refl _ _).alloc (Nat.le_refl _) o)) (fun _ _ hJ => hJ.bel)
    (fun h0 => by
      obtain ⟨b, off, e, hb, hx⟩ := r6.2.2 h0
      exact ⟨b, off, e, fun i W hi hJ => ⟨keepC hJ.bel hb (hx i hi).1, keepC hJ.bel hb (hx i hi).2.1, keepC hJ.bel hb (hx i hi).2.2⟩⟩)
    (fun i W hi hJ => exports1_ok (X6 i).nm (X6 i).kd (X6 i).ix ((n1 + n2 : Nat) : Int) tab n4 n5 w p pm bm g i (fI X6 i) (by have := hlx i hi; first | omega | (dsimp only; omega)) (by omega) W hJ (hadB X6 i) (fI_at X6 i (X6 i).nm) (fun V hV => hT V i hV)))
  have HBM := Lib.hid hbm
  have HPM := Lib.hid hpm
  have HWA := Lib.hid hWa
  have HWB := Lib.hid hWb
  have HW := Lib.hid hW
  have HP := Lib.hid hp
  have hc6 : n6 ≤ c6 := r6.1
  have hc6m := r6.2.1
  have hgl1 : g < W1.heap.size := Nat.lt_of_lt_of_le hgl hbl.size
  have z6 : W1.cell? ⟨g, 6, none⟩ = some (.slice A6 n6 c6) := keepC hbl hgl y6
  have yp := hj0.cp
  unfold maxLen at hc6m
  clear hblk hat hsm r4 r5 r6 hlx hT HCT hj0 hba hbb hbc hbl sza szb sz1 hWa hWb hW hp hbm hpm y3 y4 y5 y6
  have hmm := @run_makeMap Try.prog
  generalize lsE _ _ _ = r at HE ⊢
  go_enter Try.func44, Try.ntmps44
  go_upto_region 2 with fail
  rw [← HP.out]
  rw [← HBM.out, ← HWA.out, ← HWB.out]
  rw [← HW.out, show bm + 1 = pm from by have := HBM.out; have := HPM.out; omega]
  clear hmm
  go_wp2_with (go_at_call 75; (with_reducible refine HE.out.mono ?_); rintro e w1 ⟨rfl, hb⟩; have HB := Lib.hid hb; clear hb)
  go_ret
  exact ⟨rfl, HB.out⟩
end Go.Proofs.Ytackompihengfaa
/-
  Fit's part: start.
-/
namespace Go.Proofs.Ytackompihengfaa
open Go.RowKit Go.PlainAid
set_option linter.unusedVariables false
set_option linter.unusedSimpArgs false
/-- what a start is told to be -/
def stE (x : Mt) : Int := if x.start = -1 then 0 else if inB ((x.s1.n + x.s2.n : Nat) : Int) x.start then (if decide ((x.X0 (sgOf x x.start.toNat).toNat).P = []) && decide ((x.X0 (sgOf x x.start.toNat).toNat).R = []) then 0 else 5) else 2
set_option maxHeartbeats 4000000 in
set_option maxRecDepth 100000 in
theorem part45_ok (x : Mt) (B g : Nat) (sv fv : Value) (SP SR LV IV : Nat → Value) (S : Nat → Nat → Value) (w : World) (hx : MtAt w x) (hm : MdAt w B g x sv fv SP SR LV IV S) (hs : MtSm x)
    (hsg : ∀ f, f < x.s1.n + x.s2.n → 0 ≤ sgOf x f ∧ sgOf x f < (x.s0.n : Int)) :
    Calls Try.prog 45 #[.pointer (some ⟨g, 0, none⟩)] w fun e w' => e = .returned (.int .i64 (stE x)) ∧ Below w.heap.size w w' := by
  have z7 : w.cell? ⟨g, 7, none⟩ = some (.int .i64 x.start) := hm.blk.cell 7
  have n0 := hs.n0
  have n1 := hs.n1
  have n2 := hs.n2
  by_cases h1 : x.start = -1
  · have e : stE x = 0 := by unfold stE; rw [if_pos h1]
    rw [e]
    rw [h1] at z7
    clear hx hm hs hsg e h1
    go_enter Try.func45, Try.ntmps45
    go_wp2
    go_ret
    exact ⟨rfl, Below.refl _ _⟩
  have hCT : ∀ W, Below w.heap.size w W → Calls Try.prog 10 #[.pointer (some ⟨g, 0, none⟩)] W fun e w' => e = .returned (.int .i64 ((x.s1.n + x.s2.n : Nat) : Int)) ∧ Below W.heap.size W w' := fun W hW => by
    obtain ⟨Af, cf, rfl⟩ := own_slice hm.fn.1
    exact Count_ok g _ _ _ _ _ _ _ (by omega) (by omega) rfl rfl W (hm.blk.below hW hm.blk.lt)
  by_cases h2 : 0 ≤ x.start ∧ x.start < ((x.s1.n + x.s2.n : Nat) : Int)
  case neg =>
    have e : stE x = 2 := by
      unfold stE
      rw [if_neg h1, if_neg]
      unfold inB
      simp only [Bool.and_eq_true, decide_eq_true_eq]
      exact h2
    rw [e]
    have HS := Lib.hid (Sig_no g x.s1.n x.s2.n x.start w (by omega) hCT)
    have h1' : (x.start == -1) = false := by rw [beq_eq_false_iff_ne]; exact h1
    clear hx hm hs hsg e h1 h2 hCT n0 n1 n2
    generalize x.start = st at *
    go_enter Try.func45, Try.ntmps45
    go_wp2_with (go_at_call 14; (with_reducible refine HS.out.mono ?_); rintro e w1 ⟨rfl, hb⟩; have HB := Lib.hid hb; clear hb)
    go_ret
    exact ⟨rfl, HB.out.alloc HB.out.size _⟩
  obtain ⟨k, hk⟩ := Int.eq_ofNat_of_zero_le h2.1
  have hk2 : k < x.s1.n + x.s2.n := by omega
  obtain ⟨hs1, hs2⟩ := hsg k hk2
  obtain ⟨j, hj⟩ := Int.eq_ofNat_of_zero_le hs1
  have hj2 : j < x.s0.n := by omega
  have hl := hs.l0 j hj2
  have e : stE x = if decide ((x.X0 j).P = []) && decide ((x.X0 j).R = []) then 0 else 5 := by
    unfold stE
    rw [if_neg h1, if_pos (by unfold inB; simp only [Bool.and_eq_true, decide_eq_true_eq]; exact h2), hk, Int.toNat_natCast, hj, Int.toNat_natCast]
  rw [e]
  have HS := Lib.hid (Sig_ok x B g sv fv SP SR LV IV S k j w hx hm hk2 (by omega) (by omega) (by omega) hj hj2 (by omega) (by omega))
  have HP : Hid ((∀ a ∈ (x.X0 j).P, a < 256) ∧ (∀ a ∈ (x.X0 j).R, a < 256)) := Lib.hid (by
    obtain ⟨b, off, _, _, hat⟩ := hx.r0.2.2 (by omega)
    obtain ⟨_, _, _, _, _, _, hy1, hy2⟩ := hat j hj2
    exact ⟨hy1.2.1, hy2.2.1⟩)
  have HL := Lib.hid hl
  have h1' : (x.start == -1) = false := by rw [beq_eq_false_iff_ne]; exact h1
  rw [hk] at z7 h1'
  unfold SiP at HS
  clear hx hm hs hsg e h1 h2 hCT n0 n1 n2 hk hs1 hs2 hj hl
  generalize (x.X0 j).P = LP at *
  generalize (x.X0 j).R = LR at *
  obtain ⟨r, hr⟩ : ∃ r : Int, r = if (decide (LP = []) && decide (LR = [])) then 0 else 5 := ⟨_, rfl⟩
  rw [← hr]
  have H64 : Hid (∀ W, Calls Try.prog 64 #[.bool (decide (LP = []) && decide (LR = [])), .int .i64 5] W fun e w' => e = .returned (.int .i64 r) ∧ W = w') := Lib.hid (fun W => by rw [hr]; exact unless_any _ _ W)
  clear hr
  go_enter Try.func45, Try.ntmps45
  go_wp2_with fail
  with_reducible refine HS.out.mono ?_
  rintro e w1 ⟨hb, B1, d1, B2, d2, rfl, ho1, ho2⟩
  obtain ⟨_, _, e1, hy1⟩ := byt_own76 ho1 rfl HP.out.1 (by have := HL.out; unfold maxLen; omega)
  obtain ⟨_, _, e2, hy2⟩ := byt_own76 ho2 rfl HP.out.2 (by have := HL.out; unfold maxLen; omega)
  cases e1
  cases e2
  obtain ⟨w2, hw2⟩ : ∃ V, V = w1.alloc (.cells #[.slice B1 LP.length d1, .slice B2 LR.length d2] 42) := ⟨_, rfl⟩
  have hb2 : Below w1.heap.size w1 w2 := by rw [hw2]; exact (Below.refl _ _).alloc (Nat.le_refl _) _
  have hbk : Blk w2 w1.heap.size 42 #[.slice B1 LP.length d1, .slice B2 LR.length d2] := by rw [hw2]; exact Blk.new w1 42 _
  have HNIL : ∀ W, Byt W none 0 0 [] := fun W => ⟨rfl, fun x hx => absurd hx (by simp), Nat.le_refl _, Nat.zero_le _, fun q => absurd q (by omega)⟩
  have HSM := Lib.hid (SigSame_ok B1 B2 none none LP.length LR.length 0 0 d1 d2 0 0 LP LR [] [] (by have := HL.out; omega) (by have := HL.out; omega) (by omega) (by omega) w2 (hy1.below hb2) (hy2.below hb2) (HNIL _) (HNIL _))
  have HB := Lib.hid (hb.trans (hb2.mono hb.size))
  have HW2 := Lib.hid hw2
  have x0 : w2.cell? ⟨w1.heap.size, 0, none⟩ = some (.slice B1 LP.length d1) := hbk.cell 0
  have x1 : w2.cell? ⟨w1.heap.size, 1, none⟩ = some (.slice B2 LR.length d2) := hbk.cell 1
  have a1 := hy1.2.2.1
  have a2 := hy2.2.2.1
  have a3 := hy1.2.2.2.1
  have a4 := hy2.2.2.2.1
  unfold maxLen at a3 a4
  clear HNIL hb hb2 hbk hw2 hy1 hy2 ho1 ho2 HS HP
  generalize (decide (LP = []) && decide (LR = [])) = q at HSM H64
  go_upto_region 4 with fail
  rw [← HW2.out]
  go_wp2_with (first
    | (go_at_call 17; (with_reducible refine HSM.out.mono ?_); rintro e w3 ⟨rfl, hb3⟩; have HB3 := Lib.hid (HB.out.trans (hb3.mono HB.out.size)); clear hb3)
    | (go_at_call 64; (with_reducible refine (H64.out _).mono ?_); rintro e w4 ⟨rfl, rfl⟩))
  go_ret
  exact ⟨rfl, HB3.out⟩
end Go.Proofs.Ytackompihengfaa
/-
  Fit's part: elements.
-/
namespace Go.Proofs.Ytackompihengfaa
open Go.RowKit Go.PlainAid
set_option linter.unusedVariables false
set_option linter.unusedSimpArgs false
set_option maxHeartbeats 4000000 in
set_option maxRecDepth 100000 in
theorem part46_ok (y : Mt) (g : Nat) (w : World) (h : FtAt w g y) : Calls Try.prog 46 #[.pointer (some ⟨g, 0, none⟩)] w fun e w' => e = .returned (.int .i64 (lsE 20 y.s8.n (fun i => elE y.tab ((y.s1.n + y.s2.n : Nat) : Int) (y.X8 i).at_ (y.X8 i).fs))) ∧ Below w.heap.size w w' := by
  obtain ⟨⟨A0, n0, c0⟩, X0, ⟨A1, n1, c1⟩, X1, ⟨A2, n2, c2⟩, X2, tab, ⟨A4, n4, c4⟩, X4, ⟨A5, n5, c5⟩, X5, ⟨A6, n6, c6⟩, X6, start, ⟨A8, n8, c8⟩, X8, ⟨A9, n9, c9⟩, X9⟩ := y
  obtain ⟨hblk, hat, hsm⟩ := h
  have n0s := hsm.n0
  have n1s := hsm.n1
  have n2s := hsm.n2
  have n4s := hsm.n4
  have n5s := hsm.n5
  have n6s := hsm.n6
  have n8s := hsm.n8
  have n9s := hsm.n9
  have r8 := hat.r8
  unfold Mt.cells Sv.v at hblk
  dsimp only at hblk n0s n1s n2s n4s n5s n6s n8s n9s r8 ⊢
  have y3 : w.cell? ⟨g, 3, none⟩ = some (.int .i64 tab) := hblk.cell 3
  have y8 : w.cell? ⟨g, 8, none⟩ = some (.slice A8 n8 c8) := hblk.cell 8
  have hgl := hblk.lt
  have HCT : Hid (∀ W, Below w.heap.size w W → Calls Try.prog 10 #[.pointer (some ⟨g, 0, none⟩)] W fun e w' => e = .returned (.int .i64 ((n1 + n2 : Nat) : Int)) ∧ Below W.heap.size W w') := Lib.hid (fun W hW => Count_ok g A1 A2 n1 c1 n2 c2 _ (by omega) (by omega) rfl rfl W (hblk.below hW hblk.lt))
  obtain ⟨p, hp⟩ : ∃ p, p = w.heap.size := ⟨_, rfl⟩
  obtain ⟨W1, hW⟩ : ∃ V, V = (w.alloc (.cells #[.pointer (some ⟨g, 0, none⟩)] 34)).alloc (.cells #[.func (.func 78) #[] #[.pointer (some ⟨p, 0, none⟩)]] 134) := ⟨_, rfl⟩
  have hbl0 : Below w.heap.size w (w.alloc (.cells #[.pointer (some ⟨g, 0, none⟩)] 34)) := (Below.refl _ _).alloc (Nat.le_refl _) _
  have hbl : Below w.heap.size w W1 := by rw [hW]; exact hbl0.alloc hbl0.size _
  have yp : W1.cell? ⟨p, 0, none⟩ = some (.pointer (some ⟨g, 0, none⟩)) := by rw [hW, hp]; exact ((Blk.new w 34 #[.pointer (some ⟨g, 0, none⟩)]).alloc _).cell 0
  have yq : W1.cell? ⟨p + 1, 0, none⟩ = some (.func (.func 78) #[] #[.pointer (some ⟨p, 0, none⟩)]) := by
    have h := (Blk.new (w.alloc (.cells #[.pointer (some ⟨g, 0, none⟩)] 34)) 134 #[.func (.func 78) #[] #[.pointer (some ⟨p, 0, none⟩)]]).cell 0
    rw [World.size_alloc, ← hp] at h
    rw [hW]
    exact h
  have hpl2 : p + 1 < W1.heap.size := by rw [hW, hp, World.size_alloc, World.size_alloc]; omega
  have hpl : p < W1.heap.size := by omega
  have hgl1 : g < W1.heap.size := Nat.lt_of_lt_of_le hgl hbl.size
  have z3 : W1.cell? ⟨g, 3, none⟩ = some (.int .i64 tab) := keepC hbl hgl y3
  have z8 : W1.cell? ⟨g, 8, none⟩ = some (.slice A8 n8 c8) := keepC hbl hgl y8
  have hlx := hsm.l8
  dsimp only at hlx
  have r8b := r8.below el_stay hbl
  have hF : ∀ i, i < n8 → ∃ a : Option Addr × Nat, (∃ b off, A8 = some ⟨b, off, none⟩ ∧ b < W1.heap.size ∧ W1.cell? ⟨b, off + i * 2, none⟩ = some (.int .u64 (X8 i).at_) ∧ W1.cell? ⟨b, off + i * 2 + 1, none⟩ = some (.slice a.1 (X8 i).fs.length a.2)) ∧ Si W1 a.1 (X8 i).fs.length a.2 (X8 i).fs := fun i hi => by
    obtain ⟨b, off, e, hb, hx⟩ := r8b.2.2 (by omega)
    obtain ⟨A, c, h1, h2, h3⟩ := hx i hi
    exact ⟨(A, c), ⟨b, off, e, hb, h1, h2⟩, h3⟩
  obtain ⟨f, hf⟩ := pick_ hF
  have HE : Hid (Calls Try.prog 79 #[.slice A8 n8 c8, .int .i64 20, .func (.func 80) #[] #[.pointer (some ⟨p, 0, none⟩), .pointer (some ⟨p + 1, 0, none⟩)]] W1 fun e w' => e = .returned (.int .i64 (lsE 20 n8 (fun i => elE tab ((n1 + n2 : Nat) : Int) (X8 i).at_ (X8 i).fs))) ∧ Below W1.heap.size W1 w') := Lib.hid (each79_ok A8 n8 c8 (fun i => (X8 i).at_) (fun i => (f i).1) (fun i => (X8 i).fs.length) (fun i => (f i).2) (fun i => elE tab ((n1 + n2 : Nat) : Int) (X8 i).at_ (X8 i).fs) 20 p (p + 1) W1 (fun _ W => Below W1.heap.size W1 W) (fun W => Below W1.heap.size W1 W)
    (by omega) r8.1 r8.2.1 (Below.refl _ _) (fun _ W o hW => hW.alloc hW.size o) (fun _ _ hW => hW)
    (fun h0 => by
      obtain ⟨b, off, e, hb, _⟩ := r8b.2.2 h0
      refine ⟨b, off, e, fun i W hi hW => ?_⟩
      obtain ⟨b2, off2, e2, _, h1, h2⟩ := (hf i hi).1
      rw [e] at e2
      cases e2
      exact ⟨keepC hW hb h1, keepC hW hb h2⟩)
    (fun i W hi hW => (elems2_ok _ _ _ _ (X8 i).fs tab ((n1 + n2 : Nat) : Int) p (p + 1) g (by have := hlx i hi; first | omega | (dsimp only; omega)) W ((hf i hi).2.below hW) (keepC hW hpl yp) (Nat.lt_of_lt_of_le hpl hW.size) (keepC hW hpl2 yq) (Nat.lt_of_lt_of_le hpl2 hW.size) (keepC hW hgl1 z3) (Nat.lt_of_lt_of_le hgl1 hW.size) (fun V hV => HCT.out V ((hbl.trans (hW.mono hbl.size)).trans (hV.mono (hbl.trans (hW.mono hbl.size)).size)))).mono (fun e w' ⟨h1, h2⟩ => ⟨h1, hW.trans (h2.mono hW.size), fun _ => hW.trans (h2.mono hW.size)⟩)))
  have HBL := Lib.hid hbl
  have HW := Lib.hid hW
  have HP := Lib.hid hp
  have hc8 : n8 ≤ c8 := r8.1
  have hc8m := r8.2.1
  unfold maxLen at hc8m
  clear hblk hat hsm r8 r8b hlx hbl hbl0 hW hp y3 y8 hf HCT
  generalize lsE _ _ _ = r at HE ⊢
  go_enter Try.func46, Try.ntmps46
  go_upto_region 2 with fail
  rw [← HP.out]
  rw [← HW.out]
  go_wp2_with (go_at_call 79; (with_reducible refine HE.out.mono ?_); rintro e w1 ⟨rfl, hb⟩; have HB := Lib.hid hb; clear hb)
  go_ret
  exact ⟨rfl, HBL.out.trans (HB.out.mono HBL.out.size)⟩
end Go.Proofs.Ytackompihengfaa
/-
  Fit's part: data.
-/
namespace Go.Proofs.Ytackompihengfaa
open Go.RowKit Go.PlainAid
set_option linter.unusedVariables false
set_option linter.unusedSimpArgs false
set_option maxHeartbeats 4000000 in
set_option maxRecDepth 100000 in
theorem part47_ok (y : Mt) (g : Nat) (w : World) (h : FtAt w g y) : Calls Try.prog 47 #[.pointer (some ⟨g, 0, none⟩)] w fun e w' => e = .returned (.int .i64 (lsE 20 y.s9.n (fun i => daE y.s4.n y.X4 (y.X9 i).me (y.X9 i).at_ (y.X9 i).bs.length))) ∧ Below w.heap.size w w' := by
  obtain ⟨⟨A0, n0, c0⟩, X0, ⟨A1, n1, c1⟩, X1, ⟨A2, n2, c2⟩, X2, tab, ⟨A4, n4, c4⟩, X4, ⟨A5, n5, c5⟩, X5, ⟨A6, n6, c6⟩, X6, start, ⟨A8, n8, c8⟩, X8, ⟨A9, n9, c9⟩, X9⟩ := y
  obtain ⟨hblk, hat, hsm⟩ := h
  have n0s := hsm.n0
  have n1s := hsm.n1
  have n2s := hsm.n2
  have n4s := hsm.n4
  have n5s := hsm.n5
  have n6s := hsm.n6
  have n8s := hsm.n8
  have n9s := hsm.n9
  have r4 := hat.r4
  have r9 := hat.r9
  unfold Mt.cells Sv.v at hblk
  dsimp only at hblk n0s n1s n2s n4s n5s n6s n8s n9s r4 r9 ⊢
  have y4 : w.cell? ⟨g, 4, none⟩ = some (.slice A4 n4 c4) := hblk.cell 4
  have y9 : w.cell? ⟨g, 9, none⟩ = some (.slice A9 n9 c9) := hblk.cell 9
  have hgl := hblk.lt
  obtain ⟨W1, hW⟩ : ∃ V, V = w.alloc (.cells #[.pointer (some ⟨g, 0, none⟩)] 34) := ⟨_, rfl⟩
  obtain ⟨p, hp⟩ : ∃ p, p = w.heap.size := ⟨_, rfl⟩
  have hbl : Below w.heap.size w W1 := by rw [hW]; exact (Below.refl _ _).alloc (Nat.le_refl _) _
  have yp : W1.cell? ⟨p, 0, none⟩ = some (.pointer (some ⟨g, 0, none⟩)) := by rw [hW, hp]; exact (Blk.new w 34 _).cell 0
  have hpl : p < W1.heap.size := by rw [hW, hp, World.size_alloc]; omega
  have hgl1 : g < W1.heap.size := Nat.lt_of_lt_of_le hgl hbl.size
  have z4 : W1.cell? ⟨g, 4, none⟩ = some (.slice A4 n4 c4) := keepC hbl hgl y4
  have z9 : W1.cell? ⟨g, 9, none⟩ = some (.slice A9 n9 c9) := keepC hbl hgl y9
  have hlx := hsm.l9
  dsimp only at hlx
  have r9b := r9.below da_stay hbl
  have r4b := r4.below lim_stay hbl
  have hF : ∀ i, i < n9 → ∃ a : Option Addr × Nat, (∃ b off, A9 = some ⟨b, off, none⟩ ∧ b < W1.heap.size ∧ W1.cell? ⟨b, off + i * 3, none⟩ = some (.int .i64 (X9 i).me) ∧ W1.cell? ⟨b, off + i * 3 + 1, none⟩ = some (.int .u64 (X9 i).at_) ∧ W1.cell? ⟨b, off + i * 3 + 2, none⟩ = some (.slice a.1 (X9 i).bs.length a.2)) ∧ ((X9 i).bs.length ≤ a.2 ∧ a.2 ≤ 9223372036854775807) := fun i hi => by
    obtain ⟨b, off, e, hb, hx⟩ := r9b.2.2 (by omega)
    obtain ⟨A, c, h1, h2, h3, h4⟩ := hx i hi
    exact ⟨(A, c), ⟨b, off, e, hb, h1, h2, h3⟩, ⟨h4.2.2.1, by have := h4.2.2.2.1; unfold maxLen at this; dsimp only; omega⟩⟩
  obtain ⟨f, hf⟩ := pick_ hF
  have HE : Hid (Calls Try.prog 82 #[.slice A9 n9 c9, .int .i64 20, .func (.func 83) #[] #[.pointer (some ⟨p, 0, none⟩)]] W1 fun e w' => e = .returned (.int .i64 (lsE 20 n9 (fun i => daE n4 X4 (X9 i).me (X9 i).at_ (X9 i).bs.length))) ∧ Below W1.heap.size W1 w') := Lib.hid (each82_ok A9 n9 c9 (fun i => (X9 i).me) (fun i => (X9 i).at_) (fun i => (f i).1) (fun i => (X9 i).bs.length) (fun i => (f i).2) (fun i => daE n4 X4 (X9 i).me (X9 i).at_ (X9 i).bs.length) 20 p W1 (fun _ W => Below W1.heap.size W1 W) (fun W => Below W1.heap.size W1 W)
    (by omega) r9.1 r9.2.1 (Below.refl _ _) (fun _ W o hW => hW.alloc hW.size o) (fun _ _ hW => hW)
    (fun h0 => by
      obtain ⟨b, off, e, hb, _⟩ := r9b.2.2 h0
      refine ⟨b, off, e, fun i W hi hW => ?_⟩
      obtain ⟨b2, off2, e2, _, h1, h2, h3⟩ := (hf i hi).1
      rw [e] at e2
      cases e2
      exact ⟨keepC hW hb h1, keepC hW hb h2, keepC hW hb h3⟩)
    (fun i W hi hW => (datas1_ok _ _ _ _ _ p g A4 n4 c4 X4 (hf i hi).2.1 (hf i hi).2.2 (by omega) W (keepC hW hpl yp) (Nat.lt_of_lt_of_le hpl hW.size) (keepC hW hgl1 z4) (Nat.lt_of_lt_of_le hgl1 hW.size) (r4b.below lim_stay hW)).mono (fun e w' ⟨h1, h2⟩ => ⟨h1, hW.trans (h2.mono hW.size), fun _ => hW.trans (h2.mono hW.size)⟩)))
  have HBL := Lib.hid hbl
  have HW := Lib.hid hW
  have HP := Lib.hid hp
  have hc9 : n9 ≤ c9 := r9.1
  have hc9m := r9.2.1
  unfold maxLen at hc9m
  clear hblk hat hsm r4 r4b r9 r9b hlx hbl hW hp y4 y9 hf
  generalize lsE _ _ _ = r at HE ⊢
  go_enter Try.func47, Try.ntmps47
  go_upto_region 1 with fail
  rw [← HW.out, ← HP.out]
  go_wp2_with (go_at_call 82; (with_reducible refine HE.out.mono ?_); rintro e w1 ⟨rfl, hb⟩; have HB := Lib.hid hb; clear hb)
  go_ret
  exact ⟨rfl, HBL.out.trans (HB.out.mono HBL.out.size)⟩
end Go.Proofs.Ytackompihengfaa
