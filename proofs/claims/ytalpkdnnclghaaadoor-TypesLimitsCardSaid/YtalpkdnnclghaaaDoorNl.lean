/-
  slices.Equal of types; types.Same.
-/
import Derived.Test.YtalpkdnnclghaaaDoorSc
import Derived.Test.YtalpkdnnclghaaaDoorNa
namespace Go.Proofs.YtalpkdnnclghaaaDoor
open Go.RowKit Go.ChangeShapes Go.WideShapes Go.ChangeAt
set_option linter.unusedVariables false
set_option linter.unusedSimpArgs false
set_option maxHeartbeats 4000000 in
set_option maxRecDepth 100000 in
theorem Equal_ok (A B : Option Addr) (n m ca cb : Nat) (la lb : List Nat) (hn : n ≤ 1000) (hm : m ≤ 1000) (w : World) (ha : Byt w A n ca la) (hb : Byt w B m cb lb) :
    Calls Tryd.prog 48 #[.slice A n ca, .slice B m cb] w fun e w' => e = .returned (.bool (decide (la = lb))) ∧ Below w.heap.size w w' := by
  obtain ⟨hl, hx, hcap, hcm, hc⟩ := ha
  obtain ⟨hl2, hx2, hcap2, hcm2, hc2⟩ := hb
  subst hl
  subst hl2
  have HC := Lib.hid hc
  have HC2 := Lib.hid hc2
  clear hc hx hcap hcm hc2 hx2 hcap2 hcm2
  by_cases hlen : la.length = lb.length
  · have HL : Hid (lb.length = la.length) := Lib.hid hlen.symm
    rw [← hlen] at hm HC2 ⊢
    clear hlen
    go_enter Tryd.func48, Tryd.ntmps48
    go_wp2
    go_loopw [13] (fun v13 wr => ∃ k : Nat, k ≤ la.length ∧ v13 = .int .i64 k ∧ Hid (la.take k = lb.take k) ∧ ∃ d, Hid (wr = w.drewN d)) (fun v13 _ => la.length - (intOf v13).toNat)
    case atStart => exact ⟨0, by omega, rfl, Lib.hid rfl, 0, Lib.hid rfl⟩
    case round =>
      obtain ⟨k, hk, rfl, HE, d, HD⟩ := hrel
      obtain rfl := HD.out
      clear HD
      by_cases hlt : k < la.length
      · obtain ⟨b, off, rfl, hbl, hcell⟩ := HC.out (by omega)
        obtain ⟨b2, off2, rfl, hbl2, hcell2⟩ := HC2.out (by omega)
        have h0 : ∀ q, (w.drewN q).cell? ⟨b, off + k, none⟩ = some (.int .u8 ((la.getD k 0 : Nat) : Int)) := fun q => hcell k hlt
        have h1 : ∀ q, (w.drewN q).cell? ⟨b2, off2 + k, none⟩ = some (.int .u8 ((lb.getD k 0 : Nat) : Int)) := fun q => hcell2 k hlt
        have HEM := Lib.hid (fun h => take_eq_more k hlt (by rw [HL.out]; exact hlt) HE.out h)
        have HNE : Hid (la.getD k 0 ≠ lb.getD k 0 → la ≠ lb) := Lib.hid (fun h e => h (by rw [e]))
        have hk0 : (0 : Int) ≤ (k : Int) := by omega
        have hk1 : (k : Int) < (la.length : Int) := by omega
        clear hcell hcell2
        generalize la.getD k 0 = x at h0 HEM HNE
        generalize lb.getD k 0 = y at h1 HEM HNE
        by_cases hxy : x = y
        · subst hxy
          have HE2 := Lib.hid (HEM.out rfl)
          clear HEM HNE
          go_wp2_with fail
          go_quiet (fail)
          go_wp2
          go_roundw
          case rel => exact ⟨k + 1, by omega, by go_num, HE2, _, Lib.hid rfl⟩
          case measure => simp [intOf]; omega
        · have HN := Lib.hid (HNE.out hxy)
          have hne : (((x : Nat) : Int) != ((y : Nat) : Int)) = true := by rw [dec_neq]; simp [hxy]
          clear HEM HNE hxy
          go_wp2_with fail
          go_quiet (fail)
          go_wp2
          go_ret
          refine ⟨?_, below_drewN (below_drewN (Below.refl _ _) _) _⟩
          rw [show decide (la = lb) = false by simpa using HN.out]; rfl
      · obtain rfl : k = la.length := by omega
        have HEQ : Hid (la = lb) := Lib.hid (by
          have h := HE.out
          rw [List.take_of_length_le (Nat.le_refl _), List.take_of_length_le (by rw [HL.out]; exact Nat.le_refl _)] at h
          exact h)
        go_wp2
        go_ret
        refine ⟨?_, below_drewN (Below.refl _ _) _⟩
        rw [show decide (la = lb) = true by simpa using HEQ.out]; rfl
  · have hd : decide (la = lb) = false := by simp; intro h; exact hlen (by rw [h])
    rw [hd]
    have hne : (((la.length : Nat) : Int) != ((lb.length : Nat) : Int)) = true := by simp; omega
    clear hd hlen
    go_enter Tryd.func48, Tryd.ntmps48
    go_wp2
    go_ret
    exact ⟨rfl, Below.refl _ _⟩
set_option maxHeartbeats 4000000 in
set_option maxRecDepth 100000 in
/-- two signatures -/
theorem SigSame_ok (A B A' B' : Option Addr) (n m n' m' c d c' d' : Nat) (l r l' r' : List Nat) (hn : n ≤ 1000) (hm : m ≤ 1000) (hn' : n' ≤ 1000) (hm' : m' ≤ 1000) (w : World)
    (ha : Byt w A n c l) (hb : Byt w B m d r) (ha' : Byt w A' n' c' l') (hb' : Byt w B' m' d' r') :
    Calls Tryd.prog 20 #[.agg #[.slice A n c, .slice B m d], .agg #[.slice A' n' c', .slice B' m' d']] w fun e w' => e = .returned (.bool (decide (l = l') && decide (r = r'))) ∧ Below w.heap.size w w' := by
  have H1 := Lib.hid (fun W (h : Below w.heap.size w W) => Equal_ok A A' n n' c c' l l' hn hn' W (ha.below h) (ha'.below h))
  have H2 := Lib.hid (fun W (h : Below w.heap.size w W) => Equal_ok B B' m m' d d' r r' hm hm' W (hb.below h) (hb'.below h))
  clear ha hb ha' hb'
  obtain ⟨W0, hW0⟩ : ∃ W0, W0 = (w.alloc (.cells #[.slice A n c, .slice B m d] 27)).alloc (.cells #[.slice A' n' c', .slice B' m' d'] 27) := ⟨_, rfl⟩
  have hb0 : Below w.heap.size w W0 := by rw [hW0]; exact ((Below.refl _ w).alloc (Nat.le_refl _) _).alloc (by simp) _
  have HX : Hid (∀ W, Below (w.heap.size + 2) W0 W → W.cell? ⟨w.heap.size, 0, none⟩ = some (.slice A n c) ∧ W.cell? ⟨w.heap.size, 1, none⟩ = some (.slice B m d) ∧ W.cell? ⟨w.heap.size + 1, 0, none⟩ = some (.slice A' n' c') ∧ W.cell? ⟨w.heap.size + 1, 1, none⟩ = some (.slice B' m' d')) := Lib.hid (fun W h => by
    rw [hW0] at h
    have k1 : Blk W w.heap.size 27 #[.slice A n c, .slice B m d] := ((Blk.new w 27 _).alloc _).below h (by omega)
    have k2 := Blk.new (w.alloc (.cells #[.slice A n c, .slice B m d] 27)) 27 #[.slice A' n' c', .slice B' m' d']
    rw [World.size_alloc] at k2
    have k3 : Blk W (w.heap.size + 1) 27 #[.slice A' n' c', .slice B' m' d'] := k2.below h (by omega)
    exact ⟨k1.cell 0, k1.cell 1, k3.cell 0, k3.cell 1⟩)
  have HS : Hid (w.heap.size + 2 ≤ W0.heap.size) := Lib.hid (by rw [hW0]; simp)
  have HB0 := Lib.hid hb0
  have HWE := Lib.hid hW0
  obtain ⟨x0, x1, x2, x3⟩ := HX.out W0 (Below.refl _ _)
  clear hb0 hW0
  by_cases h : l = l'
  · have e1 : decide (l = l') = true := by simp [h]
    rw [e1] at H1 ⊢
    clear e1 h
    go_enter Tryd.func20, Tryd.ntmps20
    go_wp2_with fail
    rw [← HWE.out]
    go_wp2_with (go_at_call 48; first
      | ((with_reducible refine (H1.out _ HB0.out).mono ?_); rintro e w1 ⟨rfl, hb1⟩
         have HB1 : Hid (Below w.heap.size w w1) := Lib.hid (HB0.out.trans (hb1.mono HB0.out.size))
         obtain ⟨y0, y1, y2, y3⟩ := HX.out w1 (hb1.mono HS.out)
         clear hb1)
      | ((with_reducible refine (H2.out _ HB1.out).mono ?_); rintro e w2 ⟨rfl, hb2⟩
         have HB2 : Hid (Below w.heap.size w w2) := Lib.hid (HB1.out.trans (hb2.mono HB1.out.size))
         clear hb2))
    go_ret
    exact ⟨by simp, HB2.out⟩
  · have e1 : decide (l = l') = false := by simp [h]
    rw [e1] at H1 ⊢
    clear e1 h
    go_enter Tryd.func20, Tryd.ntmps20
    go_wp2_with fail
    rw [← HWE.out]
    go_wp2_with (go_at_call 48; first
      | ((with_reducible refine (H1.out _ HB0.out).mono ?_); rintro e w1 ⟨rfl, hb1⟩
         have HB1 : Hid (Below w.heap.size w w1) := Lib.hid (HB0.out.trans (hb1.mono HB0.out.size))
         obtain ⟨y0, y1, y2, y3⟩ := HX.out w1 (hb1.mono HS.out)
         clear hb1)
      | ((with_reducible refine (H2.out _ HB1.out).mono ?_); rintro e w2 ⟨rfl, hb2⟩
         have HB2 : Hid (Below w.heap.size w w2) := Lib.hid (HB1.out.trans (hb2.mono HB1.out.size))
         clear hb2))
    go_ret
    exact ⟨by simp, HB1.out⟩
end Go.Proofs.YtalpkdnnclghaaaDoor
