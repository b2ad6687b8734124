/-
  Lists of types, and signatures, the same; how many functions; are types right.
-/
import Derived.Test.YtackompihengfaaGa
import Derived.BigQuiet
namespace Go.Proofs.Ytackompihengfaa
open Go.RowKit Go.PlainAid
set_option linter.unusedVariables false
set_option linter.unusedSimpArgs false
theorem dec_neq (a b : Nat) : (((a : Nat) : Int) != ((b : Nat) : Int)) = !decide (a = b) := by
  rw [Bool.eq_iff_iff]; simp; omega
theorem take_eq_more {a b : List Nat} (k : Nat) (ha : k < a.length) (hb : k < b.length) (h : a.take k = b.take k) (he : a.getD k 0 = b.getD k 0) : a.take (k + 1) = b.take (k + 1) := by
  rw [take_more a k ha, take_more b k hb, h, he]
theorem below_drewN {B : Nat} {w w' : World} (h : Below B w w') (n : Nat) : Below B w (w'.drewN n) := ⟨h.os, h.tape, h.output, h.size, h.block⟩
set_option maxHeartbeats 4000000 in
set_option maxRecDepth 100000 in
theorem Equal_ok (A B : Option Addr) (n m ca cb : Nat) (la lb : List Nat) (hn : n ≤ 1000) (hm : m ≤ 1000) (w : World) (ha : Byt w A n ca la) (hb : Byt w B m cb lb) :
    Calls Try.prog 30 #[.slice A n ca, .slice B m cb] w fun e w' => e = .returned (.bool (decide (la = lb))) ∧ Below w.heap.size w w' := by
  obtain ⟨hl, hx, hcap, hcm, hc⟩ := ha
  obtain ⟨hl2, hx2, hcap2, hcm2, hc2⟩ := hb
  subst hl
  subst hl2
  have HC := Lib.hid hc
  have HC2 := Lib.hid hc2
  clear hc hx hcap hcm hc2 hx2 hcap2 hcm2
  by_cases hlen : la.length = lb.length
  · have HL : Hid (lb.length = la.length) := Lib.hid hlen.symm
    rw [← hlen] at hm HC2 ⊢
    clear hlen
    go_enter Try.func30, Try.ntmps30
    go_wp2
    go_loopw [13] (fun v13 wr => ∃ k : Nat, k ≤ la.length ∧ v13 = .int .i64 k ∧ Hid (la.take k = lb.take k) ∧ ∃ d, Hid (wr = w.drewN d)) (fun v13 _ => la.length - (intOf v13).toNat)
    case atStart => exact ⟨0, by omega, rfl, Lib.hid rfl, 0, Lib.hid rfl⟩
    case round =>
      obtain ⟨k, hk, rfl, HE, d, HD⟩ := hrel
      obtain rfl := HD.out
      clear HD
      by_cases hlt : k < la.length
      · obtain ⟨b, off, rfl, hbl, hcell⟩ := HC.out (by omega)
        obtain ⟨b2, off2, rfl, hbl2, hcell2⟩ := HC2.out (by omega)
        have h0 : ∀ q, (w.drewN q).cell? ⟨b, off + k, none⟩ = some (.int .u8 ((la.getD k 0 : Nat) : Int)) := fun q => hcell k hlt
        have h1 : ∀ q, (w.drewN q).cell? ⟨b2, off2 + k, none⟩ = some (.int .u8 ((lb.getD k 0 : Nat) : Int)) := fun q => hcell2 k hlt
        have HEM := Lib.hid (fun h => take_eq_more k hlt (by rw [HL.out]; exact hlt) HE.out h)
        have HNE : Hid (la.getD k 0 ≠ lb.getD k 0 → la ≠ lb) := Lib.hid (fun h e => h (by rw [e]))
        have hk0 : (0 : Int) ≤ (k : Int) := by omega
        have hk1 : (k : Int) < (la.length : Int) := by omega
        clear hcell hcell2
        generalize la.getD k 0 = x at h0 HEM HNE
        generalize lb.getD k 0 = y at h1 HEM HNE
        by_cases hxy : x = y
        · subst hxy
          have HE2 := Lib.hid (HEM.out rfl)
          clear HEM HNE
          go_wp2_with fail
          go_quiet (fail)
          go_wp2
          go_roundw
          case rel => exact ⟨k + 1, by omega, by go_num, HE2, _, Lib.hid rfl⟩
          case measure => simp [intOf]; omega
        · have HN := Lib.hid (HNE.out hxy)
          have hne : (((x : Nat) : Int) != ((y : Nat) : Int)) = true := by rw [dec_neq]; simp [hxy]
          clear HEM HNE hxy
          go_wp2_with fail
          go_quiet (fail)
          go_wp2
          go_ret
          refine ⟨?_, below_drewN (below_drewN (Below.refl _ _) _) _⟩
          rw [show decide (la = lb) = false by simpa using HN.out]; rfl
      · obtain rfl : k = la.length := by omega
        have HEQ : Hid (la = lb) := Lib.hid (by
          have h := HE.out
          rw [List.take_of_length_le (Nat.le_refl _), List.take_of_length_le (by rw [HL.out]; exact Nat.le_refl _)] at h
          exact h)
        go_wp2
        go_ret
        refine ⟨?_, below_drewN (Below.refl _ _) _⟩
        rw [show decide (la = lb) = true by simpa using HEQ.out]; rfl
  · have hd : decide (la = lb) = false := by simp; intro h; exact hlen (by rw [h])
    rw [hd]
    have hne : (((la.length : Nat) : Int) != ((lb.length : Nat) : Int)) = true := by simp; omega
    clear hd hlen
    go_enter Try.func30, Try.ntmps30
    go_wp2
    go_ret
    exact ⟨rfl, Below.refl _ _⟩
set_option maxHeartbeats 4000000 in
set_option maxRecDepth 100000 in
/-- two signatures -/
theorem SigSame_ok (A B A' B' : Option Addr) (n m n' m' c d c' d' : Nat) (l r l' r' : List Nat) (hn : n ≤ 1000) (hm : m ≤ 1000) (hn' : n' ≤ 1000) (hm' : m' ≤ 1000) (w : World)
    (ha : Byt w A n c l) (hb : Byt w B m d r) (ha' : Byt w A' n' c' l') (hb' : Byt w B' m' d' r') :
    Calls Try.prog 17 #[.agg #[.slice A n c, .slice B m d], .agg #[.slice A' n' c', .slice B' m' d']] w fun e w' => e = .returned (.bool (decide (l = l') && decide (r = r'))) ∧ Below w.heap.size w w' := by
  have H1 := Lib.hid (fun W (h : Below w.heap.size w W) => Equal_ok A A' n n' c c' l l' hn hn' W (ha.below h) (ha'.below h))
  have H2 := Lib.hid (fun W (h : Below w.heap.size w W) => Equal_ok B B' m m' d d' r r' hm hm' W (hb.below h) (hb'.below h))
  clear ha hb ha' hb'
  obtain ⟨W0, hW0⟩ : ∃ W0, W0 = (w.alloc (.cells #[.slice A n c, .slice B m d] 42)).alloc (.cells #[.slice A' n' c', .slice B' m' d'] 42) := ⟨_, rfl⟩
  have hb0 : Below w.heap.size w W0 := by rw [hW0]; exact ((Below.refl _ w).alloc (Nat.le_refl _) _).alloc (by simp) _
  have HX : Hid (∀ W, Below (w.heap.size + 2) W0 W → W.cell? ⟨w.heap.size, 0, none⟩ = some (.slice A n c) ∧ W.cell? ⟨w.heap.size, 1, none⟩ = some (.slice B m d) ∧ W.cell? ⟨w.heap.size + 1, 0, none⟩ = some (.slice A' n' c') ∧ W.cell? ⟨w.heap.size + 1, 1, none⟩ = some (.slice B' m' d')) := Lib.hid (fun W h => by
    rw [hW0] at h
    have k1 : Blk W w.heap.size 42 #[.slice A n c, .slice B m d] := ((Blk.new w 42 _).alloc _).below h (by omega)
    have k2 := Blk.new (w.alloc (.cells #[.slice A n c, .slice B m d] 42)) 42 #[.slice A' n' c', .slice B' m' d']
    rw [World.size_alloc] at k2
    have k3 : Blk W (w.heap.size + 1) 42 #[.slice A' n' c', .slice B' m' d'] := k2.below h (by omega)
    exact ⟨k1.cell 0, k1.cell 1, k3.cell 0, k3.cell 1⟩)
  have HS : Hid (w.heap.size + 2 ≤ W0.heap.size) := Lib.hid (by rw [hW0]; simp)
  have HB0 := Lib.hid hb0
  have HWE := Lib.hid hW0
  obtain ⟨x0, x1, x2, x3⟩ := HX.out W0 (Below.refl _ _)
  clear hb0 hW0
  by_cases h : l = l'
  · have e1 : decide (l = l') = true := by simp [h]
    rw [e1] at H1 ⊢
    clear e1 h
    go_enter Try.func17, Try.ntmps17
    go_wp2_with fail
    rw [← HWE.out]
    go_wp2_with (go_at_call 30; first
      | ((with_reducible refine (H1.out _ HB0.out).mono ?_); rintro e w1 ⟨rfl, hb1⟩
         have HB1 : Hid (Below w.heap.size w w1) := Lib.hid (HB0.out.trans (hb1.mono HB0.out.size))
         obtain ⟨y0, y1, y2, y3⟩ := HX.out w1 (hb1.mono HS.out)
         clear hb1)
      | ((with_reducible refine (H2.out _ HB1.out).mono ?_); rintro e w2 ⟨rfl, hb2⟩
         have HB2 : Hid (Below w.heap.size w w2) := Lib.hid (HB1.out.trans (hb2.mono HB1.out.size))
         clear hb2))
    go_ret
    exact ⟨by simp, HB2.out⟩
  · have e1 : decide (l = l') = false := by simp [h]
    rw [e1] at H1 ⊢
    clear e1 h
    go_enter Try.func17, Try.ntmps17
    go_wp2_with fail
    rw [← HWE.out]
    go_wp2_with (go_at_call 30; first
      | ((with_reducible refine (H1.out _ HB0.out).mono ?_); rintro e w1 ⟨rfl, hb1⟩
         have HB1 : Hid (Below w.heap.size w w1) := Lib.hid (HB0.out.trans (hb1.mono HB0.out.size))
         obtain ⟨y0, y1, y2, y3⟩ := HX.out w1 (hb1.mono HS.out)
         clear hb1)
      | ((with_reducible refine (H2.out _ HB1.out).mono ?_); rintro e w2 ⟨rfl, hb2⟩
         have HB2 : Hid (Below w.heap.size w w2) := Lib.hid (HB1.out.trans (hb2.mono HB1.out.size))
         clear hb2))
    go_ret
    exact ⟨by simp, HB1.out⟩
/-- how many functions there are -/
theorem Count_ok (g : Nat) (A1 A2 : Option Addr) (n1 c1 n2 c2 : Nat) (cs : Array Value) (h1 : n1 ≤ 1000) (h2 : n2 ≤ 1000) (hc1 : cs[1]? = some (.slice A1 n1 c1)) (hc2 : cs[2]? = some (.slice A2 n2 c2)) (w : World) (hm : Blk w g 73 cs) :
    Calls Try.prog 10 #[.pointer (some ⟨g, 0, none⟩)] w fun e w' => e = .returned (.int .i64 ((n1 + n2 : Nat) : Int)) ∧ Below w.heap.size w w' := by
  have x1 : ∀ q, (w.drewN q).cell? ⟨g, 1, none⟩ = some (.slice A1 n1 c1) := fun q => (hm.cell 1).trans hc1
  have x2 : ∀ q, (w.drewN q).cell? ⟨g, 2, none⟩ = some (.slice A2 n2 c2) := fun q => (hm.cell 2).trans hc2
  clear hm hc1 hc2
  go_enter Try.func10, Try.ntmps10
  go_wp2_with fail
  go_quiet (fail)
  go_wp2
  go_ret
  exact ⟨by first | rfl | (congr 2; omega), below_drewN (Below.refl _ _) _⟩
/-- are types right, and not too many? -/
def tyC (c : Nat) : Bool := c == 126 || c == 127
def tyB (l : List Nat) : Bool := l.all tyC && decide (l.length ≤ 20)
set_option maxHeartbeats 4000000 in
set_option maxRecDepth 100000 in
theorem typed_any (A : Option Addr) (n c : Nat) (l : List Nat) (hn : n ≤ 1000) (w : World) (hb : Byt w A n c l) : Calls Try.prog 26 #[.slice A n c] w fun e w' => e = .returned (.bool (tyB l)) ∧ w = w' := by
  obtain ⟨hl, hx, hcap, hcm, hc⟩ := hb
  subst hl
  unfold maxLen at hcm
  have HC := Lib.hid hc
  obtain ⟨tot, htot⟩ : ∃ tot, tot = tyB l := ⟨_, rfl⟩
  rw [← htot]
  have HT := Lib.hid htot
  clear htot hc hx
  go_enter Try.func26, Try.ntmps26
  go_wp2
  go_loop [3] (fun v3 => ∃ k : Nat, k ≤ l.length ∧ v3 = .int .i64 k ∧ Hid ((l.take k).all tyC = true)) (fun v3 => l.length - (intOf v3).toNat)
  case atStart => exact ⟨0, Nat.zero_le _, rfl, Lib.hid rfl⟩
  case round =>
    obtain ⟨k, hk, rfl, HA⟩ := hrel
    by_cases hlt : k < l.length
    · obtain ⟨b, off, rfl, hbl, hcell⟩ := HC.out (by omega)
      have h0 := hcell k hlt
      have HY : Hid (tyC (l.getD k 0) = true → (l.take (k + 1)).all tyC = true) := Lib.hid (fun h => by rw [take_more l k hlt, List.all_append, HA.out]; simp only [List.all_cons, List.all_nil, h, Bool.and_true])
      have HN : Hid (tyC (l.getD k 0) = false → tot = false) := Lib.hid (fun h => by
        rw [HT.out]; unfold tyB
        have : l.all tyC = false := List.all_eq_false.2 ⟨l[k], List.getElem_mem hlt, by
          rw [List.getD_eq_getElem?_getD, List.getElem?_eq_getElem hlt] at h
          simpa using h⟩
        rw [this]; rfl)
      clear hcell
      generalize l.getD k 0 = y at h0 HY HN
      by_cases h1 : y = 126
      · have HR := Lib.hid (HY.out (by rw [h1]; rfl))
        subst h1
        go_wp2
        go_round
        case rel => exact ⟨k + 1, by omega, by go_num, HR⟩
        case measure => simp [intOf]; omega
      · by_cases h2 : y = 127
        · have HR := Lib.hid (HY.out (by rw [h2]; rfl))
          subst h2
          go_wp2
          go_round
          case rel => exact ⟨k + 1, by omega, by go_num, HR⟩
          case measure => simp [intOf]; omega
        · have HR : Hid (tot = false) := Lib.hid (HN.out (by unfold tyC; simp [h1, h2]))
          have e1 : (((y : Nat) : Int) != 126) = true := by simp; omega
          have e2 : (((y : Nat) : Int) != 127) = true := by simp; omega
          go_wp2
          go_ret
          exact ⟨by rw [HR.out]; rfl, rfl⟩
    · obtain rfl : k = l.length := by omega
      have HL : Hid (tot = decide (l.length ≤ 20)) := Lib.hid (by
        rw [HT.out]; unfold tyB
        have h := HA.out
        rw [List.take_of_length_le (Nat.le_refl _)] at h
        rw [h]; rfl)
      by_cases h20 : l.length ≤ 20
      · have e20 : decide ((l.length : Int) ≤ 20) = true := by rw [decide_eq_true_eq]; omega
        have HR : Hid (tot = true) := Lib.hid (by rw [HL.out]; simpa using h20)
        go_wp2
        go_ret
        exact ⟨by rw [HR.out]; rfl, rfl⟩
      · have e20 : decide ((l.length : Int) ≤ 20) = false := by rw [decide_eq_false_iff_not]; omega
        have HR : Hid (tot = false) := Lib.hid (by rw [HL.out]; simpa using h20)
        go_wp2
        go_ret
        exact ⟨by rw [HR.out]; rfl, rfl⟩
end Go.Proofs.Ytackompihengfaa
