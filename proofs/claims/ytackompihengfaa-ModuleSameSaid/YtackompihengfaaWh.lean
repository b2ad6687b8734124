/-
  Names; numbers of things; how many functions.
-/
import Derived.Test.YtackompihengfaaWg
import Derived.PlainAid
import Derived.BigQuiet
namespace Go.Proofs.Ytackompihengfaa
open Go.RowKit Go.PlainAid
set_option linter.unusedVariables false
set_option linter.unusedSimpArgs false
/-- a byte that may stand in a name -/
def nmC (c : Int) : Bool := decide (33 ≤ c) && decide (c ≤ 126)
/-- may a text be a name? -/
def nmB (s : ByteArray) : Bool := decide (0 < s.size) && decide (s.size ≤ 30) && ((List.range s.size).all fun i => nmC (bt s i))
theorem range_all {n : Nat} {f : Nat → Bool} (h : ∀ i, i < n → f i = true) : (List.range n).all f = true := List.all_eq_true.2 (fun i hi => h i (List.mem_range.1 hi))
theorem range_not {n k : Nat} {f : Nat → Bool} (hk : k < n) (h : f k = false) : (List.range n).all f = false := List.all_eq_false.2 ⟨k, List.mem_range.2 hk, by rw [h]; simp⟩
theorem nmB_no {s : ByteArray} {k : Nat} (hk : k < s.size) (h : nmC (bt s k) = false) : nmB s = false := by
  unfold nmB; rw [range_not hk h, Bool.and_false]
theorem nmB_yes {s : ByteArray} (h0 : 0 < s.size) (h1 : s.size ≤ 30) (h : ∀ i, i < s.size → nmC (bt s i) = true) : nmB s = true := by
  unfold nmB; rw [range_all h]; simp [h0, h1]
set_option maxHeartbeats 4000000 in
set_option maxRecDepth 100000 in
theorem in_any (a n : Int) (w : World) : Calls Try.prog 15 #[.int .i64 a, .int .i64 n] w fun e w' => e = .returned (.bool (decide (0 ≤ a) && decide (a < n))) ∧ w = w' := by
  by_cases h : 0 ≤ a <;> by_cases h2 : a < n <;> simp only [h, h2, decide_true, decide_false, Bool.and_true, Bool.and_false, Bool.false_and, Bool.true_and] <;>
  · go_enter Try.func15, Try.ntmps15
    go_wp2
    go_ret
    exact ⟨rfl, rfl⟩
set_option maxHeartbeats 4000000 in
set_option maxRecDepth 100000 in
/-- the law's own -/
theorem named_any (s : ByteArray) (hs : s.size ≤ 1000) (w : World) : Calls Try.prog 12 #[.string s] w fun e w' => e = .returned (.bool (nmB s)) ∧ w = w' := by
  have hb := get_bt s
  obtain ⟨tot, htot⟩ : ∃ tot, tot = nmB s := ⟨_, rfl⟩
  rw [← htot]
  have HT := Lib.hid htot
  clear htot
  go_enter Try.func12, Try.ntmps12
  go_wp2
  go_loop [3] (fun v3 => ∃ k : Nat, k ≤ s.size ∧ v3 = .int .i64 k ∧ Hid (∀ i, i < k → nmC (bt s i) = true)) (fun v3 => s.size - (intOf v3).toNat)
  case atStart => exact ⟨0, Nat.zero_le _, rfl, Lib.hid (fun i hi => by omega)⟩
  case round =>
    obtain ⟨k, hk, rfl, HA⟩ := hrel
    by_cases hlt : k < s.size
    · have HN : Hid (nmC (bt s k) = false → tot = false) := Lib.hid (fun h => by rw [HT.out]; exact nmB_no hlt h)
      have HY : Hid (nmC (bt s k) = true → ∀ i, i < k + 1 → nmC (bt s i) = true) := Lib.hid (fun h => fun i hi => by
        by_cases e : i = k
        · subst e; exact h
        · exact HA.out i (by omega))
      obtain ⟨c, hc⟩ : ∃ c, c = bt s k := ⟨_, rfl⟩
      have hx := hb k hlt
      rw [← hc] at HN HY hx
      by_cases h1 : c < 33
      · have HR : Hid (tot = false) := Lib.hid (HN.out (by unfold nmC; simp; omega))
        go_wp2
        go_ret
        exact ⟨by rw [HR.out]; rfl, rfl⟩
      · by_cases h2 : 126 < c
        · have HR : Hid (tot = false) := Lib.hid (HN.out (by unfold nmC; simp; omega))
          go_wp2
          go_ret
          exact ⟨by rw [HR.out]; rfl, rfl⟩
        · have HR := Lib.hid (HY.out (by unfold nmC; simp; omega))
          go_wp2
          go_round
          case rel => exact ⟨k + 1, by omega, by go_num, HR⟩
          case measure => simp [intOf]; omega
    · obtain rfl : k = s.size := by omega
      by_cases h0 : s.size = 0
      · have HR : Hid (tot = false) := Lib.hid (by rw [HT.out]; unfold nmB; rw [h0]; rfl)
        go_wp2
        go_ret
        exact ⟨by rw [HR.out]; rfl, rfl⟩
      · by_cases h30 : s.size ≤ 30
        · have HR : Hid (tot = true) := Lib.hid (by rw [HT.out]; exact nmB_yes (by omega) h30 HA.out)
          have h00 : 0 < s.size := by omega
          have e30 : decide ((s.size : Int) ≤ 30) = true := by rw [decide_eq_true_eq]; omega
          go_wp2
          go_ret
          exact ⟨by rw [HR.out]; rfl, rfl⟩
        · have HR : Hid (tot = false) := Lib.hid (by rw [HT.out]; unfold nmB; simp; omega)
          have h00 : 0 < s.size := by omega
          have e30 : decide ((s.size : Int) ≤ 30) = false := by rw [decide_eq_false_iff_not]; omega
          go_wp2
          go_ret
          exact ⟨by rw [HR.out]; rfl, rfl⟩
set_option maxHeartbeats 4000000 in
set_option maxRecDepth 100000 in
theorem Named_any (s : ByteArray) (hs : s.size ≤ 1000) (w : World) : Calls Try.prog 11 #[.string s] w fun e w' => e = .returned (.bool (nmB s)) ∧ w = w' := by
  have hb := get_bt s
  obtain ⟨tot, htot⟩ : ∃ tot, tot = nmB s := ⟨_, rfl⟩
  rw [← htot]
  have HT := Lib.hid htot
  clear htot
  by_cases h0 : s.size = 0
  · have HR : Hid (tot = false) := Lib.hid (by rw [HT.out]; unfold nmB; rw [h0]; rfl)
    have hs0 : s = ⟨#[]⟩ := by
      apply ByteArray.ext
      exact Array.eq_empty_of_size_eq_zero h0
    subst hs0
    go_enter Try.func11, Try.ntmps11
    go_wp2
    go_ret
    exact ⟨by rw [HR.out]; rfl, rfl⟩
  · have hl0 : s.toList ≠ [] := fun h => h0 (by have h2 := congrArg List.length h; rw [ByteArray.toList_eq, Array.length_toList] at h2; exact h2)
    have q1 : s.toList.isEmpty = false := by
      cases hx : s.toList with
      | nil => exact absurd hx hl0
      | cons a l => rfl
    have h00 : 0 < s.size := by omega
    by_cases h30 : s.size ≤ 30
    · go_enter Try.func11, Try.ntmps11
      go_wp2
      go_loop [3, 13] (fun _ v13 => ∃ k : Nat, k ≤ s.size ∧ v13 = .int .i64 k ∧ Hid (∀ i, i < k → nmC (bt s i) = true)) (fun _ v13 => s.size - (intOf v13).toNat)
      case atStart => exact ⟨0, Nat.zero_le _, rfl, Lib.hid (fun i hi => by omega)⟩
      case round =>
        obtain ⟨k, hk, rfl, HA⟩ := hrel
        by_cases hlt : k < s.size
        · have HN : Hid (nmC (bt s k) = false → tot = false) := Lib.hid (fun h => by rw [HT.out]; exact nmB_no hlt h)
          have HY : Hid (nmC (bt s k) = true → ∀ i, i < k + 1 → nmC (bt s i) = true) := Lib.hid (fun h => fun i hi => by
            by_cases e : i = k
            · subst e; exact h
            · exact HA.out i (by omega))
          obtain ⟨c, hc⟩ : ∃ c, c = bt s k := ⟨_, rfl⟩
          have hx := hb k hlt
          rw [← hc] at HN HY hx
          by_cases h1 : c < 33
          · have HR : Hid (tot = false) := Lib.hid (HN.out (by unfold nmC; simp; omega))
            go_wp2
            go_ret
            exact ⟨by rw [HR.out]; rfl, rfl⟩
          · by_cases h2 : 126 < c
            · have HR : Hid (tot = false) := Lib.hid (HN.out (by unfold nmC; simp; omega))
              go_wp2
              go_ret
              exact ⟨by rw [HR.out]; rfl, rfl⟩
            · have HR := Lib.hid (HY.out (by unfold nmC; simp; omega))
              go_wp2
              go_round
              case rel => exact ⟨k + 1, by omega, by go_num, HR⟩
              case measure => simp [intOf]; omega
        · obtain rfl : k = s.size := by omega
          have HR : Hid (tot = true) := Lib.hid (by rw [HT.out]; exact nmB_yes (by omega) h30 HA.out)
          go_wp2
          go_ret
          exact ⟨by rw [HR.out]; rfl, rfl⟩
    · have HR : Hid (tot = false) := Lib.hid (by rw [HT.out]; unfold nmB; simp; omega)
      go_enter Try.func11, Try.ntmps11
      go_wp2
      go_ret
      exact ⟨by rw [HR.out]; rfl, rfl⟩
end Go.Proofs.Ytackompihengfaa
/-
  Lists of types, and signatures, the same; how many functions; are types right.
-/
namespace Go.Proofs.Ytackompihengfaa
open Go.RowKit Go.PlainAid
set_option linter.unusedVariables false
set_option linter.unusedSimpArgs false
theorem dec_neq (a b : Nat) : (((a : Nat) : Int) != ((b : Nat) : Int)) = !decide (a = b) := by
  rw [Bool.eq_iff_iff]; simp; omega
theorem take_eq_more {a b : List Nat} (k : Nat) (ha : k < a.length) (hb : k < b.length) (h : a.take k = b.take k) (he : a.getD k 0 = b.getD k 0) : a.take (k + 1) = b.take (k + 1) := by
  rw [take_more a k ha, take_more b k hb, h, he]
theorem below_drewN {B : Nat} {w w' : World} (h : Below B w w') (n : Nat) : Below B w (w'.drewN n) := ⟨h.os, h.tape, h.output, h.size, h.block⟩
set_option maxHeartbeats 4000000 in
set_option maxRecDepth 100000 in
theorem Equal_ok (A B : Option Addr) (n m ca cb : Nat) (la lb : List Nat) (hn : n ≤ 1000) (hm : m ≤ 1000) (w : World) (ha : Byt w A n ca la) (hb : Byt w B m cb lb) :
    Calls Try.prog 30 #[.slice A n ca, .slice B m cb] w fun e w' => e = .returned (.bool (decide (la = lb))) ∧ Below w.heap.size w w' := by
  obtain ⟨hl, hx, hcap, hcm, hc⟩ := ha
  obtain ⟨hl2, hx2, hcap2, hcm2, hc2⟩ := hb
  subst hl
  subst hl2
  have HC := Lib.hid hc
  have HC2 := Lib.hid hc2
  clear hc hx hcap hcm hc2 hx2 hcap2 hcm2
  by_cases hlen : la.length = lb.length
  · have HL : Hid (lb.length = la.length) := Lib.hid hlen.symm
    rw [← hlen] at hm HC2 ⊢
    clear hlen
    go_enter Try.func30, Try.ntmps30
    go_wp2
    go_loopw [13] (fun v13 wr => ∃ k : Nat, k ≤ la.length ∧ v13 = .int .i64 k ∧ Hid (la.take k = lb.take k) ∧ ∃ d, Hid (wr = w.drewN d)) (fun v13 _ => la.length - (intOf v13).toNat)
    case atStart => exact ⟨0, by omega, rfl, Lib.hid rfl, 0, Lib.hid rfl⟩
    case round =>
      obtain ⟨k, hk, rfl, HE, d, HD⟩ := hrel
      obtain rfl := HD.out
      clear HD
      by_cases hlt : k < la.length
      · obtain ⟨b, off, rfl, hbl, hcell⟩ := HC.out (by omega)
        obtain ⟨b2, off2, rfl, hbl2, hcell2⟩ := HC2.out (by omega)
        have h0 : ∀ q, (w.drewN q).cell? ⟨b, off + k, none⟩ = some (.int .u8 ((la.getD k 0 : Nat) : Int)) := fun q => hcell k hlt
        have h1 : ∀ q, (w.drewN q).cell? ⟨b2, off2 + k, none⟩ = some (.int .u8 ((lb.getD k 0 : Nat) : Int)) := fun q => hcell2 k hlt
        have HEM := Lib.hid (fun h => take_eq_more k hlt (by rw [HL.out]; exact hlt) HE.out h)
        have HNE : Hid (la.getD k 0 ≠ lb.getD k 0 → la ≠ lb) := Lib.hid (fun h e => h (by rw [e]))
        have hk0 : (0 : Int) ≤ (k : Int) := by omega
        have hk1 : (k : Int) < (la.length : Int) := by omega
        clear hcell hcell2
        generalize la.getD k 0 = x at h0 HEM HNE
        generalize lb.getD k 0 = y at h1 HEM HNE
        by_cases hxy : x = y
        · subst hxy
          have HE2 := Lib.hid (HEM.out rfl)
          clear HEM HNE
          go_wp2_with fail
          go_quiet (fail)
          go_wp2
          go_roundw
          case rel => exact ⟨k + 1, by omega, by go_num, HE2, _, Lib.hid rfl⟩
          case measure => simp [intOf]; omega
        · have HN := Lib.hid (HNE.out hxy)
          have hne : (((x : Nat) : Int) != ((y : Nat) : Int)) = true := by rw [dec_neq]; simp [hxy]
          clear HEM HNE hxy
          go_wp2_with fail
          go_quiet (fail)
          go_wp2
          go_ret
          refine ⟨?_, below_drewN (below_drewN (Below.refl _ _) _) _⟩
          rw [show decide (la = lb) = false by simpa using HN.out]; rfl
      · obtain rfl : k = la.length := by omega
        have HEQ : Hid (la = lb) := Lib.hid (by
          have h := HE.out
          rw [List.take_of_length_le (Nat.le_refl _), List.take_of_length_le (by rw [HL.out]; exact Nat.le_refl _)] at h
          exact h)
        go_wp2
        go_ret
        refine ⟨?_, below_drewN (Below.refl _ _) _⟩
        rw [show decide (la = lb) = true by simpa using HEQ.out]; rfl
  · have hd : decide (la = lb) = false := by simp; intro h; exact hlen (by rw [h])
    rw [hd]
    have hne : (((la.length : Nat) : Int) != ((lb.length : Nat) : Int)) = true := by simp; omega
    clear hd hlen
    go_enter Try.func30, Try.ntmps30
    go_wp2
    go_ret
    exact ⟨rfl, Below.refl _ _⟩
set_option maxHeartbeats 4000000 in
set_option maxRecDepth 100000 in
/-- two signatures -/
theorem SigSame_ok (A B A' B' : Option Addr) (n m n' m' c d c' d' : Nat) (l r l' r' : List Nat) (hn : n ≤ 1000) (hm : m ≤ 1000) (hn' : n' ≤ 1000) (hm' : m' ≤ 1000) (w : World)
    (ha : Byt w A n c l) (hb : Byt w B m d r) (ha' : Byt w A' n' c' l') (hb' : Byt w B' m' d' r') :
    Calls Try.prog 17 #[.agg #[.slice A n c, .slice B m d], .agg #[.slice A' n' c', .slice B' m' d']] w fun e w' => e = .returned (.bool (decide (l = l') && decide (r = r'))) ∧ Below w.heap.size w w' := by
  have H1 := Lib.hid (fun W (h : Below w.heap.size w W) => Equal_ok A A' n n' c c' l l' hn hn' W (ha.below h) (ha'.below h))
  have H2 := Lib.hid (fun W (h : Below w.heap.size w W) => Equal_ok B B' m m' d d' r r' hm hm' W (hb.below h) (hb'.below h))
  clear ha hb ha' hb'
  obtain ⟨W0, hW0⟩ : ∃ W0, W0 = (w.alloc (.cells #[.slice A n c, .slice B m d] 42)).alloc (.cells #[.slice A' n' c', .slice B' m' d'] 42) := ⟨_, rfl⟩
  have hb0 : Below w.heap.size w W0 := by rw [hW0]; exact ((Below.refl _ w).alloc (Nat.le_refl _) _).alloc (by simp) _
  have HX : Hid (∀ W, Below (w.heap.size + 2) W0 W → W.cell? ⟨w.heap.size, 0, none⟩ = some (.slice A n c) ∧ W.cell? ⟨w.heap.size, 1, none⟩ = some (.slice B m d) ∧ W.cell? ⟨w.heap.size + 1, 0, none⟩ = some (.slice A' n' c') ∧ W.cell? ⟨w.heap.size + 1, 1, none⟩ = some (.slice B' m' d')) := Lib.hid (fun W h => by
    rw [hW0] at h
    have k1 : Blk W w.heap.size 42 #[.slice A n c, .slice B m d] := ((Blk.new w 42 _).alloc _).below h (by omega)
    have k2 := Blk.new (w.alloc (.cells #[.slice A n c, .slice B m d] 42)) 42 #[.slice A' n' c', .slice B' m' d']
    rw [World.size_alloc] at k2
    have k3 : Blk W (w.heap.size + 1) 42 #[.slice A' n' c', .slice B' m' d'] := k2.below h (by omega)
    exact ⟨k1.cell 0, k1.cell 1, k3.cell 0, k3.cell 1⟩)
  have HS : Hid (w.heap.size + 2 ≤ W0.heap.size) := Lib.hid (by rw [hW0]; simp)
  have HB0 := Lib.hid hb0
  have HWE := Lib.hid hW0
  obtain ⟨x0, x1, x2, x3⟩ := HX.out W0 (Below.refl _ _)
  clear hb0 hW0
  by_cases h : l = l'
  · have e1 : decide (l = l') = true := by simp [h]
    rw [e1] at H1 ⊢
    clear e1 h
    go_enter Try.func17, Try.ntmps17
    go_wp2_with fail
    rw [← HWE.out]
    go_wp2_with (go_at_call 30; first
      | ((with_reducible refine (H1.out _ HB0.out).mono ?_); rintro e w1 ⟨rfl, hb1⟩
         have HB1 : Hid (Below w.heap.size w w1) := Lib.hid (HB0.out.trans (hb1.mono HB0.out.size))
         obtain ⟨y0, y1, y2, y3⟩ := HX.out w1 (hb1.mono HS.out)
         clear hb1)
      | ((with_reducible refine (H2.out _ HB1.out).mono ?_); rintro e w2 ⟨rfl, hb2⟩
         have HB2 : Hid (Below w.heap.size w w2) := Lib.hid (HB1.out.trans (hb2.mono HB1.out.size))
         clear hb2))
    go_ret
    exact ⟨by simp, HB2.out⟩
  · have e1 : decide (l = l') = false := by simp [h]
    rw [e1] at H1 ⊢
    clear e1 h
    go_enter Try.func17, Try.ntmps17
    go_wp2_with fail
    rw [← HWE.out]
    go_wp2_with (go_at_call 30; first
      | ((with_reducible refine (H1.out _ HB0.out).mono ?_); rintro e w1 ⟨rfl, hb1⟩
         have HB1 : Hid (Below w.heap.size w w1) := Lib.hid (HB0.out.trans (hb1.mono HB0.out.size))
         obtain ⟨y0, y1, y2, y3⟩ := HX.out w1 (hb1.mono HS.out)
         clear hb1)
      | ((with_reducible refine (H2.out _ HB1.out).mono ?_); rintro e w2 ⟨rfl, hb2⟩
         have HB2 : Hid (Below w.heap.size w w2) := Lib.hid (HB1.out.trans (hb2.mono HB1.out.size))
         clear hb2))
    go_ret
    exact ⟨by simp, HB1.out⟩
/-- how many functions there are -/
theorem Count_ok (g : Nat) (A1 A2 : Option Addr) (n1 c1 n2 c2 : Nat) (cs : Array Value) (h1 : n1 ≤ 1000) (h2 : n2 ≤ 1000) (hc1 : cs[1]? = some (.slice A1 n1 c1)) (hc2 : cs[2]? = some (.slice A2 n2 c2)) (w : World) (hm : Blk w g 73 cs) :
    Calls Try.prog 10 #[.pointer (some ⟨g, 0, none⟩)] w fun e w' => e = .returned (.int .i64 ((n1 + n2 : Nat) : Int)) ∧ Below w.heap.size w w' := by
  have x1 : ∀ q, (w.drewN q).cell? ⟨g, 1, none⟩ = some (.slice A1 n1 c1) := fun q => (hm.cell 1).trans hc1
  have x2 : ∀ q, (w.drewN q).cell? ⟨g, 2, none⟩ = some (.slice A2 n2 c2) := fun q => (hm.cell 2).trans hc2
  clear hm hc1 hc2
  go_enter Try.func10, Try.ntmps10
  go_wp2_with fail
  go_quiet (fail)
  go_wp2
  go_ret
  exact ⟨by first | rfl | (congr 2; omega), below_drewN (Below.refl _ _) _⟩
/-- are types right, and not too many? -/
def tyC (c : Nat) : Bool := c == 126 || c == 127
def tyB (l : List Nat) : Bool := l.all tyC && decide (l.length ≤ 20)
set_option maxHeartbeats 4000000 in
set_option maxRecDepth 100000 in
theorem typed_any (A : Option Addr) (n c : Nat) (l : List Nat) (hn : n ≤ 1000) (w : World) (hb : Byt w A n c l) : Calls Try.prog 26 #[.slice A n c] w fun e w' => e = .returned (.bool (tyB l)) ∧ w = w' := by
  obtain ⟨hl, hx, hcap, hcm, hc⟩ := hb
  subst hl
  unfold maxLen at hcm
  have HC := Lib.hid hc
  obtain ⟨tot, htot⟩ : ∃ tot, tot = tyB l := ⟨_, rfl⟩
  rw [← htot]
  have HT := Lib.hid htot
  clear htot hc hx
  go_enter Try.func26, Try.ntmps26
  go_wp2
  go_loop [3] (fun v3 => ∃ k : Nat, k ≤ l.length ∧ v3 = .int .i64 k ∧ Hid ((l.take k).all tyC = true)) (fun v3 => l.length - (intOf v3).toNat)
  case atStart => exact ⟨0, Nat.zero_le _, rfl, Lib.hid rfl⟩
  case round =>
    obtain ⟨k, hk, rfl, HA⟩ := hrel
    by_cases hlt : k < l.length
    · obtain ⟨b, off, rfl, hbl, hcell⟩ := HC.out (by omega)
      have h0 := hcell k hlt
      have HY : Hid (tyC (l.getD k 0) = true → (l.take (k + 1)).all tyC = true) := Lib.hid (fun h => by rw [take_more l k hlt, List.all_append, HA.out]; simp only [List.all_cons, List.all_nil, h, Bool.and_true])
      have HN : Hid (tyC (l.getD k 0) = false → tot = false) := Lib.hid (fun h => by
        rw [HT.out]; unfold tyB
        have : l.all tyC = false := List.all_eq_false.2 ⟨l[k], List.getElem_mem hlt, by
          rw [List.getD_eq_getElem?_getD, List.getElem?_eq_getElem hlt] at h
          simpa using h⟩
        rw [this]; rfl)
      clear hcell
      generalize l.getD k 0 = y at h0 HY HN
      by_cases h1 : y = 126
      · have HR := Lib.hid (HY.out (by rw [h1]; rfl))
        subst h1
        go_wp2
        go_round
        case rel => exact ⟨k + 1, by omega, by go_num, HR⟩
        case measure => simp [intOf]; omega
      · by_cases h2 : y = 127
        · have HR := Lib.hid (HY.out (by rw [h2]; rfl))
          subst h2
          go_wp2
          go_round
          case rel => exact ⟨k + 1, by omega, by go_num, HR⟩
          case measure => simp [intOf]; omega
        · have HR : Hid (tot = false) := Lib.hid (HN.out (by unfold tyC; simp [h1, h2]))
          have e1 : (((y : Nat) : Int) != 126) = true := by simp; omega
          have e2 : (((y : Nat) : Int) != 127) = true := by simp; omega
          go_wp2
          go_ret
          exact ⟨by rw [HR.out]; rfl, rfl⟩
    · obtain rfl : k = l.length := by omega
      have HL : Hid (tot = decide (l.length ≤ 20)) := Lib.hid (by
        rw [HT.out]; unfold tyB
        have h := HA.out
        rw [List.take_of_length_le (Nat.le_refl _)] at h
        rw [h]; rfl)
      by_cases h20 : l.length ≤ 20
      · have e20 : decide ((l.length : Int) ≤ 20) = true := by rw [decide_eq_true_eq]; omega
        have HR : Hid (tot = true) := Lib.hid (by rw [HL.out]; simpa using h20)
        go_wp2
        go_ret
        exact ⟨by rw [HR.out]; rfl, rfl⟩
      · have e20 : decide ((l.length : Int) ≤ 20) = false := by rw [decide_eq_false_iff_not]; omega
        have HR : Hid (tot = false) := Lib.hid (by rw [HL.out]; simpa using h20)
        go_wp2
        go_ret
        exact ⟨by rw [HR.out]; rfl, rfl⟩
end Go.Proofs.Ytackompihengfaa
/-
  The export of a name.
-/
namespace Go.Proofs.Ytackompihengfaa
open Go.RowKit Go.PlainAid
set_option linter.unusedVariables false
set_option linter.unusedSimpArgs false
theorem str_eq (a b : ByteArray) : (a.toList == b.toList) = decide (a = b) := by
  rw [Bool.eq_iff_iff, beq_iff_eq, decide_eq_true_eq, ByteArray.toList_eq, ByteArray.toList_eq]
  constructor
  · intro h; exact ByteArray.ext (Array.toList_inj.1 h)
  · intro h; rw [h]
def ExC (x : ExT) : Value := .agg #[.string x.nm, .int .i64 x.kd, .int .i64 x.ix]
set_option maxHeartbeats 4000000 in
set_option maxRecDepth 100000 in
theorem find1_ok (x : ExT) (s : ByteArray) (g : Nat) (w : World) (hg : w.cell? ⟨g, 0, none⟩ = some (.string s)) (hl : g < w.heap.size) :
    Calls Try.prog 32 #[ExC x, .pointer (some ⟨g, 0, none⟩)] w fun e w' => e = .returned (.bool (decide (x.nm = s))) ∧ Below w.heap.size w w' := by
  obtain ⟨nm, kd, ix⟩ := x
  unfold ExC
  dsimp only
  have h2 : (w.alloc (.cells #[.string nm, .int .i64 kd, .int .i64 ix] 53)).cell? ⟨g, 0, none⟩ = some (.string s) := (((Below.refl w.heap.size w).alloc (Nat.le_refl _) _).cell (p := ⟨g, 0, none⟩) hl).trans hg
  go_enter Try.func32, Try.ntmps32
  go_wp2
  go_ret
  exact ⟨by rw [← str_eq]; rfl, (Below.refl _ _).alloc (Nat.le_refl _) _⟩
/-- the first export of a name, from a place on -/
def exF (X : Nat → ExT) (s : ByteArray) : Nat → Nat → Option Nat
  | 0, _ => none
  | m + 1, k => if (X k).nm = s then some k else exF X s m (k + 1)
def ixv : Option Nat → Int
  | some k => (k : Int)
  | none => -1
set_option maxHeartbeats 4000000 in
set_option maxRecDepth 100000 in
theorem indexFunc_ok (A : Option Addr) (n c : Nat) (X : Nat → ExT) (s : ByteArray) (g : Nat) (hn : n ≤ 1000) (w : World) (hr : Row 3 ExAt w A n c X) (hg : w.cell? ⟨g, 0, none⟩ = some (.string s)) (hl : g < w.heap.size) :
    Calls Try.prog 31 #[.slice A n c, .func (.func 32) #[] #[.pointer (some ⟨g, 0, none⟩)]] w fun e w' => e = .returned (.int .i64 (ixv (exF X s n 0))) ∧ Below w.heap.size w w' := by
  obtain ⟨hnc, hcm, hX⟩ := hr
  unfold maxLen at hcm
  have HX := Lib.hid hX
  obtain ⟨tot, htot⟩ : ∃ tot, tot = ixv (exF X s n 0) := ⟨_, rfl⟩
  rw [← htot]
  have HT := Lib.hid htot
  have HG := Lib.hid hg
  clear hX htot hg
  go_enter Try.func31, Try.ntmps31
  go_wp2
  go_loopw [8] (fun v8 wr => ∃ k : Nat, k ≤ n ∧ v8 = .int .i64 k ∧ Hid (tot = ixv (exF X s (n - k) k)) ∧ Hid (Below w.heap.size w wr)) (fun v8 _ => n - (intOf v8).toNat)
  case atStart => exact ⟨0, Nat.zero_le _, rfl, HT, Lib.hid (Below.refl _ _)⟩
  case round =>
    clear HT
    obtain ⟨k, hk, rfl, HT, HB⟩ := hrel
    by_cases hlt : k < n
    · obtain ⟨b, off, rfl, hbl, hat⟩ := HX.out (by omega)
      obtain ⟨c0, c1, c2⟩ := ex_stay _ _ _ _ _ (hat k hlt) HB.out hbl
      have HF : Hid (Calls Try.prog 32 #[.agg #[.string (X k).nm, .int .i64 (X k).kd, .int .i64 (X k).ix], .pointer (some ⟨g, 0, none⟩)] wr fun e w' => e = .returned (.bool (decide ((X k).nm = s))) ∧ Below wr.heap.size wr w') :=
        Lib.hid (find1_ok (X k) s g wr ((HB.out.cell (p := ⟨g, 0, none⟩) hl).trans HG.out) (Nat.lt_of_lt_of_le hl HB.out.size))
      have HS : Hid (tot = ixv (if (X k).nm = s then some k else exF X s (n - (k + 1)) (k + 1))) := Lib.hid (by
        rw [HT.out, show n - k = (n - (k + 1)) + 1 from by omega]; rfl)
      clear hat
      generalize hxk : X k = x at c0 c1 c2 HF HS
      obtain ⟨nm, kd, ix⟩ := x
      dsimp only at c0 c1 c2 HF HS
      by_cases he : nm = s
      · have HR : Hid (tot = (k : Int)) := Lib.hid (by rw [HS.out, if_pos he]; rfl)
        have HF2 : Hid (Calls Try.prog 32 #[.agg #[.string nm, .int .i64 kd, .int .i64 ix], .pointer (some ⟨g, 0, none⟩)] wr fun e w' => e = .returned (.bool true) ∧ Below wr.heap.size wr w') := Lib.hid (by have h := HF.out; rw [show decide (nm = s) = true from by simpa using he] at h; exact h)
        clear HF he hxk
        go_wp2_with (go_at_call 32; (with_reducible refine HF2.out.mono ?_); rintro e w1 ⟨rfl, hb⟩
                     have HB1 : Hid (Below w.heap.size w w1) := Lib.hid (HB.out.trans (hb.mono HB.out.size))
                     clear hb)
        go_ret
        exact ⟨by rw [HR.out]; rfl, HB1.out⟩
      · have HR : Hid (tot = ixv (exF X s (n - (k + 1)) (k + 1))) := Lib.hid (by rw [HS.out, if_neg he])
        have HF2 : Hid (Calls Try.prog 32 #[.agg #[.string nm, .int .i64 kd, .int .i64 ix], .pointer (some ⟨g, 0, none⟩)] wr fun e w' => e = .returned (.bool false) ∧ Below wr.heap.size wr w') := Lib.hid (by have h := HF.out; rw [show decide (nm = s) = false from by simpa using he] at h; exact h)
        clear HF he hxk
        go_wp2_with (go_at_call 32; (with_reducible refine HF2.out.mono ?_); rintro e w1 ⟨rfl, hb⟩
                     have HB1 : Hid (Below w.heap.size w w1) := Lib.hid (HB.out.trans (hb.mono HB.out.size))
                     clear hb)
        go_roundw
        case rel => exact ⟨k + 1, by omega, by go_num, HR, HB1⟩
        case measure => simp [intOf]; omega
    · obtain rfl : k = n := by omega
      have HR : Hid (tot = -1) := Lib.hid (by rw [HT.out, Nat.sub_self]; rfl)
      go_wp2
      go_ret
      exact ⟨by rw [HR.out]; rfl, HB.out⟩
end Go.Proofs.Ytackompihengfaa
/-
  Find.
-/
namespace Go.Proofs.Ytackompihengfaa
open Go.RowKit Go.PlainAid
set_option linter.unusedVariables false
set_option linter.unusedSimpArgs false
theorem exF_lt {X : Nat → ExT} {s : ByteArray} : ∀ {m j k : Nat}, exF X s m j = some k → j ≤ k ∧ k < j + m ∧ (X k).nm = s ∧ ∀ i, j ≤ i → i < k → (X i).nm ≠ s
  | 0, j, k, h => by cases h
  | m + 1, j, k, h => by
    unfold exF at h
    by_cases e : (X j).nm = s
    · rw [if_pos e] at h
      cases h
      exact ⟨Nat.le_refl _, by omega, e, fun i h1 h2 => by omega⟩
    · rw [if_neg e] at h
      obtain ⟨h1, h2, h3, h4⟩ := exF_lt h
      refine ⟨by omega, by omega, h3, fun i h5 h6 => ?_⟩
      by_cases e2 : i = j
      · subst e2; exact e
      · exact h4 i (by omega) h6
theorem exF_no {X : Nat → ExT} {s : ByteArray} : ∀ {m j : Nat}, exF X s m j = none → ∀ i, j ≤ i → i < j + m → (X i).nm ≠ s
  | 0, j, h => fun i h1 h2 => by omega
  | m + 1, j, h => fun i h1 h2 => by
    unfold exF at h
    by_cases e : (X j).nm = s
    · rw [if_pos e] at h; cases h
    · rw [if_neg e] at h
      by_cases e2 : i = j
      · subst e2; exact e
      · exact exF_no h i (by omega) (by omega)
theorem wpList_store53 {ops : Array Oper} {rest : List Oper} {o : Oper} {a : Act} {w : World} {Q : Exit → Act → World → Prop} (hgd : o.guard = none) (x y : Operand) (ho : o.op = .store 53 x y)
    (g : Nat) (old : Array Value) (nm : ByteArray) (kd ix : Int) (hx : a.eval x = .pointer (some ⟨g, 0, none⟩)) (hy : a.eval y = .agg #[.string nm, .int .i64 kd, .int .i64 ix])
    (hg : Blk w g 53 old) (hold : Hid (old.size = 3))
    (h : wpList Try.prog ops Q rest (a.put o.dst undef) (w.setRow g #[.string nm, .int .i64 kd, .int .i64 ix])) : wpList Try.prog ops Q (o :: rest) a w :=
  wpList_store_row hgd 53 x y ho g _ hx hy 53 old hg (by kernel_rfl) (by rw [hold.out]; rfl) (by simp [Value.oneCell']) h
/-- what Find answers -/
def fdv (X : Nat → ExT) : Option Nat → Value
  | some k => .tuple #[ExC (X k), .bool true]
  | none => .tuple #[.agg #[.string ⟨#[]⟩, .int .i64 0, .int .i64 0], .bool false]
set_option maxHeartbeats 4000000 in
set_option maxRecDepth 100000 in
theorem Find_ok (g : Nat) (cs : Array Value) (A : Option Addr) (n c : Nat) (X : Nat → ExT) (s : ByteArray) (hn : n ≤ 1000) (hc6 : cs[6]? = some (.slice A n c)) (w : World) (hm : Blk w g 73 cs) (hr : Row 3 ExAt w A n c X) :
    Calls Try.prog 19 #[.pointer (some ⟨g, 0, none⟩), .string s] w fun e w' => e = .returned (fdv X (exF X s n 0)) ∧ Below w.heap.size w w' := by
  have hb1 : Below w.heap.size w ((w.alloc (.cells #[.string s] 9)).alloc (.cells #[.string ⟨#[]⟩, .int .i64 0, .int .i64 0] 53)) := ((Below.refl w.heap.size w).alloc (Nat.le_refl _) _).alloc (by simp) _
  obtain ⟨W1, hW1⟩ : ∃ W, W = (w.alloc (.cells #[.string s] 9)).alloc (.cells #[.string ⟨#[]⟩, .int .i64 0, .int .i64 0] 53) := ⟨_, rfl⟩
  rw [← hW1] at hb1
  have hsc : W1.cell? ⟨w.heap.size, 0, none⟩ = some (.string s) := by rw [hW1]; exact ((Blk.new w 9 #[.string s]).alloc _).cell 0
  have hrb : Blk W1 (w.heap.size + 1) 53 #[.string ⟨#[]⟩, .int .i64 0, .int .i64 0] := by
    rw [hW1]
    have := Blk.new (w.alloc (.cells #[.string s] 9)) 53 #[.string ⟨#[]⟩, .int .i64 0, .int .i64 0]
    rw [World.size_alloc] at this
    exact this
  have hl1 : w.heap.size < W1.heap.size := by have := hrb.lt; omega
  have HI := Lib.hid (indexFunc_ok A n c X s w.heap.size hn W1 (hr.below ex_stay hb1) hsc hl1)
  have x6 : W1.cell? ⟨g, 6, none⟩ = some (.slice A n c) := ((hm.below hb1 hm.lt).cell 6).trans hc6
  have HM := Lib.hid (hm.below hb1 hm.lt)
  have HR := Lib.hid (hr.below ex_stay hb1)
  have HB1 := Lib.hid hb1
  have HRB := Lib.hid hrb
  have HC6 := Lib.hid hc6
  have HW1 := Lib.hid hW1
  have hcm := hr.2.1
  have hcn := hr.1
  unfold maxLen at hcm
  clear hm hr hb1 hrb hsc hW1 hl1 hc6
  cases hx : exF X s n 0 with
  | none =>
    rw [hx] at HI
    go_enter Try.func19, Try.ntmps19
    go_upto_region 1 with fail
    rw [← HW1.out]
    go_wp2_with (first
      | (go_at_call 31; (with_reducible refine HI.out.mono ?_); rintro e w2 ⟨rfl, hb⟩
         unfold ixv
         have HB2 : Hid (Below w.heap.size w w2) := Lib.hid (HB1.out.trans (hb.mono HB1.out.size))
         have HRB2 := Lib.hid (HRB.out.below hb HRB.out.lt)
         clear hb)
      | (with_reducible refine wpList_store53 rfl (.tmp 4) (.tmp 18) rfl (w.heap.size + 1) _ _ _ _ rfl rfl HRB2.out (Lib.hid rfl) ?_))
    refine bodyPost_ret (v := _) (res_cell results19 _ _ (w.heap.size + 1) 53 _ _ rfl (setRow_heap w2 (w.heap.size + 1) _ _ 53 (0, 0) HRB2.out) Try.underlying53 rfl (by kernel_rfl)) rfl ?_
    exact ⟨rfl, below_setRow HB2.out (by omega) _⟩
  | some k =>
    rw [hx] at HI
    obtain ⟨_, hk, _, _⟩ := exF_lt hx
    rw [Nat.zero_add] at hk
    obtain ⟨b, off, rfl, hbl, hat⟩ := HR.out.2.2 (by omega)
    have HAT := Lib.hid (hat k hk)
    have HBL := Lib.hid hbl
    clear hat hx hbl
    show Calls _ _ _ _ fun e w' => e = .returned (.tuple #[.agg #[.string (X k).nm, .int .i64 (X k).kd, .int .i64 (X k).ix], .bool true]) ∧ Below w.heap.size w w'
    generalize X k = x at HAT ⊢
    obtain ⟨nm, kd, ix⟩ := x
    dsimp only
    go_enter Try.func19, Try.ntmps19
    go_upto_region 1 with fail
    rw [← HW1.out]
    go_wp2_with (first
      | (go_at_call 31; (with_reducible refine HI.out.mono ?_); rintro e w2 ⟨rfl, hb⟩
         unfold ixv
         have HB2 : Hid (Below w.heap.size w w2) := Lib.hid (HB1.out.trans (hb.mono HB1.out.size))
         have HRB2 := Lib.hid (HRB.out.below hb HRB.out.lt)
         obtain ⟨y0, y1, y2⟩ := ex_stay _ _ _ _ _ HAT.out hb HBL.out
         have x6' := ((HM.out.below hb HM.out.lt).cell 6).trans HC6.out
         clear hb)
      | (with_reducible refine wpList_store53 rfl (.tmp 4) (.tmp 25) rfl (w.heap.size + 1) _ _ _ _ rfl rfl HRB2.out (Lib.hid rfl) ?_))
    refine bodyPost_ret (v := _) (res_cell results19 _ _ (w.heap.size + 1) 53 _ _ rfl (setRow_heap w2 (w.heap.size + 1) _ _ 53 (0, 0) HRB2.out) Try.underlying53 rfl (by kernel_rfl)) rfl ?_
    exact ⟨rfl, below_setRow HB2.out (by omega) _⟩
end Go.Proofs.Ytackompihengfaa
