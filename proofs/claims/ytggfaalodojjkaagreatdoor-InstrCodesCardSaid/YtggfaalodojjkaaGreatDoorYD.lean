/-
  Texts of YtggfaalodojjkaaGreatDoorYD.
-/
import Derived.Test.YtggfaalodojjkaaGreatDoorY8
import Derived.ProofKit
import Derived.Test.YtggfaalodojjkaaGreatDoorY2
import Derived.Test.YtggfaalodojjkaaGreatDoorY3
import Derived.Great.BuildSlice
import Derived.Outline
import Derived.BigGuard
namespace Go.Proofs.YtggfaalodojjkaaGreatDoor
open Go.RowKit
set_option linter.unusedVariables false
set_option linter.unusedSimpArgs false
def eqI (x y : In) : Bool := decide (x.cd = y.cd) && decide (x.a = y.a) && decide (x.b = y.b) && decide (x.al = y.al) && decide (x.l = y.l)
theorem take_eq_moreI {a b : List Int} (k : Nat) (ha : k < a.length) (hb : k < b.length) (h : a.take k = b.take k) (he : a.getD k 0 = b.getD k 0) : a.take (k + 1) = b.take (k + 1) := by
  rw [List.take_succ_eq_append_getElem ha, List.take_succ_eq_append_getElem hb, h]
  rw [List.getD_eq_getElem?_getD, List.getElem?_eq_getElem ha, List.getD_eq_getElem?_getD, List.getElem?_eq_getElem hb] at he
  simp at he
  rw [he]
set_option maxHeartbeats 4000000 in
set_option maxRecDepth 100000 in
theorem EqualW_ok (A B : Option Addr) (n m ca cb : Nat) (la lb : List Int) (hn : n ≤ 1000) (hm : m ≤ 1000) (w : World) (ha : Sl w A n ca la) (hb : Sl w B m cb lb) :
    Calls Tryz.prog 38 #[.slice A n ca, .slice B m cb] w fun e w' => e = .returned (.bool (decide (la = lb))) ∧ Below w.heap.size w w' := by
  obtain ⟨hl, hcap, hcm, hc⟩ := ha
  obtain ⟨hl2, hcap2, hcm2, hc2⟩ := hb
  subst hl
  subst hl2
  have HC := Lib.hid hc
  have HC2 := Lib.hid hc2
  clear hc hcap hcm hc2 hcap2 hcm2
  by_cases hlen : la.length = lb.length
  · have HL : Hid (lb.length = la.length) := Lib.hid hlen.symm
    rw [← hlen] at hm HC2 ⊢
    clear hlen
    go_enter Tryz.func38, Tryz.ntmps38
    go_wp2
    go_loopw [13] (fun v13 wr => ∃ k : Nat, k ≤ la.length ∧ v13 = .int .i64 k ∧ Hid (la.take k = lb.take k) ∧ ∃ d, Hid (wr = w.drewN d)) (fun v13 _ => la.length - (intOf v13).toNat)
    case atStart => exact ⟨0, by omega, rfl, Lib.hid rfl, 0, Lib.hid rfl⟩
    case round =>
      obtain ⟨k, hk, rfl, HE, d, HD⟩ := hrel
      obtain rfl := HD.out
      clear HD
      by_cases hlt : k < la.length
      · obtain ⟨b, off, rfl, hbl, hcell⟩ := HC.out (by omega)
        obtain ⟨b2, off2, rfl, hbl2, hcell2⟩ := HC2.out (by omega)
        have h0 : ∀ q, (w.drewN q).cell? ⟨b, off + k, none⟩ = some (.int .u64 (la.getD k 0)) := fun q => hcell k hlt
        have h1 : ∀ q, (w.drewN q).cell? ⟨b2, off2 + k, none⟩ = some (.int .u64 (lb.getD k 0)) := fun q => hcell2 k hlt
        have HEM := Lib.hid (fun h => take_eq_moreI k hlt (by rw [HL.out]; exact hlt) HE.out h)
        have HNE : Hid (la.getD k 0 ≠ lb.getD k 0 → la ≠ lb) := Lib.hid (fun h e => h (by rw [e]))
        have hk0 : (0 : Int) ≤ (k : Int) := by omega
        have hk1 : (k : Int) < (la.length : Int) := by omega
        clear hcell hcell2
        generalize la.getD k 0 = x at h0 HEM HNE
        generalize lb.getD k 0 = y at h1 HEM HNE
        by_cases hxy : x = y
        · subst hxy
          have HE2 := Lib.hid (HEM.out rfl)
          clear HEM HNE
          go_wp2_with fail
          go_quiet (fail)
          go_wp2
          go_roundw
          case rel => exact ⟨k + 1, by omega, by go_num, HE2, _, Lib.hid rfl⟩
          case measure => simp [intOf]; omega
        · have HN := Lib.hid (HNE.out hxy)
          have hne : (x != y) = true := by simp [hxy]
          clear HEM HNE hxy
          go_wp2_with fail
          go_quiet (fail)
          go_wp2
          go_ret
          refine ⟨?_, below_drewN (below_drewN (Below.refl _ _) _) _⟩
          rw [show decide (la = lb) = false by simpa using HN.out]; rfl
      · obtain rfl : k = la.length := by omega
        have HEQ : Hid (la = lb) := Lib.hid (by
          have h := HE.out
          rw [List.take_of_length_le (Nat.le_refl _), List.take_of_length_le (by rw [HL.out]; exact Nat.le_refl _)] at h
          exact h)
        go_wp2
        go_ret
        refine ⟨?_, below_drewN (Below.refl _ _) _⟩
        rw [show decide (la = lb) = true by simpa using HEQ.out]; rfl
  · have hd : decide (la = lb) = false := by simp; intro h; exact hlen (by rw [h])
    rw [hd]
    have hne : (((la.length : Nat) : Int) != ((lb.length : Nat) : Int)) = true := by simp; omega
    clear hd hlen
    go_enter Tryz.func38, Tryz.ntmps38
    go_wp2
    go_ret
    exact ⟨rfl, Below.refl _ _⟩
set_option maxHeartbeats 4000000 in
set_option maxRecDepth 100000 in
theorem InstrSame0_ok (cd cd2 : Int) (a a2 : Int) (b b2 : Int) (al al2 : Int) (A B : Option Addr) (n m ca cb : Nat) (l l2 : List Int) (hn : n ≤ 5000) (hm : m ≤ 5000) (w : World) (ha : Sl w A n ca l) (hb : Sl w B m cb l2)
    (he : ∀ W, Below w.heap.size w W → Calls Tryz.prog 38 #[.slice A n ca, .slice B m cb] W fun e w' => e = .returned (.bool (decide (l = l2))) ∧ Below W.heap.size W w') :
    Calls Tryz.prog 13 #[.agg #[.int .i64 cd, .int .u64 a, .int .u64 b, .int .i64 al, .slice A n ca], .agg #[.int .i64 cd2, .int .u64 a2, .int .u64 b2, .int .i64 al2, .slice B m cb]] w fun e w' => e = .returned (.bool (decide (cd = cd2) && decide (a = a2) && decide (b = b2) && decide (al = al2) && decide (l = l2))) ∧ Below w.heap.size w w' := by
  have HE := Lib.hid he
  have hb2 : Below w.heap.size w ((w.alloc (.cells #[.int .i64 cd, .int .u64 a, .int .u64 b, .int .i64 al, .slice A n ca] 30)).alloc (.cells #[.int .i64 cd2, .int .u64 a2, .int .u64 b2, .int .i64 al2, .slice B m cb] 30)) := ((Below.refl _ _).alloc (Nat.le_refl _) _).alloc (by simp) _
  have HB2 := Lib.hid hb2
  clear he ha hb hb2
  by_cases hcd : cd = cd2
  case neg =>
    have hc : (cd == cd2) = false := by simp [hcd]
    have hr : (decide (cd = cd2) && decide (a = a2) && decide (b = b2) && decide (al = al2) && decide (l = l2)) = false := by simp [hcd]
    rw [hr]
    clear hcd hr
    go_enter Tryz.func13, Tryz.ntmps13
    go_wp2
    go_ret
    exact ⟨rfl, HB2.out⟩
  subst hcd
  by_cases ha : a = a2
  case neg =>
    have hc : (a == a2) = false := by simp [ha]
    have hr : (decide (cd = cd) && decide (a = a2) && decide (b = b2) && decide (al = al2) && decide (l = l2)) = false := by simp [ha]
    rw [hr]
    clear ha hr
    go_enter Tryz.func13, Tryz.ntmps13
    go_wp2
    go_ret
    exact ⟨rfl, HB2.out⟩
  subst ha
  by_cases hb : b = b2
  case neg =>
    have hc : (b == b2) = false := by simp [hb]
    have hr : (decide (cd = cd) && decide (a = a) && decide (b = b2) && decide (al = al2) && decide (l = l2)) = false := by simp [hb]
    rw [hr]
    clear hb hr
    go_enter Tryz.func13, Tryz.ntmps13
    go_wp2
    go_ret
    exact ⟨rfl, HB2.out⟩
  subst hb
  by_cases hal : al = al2
  case neg =>
    have hc : (al == al2) = false := by simp [hal]
    have hr : (decide (cd = cd) && decide (a = a) && decide (b = b) && decide (al = al2) && decide (l = l2)) = false := by simp [hal]
    rw [hr]
    clear hal hr
    go_enter Tryz.func13, Tryz.ntmps13
    go_wp2
    go_ret
    exact ⟨rfl, HB2.out⟩
  subst hal
  have hr : (decide (cd = cd) && decide (a = a) && decide (b = b) && decide (al = al) && decide (l = l2)) = decide (l = l2) := by simp
  rw [hr]
  clear hr
  go_enter Tryz.func13, Tryz.ntmps13
  go_wp2_with fail
  with_reducible refine (HE.out _ HB2.out).mono ?_
  rintro e w3 ⟨rfl, hb3⟩
  have HB3 := Lib.hid (HB2.out.trans (hb3.mono HB2.out.size))
  clear hb3
  go_wp2
  go_ret
  exact ⟨rfl, HB3.out⟩
theorem Same_I (x y : In) (A B : Option Addr) (ca cb : Nat) (hn : x.l.length ≤ 1000) (hm : y.l.length ≤ 1000) (w : World) (ha : Sl w A x.l.length ca x.l) (hb : Sl w B y.l.length cb y.l) :
    Calls Tryz.prog 13 #[.agg (I5 x (.slice A x.l.length ca)).toArray, .agg (I5 y (.slice B y.l.length cb)).toArray] w fun e w' => e = .returned (.bool (eqI x y)) ∧ Below w.heap.size w w' :=
  InstrSame0_ok x.cd y.cd x.a y.a x.b y.b x.al y.al A B _ _ ca cb x.l y.l (by omega) (by omega) w ha hb (fun W hW => EqualW_ok A B _ _ ca cb x.l y.l hn hm W (ha.below hW) (hb.below hW))
set_option maxHeartbeats 4000000 in
set_option maxRecDepth 100000 in
theorem RSame_I (cd cd2 a a2 b b2 al al2 : Int) (A B : Option Addr) (ca cb : Nat) (l l2 : List Int) (hn : l.length ≤ 1000) (hm : l2.length ≤ 1000) (w : World) (ha : Sl w A l.length ca l) (hb : Sl w B l2.length cb l2) :
    Calls Tryz.prog 19 #[.agg #[.int .i64 cd, .int .u64 a, .int .u64 b, .int .i64 al, .slice A l.length ca], .agg #[.int .i64 cd2, .int .u64 a2, .int .u64 b2, .int .i64 al2, .slice B l2.length cb]] w fun e w' => e = .returned (.bool (decide (cd = cd2) && decide (a = a2) && decide (b = b2) && decide (al = al2) && decide (l = l2))) ∧ Below w.heap.size w w' := by
  have hb2 : Below w.heap.size w ((w.alloc (.cells #[.int .i64 cd, .int .u64 a, .int .u64 b, .int .i64 al, .slice A l.length ca] 25)).alloc (.cells #[.int .i64 cd2, .int .u64 a2, .int .u64 b2, .int .i64 al2, .slice B l2.length cb] 25)) := ((Below.refl _ _).alloc (Nat.le_refl _) _).alloc (by simp) _
  have HB2 := Lib.hid hb2
  have HA := Lib.hid (fun V (hV : Below w.heap.size w V) => ha.below hV)
  have HBs := Lib.hid (fun V (hV : Below w.heap.size w V) => hb.below hV)
  have c1 := ha.2.1
  have c2 := hb.2.1
  have c3 := ha.2.2.1
  have c4 := hb.2.2.1
  unfold maxLen at c3 c4
  clear ha hb hb2
  by_cases qcd : cd = cd2
  case neg =>
    have hc : (cd != cd2) = true := by simp [qcd]
    have hr : (decide (cd = cd2) && decide (a = a2) && decide (b = b2) && decide (al = al2) && decide (l = l2)) = false := by simp [qcd]
    rw [hr]
    clear qcd hr
    go_enter Tryz.func19, Tryz.ntmps19
    go_wp2
    go_ret
    exact ⟨rfl, HB2.out⟩
  subst qcd
  by_cases qa : a = a2
  case neg =>
    have hc : (a != a2) = true := by simp [qa]
    have hr : (decide (cd = cd) && decide (a = a2) && decide (b = b2) && decide (al = al2) && decide (l = l2)) = false := by simp [qa]
    rw [hr]
    clear qa hr
    go_enter Tryz.func19, Tryz.ntmps19
    go_wp2
    go_ret
    exact ⟨rfl, HB2.out⟩
  subst qa
  by_cases qb : b = b2
  case neg =>
    have hc : (b != b2) = true := by simp [qb]
    have hr : (decide (cd = cd) && decide (a = a) && decide (b = b2) && decide (al = al2) && decide (l = l2)) = false := by simp [qb]
    rw [hr]
    clear qb hr
    go_enter Tryz.func19, Tryz.ntmps19
    go_wp2
    go_ret
    exact ⟨rfl, HB2.out⟩
  subst qb
  by_cases qal : al = al2
  case neg =>
    have hc : (al != al2) = true := by simp [qal]
    have hr : (decide (cd = cd) && decide (a = a) && decide (b = b) && decide (al = al2) && decide (l = l2)) = false := by simp [qal]
    rw [hr]
    clear qal hr
    go_enter Tryz.func19, Tryz.ntmps19
    go_wp2
    go_ret
    exact ⟨rfl, HB2.out⟩
  subst qal
  have hr : (decide (cd = cd) && decide (a = a) && decide (b = b) && decide (al = al) && decide (l = l2)) = decide (l = l2) := by simp
  rw [hr]
  clear hr
  by_cases hlen : l.length = l2.length
  case neg =>
    have hc : ((l.length : Int) != (l2.length : Int)) = true := by simp; omega
    have hr : decide (l = l2) = false := by simp; intro h; exact hlen (by rw [h])
    rw [hr]
    clear hlen hr
    go_enter Tryz.func19, Tryz.ntmps19
    go_wp2
    go_ret
    exact ⟨rfl, HB2.out⟩
  have HL : Hid (l2.length = l.length) := Lib.hid hlen.symm
  rw [← hlen] at hm HBs HB2 c2 ⊢
  clear hlen
  obtain ⟨W2, hW2⟩ : ∃ V, V = (w.alloc (.cells #[.int .i64 cd, .int .u64 a, .int .u64 b, .int .i64 al, .slice A l.length ca] 25)).alloc (.cells #[.int .i64 cd, .int .u64 a, .int .u64 b, .int .i64 al, .slice B l.length cb] 25) := ⟨_, rfl⟩
  rw [← hW2] at HB2
  obtain ⟨by_, hby⟩ : ∃ x, x = w.heap.size + 1 := ⟨_, rfl⟩
  have hx : Blk W2 w.heap.size 25 #[.int .i64 cd, .int .u64 a, .int .u64 b, .int .i64 al, .slice A l.length ca] := by rw [hW2]; exact (Blk.new w 25 _).alloc _
  have hy : Blk W2 by_ 25 #[.int .i64 cd, .int .u64 a, .int .u64 b, .int .i64 al, .slice B l.length cb] := by rw [hW2, hby]; exact heap2 w _ _
  have x0 : W2.cell? ⟨w.heap.size, 0, none⟩ = some (.int .i64 cd) := hx.cell 0
  have y0 : W2.cell? ⟨by_, 0, none⟩ = some (.int .i64 cd) := hy.cell 0
  have x1 : W2.cell? ⟨w.heap.size, 1, none⟩ = some (.int .u64 a) := hx.cell 1
  have y1 : W2.cell? ⟨by_, 1, none⟩ = some (.int .u64 a) := hy.cell 1
  have x2 : W2.cell? ⟨w.heap.size, 2, none⟩ = some (.int .u64 b) := hx.cell 2
  have y2 : W2.cell? ⟨by_, 2, none⟩ = some (.int .u64 b) := hy.cell 2
  have x3 : W2.cell? ⟨w.heap.size, 3, none⟩ = some (.int .i64 al) := hx.cell 3
  have y3 : W2.cell? ⟨by_, 3, none⟩ = some (.int .i64 al) := hy.cell 3
  have x4 : ∀ q, (W2.drewN q).cell? ⟨w.heap.size, 4, none⟩ = some (.slice A l.length ca) := fun q => hx.cell 4
  have y4 : ∀ q, (W2.drewN q).cell? ⟨by_, 4, none⟩ = some (.slice B l.length cb) := fun q => hy.cell 4
  have x5 : W2.cell? ⟨w.heap.size, 4, none⟩ = some (.slice A l.length ca) := hx.cell 4
  have y5 : W2.cell? ⟨by_, 4, none⟩ = some (.slice B l.length cb) := hy.cell 4
  have HC := Lib.hid (HA.out W2 HB2.out).2.2.2
  have HC2 := Lib.hid (HBs.out W2 HB2.out).2.2.2
  have HW2 := Lib.hid hW2
  have HBY := Lib.hid hby
  clear hx hy hW2 hby HA HBs
  go_enter Tryz.func19, Tryz.ntmps19
  go_upto_region 1 with fail
  rw [← HBY.out, ← HW2.out]
  go_wp2_with fail
  go_loopw [5] (fun v5 wr => ∃ k : Nat, k ≤ l.length ∧ v5 = .int .i64 k ∧ Hid (l.take k = l2.take k) ∧ ∃ d, Hid (wr = W2.drewN d)) (fun v5 _ => l.length - (intOf v5).toNat)
  case atStart => exact ⟨0, by omega, rfl, Lib.hid rfl, 0, Lib.hid rfl⟩
  case round =>
    obtain ⟨k, hk, rfl, HE, d, HD⟩ := hrel
    obtain rfl := HD.out
    clear HD
    by_cases hlt : k < l.length
    · obtain ⟨g1, off, rfl, hbl, hcell⟩ := HC.out (by omega)
      obtain ⟨g2, off2, rfl, hbl2, hcell2⟩ := HC2.out (by omega)
      have h0 : ∀ q, (W2.drewN q).cell? ⟨g1, off + k, none⟩ = some (.int .u64 (l.getD k 0)) := fun q => hcell k hlt
      have h1 : ∀ q, (W2.drewN q).cell? ⟨g2, off2 + k, none⟩ = some (.int .u64 (l2.getD k 0)) := fun q => hcell2 k hlt
      have HEM := Lib.hid (fun h => take_eq_moreI k hlt (by rw [HL.out]; exact hlt) HE.out h)
      have HNE : Hid (l.getD k 0 ≠ l2.getD k 0 → l ≠ l2) := Lib.hid (fun h e => h (by rw [e]))
      have hk0 : (0 : Int) ≤ (k : Int) := by omega
      have hk1 : (k : Int) < (l.length : Int) := by omega
      clear hcell hcell2
      generalize l.getD k 0 = x at h0 HEM HNE
      generalize l2.getD k 0 = y at h1 HEM HNE
      by_cases hxy : x = y
      · subst hxy
        have HE2 := Lib.hid (HEM.out rfl)
        clear HEM HNE
        go_wp2_with fail
        go_quiet (fail)
        go_wp2
        go_roundw
        case rel => exact ⟨k + 1, by omega, by go_num, HE2, _, Lib.hid rfl⟩
        case measure => simp [intOf]; omega
      · have HN := Lib.hid (HNE.out hxy)
        have hne : (x != y) = true := by simp [hxy]
        clear HEM HNE hxy
        go_wp2_with fail
        go_quiet (fail)
        go_wp2
        go_ret
        refine ⟨?_, below_drewN (below_drewN HB2.out _) _⟩
        rw [show decide (l = l2) = false by simpa using HN.out]; rfl
    · obtain rfl : k = l.length := by omega
      have HEQ : Hid (l = l2) := Lib.hid (by
        have h := HE.out
        rw [List.take_of_length_le (Nat.le_refl _), List.take_of_length_le (by rw [HL.out]; exact Nat.le_refl _)] at h
        exact h)
      go_wp2
      go_ret
      refine ⟨?_, below_drewN HB2.out _⟩
      rw [show decide (l = l2) = true by simpa using HEQ.out]; rfl
end Go.Proofs.YtggfaalodojjkaaGreatDoor
namespace Go.Proofs.YtggfaalodojjkaaGreatDoor
set_option maxRecDepth 10000
def TN0 : List (List UInt8) := [[117, 110, 114, 101, 97, 99, 104, 97, 98, 108, 101], [110, 111, 112], [98, 108, 111, 99, 107], [108, 111, 111, 112], [105, 102], [101, 108, 115, 101], [], [], [], [], [], [101, 110, 100], [98, 114], [98, 114, 95, 105, 102], [98, 114, 95, 116, 97, 98, 108, 101], [114, 101, 116, 117, 114, 110], [99, 97, 108, 108], [99, 97, 108, 108, 95, 105, 110, 100, 105, 114, 101, 99, 116], [], []]
def TN1 : List (List UInt8) := [[], [], [], [], [], [], [100, 114, 111, 112], [115, 101, 108, 101, 99, 116], [], [], [], [], [108, 111, 99, 97, 108, 46, 103, 101, 116], [108, 111, 99, 97, 108, 46, 115, 101, 116], [108, 111, 99, 97, 108, 46, 116, 101, 101], [103, 108, 111, 98, 97, 108, 46, 103, 101, 116], [103, 108, 111, 98, 97, 108, 46, 115, 101, 116], [], [], []]
def TN2 : List (List UInt8) := [[105, 51, 50, 46, 108, 111, 97, 100], [105, 54, 52, 46, 108, 111, 97, 100], [], [], [105, 51, 50, 46, 108, 111, 97, 100, 56, 95, 115], [105, 51, 50, 46, 108, 111, 97, 100, 56, 95, 117], [105, 51, 50, 46, 108, 111, 97, 100, 49, 54, 95, 115], [105, 51, 50, 46, 108, 111, 97, 100, 49, 54, 95, 117], [105, 54, 52, 46, 108, 111, 97, 100, 56, 95, 115], [105, 54, 52, 46, 108, 111, 97, 100, 56, 95, 117], [105, 54, 52, 46, 108, 111, 97, 100, 49, 54, 95, 115], [105, 54, 52, 46, 108, 111, 97, 100, 49, 54, 95, 117], [105, 54, 52, 46, 108, 111, 97, 100, 51, 50, 95, 115], [105, 54, 52, 46, 108, 111, 97, 100, 51, 50, 95, 117], [105, 51, 50, 46, 115, 116, 111, 114, 101], [105, 54, 52, 46, 115, 116, 111, 114, 101], [], [], [105, 51, 50, 46, 115, 116, 111, 114, 101, 56], [105, 51, 50, 46, 115, 116, 111, 114, 101, 49, 54]]
def TN3 : List (List UInt8) := [[105, 54, 52, 46, 115, 116, 111, 114, 101, 56], [105, 54, 52, 46, 115, 116, 111, 114, 101, 49, 54], [105, 54, 52, 46, 115, 116, 111, 114, 101, 51, 50], [109, 101, 109, 111, 114, 121, 46, 115, 105, 122, 101], [109, 101, 109, 111, 114, 121, 46, 103, 114, 111, 119], [105, 51, 50, 46, 99, 111, 110, 115, 116], [105, 54, 52, 46, 99, 111, 110, 115, 116], [], [], [105, 51, 50, 46, 101, 113, 122], [105, 51, 50, 46, 101, 113], [105, 51, 50, 46, 110, 101], [105, 51, 50, 46, 108, 116, 95, 115], [105, 51, 50, 46, 108, 116, 95, 117], [105, 51, 50, 46, 103, 116, 95, 115], [105, 51, 50, 46, 103, 116, 95, 117], [105, 51, 50, 46, 108, 101, 95, 115], [105, 51, 50, 46, 108, 101, 95, 117], [105, 51, 50, 46, 103, 101, 95, 115], [105, 51, 50, 46, 103, 101, 95, 117]]
def TN4 : List (List UInt8) := [[105, 54, 52, 46, 101, 113, 122], [105, 54, 52, 46, 101, 113], [105, 54, 52, 46, 110, 101], [105, 54, 52, 46, 108, 116, 95, 115], [105, 54, 52, 46, 108, 116, 95, 117], [105, 54, 52, 46, 103, 116, 95, 115], [105, 54, 52, 46, 103, 116, 95, 117], [105, 54, 52, 46, 108, 101, 95, 115], [105, 54, 52, 46, 108, 101, 95, 117], [105, 54, 52, 46, 103, 101, 95, 115], [105, 54, 52, 46, 103, 101, 95, 117], [], [], [], [], [], [], [], [], []]
def TN5 : List (List UInt8) := [[], [], [], [105, 51, 50, 46, 99, 108, 122], [105, 51, 50, 46, 99, 116, 122], [105, 51, 50, 46, 112, 111, 112, 99, 110, 116], [105, 51, 50, 46, 97, 100, 100], [105, 51, 50, 46, 115, 117, 98], [105, 51, 50, 46, 109, 117, 108], [105, 51, 50, 46, 100, 105, 118, 95, 115], [105, 51, 50, 46, 100, 105, 118, 95, 117], [105, 51, 50, 46, 114, 101, 109, 95, 115], [105, 51, 50, 46, 114, 101, 109, 95, 117], [105, 51, 50, 46, 97, 110, 100], [105, 51, 50, 46, 111, 114], [105, 51, 50, 46, 120, 111, 114], [105, 51, 50, 46, 115, 104, 108], [105, 51, 50, 46, 115, 104, 114, 95, 115], [105, 51, 50, 46, 115, 104, 114, 95, 117], [105, 51, 50, 46, 114, 111, 116, 108]]
def TN6 : List (List UInt8) := [[105, 51, 50, 46, 114, 111, 116, 114], [105, 54, 52, 46, 99, 108, 122], [105, 54, 52, 46, 99, 116, 122], [105, 54, 52, 46, 112, 111, 112, 99, 110, 116], [105, 54, 52, 46, 97, 100, 100], [105, 54, 52, 46, 115, 117, 98], [105, 54, 52, 46, 109, 117, 108], [105, 54, 52, 46, 100, 105, 118, 95, 115], [105, 54, 52, 46, 100, 105, 118, 95, 117], [105, 54, 52, 46, 114, 101, 109, 95, 115], [105, 54, 52, 46, 114, 101, 109, 95, 117], [105, 54, 52, 46, 97, 110, 100], [105, 54, 52, 46, 111, 114], [105, 54, 52, 46, 120, 111, 114], [105, 54, 52, 46, 115, 104, 108], [105, 54, 52, 46, 115, 104, 114, 95, 115], [105, 54, 52, 46, 115, 104, 114, 95, 117], [105, 54, 52, 46, 114, 111, 116, 108], [105, 54, 52, 46, 114, 111, 116, 114], []]
def TN7 : List (List UInt8) := [[], [], [], [], [], [], [], [], [], [], [], [], [], [], [], [], [], [], [], []]
def TN8 : List (List UInt8) := [[], [], [], [], [], [], [], [105, 51, 50, 46, 119, 114, 97, 112, 95, 105, 54, 52], [], [], [], [], [105, 54, 52, 46, 101, 120, 116, 101, 110, 100, 95, 105, 51, 50, 95, 115], [105, 54, 52, 46, 101, 120, 116, 101, 110, 100, 95, 105, 51, 50, 95, 117], [], [], [], [], [], []]
def TN9 : List (List UInt8) := [[], [], [], [], [], [], [], [], [], [], [], [], [105, 51, 50, 46, 101, 120, 116, 101, 110, 100, 56, 95, 115], [105, 51, 50, 46, 101, 120, 116, 101, 110, 100, 49, 54, 95, 115], [105, 54, 52, 46, 101, 120, 116, 101, 110, 100, 56, 95, 115], [105, 54, 52, 46, 101, 120, 116, 101, 110, 100, 49, 54, 95, 115], [105, 54, 52, 46, 101, 120, 116, 101, 110, 100, 51, 50, 95, 115]]
def TN : List (List UInt8) := TN0 ++ TN1 ++ TN2 ++ TN3 ++ TN4 ++ TN5 ++ TN6 ++ TN7 ++ TN8 ++ TN9
theorem TN_length : TN.length = 197 := by kernel_rfl
def NT : Array Value := (TN.map fun l => Value.string ⟨l.toArray⟩).toArray
/-- the name that the document has for a code -/
def nameL (code : Int) : List UInt8 := if code = 64522 then [109, 101, 109, 111, 114, 121, 46, 99, 111, 112, 121] else if code = 64523 then [109, 101, 109, 111, 114, 121, 46, 102, 105, 108, 108] else if 0 ≤ code ∧ code ≤ 196 then TN.getD code.toNat [] else []
end Go.Proofs.YtggfaalodojjkaaGreatDoor
namespace Go.Proofs.YtggfaalodojjkaaGreatDoor
open Go.RowKit Go.ChangeShapes Go.WideShapes Go.ChangeAt
set_option linter.unusedVariables false
set_option linter.unusedSimpArgs false
set_option maxHeartbeats 8000000 in
set_option maxRecDepth 100000 in
theorem RName_in (k : Nat) (hk : k ≤ 196) (w : World) : Calls Tryz.prog 36 #[.int .i64 k] w fun e w' => e = .returned (.string ⟨(TN.getD k []).toArray⟩) ∧ w.alloc (.cells NT 9) = w' := by
  obtain ⟨i9, hi9, hz9, hs9, _⟩ := info_parts info9
  have hcell : (w.alloc (.cells NT 9)).cell? ⟨w.heap.size, k, none⟩ = some (.string ⟨(TN.getD k []).toArray⟩) := by
    rw [(Blk.new w 9 NT).cell k]
    unfold NT
    have hl : k < TN.length := by rw [TN_length]; omega
    rw [List.getElem?_toArray, List.getElem?_map, List.getElem?_eq_getElem hl, List.getD_eq_getElem?_getD, List.getElem?_eq_getElem hl]; rfl
  generalize (TN.getD k []) = nm at hcell
  have h1 : (((k : Nat) : Int) == 64522) = false := by simp; omega
  have h2 : (((k : Nat) : Int) == 64523) = false := by simp; omega
  go_enter Tryz.func36, Tryz.ntmps36
  go_wp2_with (with_reducible refine wpList_buildSlice rfl 73 9 197 _ rfl NT i9 (.string ⟨#[]⟩) Tryz.underlying73 hi9 hz9 ?e1 ?e2 ?e3 ?_
               case e1 => rw [hs9]; decide
               case e2 => rw [hs9]; decide
               case e3 => rw [hs9]; kernel_rfl)
  go_ret
  exact ⟨rfl, rfl⟩
set_option maxHeartbeats 8000000 in
set_option maxRecDepth 100000 in
theorem RName_copy (w : World) : Calls Tryz.prog 36 #[.int .i64 64522] w fun e w' => e = .returned (.string ⟨#[109, 101, 109, 111, 114, 121, 46, 99, 111, 112, 121]⟩) ∧ w = w' := by
  go_enter Tryz.func36, Tryz.ntmps36
  go_wp2_with fail
  go_ret
  exact ⟨rfl, rfl⟩
set_option maxHeartbeats 8000000 in
set_option maxRecDepth 100000 in
theorem RName_fill (w : World) : Calls Tryz.prog 36 #[.int .i64 64523] w fun e w' => e = .returned (.string ⟨#[109, 101, 109, 111, 114, 121, 46, 102, 105, 108, 108]⟩) ∧ w = w' := by
  go_enter Tryz.func36, Tryz.ntmps36
  go_wp2_with fail
  go_ret
  exact ⟨rfl, rfl⟩
set_option maxHeartbeats 8000000 in
set_option maxRecDepth 100000 in
theorem RName_lo (c : Int) (h : c < 0) (hb : -9223372036854775808 ≤ c) (w : World) : Calls Tryz.prog 36 #[.int .i64 c] w fun e w' => e = .returned (.string ⟨#[]⟩) ∧ w = w' := by
  have h1 : (c == 64522) = false := by simp; omega
  have h2 : (c == 64523) = false := by simp; omega
  go_enter Tryz.func36, Tryz.ntmps36
  go_wp2_with fail
  go_ret
  exact ⟨rfl, rfl⟩
set_option maxHeartbeats 8000000 in
set_option maxRecDepth 100000 in
theorem RName_hi (c : Int) (h : 196 < c) (hb : c ≤ 9223372036854775807) (h1 : (c == 64522) = false) (h2 : (c == 64523) = false) (w : World) : Calls Tryz.prog 36 #[.int .i64 c] w fun e w' => e = .returned (.string ⟨#[]⟩) ∧ w = w' := by
  have h0 : ¬ c < 0 := by omega
  go_enter Tryz.func36, Tryz.ntmps36
  go_wp2_with fail
  go_ret
  exact ⟨rfl, rfl⟩
theorem RName_any (c : Int) (hc : (Lit.int .i64 c).wf = true) (w : World) : Calls Tryz.prog 36 #[.int .i64 c] w fun e w' => e = .returned (.string ⟨(nameL c).toArray⟩) ∧ Below w.heap.size w w' := by
  have hb := bounds_i64 hc
  by_cases h1 : c = 64522
  · subst h1
    refine (RName_copy w).mono ?_
    rintro e w' ⟨rfl, rfl⟩
    exact ⟨rfl, Below.refl _ _⟩
  · by_cases h2 : c = 64523
    · subst h2
      refine (RName_fill w).mono ?_
      rintro e w' ⟨rfl, rfl⟩
      exact ⟨rfl, Below.refl _ _⟩
    · have hn1 : (c == 64522) = false := by simpa using h1
      have hn2 : (c == 64523) = false := by simpa using h2
      by_cases h3 : 0 ≤ c ∧ c ≤ 196
      · have hn : nameL c = TN.getD c.toNat [] := by unfold nameL; rw [if_neg h1, if_neg h2, if_pos h3]
        rw [hn]
        obtain ⟨k, rfl⟩ := Int.eq_ofNat_of_zero_le h3.1
        refine (RName_in k (by omega) w).mono ?_
        rintro e w' ⟨rfl, rfl⟩
        exact ⟨rfl, (Below.refl _ _).alloc (Nat.le_refl _) _⟩
      · have hn : nameL c = [] := by unfold nameL; rw [if_neg h1, if_neg h2, if_neg h3]
        rw [hn]
        by_cases h4 : c < 0
        · refine (RName_lo c h4 hb.1 w).mono ?_
          rintro e w' ⟨rfl, rfl⟩
          exact ⟨rfl, Below.refl _ _⟩
        · refine (RName_hi c (by omega) hb.2 hn1 hn2 w).mono ?_
          rintro e w' ⟨rfl, rfl⟩
          exact ⟨rfl, Below.refl _ _⟩
/-- the document's names are the ops' -/
def CNL : List (Nat × List Nat) := OPS.map fun q => (q.1.first + q.2, (nmL q.1 q.2).map UInt8.toNat)
theorem namesB : (OPS.all fun q => (nmL q.1 q.2).map UInt8.toNat == (nameL ((q.1.first + q.2 : Nat) : Int)).map UInt8.toNat) = true := by kernel_rfl
theorem name_of {c : Int} {r : Rw} {i : Nat} (h : OpAt c r i) : nmS r i = ⟨(nameL c).toArray⟩ := by
  have h1 := List.all_eq_true.1 namesB _ h.1
  rw [beq_iff_eq] at h1
  have h2 := toNat_inj h1
  apply ba_ext
  rw [nmL_eq, h2, ← h.2]
  simp
theorem codesB : ((List.range 197).all fun k => (TN.getD k []).isEmpty || OPS.any fun q => q.1.first + q.2 == k) = true := by kernel_rfl
theorem ops2 : (OPS.any fun q => q.1.first + q.2 == 64522) = true ∧ (OPS.any fun q => q.1.first + q.2 == 64523) = true := ⟨by kernel_rfl, by kernel_rfl⟩
theorem any_op {k : Nat} (h : (OPS.any fun q => q.1.first + q.2 == k) = true) : ∃ r i, OpAt (k : Int) r i := by
  obtain ⟨⟨r, i⟩, hm, he⟩ := List.any_eq_true.1 h
  exact ⟨r, i, hm, by rw [beq_iff_eq] at he; simp only at he; omega⟩
/-- a code of which there is no op has no name -/
theorem name_no {c : Int} (h : ∀ r i, ¬ OpAt c r i) : nameL c = [] := by
  unfold nameL
  split
  · rename_i e
    obtain ⟨r, i, ho⟩ := any_op ops2.1
    exact absurd (by rw [e]; exact ho) (h r i)
  · split
    · rename_i e
      obtain ⟨r, i, ho⟩ := any_op ops2.2
      exact absurd (by rw [e]; exact ho) (h r i)
    · split
      · rename_i h3
        obtain ⟨k, rfl⟩ := Int.eq_ofNat_of_zero_le h3.1
        have h4 := List.all_eq_true.1 codesB k (by simp; omega)
        rcases Bool.or_eq_true_iff.1 h4 with h5 | h5
        · simpa using h5
        · obtain ⟨r, i, ho⟩ := any_op h5
          exact absurd ho (h r i)
      · rfl
theorem nonemptyB : (OPS.all fun q => !(nmL q.1 q.2).isEmpty) = true := by kernel_rfl
theorem name_ne {c : Int} {r : Rw} {i : Nat} (h : OpAt c r i) : nameL c ≠ [] := by
  have h1 := List.all_eq_true.1 nonemptyB _ h.1
  have h2 := name_of h
  intro e
  rw [e] at h2
  have := nmL_eq r i
  rw [h2] at this
  simp only at this
  rw [← this] at h1
  simp at h1
end Go.Proofs.YtggfaalodojjkaaGreatDoor
namespace Go.Proofs.YtggfaalodojjkaaGreatDoor
open Go.RowKit Go.ChangeShapes Go.WideShapes Go.ChangeAt
set_option linter.unusedVariables false
set_option linter.unusedSimpArgs false
def formL (c : Int) : Int :=
  if 2 ≤ c ∧ c ≤ 4 then 1 else if c = 12 ∨ c = 13 then 2 else if c = 14 then 3 else if c = 16 then 4 else if c = 17 then 5
  else if 32 ≤ c ∧ c ≤ 34 then 6 else if c = 35 ∨ c = 36 then 7 else if 40 ≤ c ∧ c ≤ 62 then 8 else if c = 63 ∨ c = 64 ∨ c = 64523 then 9 else if c = 64522 then 10 else if c = 65 ∨ c = 66 then 11 else 0
theorem i64_ret {a b : Int} (h : a = b) : Ending.returned (.int .i64 a) = .returned (.int .i64 b) := by rw [h]
theorem fm0 (c : Int)  (p : 2 ≤ c ∧ c ≤ 4) : formL c = 1 := by
  unfold formL
  rw [if_pos p]
theorem fm1 (c : Int) (n0 : ¬ (2 ≤ c ∧ c ≤ 4)) (p : c = 12 ∨ c = 13) : formL c = 2 := by
  unfold formL
  rw [if_neg n0, if_pos p]
theorem fm2 (c : Int) (n0 : ¬ (2 ≤ c ∧ c ≤ 4)) (n1 : ¬ (c = 12 ∨ c = 13)) (p : c = 14) : formL c = 3 := by
  unfold formL
  rw [if_neg n0, if_neg n1, if_pos p]
theorem fm3 (c : Int) (n0 : ¬ (2 ≤ c ∧ c ≤ 4)) (n1 : ¬ (c = 12 ∨ c = 13)) (n2 : ¬ (c = 14)) (p : c = 16) : formL c = 4 := by
  unfold formL
  rw [if_neg n0, if_neg n1, if_neg n2, if_pos p]
theorem fm4 (c : Int) (n0 : ¬ (2 ≤ c ∧ c ≤ 4)) (n1 : ¬ (c = 12 ∨ c = 13)) (n2 : ¬ (c = 14)) (n3 : ¬ (c = 16)) (p : c = 17) : formL c = 5 := by
  unfold formL
  rw [if_neg n0, if_neg n1, if_neg n2, if_neg n3, if_pos p]
theorem fm5 (c : Int) (n0 : ¬ (2 ≤ c ∧ c ≤ 4)) (n1 : ¬ (c = 12 ∨ c = 13)) (n2 : ¬ (c = 14)) (n3 : ¬ (c = 16)) (n4 : ¬ (c = 17)) (p : 32 ≤ c ∧ c ≤ 34) : formL c = 6 := by
  unfold formL
  rw [if_neg n0, if_neg n1, if_neg n2, if_neg n3, if_neg n4, if_pos p]
theorem fm6 (c : Int) (n0 : ¬ (2 ≤ c ∧ c ≤ 4)) (n1 : ¬ (c = 12 ∨ c = 13)) (n2 : ¬ (c = 14)) (n3 : ¬ (c = 16)) (n4 : ¬ (c = 17)) (n5 : ¬ (32 ≤ c ∧ c ≤ 34)) (p : c = 35 ∨ c = 36) : formL c = 7 := by
  unfold formL
  rw [if_neg n0, if_neg n1, if_neg n2, if_neg n3, if_neg n4, if_neg n5, if_pos p]
theorem fm7 (c : Int) (n0 : ¬ (2 ≤ c ∧ c ≤ 4)) (n1 : ¬ (c = 12 ∨ c = 13)) (n2 : ¬ (c = 14)) (n3 : ¬ (c = 16)) (n4 : ¬ (c = 17)) (n5 : ¬ (32 ≤ c ∧ c ≤ 34)) (n6 : ¬ (c = 35 ∨ c = 36)) (p : 40 ≤ c ∧ c ≤ 62) : formL c = 8 := by
  unfold formL
  rw [if_neg n0, if_neg n1, if_neg n2, if_neg n3, if_neg n4, if_neg n5, if_neg n6, if_pos p]
theorem fm8 (c : Int) (n0 : ¬ (2 ≤ c ∧ c ≤ 4)) (n1 : ¬ (c = 12 ∨ c = 13)) (n2 : ¬ (c = 14)) (n3 : ¬ (c = 16)) (n4 : ¬ (c = 17)) (n5 : ¬ (32 ≤ c ∧ c ≤ 34)) (n6 : ¬ (c = 35 ∨ c = 36)) (n7 : ¬ (40 ≤ c ∧ c ≤ 62)) (p : c = 63 ∨ c = 64 ∨ c = 64523) : formL c = 9 := by
  unfold formL
  rw [if_neg n0, if_neg n1, if_neg n2, if_neg n3, if_neg n4, if_neg n5, if_neg n6, if_neg n7, if_pos p]
theorem fm9 (c : Int) (n0 : ¬ (2 ≤ c ∧ c ≤ 4)) (n1 : ¬ (c = 12 ∨ c = 13)) (n2 : ¬ (c = 14)) (n3 : ¬ (c = 16)) (n4 : ¬ (c = 17)) (n5 : ¬ (32 ≤ c ∧ c ≤ 34)) (n6 : ¬ (c = 35 ∨ c = 36)) (n7 : ¬ (40 ≤ c ∧ c ≤ 62)) (n8 : ¬ (c = 63 ∨ c = 64 ∨ c = 64523)) (p : c = 64522) : formL c = 10 := by
  unfold formL
  rw [if_neg n0, if_neg n1, if_neg n2, if_neg n3, if_neg n4, if_neg n5, if_neg n6, if_neg n7, if_neg n8, if_pos p]
theorem fm10 (c : Int) (n0 : ¬ (2 ≤ c ∧ c ≤ 4)) (n1 : ¬ (c = 12 ∨ c = 13)) (n2 : ¬ (c = 14)) (n3 : ¬ (c = 16)) (n4 : ¬ (c = 17)) (n5 : ¬ (32 ≤ c ∧ c ≤ 34)) (n6 : ¬ (c = 35 ∨ c = 36)) (n7 : ¬ (40 ≤ c ∧ c ≤ 62)) (n8 : ¬ (c = 63 ∨ c = 64 ∨ c = 64523)) (n9 : ¬ (c = 64522)) (p : c = 65 ∨ c = 66) : formL c = 11 := by
  unfold formL
  rw [if_neg n0, if_neg n1, if_neg n2, if_neg n3, if_neg n4, if_neg n5, if_neg n6, if_neg n7, if_neg n8, if_neg n9, if_pos p]
theorem fm11 (c : Int) (n0 : ¬ (2 ≤ c ∧ c ≤ 4)) (n1 : ¬ (c = 12 ∨ c = 13)) (n2 : ¬ (c = 14)) (n3 : ¬ (c = 16)) (n4 : ¬ (c = 17)) (n5 : ¬ (32 ≤ c ∧ c ≤ 34)) (n6 : ¬ (c = 35 ∨ c = 36)) (n7 : ¬ (40 ≤ c ∧ c ≤ 62)) (n8 : ¬ (c = 63 ∨ c = 64 ∨ c = 64523)) (n9 : ¬ (c = 64522)) (n10 : ¬ (c = 65 ∨ c = 66)) : formL c = 0 := by
  unfold formL
  rw [if_neg n0, if_neg n1, if_neg n2, if_neg n3, if_neg n4, if_neg n5, if_neg n6, if_neg n7, if_neg n8, if_neg n9, if_neg n10]
set_option maxHeartbeats 8000000 in
set_option maxRecDepth 100000 in
theorem RForm_any (c : Int) (hb : -9223372036854775808 ≤ c ∧ c ≤ 9223372036854775807) (w : World) : Calls Tryz.prog 37 #[.int .i64 c] w fun e w' => e = .returned (.int .i64 (formL c)) ∧ w = w' := by
  obtain ⟨q, HQ⟩ : ∃ q, Hid (q = c) := ⟨_, Lib.hid rfl⟩
  rw [show formL c = formL q by rw [HQ.out]]
  go_enter Tryz.func37, Tryz.ntmps37
  go_wp2_with fail
  all_goals
    go_ret
    have hqc := HQ.out
    try simp only [beq_iff_eq, beq_eq_false_iff_ne, ne_eq] at *
    first
    | (exfalso; omega)
    | (refine ⟨i64_ret ?_, by first | rfl | trivial⟩
       first
       | (rw [fm0 q]; rotate_left; omega)
       | (rw [fm1 q]; rotate_left; omega; omega)
       | (rw [fm2 q]; rotate_left; omega; omega; omega)
       | (rw [fm3 q]; rotate_left; omega; omega; omega; omega)
       | (rw [fm4 q]; rotate_left; omega; omega; omega; omega; omega)
       | (rw [fm5 q]; rotate_left; omega; omega; omega; omega; omega; omega)
       | (rw [fm6 q]; rotate_left; omega; omega; omega; omega; omega; omega; omega)
       | (rw [fm7 q]; rotate_left; omega; omega; omega; omega; omega; omega; omega; omega)
       | (rw [fm8 q]; rotate_left; omega; omega; omega; omega; omega; omega; omega; omega; omega)
       | (rw [fm9 q]; rotate_left; omega; omega; omega; omega; omega; omega; omega; omega; omega; omega)
       | (rw [fm10 q]; rotate_left; omega; omega; omega; omega; omega; omega; omega; omega; omega; omega; omega)
       | (rw [fm11 q]; rotate_left; omega; omega; omega; omega; omega; omega; omega; omega; omega; omega; omega))
end Go.Proofs.YtggfaalodojjkaaGreatDoor
namespace Go.Proofs.YtggfaalodojjkaaGreatDoor
open Go.RowKit
set_option linter.unusedVariables false
set_option linter.unusedSimpArgs false
/-- what the document asks of an instruction whose op there is, of this form -/
def rgB (x : In) (f : Int) : Bool :=
  !((decide (f ≠ 11) && decide (4294967295 < x.a)) || (decide (x.cd = 65) && decide (4294967295 < x.a)) || (decide (f ≠ 8) && decide (4294967295 < x.b))) &&
  !((decide (f = 0) && decide (x.a ≠ 0)) || (decide (f = 1) && decide (x.a ≠ 64) && decide (x.a ≠ 126) && decide (x.a ≠ 127))) &&
  !((decide (f ≠ 5) && decide (f ≠ 8) && decide (f ≠ 10) && decide (x.b ≠ 0)) || (decide (f ≠ 8) && decide (x.al ≠ 0)) || decide (x.al < 0) || decide (31 < x.al)) &&
  okW x.l && (decide (x.l.length = 0) || (decide (f = 3) && decide (x.l.length ≤ 100)))
end Go.Proofs.YtggfaalodojjkaaGreatDoor
