/-
  The closures of Fit's parts: elements.
-/
import Derived.Test.YtackompihengfaaX1
import Derived.Test.YtackompihengfaaGe
import Derived.BigQuiet
import Derived.Deep.RegionHeld3
namespace Go.Proofs.Ytackompihengfaa
open Go.RowKit Go.PlainAid
set_option linter.unusedVariables false
set_option linter.unusedSimpArgs false
def inB (na x : Int) : Bool := decide (0 ≤ x) && decide (x < na)
set_option maxHeartbeats 4000000 in
set_option maxRecDepth 100000 in
theorem miss_ok (x na : Int) (p g : Nat) (w : World) (hp : w.cell? ⟨p, 0, none⟩ = some (.pointer (some ⟨g, 0, none⟩)))
    (hC : Calls Try.prog 10 #[.pointer (some ⟨g, 0, none⟩)] w fun e w' => e = .returned (.int .i64 na) ∧ Below w.heap.size w w') :
    Calls Try.prog 78 #[.int .i64 x, .pointer (some ⟨p, 0, none⟩)] w fun e w' => e = .returned (.bool (!inB na x)) ∧ Below w.heap.size w w' := by
  have HC := Lib.hid hC
  have H27 : Hid (∀ W, Calls Try.prog 27 #[.int .i64 x, .int .i64 na] W fun e w' => e = .returned (.bool (inB na x)) ∧ W = w') := Lib.hid (fun W => within_any x na W)
  clear hC
  generalize inB na x = q at H27 ⊢
  go_enter Try.func78, Try.ntmps78
  go_wp2_with (first
    | (go_at_call 10; (with_reducible refine HC.out.mono ?_); rintro e w1 ⟨rfl, hb1⟩; have HB1 := Lib.hid hb1; clear hb1)
    | (go_at_call 27; (with_reducible refine (H27.out _).mono ?_); rintro e w2 ⟨rfl, rfl⟩))
  go_ret
  exact ⟨rfl, HB1.out⟩
def IxN (q : Bool) (w : World) (e : Ending) (w' : World) : Prop := ∃ i : Int, e = .returned (.int .i64 i) ∧ decide (0 ≤ i) = !q ∧ Below w.heap.size w w'
theorem all_take_i {f : Int → Bool} {l : List Int} {k : Nat} (hk : k < l.length) (h : (l.take k).all f = true) (ht : f (l.getD k 0) = true) : (l.take (k + 1)).all f = true := by
  rw [List.take_add_one, List.getElem?_eq_getElem hk, List.all_append, h]
  rw [List.getD_eq_getElem?_getD, List.getElem?_eq_getElem hk] at ht
  simpa using ht
theorem all_not_i {f : Int → Bool} {l : List Int} {k : Nat} (hk : k < l.length) (ht : f (l.getD k 0) = false) : l.all f = false := by
  rw [List.all_eq_false]
  refine ⟨l[k], List.getElem_mem hk, ?_⟩
  rw [List.getD_eq_getElem?_getD, List.getElem?_eq_getElem hk] at ht
  simpa using ht
set_option maxHeartbeats 4000000 in
set_option maxRecDepth 100000 in
theorem IndexFunc55_ok (A : Option Addr) (n c : Nat) (l : List Int) (na : Int) (p g : Nat) (hn : n ≤ 1000) (w : World) (hb : Si w A n c l) (hp : w.cell? ⟨p, 0, none⟩ = some (.pointer (some ⟨g, 0, none⟩))) (hpl : p < w.heap.size)
    (hC : ∀ W, Below w.heap.size w W → Calls Try.prog 10 #[.pointer (some ⟨g, 0, none⟩)] W fun e w' => e = .returned (.int .i64 na) ∧ Below W.heap.size W w') :
    Calls Try.prog 86 #[.slice A n c, .func (.func 78) #[] #[.pointer (some ⟨p, 0, none⟩)]] w (IxN (l.all (inB na)) w) := by
  have HS := Lib.hid (fun W (hW : Below w.heap.size w W) => hb.below hW)
  obtain ⟨hl, hcap, hcm, hc⟩ := hb
  subst hl
  unfold maxLen at hcm
  have HC := Lib.hid hc
  have HM := Lib.hid (fun (x : Int) W (hW : Below w.heap.size w W) => miss_ok x na p g W ((hW.cell (p := ⟨p, 0, none⟩) hpl).trans hp) (hC W hW))
  have hn9 : l.length ≤ 1000 := hn
  clear hc hp hC HS
  go_enter Try.func86, Try.ntmps86
  go_wp2
  go_loopw [8] (fun v8 wr => ∃ k : Nat, k ≤ l.length ∧ v8 = .int .i64 k ∧ Hid ((l.take k).all (inB na) = true) ∧ Hid (Below w.heap.size w wr)) (fun v8 _ => l.length - (intOf v8).toNat)
  case atStart => exact ⟨0, by omega, rfl, Lib.hid rfl, Lib.hid (Below.refl _ _)⟩
  case round =>
    obtain ⟨k, hk, rfl, HA, HB⟩ := hrel
    by_cases hlt : k < l.length
    · obtain ⟨b, off, rfl, hbl, hcell⟩ := HC.out (by omega)
      have h0 := (HB.out.cell (p := ⟨b, off + k, none⟩) hbl).trans (hcell k hlt)
      have HT := Lib.hid (fun h => all_take_i (f := inB na) hlt HA.out h)
      have HN := Lib.hid (fun h => all_not_i (f := inB na) (l := l) (k := k) hlt h)
      clear hcell
      generalize l.getD k 0 = y at h0 HT HN
      have HU := Lib.hid (HM.out y _ HB.out)
      cases hty : inB na y with
      | true =>
        rw [hty] at HU
        have HT2 := Lib.hid (HT.out hty)
        clear HT HN hty
        go_wp2_with (go_at_call 78; (with_reducible refine HU.out.mono ?_); rintro e w1 ⟨rfl, hb1⟩; have HB1 := Lib.hid (HB.out.trans (hb1.mono HB.out.size)); clear hb1)
        go_roundw
        case rel => exact ⟨k + 1, by omega, by go_num, HT2, HB1⟩
        case measure => simp [intOf]; omega
      | false =>
        rw [hty] at HU
        have HN2 := Lib.hid (HN.out hty)
        clear HT HN hty
        go_wp2_with (go_at_call 78; (with_reducible refine HU.out.mono ?_); rintro e w1 ⟨rfl, hb1⟩; have HB1 := Lib.hid (HB.out.trans (hb1.mono HB.out.size)); clear hb1)
        go_ret
        exact ⟨(k : Int), rfl, by rw [HN2.out]; simp, HB1.out⟩
    · obtain rfl : k = l.length := by omega
      have HE : Hid (l.all (inB na) = true) := Lib.hid (by have h := HA.out; rwa [List.take_of_length_le (Nat.le_refl _)] at h)
      go_wp2
      go_ret
      exact ⟨-1, rfl, by rw [HE.out]; rfl, HB.out⟩
set_option maxHeartbeats 4000000 in
set_option maxRecDepth 100000 in
theorem Contains55_ok (A : Option Addr) (n c : Nat) (l : List Int) (na : Int) (p g : Nat) (hn : n ≤ 1000) (w : World) (hb : Si w A n c l) (hp : w.cell? ⟨p, 0, none⟩ = some (.pointer (some ⟨g, 0, none⟩))) (hpl : p < w.heap.size)
    (hC : ∀ W, Below w.heap.size w W → Calls Try.prog 10 #[.pointer (some ⟨g, 0, none⟩)] W fun e w' => e = .returned (.int .i64 na) ∧ Below W.heap.size W w') :
    Calls Try.prog 81 #[.slice A n c, .func (.func 78) #[] #[.pointer (some ⟨p, 0, none⟩)]] w fun e w' => e = .returned (.bool (!l.all (inB na))) ∧ Below w.heap.size w w' := by
  have HI := Lib.hid (IndexFunc55_ok A n c l na p g hn w hb hp hpl hC)
  clear hb hp hC
  go_enter Try.func81, Try.ntmps81
  go_wp2_with (go_at_call 86; (with_reducible refine HI.out.mono ?_); (rintro e w1 ⟨i, rfl, hi, hb1⟩); have HQ := Lib.hid hi; have HB1 := Lib.hid hb1; clear hi hb1)
  go_ret
  exact ⟨by rw [← HQ.out]; simp, HB1.out⟩
/-- what an element is told to be -/
def elE (tab na at_ : Int) (l : List Int) : Int := if 20 < l.length then 15 else if decide (0 ≤ tab) && decide (at_ < 4294967296) && l.all (inB na) then 0 else 2
set_option maxHeartbeats 4000000 in
set_option maxRecDepth 100000 in
theorem elems2_ok (at_ : Int) (A : Option Addr) (n c : Nat) (l : List Int) (tab na : Int) (p p2 g : Nat) (hn : n ≤ 1000) (w : World) (hb : Si w A n c l) (hp : w.cell? ⟨p, 0, none⟩ = some (.pointer (some ⟨g, 0, none⟩))) (hpl : p < w.heap.size)
    (hp2 : w.cell? ⟨p2, 0, none⟩ = some (.func (.func 78) #[] #[.pointer (some ⟨p, 0, none⟩)])) (hpl2 : p2 < w.heap.size) (hg : w.cell? ⟨g, 3, none⟩ = some (.int .i64 tab)) (hgl : g < w.heap.size)
    (hC : ∀ W, Below w.heap.size w W → Calls Try.prog 10 #[.pointer (some ⟨g, 0, none⟩)] W fun e w' => e = .returned (.int .i64 na) ∧ Below W.heap.size W w') :
    Calls Try.prog 80 #[.agg #[.int .u64 at_, .slice A n c], .pointer (some ⟨p, 0, none⟩), .pointer (some ⟨p2, 0, none⟩)] w fun e w' => e = .returned (.int .i64 (elE tab na at_ l)) ∧ Below w.heap.size w w' := by
  have hl := hb.1
  have hcap := hb.2.1
  have hcm := hb.2.2.1
  unfold maxLen at hcm
  obtain ⟨W, hW⟩ : ∃ W, W = w.alloc (.cells #[.int .u64 at_, .slice A n c] 82) := ⟨_, rfl⟩
  have hbl : Below w.heap.size w W := by rw [hW]; exact (Below.refl _ _).alloc (Nat.le_refl _) _
  have y0 : W.cell? ⟨w.heap.size, 0, none⟩ = some (.int .u64 at_) := by rw [hW]; exact (Blk.new w 82 _).cell 0
  have y1 : W.cell? ⟨w.heap.size, 1, none⟩ = some (.slice A n c) := by rw [hW]; exact (Blk.new w 82 _).cell 1
  have x1 : W.cell? ⟨p, 0, none⟩ = some (.pointer (some ⟨g, 0, none⟩)) := (hbl.cell (p := ⟨p, 0, none⟩) hpl).trans hp
  have x2 : W.cell? ⟨p2, 0, none⟩ = some (.func (.func 78) #[] #[.pointer (some ⟨p, 0, none⟩)]) := (hbl.cell (p := ⟨p2, 0, none⟩) hpl2).trans hp2
  have x3 : W.cell? ⟨g, 3, none⟩ = some (.int .i64 tab) := (hbl.cell (p := ⟨g, 3, none⟩) hgl).trans hg
  have HB := Lib.hid hbl
  have HW := Lib.hid hW
  have HCF := Lib.hid (Contains55_ok A n c l na p g hn W (hb.below hbl) x1 (Nat.lt_of_lt_of_le hpl hbl.size) (fun W2 h2 => hC W2 (hbl.trans (h2.mono hbl.size))))
  have HL := Lib.hid hl
  obtain ⟨r, hr⟩ : ∃ r, r = elE tab na at_ l := ⟨_, rfl⟩
  rw [← hr]
  unfold elE at hr
  rw [hl] at hr
  clear hb hbl hW hp hp2 hg hC hl
  generalize l.all (inB na) = q at HCF hr
  by_cases h1 : 20 < n
  · rw [if_pos h1] at hr
    subst hr
    go_enter Try.func80, Try.ntmps80
    go_upto_region 1 with fail
    rw [← HW.out]
    go_wp2
    go_ret
    exact ⟨rfl, HB.out⟩
  rw [if_neg h1] at hr
  have h1' : (n : Int) ≤ 20 := by omega
  by_cases h2 : 0 ≤ tab
  · by_cases h3 : at_ < 4294967296
    · rw [show decide (0 ≤ tab) = true from by simp [h2], show decide (at_ < 4294967296) = true from by simp [h3]] at hr
      have HR := Lib.hid hr
      clear hr h1
      cases q
      all_goals
        have hr := HR.out
        simp only [Bool.true_and, Bool.and_true, Bool.and_false, if_true, Bool.false_eq_true, if_false] at hr
        subst hr
        clear HR
        go_enter Try.func80, Try.ntmps80
        go_upto_region 1 with fail
        rw [← HW.out]
        go_wp2_with (first
          | (go_at_call 81; (with_reducible refine HCF.out.mono ?_); rintro e w1 ⟨rfl, hb1⟩; have HB1 := Lib.hid (HB.out.trans (hb1.mono HB.out.size)); clear hb1)
          | (go_at_call 64; (with_reducible refine (unless_any _ _ _).mono ?_); rintro e w9 ⟨rfl, rfl⟩))
        go_ret
        exact ⟨rfl, HB1.out⟩
    · rw [show decide (at_ < 4294967296) = false from by simp [h3], Bool.and_false, Bool.false_and] at hr
      simp only [Bool.false_eq_true, if_false] at hr
      subst hr
      clear h1
      go_enter Try.func80, Try.ntmps80
      go_upto_region 1 with fail
      rw [← HW.out]
      go_wp2_with (go_at_call 64; (with_reducible refine (unless_any _ _ _).mono ?_); rintro e w9 ⟨rfl, rfl⟩)
      go_ret
      exact ⟨rfl, HB.out⟩
  · rw [show decide (0 ≤ tab) = false from by simp [h2], Bool.false_and, Bool.false_and] at hr
    simp only [Bool.false_eq_true, if_false] at hr
    subst hr
    clear h1
    go_enter Try.func80, Try.ntmps80
    go_upto_region 1 with fail
    rw [← HW.out]
    go_wp2_with (go_at_call 64; (with_reducible refine (unless_any _ _ _).mono ?_); rintro e w9 ⟨rfl, rfl⟩)
    go_ret
    exact ⟨rfl, HB.out⟩
end Go.Proofs.Ytackompihengfaa
/-
  The closures of Fit's parts: signatures, limits, globals.
-/
namespace Go.Proofs.Ytackompihengfaa
open Go.RowKit Go.PlainAid
set_option linter.unusedVariables false
set_option linter.unusedSimpArgs false
set_option maxHeartbeats 4000000 in
set_option maxRecDepth 100000 in
theorem sigs1_ok (A B : Option Addr) (n m c d : Nat) (l r : List Nat) (hn : n ≤ 1000) (hm : m ≤ 1000) (w : World) (ha : Byt w A n c l) (hb : Byt w B m d r) :
    Calls Try.prog 63 #[.agg #[.slice A n c, .slice B m d]] w fun e w' => e = .returned (.int .i64 (if tyB l && tyB r then 0 else 5)) ∧ Below w.heap.size w w' := by
  have hbl : Below w.heap.size w (w.alloc (.cells #[.slice A n c, .slice B m d] 42)) := (Below.refl _ _).alloc (Nat.le_refl _) _
  have H1 := Lib.hid (SRight_ok A B n m c d l r hn hm _ (ha.below hbl) (hb.below hbl))
  have HB := Lib.hid hbl
  have c1 := ha.2.2.1
  have c2 := hb.2.2.1
  have c3 := ha.2.2.2.1
  have c4 := hb.2.2.2.1
  unfold maxLen at c3 c4
  clear ha hb hbl
  generalize (tyB l && tyB r) = q at H1 ⊢
  go_enter Try.func63, Try.ntmps63
  go_wp2_with (first
    | (go_at_call 65; (with_reducible refine H1.out.mono ?_); rintro e w1 ⟨rfl, hb1⟩
       have HB1 := Lib.hid (HB.out.trans (hb1.mono HB.out.size))
       clear hb1)
    | (go_at_call 64; (with_reducible refine (unless_any _ _ _).mono ?_); rintro e w9 ⟨rfl, rfl⟩))
  all_goals
    go_ret
    exact ⟨rfl, HB1.out⟩
/-- are limits right? -/
def limB (mn mx most : Int) : Bool := !(decide (mn < 0) || decide (most < mn)) && (decide (mx < 0) || (decide (mn ≤ mx) && decide (mx ≤ most)))
set_option maxHeartbeats 4000000 in
set_option maxRecDepth 100000 in
theorem limRight_ok (mn mx most : Int) (wd : Bool) (w : World) : Calls Try.prog 72 #[.agg #[.int .i64 mn, .int .i64 mx, .bool wd], .int .i64 most] w fun e w' => e = .returned (.bool (limB mn mx most)) ∧ Below w.heap.size w w' := by
  have hbl : Below w.heap.size w (w.alloc (.cells #[.int .i64 mn, .int .i64 mx, .bool wd] 75)) := (Below.refl _ _).alloc (Nat.le_refl _) _
  have HB := Lib.hid hbl
  clear hbl
  have HL : Hid (limB mn mx most = (!(decide (mn < 0) || decide (most < mn)) && (decide (mx < 0) || (decide (mn ≤ mx) && decide (mx ≤ most))))) := Lib.hid rfl
  by_cases h1 : mn < 0
  · go_enter Try.func72, Try.ntmps72
    go_wp2
    go_ret
    exact ⟨by rw [HL.out]; simp [h1], HB.out⟩
  by_cases h2 : most < mn
  · go_enter Try.func72, Try.ntmps72
    go_wp2
    go_ret
    exact ⟨by rw [HL.out]; simp [h1, h2], HB.out⟩
  by_cases h3 : mx < 0
  · go_enter Try.func72, Try.ntmps72
    go_wp2
    go_ret
    exact ⟨by rw [HL.out]; simp [h1, h2, h3], HB.out⟩
  by_cases h4 : mn ≤ mx
  · by_cases h5 : mx ≤ most
    · go_enter Try.func72, Try.ntmps72
      go_wp2
      go_ret
      exact ⟨by rw [HL.out]; simp [h1, h2, h3, h4, h5], HB.out⟩
    · go_enter Try.func72, Try.ntmps72
      go_wp2
      go_ret
      exact ⟨by rw [HL.out]; simp [h1, h2, h3, h4, h5], HB.out⟩
  · go_enter Try.func72, Try.ntmps72
    go_wp2
    go_ret
    exact ⟨by rw [HL.out]; simp [h1, h2, h3, h4]; try (intros; omega), HB.out⟩
set_option maxHeartbeats 4000000 in
set_option maxRecDepth 100000 in
theorem mems1_ok (mn mx : Int) (wd : Bool) (w : World) : Calls Try.prog 71 #[.agg #[.int .i64 mn, .int .i64 mx, .bool wd]] w fun e w' => e = .returned (.int .i64 (if limB mn mx 65536 then 0 else 5)) ∧ Below w.heap.size w w' := by
  have hbl : Below w.heap.size w (w.alloc (.cells #[.int .i64 mn, .int .i64 mx, .bool wd] 75)) := (Below.refl _ _).alloc (Nat.le_refl _) _
  have H1 := Lib.hid (limRight_ok mn mx 65536 wd (w.alloc (.cells #[.int .i64 mn, .int .i64 mx, .bool wd] 75)))
  have HB := Lib.hid hbl
  clear hbl
  generalize limB mn mx 65536 = q at H1 ⊢
  go_enter Try.func71, Try.ntmps71
  go_wp2_with (first
    | (go_at_call 72; (with_reducible refine H1.out.mono ?_); rintro e w1 ⟨rfl, hb1⟩
       have HB1 := Lib.hid (HB.out.trans (hb1.mono HB.out.size))
       clear hb1)
    | (go_at_call 64; (with_reducible refine (unless_any _ _ _).mono ?_); rintro e w9 ⟨rfl, rfl⟩))
  all_goals
    go_ret
    exact ⟨rfl, HB1.out⟩
/-- is a global's word right? -/
def glB (ty : Nat) (va : Int) : Bool := decide (ty = 126) || (decide (ty = 127) && decide (va < 4294967296))
set_option maxHeartbeats 4000000 in
set_option maxRecDepth 100000 in
theorem globals1_ok (ty : Nat) (mu : Bool) (va : Int) (w : World) : Calls Try.prog 74 #[.agg #[.int .u8 (ty : Nat), .bool mu, .int .u64 va]] w fun e w' => e = .returned (.int .i64 (if glB ty va then 0 else 5)) ∧ Below w.heap.size w w' := by
  have hbl : Below w.heap.size w (w.alloc (.cells #[.int .u8 (ty : Nat), .bool mu, .int .u64 va] 79)) := (Below.refl _ _).alloc (Nat.le_refl _) _
  have HB := Lib.hid hbl
  clear hbl
  have HL : Hid (glB ty va = (decide (ty = 126) || (decide (ty = 127) && decide (va < 4294967296)))) := Lib.hid rfl
  generalize glB ty va = q at HL ⊢
  by_cases h1 : ty = 126
  · have e := HL.out
    rw [show (decide (ty = 126) || (decide (ty = 127) && decide (va < 4294967296))) = true from by simp [h1]] at e
    subst e
    subst h1
    clear HL
    go_enter Try.func74, Try.ntmps74
    go_wp2_with (go_at_call 64; (with_reducible refine (unless_any _ _ _).mono ?_); rintro e w9 ⟨rfl, rfl⟩)
    go_ret
    exact ⟨rfl, HB.out⟩
  have n1 : ((ty : Int) == 126) = false := by rw [beq_eq_false_iff_ne]; omega
  by_cases h2 : ty = 127
  · subst h2
    by_cases h3 : va < 4294967296
    · have e := HL.out
      rw [show (decide (127 = 126) || (decide (127 = 127) && decide (va < 4294967296))) = true from by simp [h3]] at e
      subst e
      clear HL h1 n1
      go_enter Try.func74, Try.ntmps74
      go_wp2_with (go_at_call 64; (with_reducible refine (unless_any _ _ _).mono ?_); rintro e w9 ⟨rfl, rfl⟩)
      go_ret
      exact ⟨rfl, HB.out⟩
    · have e := HL.out
      rw [show (decide (127 = 126) || (decide (127 = 127) && decide (va < 4294967296))) = false from by simp [h3]] at e
      subst e
      clear HL h1 n1
      go_enter Try.func74, Try.ntmps74
      go_wp2_with (go_at_call 64; (with_reducible refine (unless_any _ _ _).mono ?_); rintro e w9 ⟨rfl, rfl⟩)
      go_ret
      exact ⟨rfl, HB.out⟩
  · have n2 : ((ty : Int) == 127) = false := by rw [beq_eq_false_iff_ne]; omega
    have e := HL.out
    rw [show (decide (ty = 126) || (decide (ty = 127) && decide (va < 4294967296))) = false from by simp [h1, h2]] at e
    subst e
    clear HL h1 h2
    go_enter Try.func74, Try.ntmps74
    go_wp2_with (go_at_call 64; (with_reducible refine (unless_any _ _ _).mono ?_); rintro e w9 ⟨rfl, rfl⟩)
    go_ret
    exact ⟨rfl, HB.out⟩
end Go.Proofs.Ytackompihengfaa
/-
  The closures of Fit's parts: imports, functions.
-/
namespace Go.Proofs.Ytackompihengfaa
open Go.RowKit Go.PlainAid
set_option linter.unusedVariables false
set_option linter.unusedSimpArgs false
set_option maxHeartbeats 4000000 in
set_option maxRecDepth 100000 in
theorem funcs1_ok (sg : Int) (A B : Option Addr) (n m c d : Nat) (p g : Nat) (S : Option Addr) (ns cs : Nat) (hn : n ≤ c) (hc : c ≤ 9223372036854775807) (hm : m ≤ d) (hd : d ≤ 9223372036854775807) (hns : ns ≤ 1000) (w : World)
    (hp : w.cell? ⟨p, 0, none⟩ = some (.pointer (some ⟨g, 0, none⟩))) (hpl : p < w.heap.size) (hg : w.cell? ⟨g, 0, none⟩ = some (.slice S ns cs)) (hgl : g < w.heap.size) :
    Calls Try.prog 69 #[.agg #[.int .i64 sg, .slice A n c, .slice B m d], .pointer (some ⟨p, 0, none⟩)] w fun e w' => e = .returned (.int .i64 (if decide (0 ≤ sg) && decide (sg < (ns : Int)) then 0 else 2)) ∧ Below w.heap.size w w' := by
  obtain ⟨W, hW⟩ : ∃ W, W = w.alloc (.cells #[.int .i64 sg, .slice A n c, .slice B m d] 69) := ⟨_, rfl⟩
  have hbl : Below w.heap.size w W := by rw [hW]; exact (Below.refl _ _).alloc (Nat.le_refl _) _
  have x0 : ∀ q, (W.drewN q).cell? ⟨w.heap.size, 0, none⟩ = some (.int .i64 sg) := fun q => by rw [hW]; exact (Blk.new w 69 _).cell 0
  have x1 : ∀ q, (W.drewN q).cell? ⟨p, 0, none⟩ = some (.pointer (some ⟨g, 0, none⟩)) := fun q => (hbl.cell (p := ⟨p, 0, none⟩) hpl).trans hp
  have x2 : ∀ q, (W.drewN q).cell? ⟨g, 0, none⟩ = some (.slice S ns cs) := fun q => (hbl.cell (p := ⟨g, 0, none⟩) hgl).trans hg
  have HB := Lib.hid hbl
  have HW := Lib.hid hW
  have H27 := Lib.hid (fun W => within_any sg (ns : Int) W)
  have H64 := Lib.hid (fun W => unless_any (decide (0 ≤ sg) && decide (sg < (ns : Int))) 2 W)
  clear hbl hW hp hg hpl hgl
  generalize (decide (0 ≤ sg) && decide (sg < (ns : Int))) = q at H27 H64 ⊢
  go_enter Try.func69, Try.ntmps69
  go_wp2_with fail
  rw [← HW.out]
  refine wp_region_noPanic ?_
  refine wp_region_held_drew (S := (fun W => W.cell? ⟨w.heap.size, 0, none⟩ = some (.int .i64 sg) ∧ W.cell? ⟨p, 0, none⟩ = some (.pointer (some ⟨g, 0, none⟩)) ∧ W.cell? ⟨g, 0, none⟩ = some (.slice S ns cs))) (by kernel_rfl) ⟨x0 1, x1 1, x2 1⟩ (fun hHeld => ?_)
  refine wpAnyH_take (i := 0) (oi := ?oi_1) (v := ?_) ?hi_1 (by kernel_rfl) ?hf_1 (by kernel_rfl) ?hQ_1 ?hy_1 (by assumption) ?_
  case hi_1 => simp only [List.getElem?_toArray, List.getElem?_cons_zero, List.getElem?_cons_succ]; try rfl
  case hf_1 => kernel_rfl
  case hQ_1 => exact fun _ _ _ h => h
  case hy_1 =>
    refine Or.inl ⟨by rfl, ?_⟩
    intro W hSw
    obtain ⟨q0, q1, q2⟩ := hSw
    go_simp
    try with_reducible rfl
  try simp only [Act.put, List.setIfInBounds_toArray, List.set_cons_zero, List.set_cons_succ]
  refine wpAnyH_take (i := 1) (oi := ?oi_2) (v := ?_) ?hi_2 (by kernel_rfl) ?hf_2 (by kernel_rfl) ?hQ_2 ?hy_2 (by assumption) ?_
  case hi_2 => simp only [List.getElem?_toArray, List.getElem?_cons_zero, List.getElem?_cons_succ]; try rfl
  case hf_2 => kernel_rfl
  case hQ_2 => exact fun _ _ _ h => h
  case hy_2 =>
    refine Or.inl ⟨by rfl, ?_⟩
    intro W hSw
    obtain ⟨q0, q1, q2⟩ := hSw
    go_simp
    try with_reducible rfl
  try simp only [Act.put, List.setIfInBounds_toArray, List.set_cons_zero, List.set_cons_succ]
  refine wpAnyH_take (i := 2) (oi := ?oi_3) (v := ?_) ?hi_3 (by kernel_rfl) ?hf_3 (by kernel_rfl) ?hQ_3 ?hy_3 (by assumption) ?_
  case hi_3 => simp only [List.getElem?_toArray, List.getElem?_cons_zero, List.getElem?_cons_succ]; try rfl
  case hf_3 => kernel_rfl
  case hQ_3 => exact fun _ _ _ h => h
  case hy_3 =>
    refine Or.inl ⟨by rfl, ?_⟩
    intro W hSw
    obtain ⟨q0, q1, q2⟩ := hSw
    go_simp
    try with_reducible rfl
  try simp only [Act.put, List.setIfInBounds_toArray, List.set_cons_zero, List.set_cons_succ]
  refine wpAnyH_take (i := 3) (oi := ?oi_4) (v := ?_) ?hi_4 (by kernel_rfl) ?hf_4 (by kernel_rfl) ?hQ_4 ?hy_4 (by assumption) ?_
  case hi_4 => simp only [List.getElem?_toArray, List.getElem?_cons_zero, List.getElem?_cons_succ]; try rfl
  case hf_4 => kernel_rfl
  case hQ_4 => exact fun _ _ _ h => h
  case hy_4 =>
    refine Or.inl ⟨by rfl, ?_⟩
    intro W hSw
    obtain ⟨q0, q1, q2⟩ := hSw
    go_simp
    try with_reducible rfl
  try simp only [Act.put, List.setIfInBounds_toArray, List.set_cons_zero, List.set_cons_succ]
  refine wpAnyH_take (i := 4) (oi := ?oi_5) (v := ?_) ?hi_5 (by kernel_rfl) ?hf_5 (by kernel_rfl) ?hQ_5 ?hy_5 (by assumption) ?_
  case hi_5 => simp only [List.getElem?_toArray, List.getElem?_cons_zero, List.getElem?_cons_succ]; try rfl
  case hf_5 => kernel_rfl
  case hQ_5 => exact fun _ _ _ h => h
  case hy_5 =>
    refine Or.inl ⟨by rfl, ?_⟩
    intro W hSw
    obtain ⟨q0, q1, q2⟩ := hSw
    go_simp
    try with_reducible rfl
  try simp only [Act.put, List.setIfInBounds_toArray, List.set_cons_zero, List.set_cons_succ]
  refine wpAnyH_take (i := 5) (oi := ?oi_6) (v := ?_) ?hi_6 (by kernel_rfl) ?hf_6 (by kernel_rfl) ?hQ_6 ?hy_6 (by assumption) ?_
  case hi_6 => simp only [List.getElem?_toArray, List.getElem?_cons_zero, List.getElem?_cons_succ]; try rfl
  case hf_6 => kernel_rfl
  case hQ_6 => exact fun _ _ _ h => h
  case hy_6 =>
    refine Or.inl ⟨by rfl, ?_⟩
    intro W hSw
    obtain ⟨q0, q1, q2⟩ := hSw
    go_simp
    try with_reducible rfl
  try simp only [Act.put, List.setIfInBounds_toArray, List.set_cons_zero, List.set_cons_succ]
  refine wpAnyH_take (i := 6) (oi := ?oi_7) (v := ?_) ?hi_7 (by kernel_rfl) ?hf_7 (by kernel_rfl) ?hQ_7 ?hy_7 (by assumption) ?_
  case hi_7 => simp only [List.getElem?_toArray, List.getElem?_cons_zero, List.getElem?_cons_succ]; try rfl
  case hf_7 => kernel_rfl
  case hQ_7 => exact fun _ _ _ h => h
  case hy_7 =>
    refine Or.inl ⟨by rfl, ?_⟩
    intro W hSw
    obtain ⟨q0, q1, q2⟩ := hSw
    go_simp
    try with_reducible rfl
  try simp only [Act.put, List.setIfInBounds_toArray, List.set_cons_zero, List.set_cons_succ]
  refine wpAnyH_ready (rs := [7]) (by kernel_rfl) (by simp) ?_
  refine AllReadyH.cons (o := ?oi_8) ?hi_8 (fun K hK => ?_) AllReadyH.nil
  case hi_8 => simp only [List.getElem?_toArray, List.getElem?_cons_zero, List.getElem?_cons_succ]; try rfl
  go_simp
  (go_at_call 27
   (with_reducible refine (H27.out _).mono ?_)
   rintro e w7 ⟨rfl, rfl⟩)
  refine hK.out _ _ ⟨x0 1, x1 1, x2 1⟩ (fun hHeld => ?_)
  clear hK K
  try simp only [Act.put, List.setIfInBounds_toArray, List.set_cons_zero, List.set_cons_succ]
  refine wpAnyH_ready (rs := [8]) (by kernel_rfl) (by simp) ?_
  refine AllReadyH.cons (o := ?oi_9) ?hi_9 (fun K hK => ?_) AllReadyH.nil
  case hi_9 => simp only [List.getElem?_toArray, List.getElem?_cons_zero, List.getElem?_cons_succ]; try rfl
  go_simp
  (go_at_call 64
   (with_reducible refine (H64.out _).mono ?_)
   rintro e w7 ⟨rfl, rfl⟩)
  refine hK.out _ _ ⟨x0 1, x1 1, x2 1⟩ (fun hHeld => ?_)
  clear hK K
  try simp only [Act.put, List.setIfInBounds_toArray, List.set_cons_zero, List.set_cons_succ]
  refine wpAnyH_take (i := 9) (oi := ?oi_10) (v := ?_) ?hi_10 (by kernel_rfl) ?hf_10 (by kernel_rfl) ?hQ_10 ?hy_10 (by assumption) ?_
  case hi_10 => simp only [List.getElem?_toArray, List.getElem?_cons_zero, List.getElem?_cons_succ]; try rfl
  case hf_10 => kernel_rfl
  case hQ_10 => exact fun _ _ _ h => h
  case hy_10 =>
    refine Or.inl ⟨by rfl, ?_⟩
    intro W hSw
    obtain ⟨q0, q1, q2⟩ := hSw
    go_simp
    try with_reducible rfl
  try simp only [Act.put, List.setIfInBounds_toArray, List.set_cons_zero, List.set_cons_succ]
  refine wpAnyH_done (by kernel_rfl) ?_ _
  refine NoPanic.normal ?_
  clear hHeld
  go_wp2
  all_goals
    go_ret
    exact ⟨rfl, below_drew HB.out⟩
set_option maxHeartbeats 4000000 in
set_option maxRecDepth 100000 in
theorem imports1_ok (mo nm : ByteArray) (sg : Int) (p g : Nat) (S : Option Addr) (ns cs : Nat) (h1 : mo.size ≤ 1000) (h2 : nm.size ≤ 1000) (hns : ns ≤ 1000) (w : World)
    (hp : w.cell? ⟨p, 0, none⟩ = some (.pointer (some ⟨g, 0, none⟩))) (hpl : p < w.heap.size) (hg : w.cell? ⟨g, 0, none⟩ = some (.slice S ns cs)) (hgl : g < w.heap.size) :
    Calls Try.prog 67 #[.agg #[.string mo, .string nm, .int .i64 sg], .pointer (some ⟨p, 0, none⟩)] w fun e w' => e = .returned (.int .i64 (if !(nmB mo && nmB nm) then 16 else if decide (0 ≤ sg) && decide (sg < (ns : Int)) then 0 else 2)) ∧ Below w.heap.size w w' := by
  obtain ⟨W, hW⟩ : ∃ W, W = w.alloc (.cells #[.string mo, .string nm, .int .i64 sg] 58) := ⟨_, rfl⟩
  have hbl : Below w.heap.size w W := by rw [hW]; exact (Below.refl _ _).alloc (Nat.le_refl _) _
  have y0 : W.cell? ⟨w.heap.size, 0, none⟩ = some (.string mo) := by rw [hW]; exact (Blk.new w 58 _).cell 0
  have y1 : W.cell? ⟨w.heap.size, 1, none⟩ = some (.string nm) := by rw [hW]; exact (Blk.new w 58 _).cell 1
  have x0 : ∀ q, (W.drewN q).cell? ⟨w.heap.size, 2, none⟩ = some (.int .i64 sg) := fun q => by rw [hW]; exact (Blk.new w 58 _).cell 2
  have x1 : ∀ q, (W.drewN q).cell? ⟨p, 0, none⟩ = some (.pointer (some ⟨g, 0, none⟩)) := fun q => (hbl.cell (p := ⟨p, 0, none⟩) hpl).trans hp
  have x2 : ∀ q, (W.drewN q).cell? ⟨g, 0, none⟩ = some (.slice S ns cs) := fun q => (hbl.cell (p := ⟨g, 0, none⟩) hgl).trans hg
  have HB := Lib.hid hbl
  have HW := Lib.hid hW
  have HN1 := Lib.hid (fun W => Named_any mo h1 W)
  have HN2 := Lib.hid (fun W => Named_any nm h2 W)
  have H27 := Lib.hid (fun W => within_any sg (ns : Int) W)
  have H64 := Lib.hid (fun W => unless_any (decide (0 ≤ sg) && decide (sg < (ns : Int))) 2 W)
  clear hbl hW hp hg hpl hgl
  generalize (decide (0 ≤ sg) && decide (sg < (ns : Int))) = q at H27 H64 ⊢
  generalize nmB mo = b1 at *
  generalize nmB nm = b2 at *
  cases b1 with
  | false =>
    go_enter Try.func67, Try.ntmps67
    go_wp2_with fail
    rw [← HW.out]
    go_wp2_with (go_at_call 11; (with_reducible refine (HN1.out _).mono ?_); rintro e w1 ⟨rfl, rfl⟩)
    go_ret
    exact ⟨rfl, HB.out⟩
  | true =>
    cases b2 with
    | false =>
      go_enter Try.func67, Try.ntmps67
      go_wp2_with fail
      rw [← HW.out]
      go_wp2_with (go_at_call 11; first | ((with_reducible refine (HN1.out _).mono ?_); rintro e w1 ⟨rfl, rfl⟩) | ((with_reducible refine (HN2.out _).mono ?_); rintro e w1 ⟨rfl, rfl⟩))
      go_ret
      exact ⟨rfl, HB.out⟩
    | true =>
      go_enter Try.func67, Try.ntmps67
      go_wp2_with fail
      rw [← HW.out]
      go_wp2_with (go_at_call 11; first | ((with_reducible refine (HN1.out _).mono ?_); rintro e w1 ⟨rfl, rfl⟩) | ((with_reducible refine (HN2.out _).mono ?_); rintro e w1 ⟨rfl, rfl⟩))
      refine wp_region_noPanic ?_
      refine wp_region_held_drew (S := (fun W => W.cell? ⟨w.heap.size, 2, none⟩ = some (.int .i64 sg) ∧ W.cell? ⟨p, 0, none⟩ = some (.pointer (some ⟨g, 0, none⟩)) ∧ W.cell? ⟨g, 0, none⟩ = some (.slice S ns cs))) (by kernel_rfl) ⟨x0 1, x1 1, x2 1⟩ (fun hHeld => ?_)
      refine wpAnyH_take (i := 0) (oi := ?oi_11) (v := ?_) ?hi_11 (by kernel_rfl) ?hf_11 (by kernel_rfl) ?hQ_11 ?hy_11 (by assumption) ?_
      case hi_11 => simp only [List.getElem?_toArray, List.getElem?_cons_zero, List.getElem?_cons_succ]; try rfl
      case hf_11 => kernel_rfl
      case hQ_11 => exact fun _ _ _ h => h
      case hy_11 =>
        refine Or.inl ⟨by rfl, ?_⟩
        intro W hSw
        obtain ⟨q0, q1, q2⟩ := hSw
        go_simp
        try with_reducible rfl
      try simp only [Act.put, List.setIfInBounds_toArray, List.set_cons_zero, List.set_cons_succ]
      refine wpAnyH_take (i := 1) (oi := ?oi_12) (v := ?_) ?hi_12 (by kernel_rfl) ?hf_12 (by kernel_rfl) ?hQ_12 ?hy_12 (by assumption) ?_
      case hi_12 => simp only [List.getElem?_toArray, List.getElem?_cons_zero, List.getElem?_cons_succ]; try rfl
      case hf_12 => kernel_rfl
      case hQ_12 => exact fun _ _ _ h => h
      case hy_12 =>
        refine Or.inl ⟨by rfl, ?_⟩
        intro W hSw
        obtain ⟨q0, q1, q2⟩ := hSw
        go_simp
        try with_reducible rfl
      try simp only [Act.put, List.setIfInBounds_toArray, List.set_cons_zero, List.set_cons_succ]
      refine wpAnyH_take (i := 2) (oi := ?oi_13) (v := ?_) ?hi_13 (by kernel_rfl) ?hf_13 (by kernel_rfl) ?hQ_13 ?hy_13 (by assumption) ?_
      case hi_13 => simp only [List.getElem?_toArray, List.getElem?_cons_zero, List.getElem?_cons_succ]; try rfl
      case hf_13 => kernel_rfl
      case hQ_13 => exact fun _ _ _ h => h
      case hy_13 =>
        refine Or.inl ⟨by rfl, ?_⟩
        intro W hSw
        obtain ⟨q0, q1, q2⟩ := hSw
        go_simp
        try with_reducible rfl
      try simp only [Act.put, List.setIfInBounds_toArray, List.set_cons_zero, List.set_cons_succ]
      refine wpAnyH_take (i := 3) (oi := ?oi_14) (v := ?_) ?hi_14 (by kernel_rfl) ?hf_14 (by kernel_rfl) ?hQ_14 ?hy_14 (by assumption) ?_
      case hi_14 => simp only [List.getElem?_toArray, List.getElem?_cons_zero, List.getElem?_cons_succ]; try rfl
      case hf_14 => kernel_rfl
      case hQ_14 => exact fun _ _ _ h => h
      case hy_14 =>
        refine Or.inl ⟨by rfl, ?_⟩
        intro W hSw
        obtain ⟨q0, q1, q2⟩ := hSw
        go_simp
        try with_reducible rfl
      try simp only [Act.put, List.setIfInBounds_toArray, List.set_cons_zero, List.set_cons_succ]
      refine wpAnyH_take (i := 4) (oi := ?oi_15) (v := ?_) ?hi_15 (by kernel_rfl) ?hf_15 (by kernel_rfl) ?hQ_15 ?hy_15 (by assumption) ?_
      case hi_15 => simp only [List.getElem?_toArray, List.getElem?_cons_zero, List.getElem?_cons_succ]; try rfl
      case hf_15 => kernel_rfl
      case hQ_15 => exact fun _ _ _ h => h
      case hy_15 =>
        refine Or.inl ⟨by rfl, ?_⟩
        intro W hSw
        obtain ⟨q0, q1, q2⟩ := hSw
        go_simp
        try with_reducible rfl
      try simp only [Act.put, List.setIfInBounds_toArray, List.set_cons_zero, List.set_cons_succ]
      refine wpAnyH_take (i := 5) (oi := ?oi_16) (v := ?_) ?hi_16 (by kernel_rfl) ?hf_16 (by kernel_rfl) ?hQ_16 ?hy_16 (by assumption) ?_
      case hi_16 => simp only [List.getElem?_toArray, List.getElem?_cons_zero, List.getElem?_cons_succ]; try rfl
      case hf_16 => kernel_rfl
      case hQ_16 => exact fun _ _ _ h => h
      case hy_16 =>
        refine Or.inl ⟨by rfl, ?_⟩
        intro W hSw
        obtain ⟨q0, q1, q2⟩ := hSw
        go_simp
        try with_reducible rfl
      try simp only [Act.put, List.setIfInBounds_toArray, List.set_cons_zero, List.set_cons_succ]
      refine wpAnyH_take (i := 6) (oi := ?oi_17) (v := ?_) ?hi_17 (by kernel_rfl) ?hf_17 (by kernel_rfl) ?hQ_17 ?hy_17 (by assumption) ?_
      case hi_17 => simp only [List.getElem?_toArray, List.getElem?_cons_zero, List.getElem?_cons_succ]; try rfl
      case hf_17 => kernel_rfl
      case hQ_17 => exact fun _ _ _ h => h
      case hy_17 =>
        refine Or.inl ⟨by rfl, ?_⟩
        intro W hSw
        obtain ⟨q0, q1, q2⟩ := hSw
        go_simp
        try with_reducible rfl
      try simp only [Act.put, List.setIfInBounds_toArray, List.set_cons_zero, List.set_cons_succ]
      refine wpAnyH_ready (rs := [7]) (by kernel_rfl) (by simp) ?_
      refine AllReadyH.cons (o := ?oi_18) ?hi_18 (fun K hK => ?_) AllReadyH.nil
      case hi_18 => simp only [List.getElem?_toArray, List.getElem?_cons_zero, List.getElem?_cons_succ]; try rfl
      go_simp
      (go_at_call 27
       (with_reducible refine (H27.out _).mono ?_)
       rintro e w7 ⟨rfl, rfl⟩)
      refine hK.out _ _ ⟨x0 1, x1 1, x2 1⟩ (fun hHeld => ?_)
      clear hK K
      try simp only [Act.put, List.setIfInBounds_toArray, List.set_cons_zero, List.set_cons_succ]
      refine wpAnyH_ready (rs := [8]) (by kernel_rfl) (by simp) ?_
      refine AllReadyH.cons (o := ?oi_19) ?hi_19 (fun K hK => ?_) AllReadyH.nil
      case hi_19 => simp only [List.getElem?_toArray, List.getElem?_cons_zero, List.getElem?_cons_succ]; try rfl
      go_simp
      (go_at_call 64
       (with_reducible refine (H64.out _).mono ?_)
       rintro e w7 ⟨rfl, rfl⟩)
      refine hK.out _ _ ⟨x0 1, x1 1, x2 1⟩ (fun hHeld => ?_)
      clear hK K
      try simp only [Act.put, List.setIfInBounds_toArray, List.set_cons_zero, List.set_cons_succ]
      refine wpAnyH_take (i := 9) (oi := ?oi_20) (v := ?_) ?hi_20 (by kernel_rfl) ?hf_20 (by kernel_rfl) ?hQ_20 ?hy_20 (by assumption) ?_
      case hi_20 => simp only [List.getElem?_toArray, List.getElem?_cons_zero, List.getElem?_cons_succ]; try rfl
      case hf_20 => kernel_rfl
      case hQ_20 => exact fun _ _ _ h => h
      case hy_20 =>
        refine Or.inl ⟨by rfl, ?_⟩
        intro W hSw
        obtain ⟨q0, q1, q2⟩ := hSw
        go_simp
        try with_reducible rfl
      try simp only [Act.put, List.setIfInBounds_toArray, List.set_cons_zero, List.set_cons_succ]
      refine wpAnyH_done (by kernel_rfl) ?_ _
      refine NoPanic.normal ?_
      clear hHeld
      go_wp2
      all_goals
        go_ret
        exact ⟨rfl, below_drew HB.out⟩
end Go.Proofs.Ytackompihengfaa
/-
  The closures of Fit's parts: data.
-/
namespace Go.Proofs.Ytackompihengfaa
open Go.RowKit Go.PlainAid
set_option linter.unusedVariables false
set_option linter.unusedSimpArgs false
/-- what data is told to be -/
def daE (n4 : Nat) (X4 : Nat → LimT) (me at_ : Int) (n : Nat) : Int := if 4096 < n then 15 else if inB (n4 : Int) me && ((X4 me.toNat).wd || decide (at_ < 4294967296)) then 0 else 2
set_option maxHeartbeats 4000000 in
set_option maxRecDepth 100000 in
theorem datas1_ok (me at_ : Int) (A : Option Addr) (n c : Nat) (p g : Nat) (A4 : Option Addr) (n4 c4 : Nat) (X4 : Nat → LimT) (hn : n ≤ c) (hc : c ≤ 9223372036854775807) (h4 : n4 ≤ 1000) (w : World)
    (hp : w.cell? ⟨p, 0, none⟩ = some (.pointer (some ⟨g, 0, none⟩))) (hpl : p < w.heap.size) (hg : w.cell? ⟨g, 4, none⟩ = some (.slice A4 n4 c4)) (hgl : g < w.heap.size) (hr : Row 3 LimAt w A4 n4 c4 X4) :
    Calls Try.prog 83 #[.agg #[.int .i64 me, .int .u64 at_, .slice A n c], .pointer (some ⟨p, 0, none⟩)] w fun e w' => e = .returned (.int .i64 (daE n4 X4 me at_ n)) ∧ Below w.heap.size w w' := by
  obtain ⟨W, hW⟩ : ∃ W, W = w.alloc (.cells #[.int .i64 me, .int .u64 at_, .slice A n c] 84) := ⟨_, rfl⟩
  have hbl : Below w.heap.size w W := by rw [hW]; exact (Below.refl _ _).alloc (Nat.le_refl _) _
  have x0 : W.cell? ⟨w.heap.size, 0, none⟩ = some (.int .i64 me) := by rw [hW]; exact (Blk.new w 84 _).cell 0
  have x1 : W.cell? ⟨w.heap.size, 1, none⟩ = some (.int .u64 at_) := by rw [hW]; exact (Blk.new w 84 _).cell 1
  have xb : W.cell? ⟨w.heap.size, 2, none⟩ = some (.slice A n c) := by rw [hW]; exact (Blk.new w 84 _).cell 2
  have x2 : W.cell? ⟨p, 0, none⟩ = some (.pointer (some ⟨g, 0, none⟩)) := (hbl.cell (p := ⟨p, 0, none⟩) hpl).trans hp
  have x3 : W.cell? ⟨g, 4, none⟩ = some (.slice A4 n4 c4) := (hbl.cell (p := ⟨g, 4, none⟩) hgl).trans hg
  have HR := Lib.hid (hr.below lim_stay hbl)
  have hcap := hr.1
  have hcm := hr.2.1
  unfold maxLen at hcm
  have HB := Lib.hid hbl
  have HW := Lib.hid hW
  have H27 : Hid (∀ W, Calls Try.prog 27 #[.int .i64 me, .int .i64 (n4 : Int)] W fun e w' => e = .returned (.bool (inB (n4 : Int) me)) ∧ W = w') := Lib.hid (fun W => within_any me (n4 : Int) W)
  obtain ⟨r, hr0⟩ : ∃ r, r = daE n4 X4 me at_ n := ⟨_, rfl⟩
  rw [← hr0]
  unfold daE at hr0
  clear hbl hW hp hg hr
  by_cases h1 : 4096 < n
  · rw [if_pos h1] at hr0
    subst hr0
    go_enter Try.func83, Try.ntmps83
    go_upto_region 1 with fail
    rw [← HW.out]
    go_wp2
    go_ret
    exact ⟨rfl, HB.out⟩
  rw [if_neg h1] at hr0
  have h1' : (n : Int) ≤ 4096 := by omega
  clear h1
  cases hin : inB (n4 : Int) me with
  | false =>
    rw [hin] at H27 hr0
    rw [Bool.false_and, if_neg (by decide)] at hr0
    subst hr0
    clear hin HR
    have H64 := Lib.hid (fun W => unless_any false 2 W)
    go_enter Try.func83, Try.ntmps83
    go_upto_region 1 with fail
    rw [← HW.out]
    go_wp2_with fail
    refine wp_region_noPanic ?_
    refine wp_region_held_drew (S := (fun W => W.cell? ⟨w.heap.size, 0, none⟩ = some (.int .i64 me) ∧ W.cell? ⟨w.heap.size, 1, none⟩ = some (.int .u64 at_) ∧ W.cell? ⟨p, 0, none⟩ = some (.pointer (some ⟨g, 0, none⟩)) ∧ W.cell? ⟨g, 4, none⟩ = some (.slice A4 n4 c4))) (by kernel_rfl) ⟨x0, x1, x2, x3⟩ (fun hHeld => ?_)
    refine wpAnyH_take (i := 0) (oi := ?oi_21) (v := ?_) ?hi_21 (by kernel_rfl) ?hf_21 (by kernel_rfl) ?hQ_21 ?hy_21 (by assumption) ?_
    case hi_21 => simp only [List.getElem?_toArray, List.getElem?_cons_zero, List.getElem?_cons_succ]; try rfl
    case hf_21 => kernel_rfl
    case hQ_21 => exact fun _ _ _ h => h
    case hy_21 =>
      refine Or.inl ⟨by rfl, ?_⟩
      intro W hSw
      obtain ⟨q0, q1, q2, q3⟩ := hSw
      go_simp
      try with_reducible rfl
    try simp only [Act.put, List.setIfInBounds_toArray, List.set_cons_zero, List.set_cons_succ]
    refine wpAnyH_take (i := 1) (oi := ?oi_22) (v := ?_) ?hi_22 (by kernel_rfl) ?hf_22 (by kernel_rfl) ?hQ_22 ?hy_22 (by assumption) ?_
    case hi_22 => simp only [List.getElem?_toArray, List.getElem?_cons_zero, List.getElem?_cons_succ]; try rfl
    case hf_22 => kernel_rfl
    case hQ_22 => exact fun _ _ _ h => h
    case hy_22 =>
      refine Or.inl ⟨by rfl, ?_⟩
      intro W hSw
      obtain ⟨q0, q1, q2, q3⟩ := hSw
      go_simp
      try with_reducible rfl
    try simp only [Act.put, List.setIfInBounds_toArray, List.set_cons_zero, List.set_cons_succ]
    refine wpAnyH_take (i := 2) (oi := ?oi_23) (v := ?_) ?hi_23 (by kernel_rfl) ?hf_23 (by kernel_rfl) ?hQ_23 ?hy_23 (by assumption) ?_
    case hi_23 => simp only [List.getElem?_toArray, List.getElem?_cons_zero, List.getElem?_cons_succ]; try rfl
    case hf_23 => kernel_rfl
    case hQ_23 => exact fun _ _ _ h => h
    case hy_23 =>
      refine Or.inl ⟨by rfl, ?_⟩
      intro W hSw
      obtain ⟨q0, q1, q2, q3⟩ := hSw
      go_simp
      try with_reducible rfl
    try simp only [Act.put, List.setIfInBounds_toArray, List.set_cons_zero, List.set_cons_succ]
    refine wpAnyH_take (i := 3) (oi := ?oi_24) (v := ?_) ?hi_24 (by kernel_rfl) ?hf_24 (by kernel_rfl) ?hQ_24 ?hy_24 (by assumption) ?_
    case hi_24 => simp only [List.getElem?_toArray, List.getElem?_cons_zero, List.getElem?_cons_succ]; try rfl
    case hf_24 => kernel_rfl
    case hQ_24 => exact fun _ _ _ h => h
    case hy_24 =>
      refine Or.inl ⟨by rfl, ?_⟩
      intro W hSw
      obtain ⟨q0, q1, q2, q3⟩ := hSw
      go_simp
      try with_reducible rfl
    try simp only [Act.put, List.setIfInBounds_toArray, List.set_cons_zero, List.set_cons_succ]
    refine wpAnyH_take (i := 4) (oi := ?oi_25) (v := ?_) ?hi_25 (by kernel_rfl) ?hf_25 (by kernel_rfl) ?hQ_25 ?hy_25 (by assumption) ?_
    case hi_25 => simp only [List.getElem?_toArray, List.getElem?_cons_zero, List.getElem?_cons_succ]; try rfl
    case hf_25 => kernel_rfl
    case hQ_25 => exact fun _ _ _ h => h
    case hy_25 =>
      refine Or.inl ⟨by rfl, ?_⟩
      intro W hSw
      obtain ⟨q0, q1, q2, q3⟩ := hSw
      go_simp
      try with_reducible rfl
    try simp only [Act.put, List.setIfInBounds_toArray, List.set_cons_zero, List.set_cons_succ]
    refine wpAnyH_take (i := 5) (oi := ?oi_26) (v := ?_) ?hi_26 (by kernel_rfl) ?hf_26 (by kernel_rfl) ?hQ_26 ?hy_26 (by assumption) ?_
    case hi_26 => simp only [List.getElem?_toArray, List.getElem?_cons_zero, List.getElem?_cons_succ]; try rfl
    case hf_26 => kernel_rfl
    case hQ_26 => exact fun _ _ _ h => h
    case hy_26 =>
      refine Or.inl ⟨by rfl, ?_⟩
      intro W hSw
      obtain ⟨q0, q1, q2, q3⟩ := hSw
      go_simp
      try with_reducible rfl
    try simp only [Act.put, List.setIfInBounds_toArray, List.set_cons_zero, List.set_cons_succ]
    refine wpAnyH_take (i := 6) (oi := ?oi_27) (v := ?_) ?hi_27 (by kernel_rfl) ?hf_27 (by kernel_rfl) ?hQ_27 ?hy_27 (by assumption) ?_
    case hi_27 => simp only [List.getElem?_toArray, List.getElem?_cons_zero, List.getElem?_cons_succ]; try rfl
    case hf_27 => kernel_rfl
    case hQ_27 => exact fun _ _ _ h => h
    case hy_27 =>
      refine Or.inl ⟨by rfl, ?_⟩
      intro W hSw
      obtain ⟨q0, q1, q2, q3⟩ := hSw
      go_simp
      try with_reducible rfl
    try simp only [Act.put, List.setIfInBounds_toArray, List.set_cons_zero, List.set_cons_succ]
    refine wpAnyH_ready (rs := [7]) (by kernel_rfl) (by simp) ?_
    refine AllReadyH.cons (o := ?oi_28) ?hi_28 (fun K hK => ?_) AllReadyH.nil
    case hi_28 => simp only [List.getElem?_toArray, List.getElem?_cons_zero, List.getElem?_cons_succ]; try rfl
    go_simp
    (go_at_call 27
     (with_reducible refine (H27.out _).mono ?_)
     rintro e w7 ⟨rfl, rfl⟩)
    refine hK.out _ _ ⟨x0, x1, x2, x3⟩ (fun hHeld => ?_)
    clear hK K
    try simp only [Act.put, List.setIfInBounds_toArray, List.set_cons_zero, List.set_cons_succ]
    refine wpAnyH_take (i := 8) (oi := ?oi_29) (v := ?_) ?hi_29 (by kernel_rfl) ?hf_29 (by kernel_rfl) ?hQ_29 ?hy_29 (by assumption) ?_
    case hi_29 => simp only [List.getElem?_toArray, List.getElem?_cons_zero, List.getElem?_cons_succ]; try rfl
    case hf_29 => kernel_rfl
    case hQ_29 => exact fun _ _ _ h => h
    case hy_29 =>
      refine Or.inl ⟨by rfl, ?_⟩
      intro W hSw
      obtain ⟨q0, q1, q2, q3⟩ := hSw
      go_simp
      try with_reducible rfl
    try simp only [Act.put, List.setIfInBounds_toArray, List.set_cons_zero, List.set_cons_succ]
    refine wpAnyH_take (i := 9) (oi := ?oi_30) (v := undef) ?hi_30 (by kernel_rfl) ?hf_30 (by kernel_rfl) ?hQ_30 ?hy_30 (by assumption) ?_
    case hi_30 => simp only [List.getElem?_toArray, List.getElem?_cons_zero, List.getElem?_cons_succ]; try rfl
    case hf_30 => kernel_rfl
    case hQ_30 => exact fun _ _ _ h => h
    case hy_30 => exact Or.inr ⟨by rfl, rfl⟩
    try simp only [Act.put, List.setIfInBounds_toArray, List.set_cons_zero, List.set_cons_succ]
    refine wpAnyH_take (i := 10) (oi := ?oi_31) (v := undef) ?hi_31 (by kernel_rfl) ?hf_31 (by kernel_rfl) ?hQ_31 ?hy_31 (by assumption) ?_
    case hi_31 => simp only [List.getElem?_toArray, List.getElem?_cons_zero, List.getElem?_cons_succ]; try rfl
    case hf_31 => kernel_rfl
    case hQ_31 => exact fun _ _ _ h => h
    case hy_31 => exact Or.inr ⟨by rfl, rfl⟩
    try simp only [Act.put, List.setIfInBounds_toArray, List.set_cons_zero, List.set_cons_succ]
    refine wpAnyH_take (i := 11) (oi := ?oi_32) (v := undef) ?hi_32 (by kernel_rfl) ?hf_32 (by kernel_rfl) ?hQ_32 ?hy_32 (by assumption) ?_
    case hi_32 => simp only [List.getElem?_toArray, List.getElem?_cons_zero, List.getElem?_cons_succ]; try rfl
    case hf_32 => kernel_rfl
    case hQ_32 => exact fun _ _ _ h => h
    case hy_32 => exact Or.inr ⟨by rfl, rfl⟩
    try simp only [Act.put, List.setIfInBounds_toArray, List.set_cons_zero, List.set_cons_succ]
    refine wpAnyH_take (i := 12) (oi := ?oi_33) (v := undef) ?hi_33 (by kernel_rfl) ?hf_33 (by kernel_rfl) ?hQ_33 ?hy_33 (by assumption) ?_
    case hi_33 => simp only [List.getElem?_toArray, List.getElem?_cons_zero, List.getElem?_cons_succ]; try rfl
    case hf_33 => kernel_rfl
    case hQ_33 => exact fun _ _ _ h => h
    case hy_33 => exact Or.inr ⟨by rfl, rfl⟩
    try simp only [Act.put, List.setIfInBounds_toArray, List.set_cons_zero, List.set_cons_succ]
    refine wpAnyH_take (i := 13) (oi := ?oi_34) (v := undef) ?hi_34 (by kernel_rfl) ?hf_34 (by kernel_rfl) ?hQ_34 ?hy_34 (by assumption) ?_
    case hi_34 => simp only [List.getElem?_toArray, List.getElem?_cons_zero, List.getElem?_cons_succ]; try rfl
    case hf_34 => kernel_rfl
    case hQ_34 => exact fun _ _ _ h => h
    case hy_34 => exact Or.inr ⟨by rfl, rfl⟩
    try simp only [Act.put, List.setIfInBounds_toArray, List.set_cons_zero, List.set_cons_succ]
    refine wpAnyH_take (i := 14) (oi := ?oi_35) (v := undef) ?hi_35 (by kernel_rfl) ?hf_35 (by kernel_rfl) ?hQ_35 ?hy_35 (by assumption) ?_
    case hi_35 => simp only [List.getElem?_toArray, List.getElem?_cons_zero, List.getElem?_cons_succ]; try rfl
    case hf_35 => kernel_rfl
    case hQ_35 => exact fun _ _ _ h => h
    case hy_35 => exact Or.inr ⟨by rfl, rfl⟩
    try simp only [Act.put, List.setIfInBounds_toArray, List.set_cons_zero, List.set_cons_succ]
    refine wpAnyH_take (i := 15) (oi := ?oi_36) (v := undef) ?hi_36 (by kernel_rfl) ?hf_36 (by kernel_rfl) ?hQ_36 ?hy_36 (by assumption) ?_
    case hi_36 => simp only [List.getElem?_toArray, List.getElem?_cons_zero, List.getElem?_cons_succ]; try rfl
    case hf_36 => kernel_rfl
    case hQ_36 => exact fun _ _ _ h => h
    case hy_36 => exact Or.inr ⟨by rfl, rfl⟩
    try simp only [Act.put, List.setIfInBounds_toArray, List.set_cons_zero, List.set_cons_succ]
    refine wpAnyH_take (i := 16) (oi := ?oi_37) (v := undef) ?hi_37 (by kernel_rfl) ?hf_37 (by kernel_rfl) ?hQ_37 ?hy_37 (by assumption) ?_
    case hi_37 => simp only [List.getElem?_toArray, List.getElem?_cons_zero, List.getElem?_cons_succ]; try rfl
    case hf_37 => kernel_rfl
    case hQ_37 => exact fun _ _ _ h => h
    case hy_37 => exact Or.inr ⟨by rfl, rfl⟩
    try simp only [Act.put, List.setIfInBounds_toArray, List.set_cons_zero, List.set_cons_succ]
    refine wpAnyH_take (i := 17) (oi := ?oi_38) (v := undef) ?hi_38 (by kernel_rfl) ?hf_38 (by kernel_rfl) ?hQ_38 ?hy_38 (by assumption) ?_
    case hi_38 => simp only [List.getElem?_toArray, List.getElem?_cons_zero, List.getElem?_cons_succ]; try rfl
    case hf_38 => kernel_rfl
    case hQ_38 => exact fun _ _ _ h => h
    case hy_38 => exact Or.inr ⟨by rfl, rfl⟩
    try simp only [Act.put, List.setIfInBounds_toArray, List.set_cons_zero, List.set_cons_succ]
    refine wpAnyH_take (i := 18) (oi := ?oi_39) (v := undef) ?hi_39 (by kernel_rfl) ?hf_39 (by kernel_rfl) ?hQ_39 ?hy_39 (by assumption) ?_
    case hi_39 => simp only [List.getElem?_toArray, List.getElem?_cons_zero, List.getElem?_cons_succ]; try rfl
    case hf_39 => kernel_rfl
    case hQ_39 => exact fun _ _ _ h => h
    case hy_39 => exact Or.inr ⟨by rfl, rfl⟩
    try simp only [Act.put, List.setIfInBounds_toArray, List.set_cons_zero, List.set_cons_succ]
    refine wpAnyH_take (i := 19) (oi := ?oi_40) (v := undef) ?hi_40 (by kernel_rfl) ?hf_40 (by kernel_rfl) ?hQ_40 ?hy_40 (by assumption) ?_
    case hi_40 => simp only [List.getElem?_toArray, List.getElem?_cons_zero, List.getElem?_cons_succ]; try rfl
    case hf_40 => kernel_rfl
    case hQ_40 => exact fun _ _ _ h => h
    case hy_40 => exact Or.inr ⟨by rfl, rfl⟩
    try simp only [Act.put, List.setIfInBounds_toArray, List.set_cons_zero, List.set_cons_succ]
    refine wpAnyH_take (i := 20) (oi := ?oi_41) (v := undef) ?hi_41 (by kernel_rfl) ?hf_41 (by kernel_rfl) ?hQ_41 ?hy_41 (by assumption) ?_
    case hi_41 => simp only [List.getElem?_toArray, List.getElem?_cons_zero, List.getElem?_cons_succ]; try rfl
    case hf_41 => kernel_rfl
    case hQ_41 => exact fun _ _ _ h => h
    case hy_41 => exact Or.inr ⟨by rfl, rfl⟩
    try simp only [Act.put, List.setIfInBounds_toArray, List.set_cons_zero, List.set_cons_succ]
    refine wpAnyH_take (i := 21) (oi := ?oi_42) (v := undef) ?hi_42 (by kernel_rfl) ?hf_42 (by kernel_rfl) ?hQ_42 ?hy_42 (by assumption) ?_
    case hi_42 => simp only [List.getElem?_toArray, List.getElem?_cons_zero, List.getElem?_cons_succ]; try rfl
    case hf_42 => kernel_rfl
    case hQ_42 => exact fun _ _ _ h => h
    case hy_42 => exact Or.inr ⟨by rfl, rfl⟩
    try simp only [Act.put, List.setIfInBounds_toArray, List.set_cons_zero, List.set_cons_succ]
    refine wpAnyH_take (i := 22) (oi := ?oi_43) (v := undef) ?hi_43 (by kernel_rfl) ?hf_43 (by kernel_rfl) ?hQ_43 ?hy_43 (by assumption) ?_
    case hi_43 => simp only [List.getElem?_toArray, List.getElem?_cons_zero, List.getElem?_cons_succ]; try rfl
    case hf_43 => kernel_rfl
    case hQ_43 => exact fun _ _ _ h => h
    case hy_43 => exact Or.inr ⟨by rfl, rfl⟩
    try simp only [Act.put, List.setIfInBounds_toArray, List.set_cons_zero, List.set_cons_succ]
    refine wpAnyH_take (i := 23) (oi := ?oi_44) (v := ?_) ?hi_44 (by kernel_rfl) ?hf_44 (by kernel_rfl) ?hQ_44 ?hy_44 (by assumption) ?_
    case hi_44 => simp only [List.getElem?_toArray, List.getElem?_cons_zero, List.getElem?_cons_succ]; try rfl
    case hf_44 => kernel_rfl
    case hQ_44 => exact fun _ _ _ h => h
    case hy_44 =>
      refine Or.inl ⟨by rfl, ?_⟩
      intro W hSw
      obtain ⟨q0, q1, q2, q3⟩ := hSw
      go_simp
      try with_reducible rfl
    try simp only [Act.put, List.setIfInBounds_toArray, List.set_cons_zero, List.set_cons_succ]
    refine wpAnyH_take (i := 24) (oi := ?oi_45) (v := ?_) ?hi_45 (by kernel_rfl) ?hf_45 (by kernel_rfl) ?hQ_45 ?hy_45 (by assumption) ?_
    case hi_45 => simp only [List.getElem?_toArray, List.getElem?_cons_zero, List.getElem?_cons_succ]; try rfl
    case hf_45 => kernel_rfl
    case hQ_45 => exact fun _ _ _ h => h
    case hy_45 =>
      refine Or.inl ⟨by rfl, ?_⟩
      intro W hSw
      obtain ⟨q0, q1, q2, q3⟩ := hSw
      go_simp
      try with_reducible rfl
    try simp only [Act.put, List.setIfInBounds_toArray, List.set_cons_zero, List.set_cons_succ]
    refine wpAnyH_done (by kernel_rfl) ?_ _
    refine NoPanic.normal ?_
    clear hHeld
    go_wp2_with (go_at_call 64; (with_reducible refine (H64.out _).mono ?_); rintro e w9 ⟨rfl, rfl⟩)
    go_ret
    exact ⟨rfl, below_drew HB.out⟩
  | true =>
    rw [hin] at H27 hr0
    rw [Bool.true_and] at hr0
    unfold inB at hin
    rw [Bool.and_eq_true, decide_eq_true_eq, decide_eq_true_eq] at hin
    obtain ⟨k, rfl⟩ := Int.eq_ofNat_of_zero_le hin.1
    have hk : k < n4 := by omega
    obtain ⟨b4, off4, rfl, hb4, hat⟩ := HR.out.2.2 (by omega)
    have x4 := (hat k hk).2.2
    rw [Int.toNat_natCast] at hr0
    clear hat HR hin
    have hk1 : (k : Int) < (n4 : Int) := by omega
    have hk0 : (0 : Int) ≤ (k : Int) := by omega
    cases hwd : (X4 k).wd with
    | true =>
      rw [hwd] at x4 hr0
      rw [Bool.true_or, if_pos rfl] at hr0
      subst hr0
      clear hwd
      have H64 := Lib.hid (fun W => unless_any true 2 W)
      go_enter Try.func83, Try.ntmps83
      go_upto_region 1 with fail
      rw [← HW.out]
      go_wp2_with fail
      refine wp_region_noPanic ?_
      refine wp_region_held_drew (S := (fun W => W.cell? ⟨w.heap.size, 0, none⟩ = some (.int .i64 (k : Int)) ∧ W.cell? ⟨w.heap.size, 1, none⟩ = some (.int .u64 at_) ∧ W.cell? ⟨p, 0, none⟩ = some (.pointer (some ⟨g, 0, none⟩)) ∧ W.cell? ⟨g, 4, none⟩ = some (.slice (some ⟨b4, off4, none⟩) n4 c4) ∧ W.cell? ⟨b4, off4 + k * 3 + 2, none⟩ = some (.bool true))) (by kernel_rfl) ⟨x0, x1, x2, x3, x4⟩ (fun hHeld => ?_)
      refine wpAnyH_take (i := 0) (oi := ?oi_46) (v := ?_) ?hi_46 (by kernel_rfl) ?hf_46 (by kernel_rfl) ?hQ_46 ?hy_46 (by assumption) ?_
      case hi_46 => simp only [List.getElem?_toArray, List.getElem?_cons_zero, List.getElem?_cons_succ]; try rfl
      case hf_46 => kernel_rfl
      case hQ_46 => exact fun _ _ _ h => h
      case hy_46 =>
        refine Or.inl ⟨by rfl, ?_⟩
        intro W hSw
        obtain ⟨q0, q1, q2, q3, q4⟩ := hSw
        go_simp
        try with_reducible rfl
      try simp only [Act.put, List.setIfInBounds_toArray, List.set_cons_zero, List.set_cons_succ]
      refine wpAnyH_take (i := 1) (oi := ?oi_47) (v := ?_) ?hi_47 (by kernel_rfl) ?hf_47 (by kernel_rfl) ?hQ_47 ?hy_47 (by assumption) ?_
      case hi_47 => simp only [List.getElem?_toArray, List.getElem?_cons_zero, List.getElem?_cons_succ]; try rfl
      case hf_47 => kernel_rfl
      case hQ_47 => exact fun _ _ _ h => h
      case hy_47 =>
        refine Or.inl ⟨by rfl, ?_⟩
        intro W hSw
        obtain ⟨q0, q1, q2, q3, q4⟩ := hSw
        go_simp
        try with_reducible rfl
      try simp only [Act.put, List.setIfInBounds_toArray, List.set_cons_zero, List.set_cons_succ]
      refine wpAnyH_take (i := 2) (oi := ?oi_48) (v := ?_) ?hi_48 (by kernel_rfl) ?hf_48 (by kernel_rfl) ?hQ_48 ?hy_48 (by assumption) ?_
      case hi_48 => simp only [List.getElem?_toArray, List.getElem?_cons_zero, List.getElem?_cons_succ]; try rfl
      case hf_48 => kernel_rfl
      case hQ_48 => exact fun _ _ _ h => h
      case hy_48 =>
        refine Or.inl ⟨by rfl, ?_⟩
        intro W hSw
        obtain ⟨q0, q1, q2, q3, q4⟩ := hSw
        go_simp
        try with_reducible rfl
      try simp only [Act.put, List.setIfInBounds_toArray, List.set_cons_zero, List.set_cons_succ]
      refine wpAnyH_take (i := 3) (oi := ?oi_49) (v := ?_) ?hi_49 (by kernel_rfl) ?hf_49 (by kernel_rfl) ?hQ_49 ?hy_49 (by assumption) ?_
      case hi_49 => simp only [List.getElem?_toArray, List.getElem?_cons_zero, List.getElem?_cons_succ]; try rfl
      case hf_49 => kernel_rfl
      case hQ_49 => exact fun _ _ _ h => h
      case hy_49 =>
        refine Or.inl ⟨by rfl, ?_⟩
        intro W hSw
        obtain ⟨q0, q1, q2, q3, q4⟩ := hSw
        go_simp
        try with_reducible rfl
      try simp only [Act.put, List.setIfInBounds_toArray, List.set_cons_zero, List.set_cons_succ]
      refine wpAnyH_take (i := 4) (oi := ?oi_50) (v := ?_) ?hi_50 (by kernel_rfl) ?hf_50 (by kernel_rfl) ?hQ_50 ?hy_50 (by assumption) ?_
      case hi_50 => simp only [List.getElem?_toArray, List.getElem?_cons_zero, List.getElem?_cons_succ]; try rfl
      case hf_50 => kernel_rfl
      case hQ_50 => exact fun _ _ _ h => h
      case hy_50 =>
        refine Or.inl ⟨by rfl, ?_⟩
        intro W hSw
        obtain ⟨q0, q1, q2, q3, q4⟩ := hSw
        go_simp
        try with_reducible rfl
      try simp only [Act.put, List.setIfInBounds_toArray, List.set_cons_zero, List.set_cons_succ]
      refine wpAnyH_take (i := 5) (oi := ?oi_51) (v := ?_) ?hi_51 (by kernel_rfl) ?hf_51 (by kernel_rfl) ?hQ_51 ?hy_51 (by assumption) ?_
      case hi_51 => simp only [List.getElem?_toArray, List.getElem?_cons_zero, List.getElem?_cons_succ]; try rfl
      case hf_51 => kernel_rfl
      case hQ_51 => exact fun _ _ _ h => h
      case hy_51 =>
        refine Or.inl ⟨by rfl, ?_⟩
        intro W hSw
        obtain ⟨q0, q1, q2, q3, q4⟩ := hSw
        go_simp
        try with_reducible rfl
      try simp only [Act.put, List.setIfInBounds_toArray, List.set_cons_zero, List.set_cons_succ]
      refine wpAnyH_take (i := 6) (oi := ?oi_52) (v := ?_) ?hi_52 (by kernel_rfl) ?hf_52 (by kernel_rfl) ?hQ_52 ?hy_52 (by assumption) ?_
      case hi_52 => simp only [List.getElem?_toArray, List.getElem?_cons_zero, List.getElem?_cons_succ]; try rfl
      case hf_52 => kernel_rfl
      case hQ_52 => exact fun _ _ _ h => h
      case hy_52 =>
        refine Or.inl ⟨by rfl, ?_⟩
        intro W hSw
        obtain ⟨q0, q1, q2, q3, q4⟩ := hSw
        go_simp
        try with_reducible rfl
      try simp only [Act.put, List.setIfInBounds_toArray, List.set_cons_zero, List.set_cons_succ]
      refine wpAnyH_ready (rs := [7]) (by kernel_rfl) (by simp) ?_
      refine AllReadyH.cons (o := ?oi_53) ?hi_53 (fun K hK => ?_) AllReadyH.nil
      case hi_53 => simp only [List.getElem?_toArray, List.getElem?_cons_zero, List.getElem?_cons_succ]; try rfl
      go_simp
      (go_at_call 27
       (with_reducible refine (H27.out _).mono ?_)
       rintro e w7 ⟨rfl, rfl⟩)
      refine hK.out _ _ ⟨x0, x1, x2, x3, x4⟩ (fun hHeld => ?_)
      clear hK K
      try simp only [Act.put, List.setIfInBounds_toArray, List.set_cons_zero, List.set_cons_succ]
      refine wpAnyH_take (i := 8) (oi := ?oi_54) (v := ?_) ?hi_54 (by kernel_rfl) ?hf_54 (by kernel_rfl) ?hQ_54 ?hy_54 (by assumption) ?_
      case hi_54 => simp only [List.getElem?_toArray, List.getElem?_cons_zero, List.getElem?_cons_succ]; try rfl
      case hf_54 => kernel_rfl
      case hQ_54 => exact fun _ _ _ h => h
      case hy_54 =>
        refine Or.inl ⟨by rfl, ?_⟩
        intro W hSw
        obtain ⟨q0, q1, q2, q3, q4⟩ := hSw
        go_simp
        try with_reducible rfl
      try simp only [Act.put, List.setIfInBounds_toArray, List.set_cons_zero, List.set_cons_succ]
      refine wpAnyH_take (i := 9) (oi := ?oi_55) (v := ?_) ?hi_55 (by kernel_rfl) ?hf_55 (by kernel_rfl) ?hQ_55 ?hy_55 (by assumption) ?_
      case hi_55 => simp only [List.getElem?_toArray, List.getElem?_cons_zero, List.getElem?_cons_succ]; try rfl
      case hf_55 => kernel_rfl
      case hQ_55 => exact fun _ _ _ h => h
      case hy_55 =>
        refine Or.inl ⟨by rfl, ?_⟩
        intro W hSw
        obtain ⟨q0, q1, q2, q3, q4⟩ := hSw
        go_simp
        try with_reducible rfl
      try simp only [Act.put, List.setIfInBounds_toArray, List.set_cons_zero, List.set_cons_succ]
      refine wpAnyH_take (i := 10) (oi := ?oi_56) (v := ?_) ?hi_56 (by kernel_rfl) ?hf_56 (by kernel_rfl) ?hQ_56 ?hy_56 (by assumption) ?_
      case hi_56 => simp only [List.getElem?_toArray, List.getElem?_cons_zero, List.getElem?_cons_succ]; try rfl
      case hf_56 => kernel_rfl
      case hQ_56 => exact fun _ _ _ h => h
      case hy_56 =>
        refine Or.inl ⟨by rfl, ?_⟩
        intro W hSw
        obtain ⟨q0, q1, q2, q3, q4⟩ := hSw
        go_simp
        try with_reducible rfl
      try simp only [Act.put, List.setIfInBounds_toArray, List.set_cons_zero, List.set_cons_succ]
      refine wpAnyH_take (i := 11) (oi := ?oi_57) (v := ?_) ?hi_57 (by kernel_rfl) ?hf_57 (by kernel_rfl) ?hQ_57 ?hy_57 (by assumption) ?_
      case hi_57 => simp only [List.getElem?_toArray, List.getElem?_cons_zero, List.getElem?_cons_succ]; try rfl
      case hf_57 => kernel_rfl
      case hQ_57 => exact fun _ _ _ h => h
      case hy_57 =>
        refine Or.inl ⟨by rfl, ?_⟩
        intro W hSw
        obtain ⟨q0, q1, q2, q3, q4⟩ := hSw
        go_simp
        try with_reducible rfl
      try simp only [Act.put, List.setIfInBounds_toArray, List.set_cons_zero, List.set_cons_succ]
      refine wpAnyH_take (i := 12) (oi := ?oi_58) (v := ?_) ?hi_58 (by kernel_rfl) ?hf_58 (by kernel_rfl) ?hQ_58 ?hy_58 (by assumption) ?_
      case hi_58 => simp only [List.getElem?_toArray, List.getElem?_cons_zero, List.getElem?_cons_succ]; try rfl
      case hf_58 => kernel_rfl
      case hQ_58 => exact fun _ _ _ h => h
      case hy_58 =>
        refine Or.inl ⟨by rfl, ?_⟩
        intro W hSw
        obtain ⟨q0, q1, q2, q3, q4⟩ := hSw
        go_simp
        try with_reducible rfl
      try simp only [Act.put, List.setIfInBounds_toArray, List.set_cons_zero, List.set_cons_succ]
      refine wpAnyH_take (i := 13) (oi := ?oi_59) (v := ?_) ?hi_59 (by kernel_rfl) ?hf_59 (by kernel_rfl) ?hQ_59 ?hy_59 (by assumption) ?_
      case hi_59 => simp only [List.getElem?_toArray, List.getElem?_cons_zero, List.getElem?_cons_succ]; try rfl
      case hf_59 => kernel_rfl
      case hQ_59 => exact fun _ _ _ h => h
      case hy_59 =>
        refine Or.inl ⟨by rfl, ?_⟩
        intro W hSw
        obtain ⟨q0, q1, q2, q3, q4⟩ := hSw
        go_simp
        try with_reducible rfl
      try simp only [Act.put, List.setIfInBounds_toArray, List.set_cons_zero, List.set_cons_succ]
      refine wpAnyH_take (i := 14) (oi := ?oi_60) (v := ?_) ?hi_60 (by kernel_rfl) ?hf_60 (by kernel_rfl) ?hQ_60 ?hy_60 (by assumption) ?_
      case hi_60 => simp only [List.getElem?_toArray, List.getElem?_cons_zero, List.getElem?_cons_succ]; try rfl
      case hf_60 => kernel_rfl
      case hQ_60 => exact fun _ _ _ h => h
      case hy_60 =>
        refine Or.inl ⟨by rfl, ?_⟩
        intro W hSw
        obtain ⟨q0, q1, q2, q3, q4⟩ := hSw
        go_simp
        try with_reducible rfl
      try simp only [Act.put, List.setIfInBounds_toArray, List.set_cons_zero, List.set_cons_succ]
      refine wpAnyH_take (i := 15) (oi := ?oi_61) (v := ?_) ?hi_61 (by kernel_rfl) ?hf_61 (by kernel_rfl) ?hQ_61 ?hy_61 (by assumption) ?_
      case hi_61 => simp only [List.getElem?_toArray, List.getElem?_cons_zero, List.getElem?_cons_succ]; try rfl
      case hf_61 => kernel_rfl
      case hQ_61 => exact fun _ _ _ h => h
      case hy_61 =>
        refine Or.inl ⟨by rfl, ?_⟩
        intro W hSw
        obtain ⟨q0, q1, q2, q3, q4⟩ := hSw
        go_simp
        try with_reducible rfl
      try simp only [Act.put, List.setIfInBounds_toArray, List.set_cons_zero, List.set_cons_succ]
      refine wpAnyH_take (i := 16) (oi := ?oi_62) (v := ?_) ?hi_62 (by kernel_rfl) ?hf_62 (by kernel_rfl) ?hQ_62 ?hy_62 (by assumption) ?_
      case hi_62 => simp only [List.getElem?_toArray, List.getElem?_cons_zero, List.getElem?_cons_succ]; try rfl
      case hf_62 => kernel_rfl
      case hQ_62 => exact fun _ _ _ h => h
      case hy_62 =>
        refine Or.inl ⟨by rfl, ?_⟩
        intro W hSw
        obtain ⟨q0, q1, q2, q3, q4⟩ := hSw
        go_simp
        try with_reducible rfl
      try simp only [Act.put, List.setIfInBounds_toArray, List.set_cons_zero, List.set_cons_succ]
      refine wpAnyH_take (i := 17) (oi := ?oi_63) (v := ?_) ?hi_63 (by kernel_rfl) ?hf_63 (by kernel_rfl) ?hQ_63 ?hy_63 (by assumption) ?_
      case hi_63 => simp only [List.getElem?_toArray, List.getElem?_cons_zero, List.getElem?_cons_succ]; try rfl
      case hf_63 => kernel_rfl
      case hQ_63 => exact fun _ _ _ h => h
      case hy_63 =>
        refine Or.inl ⟨by rfl, ?_⟩
        intro W hSw
        obtain ⟨q0, q1, q2, q3, q4⟩ := hSw
        go_simp
        try with_reducible rfl
      try simp only [Act.put, List.setIfInBounds_toArray, List.set_cons_zero, List.set_cons_succ]
      refine wpAnyH_take (i := 18) (oi := ?oi_64) (v := ?_) ?hi_64 (by kernel_rfl) ?hf_64 (by kernel_rfl) ?hQ_64 ?hy_64 (by assumption) ?_
      case hi_64 => simp only [List.getElem?_toArray, List.getElem?_cons_zero, List.getElem?_cons_succ]; try rfl
      case hf_64 => kernel_rfl
      case hQ_64 => exact fun _ _ _ h => h
      case hy_64 =>
        refine Or.inl ⟨by rfl, ?_⟩
        intro W hSw
        obtain ⟨q0, q1, q2, q3, q4⟩ := hSw
        go_simp
        try with_reducible rfl
      try simp only [Act.put, List.setIfInBounds_toArray, List.set_cons_zero, List.set_cons_succ]
      refine wpAnyH_take (i := 19) (oi := ?oi_65) (v := undef) ?hi_65 (by kernel_rfl) ?hf_65 (by kernel_rfl) ?hQ_65 ?hy_65 (by assumption) ?_
      case hi_65 => simp only [List.getElem?_toArray, List.getElem?_cons_zero, List.getElem?_cons_succ]; try rfl
      case hf_65 => kernel_rfl
      case hQ_65 => exact fun _ _ _ h => h
      case hy_65 => exact Or.inr ⟨by rfl, rfl⟩
      try simp only [Act.put, List.setIfInBounds_toArray, List.set_cons_zero, List.set_cons_succ]
      refine wpAnyH_take (i := 20) (oi := ?oi_66) (v := undef) ?hi_66 (by kernel_rfl) ?hf_66 (by kernel_rfl) ?hQ_66 ?hy_66 (by assumption) ?_
      case hi_66 => simp only [List.getElem?_toArray, List.getElem?_cons_zero, List.getElem?_cons_succ]; try rfl
      case hf_66 => kernel_rfl
      case hQ_66 => exact fun _ _ _ h => h
      case hy_66 => exact Or.inr ⟨by rfl, rfl⟩
      try simp only [Act.put, List.setIfInBounds_toArray, List.set_cons_zero, List.set_cons_succ]
      refine wpAnyH_take (i := 21) (oi := ?oi_67) (v := undef) ?hi_67 (by kernel_rfl) ?hf_67 (by kernel_rfl) ?hQ_67 ?hy_67 (by assumption) ?_
      case hi_67 => simp only [List.getElem?_toArray, List.getElem?_cons_zero, List.getElem?_cons_succ]; try rfl
      case hf_67 => kernel_rfl
      case hQ_67 => exact fun _ _ _ h => h
      case hy_67 => exact Or.inr ⟨by rfl, rfl⟩
      try simp only [Act.put, List.setIfInBounds_toArray, List.set_cons_zero, List.set_cons_succ]
      refine wpAnyH_take (i := 22) (oi := ?oi_68) (v := ?_) ?hi_68 (by kernel_rfl) ?hf_68 (by kernel_rfl) ?hQ_68 ?hy_68 (by assumption) ?_
      case hi_68 => simp only [List.getElem?_toArray, List.getElem?_cons_zero, List.getElem?_cons_succ]; try rfl
      case hf_68 => kernel_rfl
      case hQ_68 => exact fun _ _ _ h => h
      case hy_68 =>
        refine Or.inl ⟨by rfl, ?_⟩
        intro W hSw
        obtain ⟨q0, q1, q2, q3, q4⟩ := hSw
        go_simp
        try with_reducible rfl
      try simp only [Act.put, List.setIfInBounds_toArray, List.set_cons_zero, List.set_cons_succ]
      refine wpAnyH_take (i := 23) (oi := ?oi_69) (v := ?_) ?hi_69 (by kernel_rfl) ?hf_69 (by kernel_rfl) ?hQ_69 ?hy_69 (by assumption) ?_
      case hi_69 => simp only [List.getElem?_toArray, List.getElem?_cons_zero, List.getElem?_cons_succ]; try rfl
      case hf_69 => kernel_rfl
      case hQ_69 => exact fun _ _ _ h => h
      case hy_69 =>
        refine Or.inl ⟨by rfl, ?_⟩
        intro W hSw
        obtain ⟨q0, q1, q2, q3, q4⟩ := hSw
        go_simp
        try with_reducible rfl
      try simp only [Act.put, List.setIfInBounds_toArray, List.set_cons_zero, List.set_cons_succ]
      refine wpAnyH_take (i := 24) (oi := ?oi_70) (v := ?_) ?hi_70 (by kernel_rfl) ?hf_70 (by kernel_rfl) ?hQ_70 ?hy_70 (by assumption) ?_
      case hi_70 => simp only [List.getElem?_toArray, List.getElem?_cons_zero, List.getElem?_cons_succ]; try rfl
      case hf_70 => kernel_rfl
      case hQ_70 => exact fun _ _ _ h => h
      case hy_70 =>
        refine Or.inl ⟨by rfl, ?_⟩
        intro W hSw
        obtain ⟨q0, q1, q2, q3, q4⟩ := hSw
        go_simp
        try with_reducible rfl
      try simp only [Act.put, List.setIfInBounds_toArray, List.set_cons_zero, List.set_cons_succ]
      refine wpAnyH_done (by kernel_rfl) ?_ _
      refine NoPanic.normal ?_
      clear hHeld
      go_wp2_with (go_at_call 64; (with_reducible refine (H64.out _).mono ?_); rintro e w9 ⟨rfl, rfl⟩)
      go_ret
      exact ⟨rfl, below_drew HB.out⟩
    | false =>
      rw [hwd] at x4 hr0
      rw [Bool.false_or] at hr0
      have H64 := Lib.hid (fun W => unless_any (decide (at_ < 4294967296)) 2 W)
      rw [← hr0] at H64
      clear hwd hr0
      go_enter Try.func83, Try.ntmps83
      go_upto_region 1 with fail
      rw [← HW.out]
      go_wp2_with fail
      refine wp_region_noPanic ?_
      refine wp_region_held_drew (S := (fun W => W.cell? ⟨w.heap.size, 0, none⟩ = some (.int .i64 (k : Int)) ∧ W.cell? ⟨w.heap.size, 1, none⟩ = some (.int .u64 at_) ∧ W.cell? ⟨p, 0, none⟩ = some (.pointer (some ⟨g, 0, none⟩)) ∧ W.cell? ⟨g, 4, none⟩ = some (.slice (some ⟨b4, off4, none⟩) n4 c4) ∧ W.cell? ⟨b4, off4 + k * 3 + 2, none⟩ = some (.bool false))) (by kernel_rfl) ⟨x0, x1, x2, x3, x4⟩ (fun hHeld => ?_)
      refine wpAnyH_take (i := 0) (oi := ?oi_71) (v := ?_) ?hi_71 (by kernel_rfl) ?hf_71 (by kernel_rfl) ?hQ_71 ?hy_71 (by assumption) ?_
      case hi_71 => simp only [List.getElem?_toArray, List.getElem?_cons_zero, List.getElem?_cons_succ]; try rfl
      case hf_71 => kernel_rfl
      case hQ_71 => exact fun _ _ _ h => h
      case hy_71 =>
        refine Or.inl ⟨by rfl, ?_⟩
        intro W hSw
        obtain ⟨q0, q1, q2, q3, q4⟩ := hSw
        go_simp
        try with_reducible rfl
      try simp only [Act.put, List.setIfInBounds_toArray, List.set_cons_zero, List.set_cons_succ]
      refine wpAnyH_take (i := 1) (oi := ?oi_72) (v := ?_) ?hi_72 (by kernel_rfl) ?hf_72 (by kernel_rfl) ?hQ_72 ?hy_72 (by assumption) ?_
      case hi_72 => simp only [List.getElem?_toArray, List.getElem?_cons_zero, List.getElem?_cons_succ]; try rfl
      case hf_72 => kernel_rfl
      case hQ_72 => exact fun _ _ _ h => h
      case hy_72 =>
        refine Or.inl ⟨by rfl, ?_⟩
        intro W hSw
        obtain ⟨q0, q1, q2, q3, q4⟩ := hSw
        go_simp
        try with_reducible rfl
      try simp only [Act.put, List.setIfInBounds_toArray, List.set_cons_zero, List.set_cons_succ]
      refine wpAnyH_take (i := 2) (oi := ?oi_73) (v := ?_) ?hi_73 (by kernel_rfl) ?hf_73 (by kernel_rfl) ?hQ_73 ?hy_73 (by assumption) ?_
      case hi_73 => simp only [List.getElem?_toArray, List.getElem?_cons_zero, List.getElem?_cons_succ]; try rfl
      case hf_73 => kernel_rfl
      case hQ_73 => exact fun _ _ _ h => h
      case hy_73 =>
        refine Or.inl ⟨by rfl, ?_⟩
        intro W hSw
        obtain ⟨q0, q1, q2, q3, q4⟩ := hSw
        go_simp
        try with_reducible rfl
      try simp only [Act.put, List.setIfInBounds_toArray, List.set_cons_zero, List.set_cons_succ]
      refine wpAnyH_take (i := 3) (oi := ?oi_74) (v := ?_) ?hi_74 (by kernel_rfl) ?hf_74 (by kernel_rfl) ?hQ_74 ?hy_74 (by assumption) ?_
      case hi_74 => simp only [List.getElem?_toArray, List.getElem?_cons_zero, List.getElem?_cons_succ]; try rfl
      case hf_74 => kernel_rfl
      case hQ_74 => exact fun _ _ _ h => h
      case hy_74 =>
        refine Or.inl ⟨by rfl, ?_⟩
        intro W hSw
        obtain ⟨q0, q1, q2, q3, q4⟩ := hSw
        go_simp
        try with_reducible rfl
      try simp only [Act.put, List.setIfInBounds_toArray, List.set_cons_zero, List.set_cons_succ]
      refine wpAnyH_take (i := 4) (oi := ?oi_75) (v := ?_) ?hi_75 (by kernel_rfl) ?hf_75 (by kernel_rfl) ?hQ_75 ?hy_75 (by assumption) ?_
      case hi_75 => simp only [List.getElem?_toArray, List.getElem?_cons_zero, List.getElem?_cons_succ]; try rfl
      case hf_75 => kernel_rfl
      case hQ_75 => exact fun _ _ _ h => h
      case hy_75 =>
        refine Or.inl ⟨by rfl, ?_⟩
        intro W hSw
        obtain ⟨q0, q1, q2, q3, q4⟩ := hSw
        go_simp
        try with_reducible rfl
      try simp only [Act.put, List.setIfInBounds_toArray, List.set_cons_zero, List.set_cons_succ]
      refine wpAnyH_take (i := 5) (oi := ?oi_76) (v := ?_) ?hi_76 (by kernel_rfl) ?hf_76 (by kernel_rfl) ?hQ_76 ?hy_76 (by assumption) ?_
      case hi_76 => simp only [List.getElem?_toArray, List.getElem?_cons_zero, List.getElem?_cons_succ]; try rfl
      case hf_76 => kernel_rfl
      case hQ_76 => exact fun _ _ _ h => h
      case hy_76 =>
        refine Or.inl ⟨by rfl, ?_⟩
        intro W hSw
        obtain ⟨q0, q1, q2, q3, q4⟩ := hSw
        go_simp
        try with_reducible rfl
      try simp only [Act.put, List.setIfInBounds_toArray, List.set_cons_zero, List.set_cons_succ]
      refine wpAnyH_take (i := 6) (oi := ?oi_77) (v := ?_) ?hi_77 (by kernel_rfl) ?hf_77 (by kernel_rfl) ?hQ_77 ?hy_77 (by assumption) ?_
      case hi_77 => simp only [List.getElem?_toArray, List.getElem?_cons_zero, List.getElem?_cons_succ]; try rfl
      case hf_77 => kernel_rfl
      case hQ_77 => exact fun _ _ _ h => h
      case hy_77 =>
        refine Or.inl ⟨by rfl, ?_⟩
        intro W hSw
        obtain ⟨q0, q1, q2, q3, q4⟩ := hSw
        go_simp
        try with_reducible rfl
      try simp only [Act.put, List.setIfInBounds_toArray, List.set_cons_zero, List.set_cons_succ]
      refine wpAnyH_ready (rs := [7]) (by kernel_rfl) (by simp) ?_
      refine AllReadyH.cons (o := ?oi_78) ?hi_78 (fun K hK => ?_) AllReadyH.nil
      case hi_78 => simp only [List.getElem?_toArray, List.getElem?_cons_zero, List.getElem?_cons_succ]; try rfl
      go_simp
      (go_at_call 27
       (with_reducible refine (H27.out _).mono ?_)
       rintro e w7 ⟨rfl, rfl⟩)
      refine hK.out _ _ ⟨x0, x1, x2, x3, x4⟩ (fun hHeld => ?_)
      clear hK K
      try simp only [Act.put, List.setIfInBounds_toArray, List.set_cons_zero, List.set_cons_succ]
      refine wpAnyH_take (i := 8) (oi := ?oi_79) (v := ?_) ?hi_79 (by kernel_rfl) ?hf_79 (by kernel_rfl) ?hQ_79 ?hy_79 (by assumption) ?_
      case hi_79 => simp only [List.getElem?_toArray, List.getElem?_cons_zero, List.getElem?_cons_succ]; try rfl
      case hf_79 => kernel_rfl
      case hQ_79 => exact fun _ _ _ h => h
      case hy_79 =>
        refine Or.inl ⟨by rfl, ?_⟩
        intro W hSw
        obtain ⟨q0, q1, q2, q3, q4⟩ := hSw
        go_simp
        try with_reducible rfl
      try simp only [Act.put, List.setIfInBounds_toArray, List.set_cons_zero, List.set_cons_succ]
      refine wpAnyH_take (i := 9) (oi := ?oi_80) (v := ?_) ?hi_80 (by kernel_rfl) ?hf_80 (by kernel_rfl) ?hQ_80 ?hy_80 (by assumption) ?_
      case hi_80 => simp only [List.getElem?_toArray, List.getElem?_cons_zero, List.getElem?_cons_succ]; try rfl
      case hf_80 => kernel_rfl
      case hQ_80 => exact fun _ _ _ h => h
      case hy_80 =>
        refine Or.inl ⟨by rfl, ?_⟩
        intro W hSw
        obtain ⟨q0, q1, q2, q3, q4⟩ := hSw
        go_simp
        try with_reducible rfl
      try simp only [Act.put, List.setIfInBounds_toArray, List.set_cons_zero, List.set_cons_succ]
      refine wpAnyH_take (i := 10) (oi := ?oi_81) (v := ?_) ?hi_81 (by kernel_rfl) ?hf_81 (by kernel_rfl) ?hQ_81 ?hy_81 (by assumption) ?_
      case hi_81 => simp only [List.getElem?_toArray, List.getElem?_cons_zero, List.getElem?_cons_succ]; try rfl
      case hf_81 => kernel_rfl
      case hQ_81 => exact fun _ _ _ h => h
      case hy_81 =>
        refine Or.inl ⟨by rfl, ?_⟩
        intro W hSw
        obtain ⟨q0, q1, q2, q3, q4⟩ := hSw
        go_simp
        try with_reducible rfl
      try simp only [Act.put, List.setIfInBounds_toArray, List.set_cons_zero, List.set_cons_succ]
      refine wpAnyH_take (i := 11) (oi := ?oi_82) (v := ?_) ?hi_82 (by kernel_rfl) ?hf_82 (by kernel_rfl) ?hQ_82 ?hy_82 (by assumption) ?_
      case hi_82 => simp only [List.getElem?_toArray, List.getElem?_cons_zero, List.getElem?_cons_succ]; try rfl
      case hf_82 => kernel_rfl
      case hQ_82 => exact fun _ _ _ h => h
      case hy_82 =>
        refine Or.inl ⟨by rfl, ?_⟩
        intro W hSw
        obtain ⟨q0, q1, q2, q3, q4⟩ := hSw
        go_simp
        try with_reducible rfl
      try simp only [Act.put, List.setIfInBounds_toArray, List.set_cons_zero, List.set_cons_succ]
      refine wpAnyH_take (i := 12) (oi := ?oi_83) (v := ?_) ?hi_83 (by kernel_rfl) ?hf_83 (by kernel_rfl) ?hQ_83 ?hy_83 (by assumption) ?_
      case hi_83 => simp only [List.getElem?_toArray, List.getElem?_cons_zero, List.getElem?_cons_succ]; try rfl
      case hf_83 => kernel_rfl
      case hQ_83 => exact fun _ _ _ h => h
      case hy_83 =>
        refine Or.inl ⟨by rfl, ?_⟩
        intro W hSw
        obtain ⟨q0, q1, q2, q3, q4⟩ := hSw
        go_simp
        try with_reducible rfl
      try simp only [Act.put, List.setIfInBounds_toArray, List.set_cons_zero, List.set_cons_succ]
      refine wpAnyH_take (i := 13) (oi := ?oi_84) (v := ?_) ?hi_84 (by kernel_rfl) ?hf_84 (by kernel_rfl) ?hQ_84 ?hy_84 (by assumption) ?_
      case hi_84 => simp only [List.getElem?_toArray, List.getElem?_cons_zero, List.getElem?_cons_succ]; try rfl
      case hf_84 => kernel_rfl
      case hQ_84 => exact fun _ _ _ h => h
      case hy_84 =>
        refine Or.inl ⟨by rfl, ?_⟩
        intro W hSw
        obtain ⟨q0, q1, q2, q3, q4⟩ := hSw
        go_simp
        try with_reducible rfl
      try simp only [Act.put, List.setIfInBounds_toArray, List.set_cons_zero, List.set_cons_succ]
      refine wpAnyH_take (i := 14) (oi := ?oi_85) (v := ?_) ?hi_85 (by kernel_rfl) ?hf_85 (by kernel_rfl) ?hQ_85 ?hy_85 (by assumption) ?_
      case hi_85 => simp only [List.getElem?_toArray, List.getElem?_cons_zero, List.getElem?_cons_succ]; try rfl
      case hf_85 => kernel_rfl
      case hQ_85 => exact fun _ _ _ h => h
      case hy_85 =>
        refine Or.inl ⟨by rfl, ?_⟩
        intro W hSw
        obtain ⟨q0, q1, q2, q3, q4⟩ := hSw
        go_simp
        try with_reducible rfl
      try simp only [Act.put, List.setIfInBounds_toArray, List.set_cons_zero, List.set_cons_succ]
      refine wpAnyH_take (i := 15) (oi := ?oi_86) (v := ?_) ?hi_86 (by kernel_rfl) ?hf_86 (by kernel_rfl) ?hQ_86 ?hy_86 (by assumption) ?_
      case hi_86 => simp only [List.getElem?_toArray, List.getElem?_cons_zero, List.getElem?_cons_succ]; try rfl
      case hf_86 => kernel_rfl
      case hQ_86 => exact fun _ _ _ h => h
      case hy_86 =>
        refine Or.inl ⟨by rfl, ?_⟩
        intro W hSw
        obtain ⟨q0, q1, q2, q3, q4⟩ := hSw
        go_simp
        try with_reducible rfl
      try simp only [Act.put, List.setIfInBounds_toArray, List.set_cons_zero, List.set_cons_succ]
      refine wpAnyH_take (i := 16) (oi := ?oi_87) (v := ?_) ?hi_87 (by kernel_rfl) ?hf_87 (by kernel_rfl) ?hQ_87 ?hy_87 (by assumption) ?_
      case hi_87 => simp only [List.getElem?_toArray, List.getElem?_cons_zero, List.getElem?_cons_succ]; try rfl
      case hf_87 => kernel_rfl
      case hQ_87 => exact fun _ _ _ h => h
      case hy_87 =>
        refine Or.inl ⟨by rfl, ?_⟩
        intro W hSw
        obtain ⟨q0, q1, q2, q3, q4⟩ := hSw
        go_simp
        try with_reducible rfl
      try simp only [Act.put, List.setIfInBounds_toArray, List.set_cons_zero, List.set_cons_succ]
      refine wpAnyH_take (i := 17) (oi := ?oi_88) (v := ?_) ?hi_88 (by kernel_rfl) ?hf_88 (by kernel_rfl) ?hQ_88 ?hy_88 (by assumption) ?_
      case hi_88 => simp only [List.getElem?_toArray, List.getElem?_cons_zero, List.getElem?_cons_succ]; try rfl
      case hf_88 => kernel_rfl
      case hQ_88 => exact fun _ _ _ h => h
      case hy_88 =>
        refine Or.inl ⟨by rfl, ?_⟩
        intro W hSw
        obtain ⟨q0, q1, q2, q3, q4⟩ := hSw
        go_simp
        try with_reducible rfl
      try simp only [Act.put, List.setIfInBounds_toArray, List.set_cons_zero, List.set_cons_succ]
      refine wpAnyH_take (i := 18) (oi := ?oi_89) (v := ?_) ?hi_89 (by kernel_rfl) ?hf_89 (by kernel_rfl) ?hQ_89 ?hy_89 (by assumption) ?_
      case hi_89 => simp only [List.getElem?_toArray, List.getElem?_cons_zero, List.getElem?_cons_succ]; try rfl
      case hf_89 => kernel_rfl
      case hQ_89 => exact fun _ _ _ h => h
      case hy_89 =>
        refine Or.inl ⟨by rfl, ?_⟩
        intro W hSw
        obtain ⟨q0, q1, q2, q3, q4⟩ := hSw
        go_simp
        try with_reducible rfl
      try simp only [Act.put, List.setIfInBounds_toArray, List.set_cons_zero, List.set_cons_succ]
      refine wpAnyH_take (i := 19) (oi := ?oi_90) (v := ?_) ?hi_90 (by kernel_rfl) ?hf_90 (by kernel_rfl) ?hQ_90 ?hy_90 (by assumption) ?_
      case hi_90 => simp only [List.getElem?_toArray, List.getElem?_cons_zero, List.getElem?_cons_succ]; try rfl
      case hf_90 => kernel_rfl
      case hQ_90 => exact fun _ _ _ h => h
      case hy_90 =>
        refine Or.inl ⟨by rfl, ?_⟩
        intro W hSw
        obtain ⟨q0, q1, q2, q3, q4⟩ := hSw
        go_simp
        try with_reducible rfl
      try simp only [Act.put, List.setIfInBounds_toArray, List.set_cons_zero, List.set_cons_succ]
      refine wpAnyH_take (i := 20) (oi := ?oi_91) (v := ?_) ?hi_91 (by kernel_rfl) ?hf_91 (by kernel_rfl) ?hQ_91 ?hy_91 (by assumption) ?_
      case hi_91 => simp only [List.getElem?_toArray, List.getElem?_cons_zero, List.getElem?_cons_succ]; try rfl
      case hf_91 => kernel_rfl
      case hQ_91 => exact fun _ _ _ h => h
      case hy_91 =>
        refine Or.inl ⟨by rfl, ?_⟩
        intro W hSw
        obtain ⟨q0, q1, q2, q3, q4⟩ := hSw
        go_simp
        try with_reducible rfl
      try simp only [Act.put, List.setIfInBounds_toArray, List.set_cons_zero, List.set_cons_succ]
      refine wpAnyH_take (i := 21) (oi := ?oi_92) (v := ?_) ?hi_92 (by kernel_rfl) ?hf_92 (by kernel_rfl) ?hQ_92 ?hy_92 (by assumption) ?_
      case hi_92 => simp only [List.getElem?_toArray, List.getElem?_cons_zero, List.getElem?_cons_succ]; try rfl
      case hf_92 => kernel_rfl
      case hQ_92 => exact fun _ _ _ h => h
      case hy_92 =>
        refine Or.inl ⟨by rfl, ?_⟩
        intro W hSw
        obtain ⟨q0, q1, q2, q3, q4⟩ := hSw
        go_simp
        try with_reducible rfl
      try simp only [Act.put, List.setIfInBounds_toArray, List.set_cons_zero, List.set_cons_succ]
      refine wpAnyH_take (i := 22) (oi := ?oi_93) (v := ?_) ?hi_93 (by kernel_rfl) ?hf_93 (by kernel_rfl) ?hQ_93 ?hy_93 (by assumption) ?_
      case hi_93 => simp only [List.getElem?_toArray, List.getElem?_cons_zero, List.getElem?_cons_succ]; try rfl
      case hf_93 => kernel_rfl
      case hQ_93 => exact fun _ _ _ h => h
      case hy_93 =>
        refine Or.inl ⟨by rfl, ?_⟩
        intro W hSw
        obtain ⟨q0, q1, q2, q3, q4⟩ := hSw
        go_simp
        try with_reducible rfl
      try simp only [Act.put, List.setIfInBounds_toArray, List.set_cons_zero, List.set_cons_succ]
      refine wpAnyH_take (i := 23) (oi := ?oi_94) (v := ?_) ?hi_94 (by kernel_rfl) ?hf_94 (by kernel_rfl) ?hQ_94 ?hy_94 (by assumption) ?_
      case hi_94 => simp only [List.getElem?_toArray, List.getElem?_cons_zero, List.getElem?_cons_succ]; try rfl
      case hf_94 => kernel_rfl
      case hQ_94 => exact fun _ _ _ h => h
      case hy_94 =>
        refine Or.inl ⟨by rfl, ?_⟩
        intro W hSw
        obtain ⟨q0, q1, q2, q3, q4⟩ := hSw
        go_simp
        try with_reducible rfl
      try simp only [Act.put, List.setIfInBounds_toArray, List.set_cons_zero, List.set_cons_succ]
      refine wpAnyH_take (i := 24) (oi := ?oi_95) (v := ?_) ?hi_95 (by kernel_rfl) ?hf_95 (by kernel_rfl) ?hQ_95 ?hy_95 (by assumption) ?_
      case hi_95 => simp only [List.getElem?_toArray, List.getElem?_cons_zero, List.getElem?_cons_succ]; try rfl
      case hf_95 => kernel_rfl
      case hQ_95 => exact fun _ _ _ h => h
      case hy_95 =>
        refine Or.inl ⟨by rfl, ?_⟩
        intro W hSw
        obtain ⟨q0, q1, q2, q3, q4⟩ := hSw
        go_simp
        try with_reducible rfl
      try simp only [Act.put, List.setIfInBounds_toArray, List.set_cons_zero, List.set_cons_succ]
      refine wpAnyH_done (by kernel_rfl) ?_ _
      refine NoPanic.normal ?_
      clear hHeld
      go_wp2_with (go_at_call 64; (with_reducible refine (H64.out _).mono ?_); rintro e w9 ⟨rfl, rfl⟩)
      go_ret
      exact ⟨rfl, below_drew HB.out⟩
end Go.Proofs.Ytackompihengfaa
