/-
  The document's own Print and Parse.
-/
import Derived.Test.YtmbnaejoiglckaaDoorKf
import Derived.Test.YtmbnaejoiglckaaDoorKg
namespace Go.Proofs.YtmbnaejoiglckaaDoor
open Go.RowKit Go.ChangeShapes Go.WideShapes Go.ChangeAt
set_option linter.unusedVariables false
set_option linter.unusedSimpArgs false
theorem bt_top32 (a : Nat) : bt a 31 = decide (2147483648 ≤ a % 4294967296) := by
  unfold bt
  rw [decide_eq_decide]; omega
theorem bt_top64 (a : Nat) (h : a < 18446744073709551616) : bt a 63 = decide (9223372036854775808 ≤ a % 18446744073709551616) := by
  unfold bt
  rw [decide_eq_decide]; omega
set_option maxHeartbeats 4000000 in
set_option maxRecDepth 100000 in
theorem RPrint_32 (a : Nat) (ha : a < 18446744073709551616) (w : World) :
    Calls Tryd.prog 29 #[.int .i64 32, .int .u64 a] w fun e w' => e = .returned (.string (bs (Lib.itoa (Wd.sgn 32 a)))) ∧ Below w.heap.size w w' := by
  have L : Hid (∀ W : World, Calls Tryd.prog 38 #[.int .i64 32, .int .u64 a] W (LPost W.heap.size 32 (bt a) W)) := Lib.hid (fun W => List_any 32 a W (by decide) (by decide) ha)
  have hs : Wd.sgn 32 a = if a % 4294967296 < 2147483648 then ((a % 4294967296 : Nat) : Int) else -((4294967296 - a % 4294967296 : Nat) : Int) := by
    simp only [Wd.sgn, if_true]
    
    split <;> omega
  have ht := bt_top32 a
  have HV : Hid (vl (bt a) 0 32 = a % 4294967296) := Lib.hid (by rw [vl_bt, Nat.pow_zero, Nat.div_one])
  have hV : a % 4294967296 < 4294967296 := Nat.mod_lt _ (by decide)
  have WD : Hid (∀ (W : World) (g cp : Nat), 32 ≤ cp → cp ≤ 9223372036854775807 → Bo W g 32 (bt a) → Calls Tryd.prog 43 #[.slice (some ⟨g, 0, none⟩) 32 cp] W fun e w' => e = .returned (.int .u64 ((a % 4294967296 : Nat) : Int)) ∧ W = w') := Lib.hid (fun W g cp h1 h2 h3 => by
    have := Word_any g cp 32 (bt a) W (by decide) h1 h2 h3
    rw [HV.out] at this
    exact this)
  have HT := Lib.hid ht
  rw [hs]
  clear hs ht HV
  
  generalize a % 4294967296 = V at hV WD HT ⊢
  by_cases q : V < 2147483648
  · have HTF : Hid (bt a 31 = false) := Lib.hid (by rw [HT.out]; simp; omega)
    have D := Lib.hid (fun W : World => Digits10 V (by omega) W)
    rw [if_pos q, Lib.itoa_nonneg]
    generalize bs (Lib.decDigits V) = X at D ⊢
    clear HT ha
    go_enter Tryd.func29, Tryd.ntmps29
    go_wp2_with (first
      | (go_at_call 38; with_reducible refine (L.out _).mono ?_; rintro e w1 hL; unfold LPost at hL; obtain ⟨g1, c1, rfl, n1, m1, b1, k1, h1⟩ := hL; have B1 := Lib.hid b1; have H1 := Lib.hid h1; have q1 : w1.cell? ⟨g1, 31, none⟩ = some (.bool false) := (b1.at_ (by decide)).trans (by rw [HTF.out]); clear b1 k1 h1)
      | (go_at_call 43; with_reducible refine (WD.out _ _ _ n1 m1 B1.out).mono ?_; rintro e w2 ⟨rfl, rfl⟩)
      | (go_at_call 30; with_reducible refine (D.out _).mono ?_; rintro e w3 ⟨rfl, hb⟩; have H3 := Lib.hid (H1.out.trans (hb.mono H1.out.size)); clear hb))
    go_ret
    exact ⟨rfl, H3.out⟩
  · have HTF : Hid (bt a 31 = true) := Lib.hid (by rw [HT.out]; simp; omega)
    have D0 := fun W : World => Digits10 (4294967296 - V) (by omega) W
    have hl := dec_len 19 (4294967296 - V) (by omega)
    rw [if_neg q, Lib.itoa_neg _ (by omega)]
    have f : Op.stringOp .add ⟨#[45]⟩ (bs (Lib.decDigits (4294967296 - V))) = pure (.string (bs (45 :: Lib.decDigits (4294967296 - V)))) := cat_bs [45] _ (by simp; omega)
    have e1 : ((4294967296 - V : Nat) : Int) = 4294967296 - (V : Int) := by omega
    generalize bs (45 :: Lib.decDigits (4294967296 - V)) = X2 at f ⊢
    generalize bs (Lib.decDigits (4294967296 - V)) = X at D0 f
    have D := Lib.hid D0
    rw [e1] at D
    clear HT ha hl e1 D0
    go_enter Tryd.func29, Tryd.ntmps29
    go_wp2_with (first
      | (go_at_call 38; with_reducible refine (L.out _).mono ?_; rintro e w1 hL; unfold LPost at hL; obtain ⟨g1, c1, rfl, n1, m1, b1, k1, h1⟩ := hL; have B1 := Lib.hid b1; have H1 := Lib.hid h1; have q1 : w1.cell? ⟨g1, 31, none⟩ = some (.bool true) := (b1.at_ (by decide)).trans (by rw [HTF.out]); clear b1 k1 h1)
      | (go_at_call 43; with_reducible refine (WD.out _ _ _ n1 m1 B1.out).mono ?_; rintro e w2 ⟨rfl, rfl⟩)
      | (go_at_call 30; with_reducible refine (D.out _).mono ?_; rintro e w3 ⟨rfl, hb⟩; have H3 := Lib.hid (H1.out.trans (hb.mono H1.out.size)); clear hb))
    go_ret
    exact ⟨rfl, H3.out⟩
set_option maxHeartbeats 4000000 in
set_option maxRecDepth 100000 in
theorem RPrint_64 (n : Int) (hn : n ≠ 32) (a : Nat) (ha : a < 18446744073709551616) (w : World) :
    Calls Tryd.prog 29 #[.int .i64 n, .int .u64 a] w fun e w' => e = .returned (.string (bs (Lib.itoa (Wd.sgn n a)))) ∧ Below w.heap.size w w' := by
  have L : Hid (∀ W : World, Calls Tryd.prog 38 #[.int .i64 64, .int .u64 a] W (LPost W.heap.size 64 (bt a) W)) := Lib.hid (fun W => List_any 64 a W (by decide) (by decide) ha)
  have hs : Wd.sgn n a = if a % 18446744073709551616 < 9223372036854775808 then ((a % 18446744073709551616 : Nat) : Int) else -((18446744073709551616 - a % 18446744073709551616 : Nat) : Int) := by
    simp only [Wd.sgn, if_neg hn]
    rw [Nat.mod_eq_of_lt ha]
    split <;> omega
  have ht := bt_top64 a ha
  have HV : Hid (vl (bt a) 0 64 = a % 18446744073709551616) := Lib.hid (by rw [vl_bt, Nat.pow_zero, Nat.div_one])
  have hV : a % 18446744073709551616 < 18446744073709551616 := Nat.mod_lt _ (by decide)
  have WD : Hid (∀ (W : World) (g cp : Nat), 64 ≤ cp → cp ≤ 9223372036854775807 → Bo W g 64 (bt a) → Calls Tryd.prog 43 #[.slice (some ⟨g, 0, none⟩) 64 cp] W fun e w' => e = .returned (.int .u64 ((a % 18446744073709551616 : Nat) : Int)) ∧ W = w') := Lib.hid (fun W g cp h1 h2 h3 => by
    have := Word_any g cp 64 (bt a) W (by decide) h1 h2 h3
    rw [HV.out] at this
    exact this)
  have HT := Lib.hid ht
  rw [hs]
  clear hs ht HV
  have hn2 : (n == 32) = false := by simp [hn]
  generalize a % 18446744073709551616 = V at hV WD HT ⊢
  by_cases q : V < 9223372036854775808
  · have HTF : Hid (bt a 63 = false) := Lib.hid (by rw [HT.out]; simp; omega)
    have D := Lib.hid (fun W : World => Digits10 V (by omega) W)
    rw [if_pos q, Lib.itoa_nonneg]
    generalize bs (Lib.decDigits V) = X at D ⊢
    clear HT ha
    go_enter Tryd.func29, Tryd.ntmps29
    go_wp2_with (first
      | (go_at_call 38; with_reducible refine (L.out _).mono ?_; rintro e w1 hL; unfold LPost at hL; obtain ⟨g1, c1, rfl, n1, m1, b1, k1, h1⟩ := hL; have B1 := Lib.hid b1; have H1 := Lib.hid h1; have q1 : w1.cell? ⟨g1, 63, none⟩ = some (.bool false) := (b1.at_ (by decide)).trans (by rw [HTF.out]); clear b1 k1 h1)
      | (go_at_call 43; with_reducible refine (WD.out _ _ _ n1 m1 B1.out).mono ?_; rintro e w2 ⟨rfl, rfl⟩)
      | (go_at_call 30; with_reducible refine (D.out _).mono ?_; rintro e w3 ⟨rfl, hb⟩; have H3 := Lib.hid (H1.out.trans (hb.mono H1.out.size)); clear hb))
    go_ret
    exact ⟨rfl, H3.out⟩
  · have HTF : Hid (bt a 63 = true) := Lib.hid (by rw [HT.out]; simp; omega)
    have D0 := fun W : World => Digits10 (18446744073709551616 - V) (by omega) W
    have hl := dec_len 19 (18446744073709551616 - V) (by omega)
    rw [if_neg q, Lib.itoa_neg _ (by omega)]
    have f : Op.stringOp .add ⟨#[45]⟩ (bs (Lib.decDigits (18446744073709551616 - V))) = pure (.string (bs (45 :: Lib.decDigits (18446744073709551616 - V)))) := cat_bs [45] _ (by simp; omega)
    have e1 : ((18446744073709551616 - V : Nat) : Int) = 18446744073709551615 - (V : Int) + 1 := by omega
    generalize bs (45 :: Lib.decDigits (18446744073709551616 - V)) = X2 at f ⊢
    generalize bs (Lib.decDigits (18446744073709551616 - V)) = X at D0 f
    have D := Lib.hid D0
    rw [e1] at D
    clear HT ha hl e1 D0
    go_enter Tryd.func29, Tryd.ntmps29
    go_wp2_with (first
      | (go_at_call 38; with_reducible refine (L.out _).mono ?_; rintro e w1 hL; unfold LPost at hL; obtain ⟨g1, c1, rfl, n1, m1, b1, k1, h1⟩ := hL; have B1 := Lib.hid b1; have H1 := Lib.hid h1; have q1 : w1.cell? ⟨g1, 63, none⟩ = some (.bool true) := (b1.at_ (by decide)).trans (by rw [HTF.out]); clear b1 k1 h1)
      | (go_at_call 43; with_reducible refine (WD.out _ _ _ n1 m1 B1.out).mono ?_; rintro e w2 ⟨rfl, rfl⟩)
      | (go_at_call 30; with_reducible refine (D.out _).mono ?_; rintro e w3 ⟨rfl, hb⟩; have H3 := Lib.hid (H1.out.trans (hb.mono H1.out.size)); clear hb))
    go_ret
    exact ⟨rfl, H3.out⟩
theorem RPrint_ok (n : Int) (a : Nat) (ha : a < 18446744073709551616) (w : World) :
    Calls Tryd.prog 29 #[.int .i64 n, .int .u64 a] w fun e w' => e = .returned (.string (bs (Lib.itoa (Wd.sgn n a)))) ∧ Below w.heap.size w w' := by
  by_cases h : n = 32
  · subst h; exact RPrint_32 a ha w
  · exact RPrint_64 n h a ha w
/-- the document's reading of a word -/
def dz (M : Nat) (s : List UInt8) : Option Nat := match s with
  | 48 :: 120 :: t => rdB 16 M t
  | 45 :: t => match rdB 10 (M / 2 + 1) t with
    | some v => if v = 0 then none else some (M - v + 1)
    | none => none
  | s => rdB 10 M s
theorem dz_hex (M : Nat) (t : List UInt8) : dz M (48 :: 120 :: t) = rdB 16 M t := rfl
theorem dz_neg (M : Nat) (t : List UInt8) : dz M (45 :: t) = match rdB 10 (M / 2 + 1) t with
    | some v => if v = 0 then none else some (M - v + 1)
    | none => none := rfl
theorem dz_else (M : Nat) (s : List UInt8) (h1 : ∀ t, s ≠ 48 :: 120 :: t) (h2 : ∀ t, s ≠ 45 :: t) : dz M s = rdB 10 M s := by
  unfold dz
  split
  · exact absurd rfl (h1 _)
  · exact absurd rfl (h2 _)
  · rfl
end Go.Proofs.YtmbnaejoiglckaaDoor
