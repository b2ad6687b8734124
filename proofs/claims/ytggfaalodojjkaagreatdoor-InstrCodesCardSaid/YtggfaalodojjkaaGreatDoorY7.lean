/-
  Texts of YtggfaalodojjkaaGreatDoorY7.
-/
import Derived.Test.YtggfaalodojjkaaGreatDoorY6
import Derived.BigGuard
import Derived.Test.YtggfaalodojjkaaGreatDoorQLj
import Derived.Deep.RegionHeld3
import Derived.ProofKit
namespace Go.Proofs.YtggfaalodojjkaaGreatDoor
open Go.RowKit
set_option linter.unusedVariables false
set_option linter.unusedSimpArgs false
/-- op of an instruction that may be -/
theorem op_right (x : In) (r : Rw) (hr : rightI x r) (A : Option Addr) (c : Nat) (w : World) (hT : Tb w) (hcd : (Lit.int .i64 x.cd).wf = true) (hl : Sl w A x.l.length c x.l) (hn : x.l.length ≤ 200000) :
    Calls Tryz.prog 29 #[.agg (I5 x (.slice A x.l.length c)).toArray] w fun e w' => ∃ At ct Ag cg, r.takes.length ≤ ct ∧ ct ≤ 9223372036854775807 ∧ r.gives.length ≤ cg ∧ cg ≤ 9223372036854775807 ∧ e = .returned (.tuple #[.agg (infV r (x.cd - r.first).toNat At ct Ag cg), .bool true]) ∧ Below w.heap.size w w' := by
  refine (op_ok x A c w hT hcd hl hn).mono ?_
  rintro e w' ⟨hb, h⟩
  rcases h with ⟨_, h⟩ | ⟨r', At, ct, Ag, cg, hr', rfl, hI⟩
  · exact absurd hr (h r)
  · obtain ⟨k, h1, _⟩ := hr
    obtain ⟨k', h1', _⟩ := hr'
    obtain ⟨rfl, rfl⟩ := RowOf.uniq h1 h1'
    obtain ⟨q1, q2, q3, q4⟩ := hI.len
    exact ⟨At, ct, Ag, cg, q1, q2, q3, q4, rfl, hb⟩
/-- the op of a row's name -/
theorem named_row (r : Rw) (i : Nat) (hr : r ∈ RW) (hi : i < (Lib.fields r.names).length) (w : World) (hT : Tb w) : Calls Tryz.prog 48 #[.string (nmS r i)] w (IPost r i w) := by
  refine (Named_any (nmS r i) w hT).mono ?_
  intro e w' h
  have ho : OpAt ((r.first : Int) + (i : Int)) r i := ⟨mem_OPS.2 ⟨hr, hi⟩, rfl⟩
  rcases h with ⟨k', r', i', h1, h2, h3, h4⟩ | ⟨h, _⟩
  · have ho' : OpAt ((r'.first : Int) + (i' : Int)) r' i' := ⟨mem_OPS.2 ⟨List.mem_of_getElem? h1, h2⟩, rfl⟩
    have e1 := (names_apart ho' ho).1 h3
    obtain ⟨k1, hk1⟩ := RowOf.of_op ho
    obtain ⟨k2, hk2⟩ := RowOf.of_op ho'
    rw [e1] at hk2
    obtain ⟨_, rfl⟩ := RowOf.uniq hk1 hk2
    have : i' = i := by omega
    subst this
    exact h4
  · obtain ⟨k, hk⟩ := List.mem_iff_getElem?.1 hr
    exact absurd rfl (h k r i hk hi)
def x40 : In := ⟨40, 1, 8, 2, []⟩
end Go.Proofs.YtggfaalodojjkaaGreatDoor
namespace Go.Proofs.YtggfaalodojjkaaGreatDoor
open Go.RowKit
set_option linter.unusedVariables false
set_option linter.unusedSimpArgs false
def nl40 : List UInt8 := [105, 51, 50, 46, 108, 111, 97, 100]
def ws40 : List (List UInt8) := [[49], [56], [50]]
theorem mem12 : rw12 ∈ RW := by simp [RW]
theorem len12 : (Lib.fields rw12.names).length = 1 := by kernel_rfl
theorem nm12 : nmS rw12 0 = bs nl40 := by kernel_rfl
theorem right40 : rightI x40 rw12 := by
  obtain ⟨k, hk⟩ := RowOf.of_op (code := 40) (r := rw12) (i := 0) ⟨mem_OPS.2 ⟨mem12, by rw [len12]; decide⟩, rfl⟩
  exact ⟨k, hk, by rw [len12]; decide, by kernel_rfl⟩
theorem join40 : Lib.join (nl40 :: ws40) [32] = [105, 51, 50, 46, 108, 111, 97, 100, 32, 49, 32, 56, 32, 50] := by kernel_rfl
theorem tn40 : [1, 8, 2].map tn = ws40 := by
  simp [tn, ws40, Lib.decDigits]
theorem op40 (A : Option Addr) (c : Nat) (w : World) (hT : Tb w) (hl : Sl w A 0 c []) :
    Calls Tryz.prog 29 #[.agg #[.int .i64 40, .int .u64 1, .int .u64 8, .int .i64 2, .slice A 0 c]] w fun e w' => ∃ At ct Ag cg, 1 ≤ ct ∧ ct ≤ 9223372036854775807 ∧ 1 ≤ cg ∧ cg ≤ 9223372036854775807 ∧ e = .returned (.tuple #[.agg #[.int .i64 40, .string (bs nl40), .int .i64 8, .slice At 1 ct, .slice Ag 1 cg], .bool true]) ∧ Below w.heap.size w w' := by
  have h := op_right x40 rw12 right40 A c w hT (by decide) hl (by decide)
  have e0 : (x40.cd - (rw12.first : Int)).toNat = 0 := by decide
  unfold infV at h
  rw [e0, nm12] at h
  exact h
theorem enc40 (w : World) (hT : Tb w) : Calls Tryz.prog 10 #[.agg #[.int .i64 40, .int .u64 1, .int .u64 8, .int .i64 2, .slice none 0 0]] w (EnP [40, 66, 1, 8] w) := by
  have hs := hT.size
  have h := enc_walk 40 1 8 2 none 0 0 (Nat.le_refl _) (by omega) w 40 8 (bs nl40) 1 1 (by decide) [40] [66, 1, 8] (by decide) (by decide) (by decide)
    (Lib.hid fun W hW => op40 none 0 W (hT.below hW hs) ⟨rfl, Nat.le_refl _, by unfold maxLen; omega, fun h => by omega⟩)
    (Lib.hid fun W => by have := head_ok 40 (by decide) (by decide) W; rwa [show headL 40 = [40] from by decide] at this)
    (Lib.hid fun W => numbers_8 40 1 8 2 none 0 0 W (by decide) (by decide) (by decide))
  rwa [show [40] ++ putL [66, 1, 8] = [40, 66, 1, 8] from by kernel_rfl] at h
theorem print40 (A : Option Addr) (n c : Nat) (w : World) (hL : Lw w) (hl : Sl w A n c []) :
    Calls Tryz.prog 14 #[.agg #[.int .i64 40, .int .u64 1, .int .u64 8, .int .i64 2, .slice A n c]] w fun e w' => e = .returned (.string (bs (Lib.join (nl40 :: ws40) [32]))) ∧ Below w.heap.size w w' := by
  obtain rfl : 0 = n := hl.1
  have hs := hL.tb.1.size
  have hcm := hl.2.2.1
  unfold maxLen at hcm
  refine print_walk 40 1 8 2 A 0 c hl.2.1 (by omega) w 40 8 nl40 1 1 ws40 (by decide) (by rw [join40]; decide)
    (Lib.hid fun W hW => op40 A c W (hL.below hW).tb.1 (hl.below hW))
    (Lib.hid fun At ct Ag cg W hW => by
      have := words_8 40 1 8 2 A 0 c 40 (bs nl40) At Ag 1 ct 1 cg W (hL.below hW) (by decide) (by decide) (by decide)
      rwa [tn40] at this)
theorem parse40 (w : World) (hL : Lw w) :
    Calls Tryz.prog 25 #[.string ⟨#[105, 51, 50, 46, 108, 111, 97, 100, 32, 49, 32, 56, 32, 50]⟩] w fun e w' => ∃ Al ln lc, e = .returned (.tuple #[.agg #[.int .i64 40, .int .u64 1, .int .u64 8, .int .i64 2, .slice Al ln lc], .int .i64 0]) ∧ Sl w' Al ln lc [] ∧ Below w.heap.size w w' := by
  have h := parse_walk nl40 ws40 (by decide) (by rw [join40]; decide) (by decide) w hL 40 8 (bs nl40) 1 1 40 1 8 2 []
    (Lib.hid fun V hV => by
      have := named_row rw12 0 mem12 (by rw [len12]; decide) V (hL.below hV).tb.1
      rw [nm12] at this
      refine this.mono ?_
      rintro e w' ⟨At, ct, Ag, cg, rfl, h1, h2, h3⟩
      have hI : InfAt w' V.heap.size rw12 0 At ct Ag cg := ⟨h1, h2⟩
      obtain ⟨q1, q2, q3, q4⟩ := hI.len
      refine ⟨At, ct, Ag, cg, q1, q2, q3, q4, ?_, h3⟩
      rw [nm12]
      rfl)
    (Lib.hid fun At ct Ag cg h1 h2 h3 h4 A V hV hS => by
      have := guess_8 40 (bs nl40) At Ag 1 ct 1 cg h1 h2 h3 h4 A 3 3 ws40 (pzf 64 18446744073709551615) V hS (fun k hk U hU => Parse_64 _ (by
        have : k = 0 ∨ k = 1 ∨ k = 2 := by omega
        rcases this with rfl | rfl | rfl <;> decide) U (hL.below (hV.trans (hU.mono hV.size))))
      have e0 : nvl (pzf 64 18446744073709551615) ws40 0 = 1 := by kernel_rfl
      have e1 : nvl (pzf 64 18446744073709551615) ws40 1 = 8 := by kernel_rfl
      have e2 : nvl (pzf 64 18446744073709551615) ws40 2 = 2 := by kernel_rfl
      have w2 : wrap64 ((2 : Nat) : Int) = 2 := by kernel_rfl
      rw [e0, e1, e2, w2] at this
      exact this)
    (Lib.hid fun A n c V hV hS => print40 A n c V (hL.below hV) hS)
  rw [join40] at h
  exact h
end Go.Proofs.YtggfaalodojjkaaGreatDoor
namespace Go.Proofs.YtggfaalodojjkaaGreatDoor
open Go.RowKit
set_option linter.unusedVariables false
set_option linter.unusedSimpArgs false
set_option maxHeartbeats 4000000 in
set_option maxRecDepth 100000 in
theorem awake_any (w : World) (hL : Lw w) : Calls Tryz.prog 8 #[] w fun e w' => e = .returned (.bool true) ∧ Below w.heap.size w w' := by
  have H10 := Lib.hid (enc40 w hL.tb.1)
  have H25 := Lib.hid (fun W (hW : Below w.heap.size w W) => parse40 W (hL.below hW))
  have HQ := Lib.hid (show (str [40, 66, 1, 8]).toList = [40, 66, 1, 8] by rw [str_toList]; rfl)
  clear hL
  go_enter Tryz.func8, Tryz.ntmps8
  go_upto_region 2 with (go_at_call 10; (with_reducible refine H10.out.mono ?_); rintro e w1 ⟨A, n, c, rfl, hy, hn, hb1⟩
                         have HY := Lib.hid hy
                         have H1 := Lib.hid hb1
                         have HP := Lib.hid (H25.out w1 hb1)
                         clear hy hn hb1)
  go_upto_region 3 with (go_at_call 25; (with_reducible refine HP.out.mono ?_); rintro e w2 ⟨Al, ln, lc, rfl, hsl, hb2⟩
                         have H2 := Lib.hid hb2
                         have HSL := Lib.hid hsl
                         clear hb2 hsl)
  obtain ⟨W3, hW3⟩ : ∃ V, V = w2.alloc (.cells #[.int .i64 40, .int .u64 1, .int .u64 8, .int .i64 2, .slice Al ln lc] 30) := ⟨_, rfl⟩
  obtain ⟨b3, hb3⟩ : ∃ x, x = w2.heap.size := ⟨_, rfl⟩
  have h23 : Below w2.heap.size w2 W3 := by rw [hW3]; exact (Below.refl _ _).alloc (Nat.le_refl _) _
  have hI : Blk W3 b3 30 #[.int .i64 40, .int .u64 1, .int .u64 8, .int .i64 2, .slice Al ln lc] := by rw [hW3, hb3]; exact Blk.new w2 30 _
  rw [← hb3, ← hW3]
  have H13 : Hid (Below w1.heap.size w1 W3) := Lib.hid (H2.out.trans (h23.mono H2.out.size))
  have H3 := Lib.hid (H1.out.trans (H13.out.mono H1.out.size))
  have hcv := conv_byt (HY.out.kept H13.out)
  have x0 : W3.cell? ⟨b3, 0, none⟩ = some (.int .i64 40) := hI.cell 0
  have x2 : W3.cell? ⟨b3, 2, none⟩ = some (.int .u64 8) := hI.cell 2
  have hq := HQ.out
  generalize str [40, 66, 1, 8] = S at hcv hq
  clear h23 hI hW3 hb3
  go_wp2
  go_ret
  exact ⟨rfl, H3.out⟩
end Go.Proofs.YtggfaalodojjkaaGreatDoor
namespace Go.Proofs.YtggfaalodojjkaaGreatDoor
open Go.RowKit
set_option linter.unusedVariables false
set_option linter.unusedSimpArgs false
set_option maxHeartbeats 4000000 in
set_option maxRecDepth 100000 in
theorem enc_no (cd a b al : Int) (A : Option Addr) (n c : Nat) (hnc : n ≤ c) (hcm : c ≤ 9223372036854775807) (w : World)
    (HO : Hid (∀ W, Below w.heap.size w W → Calls Tryz.prog 29 #[.agg #[.int .i64 cd, .int .u64 a, .int .u64 b, .int .i64 al, .slice A n c]] W fun e w' => e = .returned (.tuple #[.agg #[.int .i64 0, .string ⟨#[]⟩, .int .i64 0, .slice none 0 0, .slice none 0 0], .bool false]) ∧ Below W.heap.size W w')) :
    Calls Tryz.prog 10 #[.agg #[.int .i64 cd, .int .u64 a, .int .u64 b, .int .i64 al, .slice A n c]] w fun e w' => e = .returned (.tuple #[.slice none 0 0, .int .i64 1]) ∧ Below w.heap.size w w' := by
  obtain ⟨W0, hW0⟩ : ∃ V, V = w.alloc (.cells #[.int .i64 cd, .int .u64 a, .int .u64 b, .int .i64 al, .slice A n c] 30) := ⟨_, rfl⟩
  have hb0 : Below w.heap.size w W0 := by rw [hW0]; exact (Below.refl _ _).alloc (Nat.le_refl _) _
  have hX0 : Blk W0 w.heap.size 30 #[.int .i64 cd, .int .u64 a, .int .u64 b, .int .i64 al, .slice A n c] := by rw [hW0]; exact Blk.new w 30 _
  have HB0 := Lib.hid hb0
  have HO0 := Lib.hid (HO.out W0 hb0)
  have HW0 := Lib.hid hW0
  have x0 : W0.cell? ⟨w.heap.size, 0, none⟩ = some (.int .i64 cd) := hX0.cell 0
  have x1 : W0.cell? ⟨w.heap.size, 1, none⟩ = some (.int .u64 a) := hX0.cell 1
  have x2 : W0.cell? ⟨w.heap.size, 2, none⟩ = some (.int .u64 b) := hX0.cell 2
  have x3 : W0.cell? ⟨w.heap.size, 3, none⟩ = some (.int .i64 al) := hX0.cell 3
  have x4 : W0.cell? ⟨w.heap.size, 4, none⟩ = some (.slice A n c) := hX0.cell 4
  clear hb0 hX0 hW0 HO
  go_enter Tryz.func10, Tryz.ntmps10
  go_upto_region 1 with fail
  rw [← HW0.out]
  go_wp2_with (go_at_call 29; (with_reducible refine HO0.out.mono ?_); rintro e w1 ⟨rfl, hb1⟩; have H1 := Lib.hid (HB0.out.trans (hb1.mono HB0.out.size)); clear hb1)
  go_ret2
  exact ⟨rfl, by first | exact H1.out | exact H1.out.alloc H1.out.size _⟩
set_option maxHeartbeats 4000000 in
set_option maxRecDepth 100000 in
theorem print_no (cd a b al : Int) (A : Option Addr) (n c : Nat) (hnc : n ≤ c) (hcm : c ≤ 9223372036854775807) (w : World)
    (HO : Hid (∀ W, Below w.heap.size w W → Calls Tryz.prog 29 #[.agg #[.int .i64 cd, .int .u64 a, .int .u64 b, .int .i64 al, .slice A n c]] W fun e w' => e = .returned (.tuple #[.agg #[.int .i64 0, .string ⟨#[]⟩, .int .i64 0, .slice none 0 0, .slice none 0 0], .bool false]) ∧ Below W.heap.size W w')) :
    Calls Tryz.prog 14 #[.agg #[.int .i64 cd, .int .u64 a, .int .u64 b, .int .i64 al, .slice A n c]] w fun e w' => e = .returned (.string ⟨#[]⟩) ∧ Below w.heap.size w w' := by
  obtain ⟨W0, hW0⟩ : ∃ V, V = w.alloc (.cells #[.int .i64 cd, .int .u64 a, .int .u64 b, .int .i64 al, .slice A n c] 30) := ⟨_, rfl⟩
  have hb0 : Below w.heap.size w W0 := by rw [hW0]; exact (Below.refl _ _).alloc (Nat.le_refl _) _
  have hX0 : Blk W0 w.heap.size 30 #[.int .i64 cd, .int .u64 a, .int .u64 b, .int .i64 al, .slice A n c] := by rw [hW0]; exact Blk.new w 30 _
  have HB0 := Lib.hid hb0
  have HO0 := Lib.hid (HO.out W0 hb0)
  have HW0 := Lib.hid hW0
  have x0 : W0.cell? ⟨w.heap.size, 0, none⟩ = some (.int .i64 cd) := hX0.cell 0
  have x1 : W0.cell? ⟨w.heap.size, 1, none⟩ = some (.int .u64 a) := hX0.cell 1
  have x2 : W0.cell? ⟨w.heap.size, 2, none⟩ = some (.int .u64 b) := hX0.cell 2
  have x3 : W0.cell? ⟨w.heap.size, 3, none⟩ = some (.int .i64 al) := hX0.cell 3
  have x4 : W0.cell? ⟨w.heap.size, 4, none⟩ = some (.slice A n c) := hX0.cell 4
  clear hb0 hX0 hW0 HO
  go_enter Tryz.func14, Tryz.ntmps14
  go_upto_region 1 with fail
  rw [← HW0.out]
  go_wp2_with (go_at_call 29; (with_reducible refine HO0.out.mono ?_); rintro e w1 ⟨rfl, hb1⟩; have H1 := Lib.hid (HB0.out.trans (hb1.mono HB0.out.size)); clear hb1)
  go_ret
  exact ⟨rfl, by first | exact H1.out | exact H1.out.alloc H1.out.size _⟩
set_option maxHeartbeats 4000000 in
set_option maxRecDepth 100000 in
theorem right_no (cd a b al : Int) (A : Option Addr) (n c : Nat) (hnc : n ≤ c) (hcm : c ≤ 9223372036854775807) (w : World)
    (HO : Hid (∀ W, Below w.heap.size w W → Calls Tryz.prog 29 #[.agg #[.int .i64 cd, .int .u64 a, .int .u64 b, .int .i64 al, .slice A n c]] W fun e w' => e = .returned (.tuple #[.agg #[.int .i64 0, .string ⟨#[]⟩, .int .i64 0, .slice none 0 0, .slice none 0 0], .bool false]) ∧ Below W.heap.size W w')) :
    Calls Tryz.prog 12 #[.agg #[.int .i64 cd, .int .u64 a, .int .u64 b, .int .i64 al, .slice A n c]] w fun e w' => e = .returned (.bool false) ∧ Below w.heap.size w w' := by
  obtain ⟨W0, hW0⟩ : ∃ V, V = w.alloc (.cells #[.int .i64 cd, .int .u64 a, .int .u64 b, .int .i64 al, .slice A n c] 30) := ⟨_, rfl⟩
  have hb0 : Below w.heap.size w W0 := by rw [hW0]; exact (Below.refl _ _).alloc (Nat.le_refl _) _
  have hX0 : Blk W0 w.heap.size 30 #[.int .i64 cd, .int .u64 a, .int .u64 b, .int .i64 al, .slice A n c] := by rw [hW0]; exact Blk.new w 30 _
  have HB0 := Lib.hid hb0
  have HO0 := Lib.hid (HO.out W0 hb0)
  have HW0 := Lib.hid hW0
  have x0 : W0.cell? ⟨w.heap.size, 0, none⟩ = some (.int .i64 cd) := hX0.cell 0
  have x1 : W0.cell? ⟨w.heap.size, 1, none⟩ = some (.int .u64 a) := hX0.cell 1
  have x2 : W0.cell? ⟨w.heap.size, 2, none⟩ = some (.int .u64 b) := hX0.cell 2
  have x3 : W0.cell? ⟨w.heap.size, 3, none⟩ = some (.int .i64 al) := hX0.cell 3
  have x4 : W0.cell? ⟨w.heap.size, 4, none⟩ = some (.slice A n c) := hX0.cell 4
  clear hb0 hX0 hW0 HO
  go_enter Tryz.func12, Tryz.ntmps12
  go_upto_region 1 with fail
  rw [← HW0.out]
  go_wp2_with (go_at_call 29; (with_reducible refine HO0.out.mono ?_); rintro e w1 ⟨rfl, hb1⟩; have H1 := Lib.hid (HB0.out.trans (hb1.mono HB0.out.size)); clear hb1)
  go_ret
  exact ⟨rfl, by first | exact H1.out | exact H1.out.alloc H1.out.size _⟩
set_option maxHeartbeats 4000000 in
set_option maxRecDepth 100000 in
theorem right_yes (cd a b al : Int) (A : Option Addr) (n c : Nat) (hnc : n ≤ c) (hcm : c ≤ 9223372036854775807) (w : World)
    (fi fo : Int) (nm : ByteArray) (nt ng : Nat) (HO : Hid (∀ W, Below w.heap.size w W → Calls Tryz.prog 29 #[.agg #[.int .i64 cd, .int .u64 a, .int .u64 b, .int .i64 al, .slice A n c]] W fun e w' => ∃ At ct Ag cg, nt ≤ ct ∧ ct ≤ 9223372036854775807 ∧ ng ≤ cg ∧ cg ≤ 9223372036854775807 ∧ e = .returned (.tuple #[.agg #[.int .i64 fi, .string nm, .int .i64 fo, .slice At nt ct, .slice Ag ng cg], .bool true]) ∧ Below W.heap.size W w')) :
    Calls Tryz.prog 12 #[.agg #[.int .i64 cd, .int .u64 a, .int .u64 b, .int .i64 al, .slice A n c]] w fun e w' => e = .returned (.bool true) ∧ Below w.heap.size w w' := by
  obtain ⟨W0, hW0⟩ : ∃ V, V = w.alloc (.cells #[.int .i64 cd, .int .u64 a, .int .u64 b, .int .i64 al, .slice A n c] 30) := ⟨_, rfl⟩
  have hb0 : Below w.heap.size w W0 := by rw [hW0]; exact (Below.refl _ _).alloc (Nat.le_refl _) _
  have hX0 : Blk W0 w.heap.size 30 #[.int .i64 cd, .int .u64 a, .int .u64 b, .int .i64 al, .slice A n c] := by rw [hW0]; exact Blk.new w 30 _
  have HB0 := Lib.hid hb0
  have HO0 := Lib.hid (HO.out W0 hb0)
  have HW0 := Lib.hid hW0
  have x0 : W0.cell? ⟨w.heap.size, 0, none⟩ = some (.int .i64 cd) := hX0.cell 0
  have x1 : W0.cell? ⟨w.heap.size, 1, none⟩ = some (.int .u64 a) := hX0.cell 1
  have x2 : W0.cell? ⟨w.heap.size, 2, none⟩ = some (.int .u64 b) := hX0.cell 2
  have x3 : W0.cell? ⟨w.heap.size, 3, none⟩ = some (.int .i64 al) := hX0.cell 3
  have x4 : W0.cell? ⟨w.heap.size, 4, none⟩ = some (.slice A n c) := hX0.cell 4
  clear hb0 hX0 hW0 HO
  go_enter Tryz.func12, Tryz.ntmps12
  go_upto_region 1 with fail
  rw [← HW0.out]
  go_wp2_with (go_at_call 29; (with_reducible refine HO0.out.mono ?_); rintro e w1 ⟨At, ct, Ag, cg, hnt, hct, hng, hcg, rfl, hb1⟩; have H1 := Lib.hid (HB0.out.trans (hb1.mono HB0.out.size)); clear hb1)
  go_ret
  exact ⟨rfl, by first | exact H1.out | exact H1.out.alloc H1.out.size _⟩
end Go.Proofs.YtggfaalodojjkaaGreatDoor
namespace Go.Proofs.YtggfaalodojjkaaGreatDoor
open Go.RowKit
set_option linter.unusedVariables false
set_option linter.unusedSimpArgs false
theorem signed32_any (bt : Int) (a : Nat) (ha : a < 18446744073709551616) (w : World) (hb : bt = 32 ∨ bt = 64) : Calls Tryz.prog 32 #[.int .i64 bt, .int .u64 (a : Nat)] w fun e w' => e = .returned (.int .i64 (Wd.sgn bt a)) ∧ w = w' := by
  rcases hb with rfl | rfl
  · have h1 : IntKind.i64.wrap (IntKind.i32.wrap (a : Int)) = Wd.sgn 32 a := by
      rw [IntKind.wrap_i64, IntKind.wrap_i32]; simp only [Wd.sgn, if_true]; split <;> omega
    go_enter Tryz.func32, Tryz.ntmps32
    go_wp2
    go_ret
    exact ⟨ret_int (by unfold wrap64 wrap32; simp only [Wd.sgn, if_true]; split <;> omega), rfl⟩
  · have h1 : IntKind.i64.wrap (a : Int) = Wd.sgn 64 a := by
      rw [IntKind.wrap_i64]; simp only [Wd.sgn, show ((64 : Int) = 32) = False from by simp, if_false]; split <;> omega
    go_enter Tryz.func32, Tryz.ntmps32
    go_wp2
    go_ret
    exact ⟨ret_int (by first | rfl | exact h1), rfl⟩
set_option maxHeartbeats 4000000 in
set_option maxRecDepth 100000 in
theorem enc_const (cd a b al : Int) (A : Option Addr) (n c : Nat) (hnc : n ≤ c) (hcm : c ≤ 9223372036854775807) (w : World) (fi : Int) (nm : ByteArray) (nt ng : Nat) (bt m : Int) (hm : -9223372036854775808 ≤ m ∧ m < 9223372036854775808) (H : List Nat) (hH : H.length ≤ 20) (G : Option Addr → Nat → Option Addr → Nat → World → Prop)
    (HO : Hid (∀ W, Below w.heap.size w W → Calls Tryz.prog 29 #[.agg #[.int .i64 cd, .int .u64 a, .int .u64 b, .int .i64 al, .slice A n c]] W fun e w' => ∃ At ct Ag cg, nt ≤ ct ∧ ct ≤ 9223372036854775807 ∧ ng ≤ cg ∧ cg ≤ 9223372036854775807 ∧ e = .returned (.tuple #[.agg #[.int .i64 fi, .string nm, .int .i64 11, .slice At nt ct, .slice Ag ng cg], .bool true]) ∧ Below W.heap.size W w' ∧ G At ct Ag cg w'))
    (HB : Hid (∀ At ct Ag cg w1, G At ct Ag cg w1 → ∀ V, Below w1.heap.size w1 V → Calls Tryz.prog 33 #[.agg #[.int .i64 fi, .string nm, .int .i64 11, .slice At nt ct, .slice Ag ng cg]] V fun e w' => e = .returned (.int .i64 bt) ∧ Below V.heap.size V w'))
    (HS : Hid (∀ W, Calls Tryz.prog 32 #[.int .i64 bt, .int .u64 a] W fun e w' => e = .returned (.int .i64 m) ∧ W = w'))
    (HH : Hid (∀ W, Calls Tryz.prog 30 #[.int .i64 cd] W (HdP H W))) :
    Calls Tryz.prog 10 #[.agg #[.int .i64 cd, .int .u64 a, .int .u64 b, .int .i64 al, .slice A n c]] w (EnP (H ++ Leb.enc (Leb.szS m) m) w) := by
  obtain ⟨W0, hW0⟩ : ∃ V, V = w.alloc (.cells #[.int .i64 cd, .int .u64 a, .int .u64 b, .int .i64 al, .slice A n c] 30) := ⟨_, rfl⟩
  obtain ⟨bx, hbx⟩ : ∃ x, x = w.heap.size := ⟨_, rfl⟩
  have hb0 : Below w.heap.size w W0 := by rw [hW0]; exact (Below.refl _ _).alloc (Nat.le_refl _) _
  have hX0 : Blk W0 bx 30 #[.int .i64 cd, .int .u64 a, .int .u64 b, .int .i64 al, .slice A n c] := by rw [hW0, hbx]; exact Blk.new w 30 _
  have HB0 := Lib.hid hb0
  have HX := Lib.hid (fun V (hV : Below W0.heap.size W0 V) => hX0.below hV hX0.lt)
  have HO0 := Lib.hid (HO.out W0 hb0)
  have HW0 := Lib.hid hW0
  have HBX := Lib.hid hbx
  have HM := Lib.hid hm
  have HHL := Lib.hid hH
  have x0 : W0.cell? ⟨bx, 0, none⟩ = some (.int .i64 cd) := hX0.cell 0
  have x1 : W0.cell? ⟨bx, 1, none⟩ = some (.int .u64 a) := hX0.cell 1
  have x2 : W0.cell? ⟨bx, 2, none⟩ = some (.int .u64 b) := hX0.cell 2
  have x3 : W0.cell? ⟨bx, 3, none⟩ = some (.int .i64 al) := hX0.cell 3
  have x4 : W0.cell? ⟨bx, 4, none⟩ = some (.slice A n c) := hX0.cell 4
  clear hb0 hX0 hW0 hbx HO hm hH
  go_enter Tryz.func10, Tryz.ntmps10
  go_upto_region 1 with fail
  rw [← HBX.out]
  rw [← HW0.out]
  go_upto_region 2 with (first
    | (go_at_call 29; (with_reducible refine HO0.out.mono ?_); rintro e w1 ⟨At, ct, Ag, cg, hnt, hct, hng, hcg, rfl, hb1, hg1⟩
       have HW1 := Lib.hid hb1
       have HG1 := Lib.hid hg1
       clear hb1 hg1))
  obtain ⟨W5, hW5⟩ : ∃ V, V = w1.alloc (.cells #[.int .i64 fi, .string nm, .int .i64 11, .slice At nt ct, .slice Ag ng cg] 61) := ⟨_, rfl⟩
  obtain ⟨b4, hb4⟩ : ∃ x, x = w1.heap.size := ⟨_, rfl⟩
  have h15 : Below w1.heap.size w1 W5 := by rw [hW5]; exact (Below.refl _ _).alloc (Nat.le_refl _) _
  have hI : Blk W5 b4 61 #[.int .i64 fi, .string nm, .int .i64 11, .slice At nt ct, .slice Ag ng cg] := by rw [hW5, hb4]; exact Blk.new w1 61 _
  rw [← hb4, ← hW5]
  have hxb := HX.out W5 (HW1.out.trans (h15.mono HW1.out.size))
  have H5 := Lib.hid (HW1.out.trans (h15.mono HW1.out.size))
  have H15 := Lib.hid h15
  have HI := Lib.hid (fun V (hV : Below W5.heap.size W5 V) => hI.below hV hI.lt)
  clear x0 x1 x2 x3 x4
  have x0 : W5.cell? ⟨bx, 0, none⟩ = some (.int .i64 cd) := hxb.cell 0
  clear h15 hI hW5 hb4 hxb
  go_wp2_with fail
  with_reducible refine (HH.out _).mono ?_
  rintro e w2 ⟨Ah, nh, ch, rfl, hhy, hb2, hnh⟩
  have HHY0 := Lib.hid hhy
  have HNH : Hid (nh ≤ 1000) := Lib.hid (by have := HHL.out; omega)
  have hch := hhy.2.2.1
  have hchm := hhy.2.2.2.1
  unfold maxLen at hchm
  have H2 := Lib.hid (H5.out.trans (hb2.mono H5.out.size))
  have H13 : Hid (Below w1.heap.size w1 w2) := Lib.hid (H15.out.trans (hb2.mono H15.out.size))
  have HHY := HHY0
  have HKS : Hid (∀ V, Below w2.heap.size w2 V → V.cell? ⟨bx, 0, none⟩ = some (.int .i64 cd) ∧ V.cell? ⟨bx, 1, none⟩ = some (.int .u64 a) ∧ V.cell? ⟨bx, 2, none⟩ = some (.int .u64 b) ∧ V.cell? ⟨bx, 3, none⟩ = some (.int .i64 al) ∧ V.cell? ⟨bx, 4, none⟩ = some (.slice A n c) ∧ V.cell? ⟨b4, 0, none⟩ = some (.int .i64 fi) ∧ V.cell? ⟨b4, 1, none⟩ = some (.string nm) ∧ V.cell? ⟨b4, 2, none⟩ = some (.int .i64 11) ∧ V.cell? ⟨b4, 3, none⟩ = some (.slice At nt ct) ∧ V.cell? ⟨b4, 4, none⟩ = some (.slice Ag ng cg)) := Lib.hid (fun V hV => by
    have hx := HX.out V (H2.out.trans (hV.mono H2.out.size))
    have hi := HI.out V (hb2.trans (hV.mono hb2.size))
    exact ⟨hx.cell 0, hx.cell 1, hx.cell 2, hx.cell 3, hx.cell 4, hi.cell 0, hi.cell 1, hi.cell 2, hi.cell 3, hi.cell 4⟩)
  have HVD : Hid (Below w2.heap.size w2 w2.drew) := Lib.hid (below_drew (Below.refl _ _))
  have HB33 := Lib.hid (HB.out At ct Ag cg w1 HG1.out)
  have hks0 := HKS.out w2.drew HVD.out
  have i2 : w2.cell? ⟨b4, 2, none⟩ = some (.int .i64 11) := (HI.out w2 hb2).cell 2
  clear x0 hhy hnh hb2
  go_upto_region 6 with fail
  refine wp_region_noPanic ?_
  refine wp_region_held_drew (S := (fun W => W.cell? ⟨bx, 0, none⟩ = some (.int .i64 cd) ∧ W.cell? ⟨bx, 1, none⟩ = some (.int .u64 a) ∧ W.cell? ⟨bx, 2, none⟩ = some (.int .u64 b) ∧ W.cell? ⟨bx, 3, none⟩ = some (.int .i64 al) ∧ W.cell? ⟨bx, 4, none⟩ = some (.slice A n c) ∧ W.cell? ⟨b4, 0, none⟩ = some (.int .i64 fi) ∧ W.cell? ⟨b4, 1, none⟩ = some (.string nm) ∧ W.cell? ⟨b4, 2, none⟩ = some (.int .i64 11) ∧ W.cell? ⟨b4, 3, none⟩ = some (.slice At nt ct) ∧ W.cell? ⟨b4, 4, none⟩ = some (.slice Ag ng cg))) (by kernel_rfl) hks0 (fun hHeld => ?_)
  refine wpAnyH_take (i := 0) (oi := ?oi_1) (v := ?_) ?hi_1 (by kernel_rfl) ?hf_1 (by kernel_rfl) ?hQ_1 ?hy_1 (by assumption) ?_
  case hi_1 => simp only [List.getElem?_toArray, List.getElem?_cons_zero, List.getElem?_cons_succ]; try rfl
  case hf_1 => kernel_rfl
  case hQ_1 => exact fun _ _ _ h => h
  case hy_1 =>
    refine Or.inl ⟨by rfl, ?_⟩
    intro W hSw
    obtain ⟨q0, q1, q2, q3, q4, q5, q6, q7, q8, q9⟩ := hSw
    go_simp
    try with_reducible rfl
  try simp only [Act.put, List.setIfInBounds_toArray, List.set_cons_zero, List.set_cons_succ]
  refine wpAnyH_take (i := 1) (oi := ?oi_2) (v := ?_) ?hi_2 (by kernel_rfl) ?hf_2 (by kernel_rfl) ?hQ_2 ?hy_2 (by assumption) ?_
  case hi_2 => simp only [List.getElem?_toArray, List.getElem?_cons_zero, List.getElem?_cons_succ]; try rfl
  case hf_2 => kernel_rfl
  case hQ_2 => exact fun _ _ _ h => h
  case hy_2 =>
    refine Or.inl ⟨by rfl, ?_⟩
    intro W hSw
    obtain ⟨q0, q1, q2, q3, q4, q5, q6, q7, q8, q9⟩ := hSw
    go_simp
    try with_reducible rfl
  try simp only [Act.put, List.setIfInBounds_toArray, List.set_cons_zero, List.set_cons_succ]
  refine wpAnyH_take (i := 3) (oi := ?oi_3) (v := ?_) ?hi_3 (by kernel_rfl) ?hf_3 (by kernel_rfl) ?hQ_3 ?hy_3 (by assumption) ?_
  case hi_3 => simp only [List.getElem?_toArray, List.getElem?_cons_zero, List.getElem?_cons_succ]; try rfl
  case hf_3 => kernel_rfl
  case hQ_3 => exact fun _ _ _ h => h
  case hy_3 =>
    refine Or.inl ⟨by rfl, ?_⟩
    intro W hSw
    obtain ⟨q0, q1, q2, q3, q4, q5, q6, q7, q8, q9⟩ := hSw
    go_simp
    try with_reducible rfl
  try simp only [Act.put, List.setIfInBounds_toArray, List.set_cons_zero, List.set_cons_succ]
  refine wpAnyH_take (i := 4) (oi := ?oi_4) (v := ?_) ?hi_4 (by kernel_rfl) ?hf_4 (by kernel_rfl) ?hQ_4 ?hy_4 (by assumption) ?_
  case hi_4 => simp only [List.getElem?_toArray, List.getElem?_cons_zero, List.getElem?_cons_succ]; try rfl
  case hf_4 => kernel_rfl
  case hQ_4 => exact fun _ _ _ h => h
  case hy_4 =>
    refine Or.inl ⟨by rfl, ?_⟩
    intro W hSw
    obtain ⟨q0, q1, q2, q3, q4, q5, q6, q7, q8, q9⟩ := hSw
    go_simp
    try with_reducible rfl
  try simp only [Act.put, List.setIfInBounds_toArray, List.set_cons_zero, List.set_cons_succ]
  refine wpAnyH_ready (rs := [2]) (by kernel_rfl) (by simp) ?_
  refine AllReadyH.cons (o := ?oi_9_0) ?hi_9_0 (fun K hK => ?_) AllReadyH.nil
  case hi_9_0 => simp only [List.getElem?_toArray, List.getElem?_cons_zero, List.getElem?_cons_succ]; try rfl
  go_simp
  (go_at_call 33
   (with_reducible refine (HB33.out _ (H13.out.trans (HVD.out.mono H13.out.size))).mono ?_)
   rintro e w4 ⟨rfl, hb4⟩
   have HV4 := Lib.hid (HVD.out.trans (hb4.mono HVD.out.size))
   have hk_ := HKS.out _ HV4.out
   clear hb4)
  refine hK.out _ _ hk_ (fun hHeld => ?_)
  clear hK K
  try simp only [Act.put, List.setIfInBounds_toArray, List.set_cons_zero, List.set_cons_succ]
  refine wpAnyH_ready (rs := [5]) (by kernel_rfl) (by simp) ?_
  refine AllReadyH.cons (o := ?oi_8_0) ?hi_8_0 (fun K hK => ?_) AllReadyH.nil
  case hi_8_0 => simp only [List.getElem?_toArray, List.getElem?_cons_zero, List.getElem?_cons_succ]; try rfl
  go_simp
  (go_at_call 32
   (with_reducible refine (HS.out _).mono ?_)
   rintro e w5 ⟨rfl, rfl⟩)
  refine hK.out _ _ hk_ (fun hHeld => ?_)
  clear hK K
  try simp only [Act.put, List.setIfInBounds_toArray, List.set_cons_zero, List.set_cons_succ]
  refine wpAnyH_ready (rs := [6]) (by kernel_rfl) (by simp) ?_
  refine AllReadyH.cons (o := ?oi_7_0) ?hi_7_0 (fun K hK => ?_) AllReadyH.nil
  case hi_7_0 => simp only [List.getElem?_toArray, List.getElem?_cons_zero, List.getElem?_cons_succ]; try rfl
  go_simp
  (go_at_call 31
   (with_reducible refine (PutS_any _ _ _ _ _ _ (HHY.out.kept HV4.out) HNH.out HM.out.1 HM.out.2).mono ?_)
   rintro e w6 ⟨g6, cp6, rfl, hy6, hb6⟩
   have HV6 := Lib.hid (HV4.out.trans (hb6.mono HV4.out.size))
   have HY6 := Lib.hid hy6
   have hk_ := HKS.out _ HV6.out
   clear hy6 hb6)
  refine hK.out _ _ hk_ (fun hHeld => ?_)
  clear hK K
  try simp only [Act.put, List.setIfInBounds_toArray, List.set_cons_zero, List.set_cons_succ]
  refine wpAnyH_take (i := 7) (oi := ?oi_5) (v := ?_) ?hi_5 (by kernel_rfl) ?hf_5 (by kernel_rfl) ?hQ_5 ?hy_5 (by assumption) ?_
  case hi_5 => simp only [List.getElem?_toArray, List.getElem?_cons_zero, List.getElem?_cons_succ]; try rfl
  case hf_5 => kernel_rfl
  case hQ_5 => exact fun _ _ _ h => h
  case hy_5 =>
    refine Or.inl ⟨by rfl, ?_⟩
    intro W hSw
    obtain ⟨q0, q1, q2, q3, q4, q5, q6, q7, q8, q9⟩ := hSw
    go_simp
    try with_reducible rfl
  try simp only [Act.put, List.setIfInBounds_toArray, List.set_cons_zero, List.set_cons_succ]
  refine wpAnyH_take (i := 8) (oi := ?oi_6) (v := ?_) ?hi_6 (by kernel_rfl) ?hf_6 (by kernel_rfl) ?hQ_6 ?hy_6 (by assumption) ?_
  case hi_6 => simp only [List.getElem?_toArray, List.getElem?_cons_zero, List.getElem?_cons_succ]; try rfl
  case hf_6 => kernel_rfl
  case hQ_6 => exact fun _ _ _ h => h
  case hy_6 =>
    refine Or.inl ⟨by rfl, ?_⟩
    intro W hSw
    obtain ⟨q0, q1, q2, q3, q4, q5, q6, q7, q8, q9⟩ := hSw
    go_simp
    try with_reducible rfl
  try simp only [Act.put, List.setIfInBounds_toArray, List.set_cons_zero, List.set_cons_succ]
  refine wpAnyH_done (by kernel_rfl) ?_ _
  refine NoPanic.normal ?_
  clear hHeld
  go_wp2
  refine bodyPost_ret (results_tmp2 results10 _ _ _) rfl ?_
  exact ⟨_, _, _, rfl, HY6.out, HY6.out.1.symm, HB0.out.trans ((H2.out.trans (HV6.out.mono H2.out.size)).mono HB0.out.size)⟩
end Go.Proofs.YtggfaalodojjkaaGreatDoor
