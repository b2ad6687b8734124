/-
  instr: numbers, head, signed.
-/
import Derived.Test.YtggfaalodojjkaaGreatDoorIf
import Derived.Test.YtggfaalodojjkaaGreatDoorQLk
import Derived.BigGuard
import Derived.Deep.RegionHeld3
namespace Go.Proofs.YtggfaalodojjkaaGreatDoor
open Go.RowKit
set_option linter.unusedVariables false
set_option linter.unusedSimpArgs false
theorem Sl_new (w : World) (L : List Int) (hL : L.length ≤ 1000) : Sl (w.alloc (.cells (L.map U64).toArray 22)) (some ⟨w.heap.size, 0, none⟩) L.length L.length L := by
  refine ⟨rfl, Nat.le_refl _, by unfold maxLen; omega, fun _ => ⟨w.heap.size, 0, rfl, by simp, fun i hi => ?_⟩⟩
  rw [Nat.zero_add, (Blk.new w 22 _).cell i]
  simp [List.getD_eq_getElem?_getD, List.getElem?_eq_getElem hi]
def NuP (L : List Int) (w : World) (e : Ending) (w' : World) : Prop := ∃ A n c, e = .returned (.slice A n c) ∧ Sl w' A n c L ∧ Below w.heap.size w w'
theorem NuP.new (w : World) (o : Obj) (L : List Int) (hL : L.length ≤ 1000) : NuP L w (.returned (.slice (some ⟨w.heap.size + 1, 0, none⟩) L.length L.length)) ((w.alloc o).alloc (.cells (L.map U64).toArray 22)) := by
  have h := Sl_new (w.alloc o) L hL
  rw [World.size_alloc] at h
  exact ⟨_, _, _, rfl, h, ((Below.refl _ _).alloc (Nat.le_refl _) o).alloc (by simp) _⟩
set_option maxHeartbeats 4000000 in
set_option maxRecDepth 100000 in
theorem numbers_0 (cd a b al : Int) (A : Option Addr) (n c : Nat) (w : World)  : Calls Tryz.prog 34 #[.agg #[.int .i64 cd, .int .u64 a, .int .u64 b, .int .i64 al, .slice A n c], .int .i64 0] w (NuP [] w) := by
  have HB := Lib.hid ((Below.refl w.heap.size w).alloc (Nat.le_refl _) (.cells #[.int .i64 cd, .int .u64 a, .int .u64 b, .int .i64 al, .slice A n c] 30))
  go_enter Tryz.func34, Tryz.ntmps34
  go_wp2
  go_ret
  exact ⟨none, 0, 0, rfl, ⟨rfl, Nat.le_refl _, Nat.zero_le _, fun h => absurd h (by omega)⟩, HB.out⟩
set_option maxHeartbeats 4000000 in
set_option maxRecDepth 100000 in
theorem numbers_5 (cd a b al : Int) (A : Option Addr) (n c : Nat) (w : World)  : Calls Tryz.prog 34 #[.agg #[.int .i64 cd, .int .u64 a, .int .u64 b, .int .i64 al, .slice A n c], .int .i64 5] w (NuP [a, b] w) := by
  have HB := Lib.hid ((Below.refl w.heap.size w).alloc (Nat.le_refl _) (.cells #[.int .i64 cd, .int .u64 a, .int .u64 b, .int .i64 al, .slice A n c] 30))
  go_enter Tryz.func34, Tryz.ntmps34
  go_wp2
  go_ret
  exact NuP.new w (.cells #[.int .i64 cd, .int .u64 a, .int .u64 b, .int .i64 al, .slice A n c] 30) [a, b] (by simp)
set_option maxHeartbeats 4000000 in
set_option maxRecDepth 100000 in
theorem numbers_10 (cd a b al : Int) (A : Option Addr) (n c : Nat) (w : World)  : Calls Tryz.prog 34 #[.agg #[.int .i64 cd, .int .u64 a, .int .u64 b, .int .i64 al, .slice A n c], .int .i64 10] w (NuP [a, b] w) := by
  have HB := Lib.hid ((Below.refl w.heap.size w).alloc (Nat.le_refl _) (.cells #[.int .i64 cd, .int .u64 a, .int .u64 b, .int .i64 al, .slice A n c] 30))
  go_enter Tryz.func34, Tryz.ntmps34
  go_wp2
  go_ret
  exact NuP.new w (.cells #[.int .i64 cd, .int .u64 a, .int .u64 b, .int .i64 al, .slice A n c] 30) [a, b] (by simp)
set_option maxHeartbeats 4000000 in
set_option maxRecDepth 100000 in
theorem numbers_8z (cd a b al : Int) (A : Option Addr) (n c : Nat) (w : World) (h0 : a = 0) (h1 : 0 ≤ al) (h2 : al ≤ 31) : Calls Tryz.prog 34 #[.agg #[.int .i64 cd, .int .u64 a, .int .u64 b, .int .i64 al, .slice A n c], .int .i64 8] w (NuP [al, b] w) := by
  have HB := Lib.hid ((Below.refl w.heap.size w).alloc (Nat.le_refl _) (.cells #[.int .i64 cd, .int .u64 a, .int .u64 b, .int .i64 al, .slice A n c] 30))
  subst h0
  go_enter Tryz.func34, Tryz.ntmps34
  go_wp2
  go_ret
  exact NuP.new w (.cells #[.int .i64 cd, .int .u64 0, .int .u64 b, .int .i64 al, .slice A n c] 30) [al, b] (by simp)
set_option maxHeartbeats 4000000 in
set_option maxRecDepth 100000 in
theorem numbers_8 (cd a b al : Int) (A : Option Addr) (n c : Nat) (w : World) (h0 : a ≠ 0) (h1 : 0 ≤ al) (h2 : al ≤ 31) : Calls Tryz.prog 34 #[.agg #[.int .i64 cd, .int .u64 a, .int .u64 b, .int .i64 al, .slice A n c], .int .i64 8] w (NuP [64 + al, a, b] w) := by
  have HB := Lib.hid ((Below.refl w.heap.size w).alloc (Nat.le_refl _) (.cells #[.int .i64 cd, .int .u64 a, .int .u64 b, .int .i64 al, .slice A n c] 30))
  have e0 : (a == 0) = false := by simpa using h0
  clear h0
  go_enter Tryz.func34, Tryz.ntmps34
  go_wp2
  go_ret
  exact NuP.new w (.cells #[.int .i64 cd, .int .u64 a, .int .u64 b, .int .i64 al, .slice A n c] 30) [64 + al, a, b] (by simp)
set_option maxHeartbeats 4000000 in
set_option maxRecDepth 100000 in
theorem numbers_x (cd a b al : Int) (A : Option Addr) (n c : Nat) (f : Int) (w : World) (h0 : f ≠ 0) (h3 : f ≠ 3) (h5 : f ≠ 5) (h10 : f ≠ 10) (h8 : f ≠ 8) : Calls Tryz.prog 34 #[.agg #[.int .i64 cd, .int .u64 a, .int .u64 b, .int .i64 al, .slice A n c], .int .i64 f] w (NuP [a] w) := by
  have HB := Lib.hid ((Below.refl w.heap.size w).alloc (Nat.le_refl _) (.cells #[.int .i64 cd, .int .u64 a, .int .u64 b, .int .i64 al, .slice A n c] 30))
  have e0 : (f == 0) = false := by simpa using h0
  have e3 : (f == 3) = false := by simpa using h3
  have e5 : (f == 5) = false := by simpa using h5
  have e10 : (f == 10) = false := by simpa using h10
  have e8 : (f == 8) = false := by simpa using h8
  clear h0 h3 h5 h10 h8
  go_enter Tryz.func34, Tryz.ntmps34
  go_wp2
  go_ret
  exact NuP.new w (.cells #[.int .i64 cd, .int .u64 a, .int .u64 b, .int .i64 al, .slice A n c] 30) [a] (by simp)
def headL (cd : Int) : List Nat := if cd < 64512 then [(cd % 256).toNat] else 252 :: Leb.enc (Leb.szU (cd - 64512).toNat) (cd - 64512).toNat
theorem enc_len : ∀ (k : Nat) (n : Int), (Leb.enc k n).length = k + 1
  | 0, n => rfl
  | k + 1, n => by unfold Leb.enc; simp [enc_len k]
def HdP (L : List Nat) (w : World) (e : Ending) (w' : World) : Prop := ∃ A n c, e = .returned (.slice A n c) ∧ Byt w' A n c L ∧ Below w.heap.size w w' ∧ n = L.length
theorem byt_new1 (w : World) (x : Nat) (hx : x < 256) : Byt (w.alloc (.cells #[.int .u8 (x : Nat)] 5)) (some ⟨w.heap.size, 0, none⟩) 1 1 [x] := by
  refine ⟨rfl, by simpa using hx, Nat.le_refl _, by decide, fun _ => ⟨w.heap.size, 0, rfl, by simp, fun i hi => ?_⟩⟩
  obtain rfl : i = 0 := by omega
  exact (Blk.new w 5 _).cell 0
set_option maxHeartbeats 4000000 in
set_option maxRecDepth 100000 in
theorem head_ok (cd : Int) (h0 : 0 ≤ cd) (h1 : cd < 100000) (w : World) : Calls Tryz.prog 30 #[.int .i64 cd] w (HdP (headL cd) w) := by
  unfold headL
  by_cases h : cd < 64512
  · rw [if_pos h]
    go_enter Tryz.func30, Tryz.ntmps30
    go_wp2
    go_ret
    refine ⟨_, _, _, rfl, ?_, (Below.refl _ _).alloc (Nat.le_refl _) _, rfl⟩
    have := byt_new1 w (cd % 256).toNat (by omega)
    rw [show (((cd % 256).toNat : Nat) : Int) = cd % 256 from by omega] at this
    exact this
  · rw [if_neg h]
    obtain ⟨m, rfl⟩ : ∃ m : Nat, cd = (m : Int) + 64512 := ⟨(cd - 64512).toNat, by omega⟩
    have hB : Below w.heap.size w (w.alloc (.cells #[.int .u8 252] 5)) := (Below.refl _ _).alloc (Nat.le_refl _) _
    have hY0 : Byt (w.alloc (.cells #[.int .u8 252] 5)) (some ⟨w.heap.size, 0, none⟩) 1 1 [252] := byt_new1 w 252 (by decide)
    have HP := Lib.hid (Put_any (some ⟨w.heap.size, 0, none⟩) 1 1 [252] m (w.alloc (.cells #[.int .u8 252] 5)) hY0 (by decide) (by omega))
    have HB := Lib.hid hB
    rw [Int.add_sub_cancel, Int.toNat_natCast]
    have HL : Hid ((Leb.enc (Leb.szU m) m).length = Leb.szU m + 1) := Lib.hid (enc_len _ _)
    have hsub : (m : Int) + 64512 - 64512 = (m : Int) := by omega
    clear hB hY0
    go_enter Tryz.func30, Tryz.ntmps30
    go_wp2_with fail
    with_reducible refine HP.out.mono ?_
    rintro e w1 ⟨g, cp, rfl, hby, hb⟩
    have HY := Lib.hid hby
    have HB1 := Lib.hid (HB.out.trans (hb.mono HB.out.size))
    clear hby hb
    go_wp2
    go_ret
    exact ⟨_, _, _, rfl, HY.out, HB1.out, by simp [HL.out]; omega⟩
end Go.Proofs.YtggfaalodojjkaaGreatDoor
