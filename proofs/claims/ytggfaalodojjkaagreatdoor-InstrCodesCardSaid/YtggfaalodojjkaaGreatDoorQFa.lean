/-
  What is known of a flash, a cursor and the blocks that a call leaves as they were; flash.New.
-/
import Derived.Test.YtggfaalodojjkaaGreatDoorQLn
import Derived.Deep.Draws
import Derived.WalkSmall
import Derived.StillTailTactics
import Derived.Deep.RegionWith
namespace Go.Proofs.YtggfaalodojjkaaGreatDoor
open Go.RowKit
set_option linter.unusedVariables false
section
variable {S T : Nat → Prop} {w w' w'' : World}
end
section
variable {w w' : World} {g g' : Nat} {t t' : TypeId} {cs cs' : Array Value}
end
def flC (g N r : Nat) (fa : Int) : Array Value := #[.slice (some ⟨g, 0, none⟩) N N, .int .i64 r, .int .i64 fa]
def cuC (f : Nat) (fr til at' : Int) : Array Value := #[.pointer (some ⟨f, 0, none⟩), .int .i64 fr, .int .i64 til, .int .i64 at']
/-- a flash: its struct in block f, its bytes in block g -/
structure Fl (w : World) (f g N : Nat) (l : List Nat) (r : Nat) (fa : Int) : Prop where
  blk : Blk w f 84 (flC g N r fa)
  byt : Blk w g 5 (l.map U8).toArray
  len : l.length = N
  lim : N ≤ 65536
  all : ∀ x ∈ l, x < 256
set_option maxHeartbeats 400000 in
set_option maxRecDepth 100000 in
theorem New_long (A : Option Addr) (n cap : Nat) (w : World) (hn : 65536 < n) (hc : n ≤ 9223372036854775807) :
    Calls Tryz.prog 15 #[.slice A n cap] w fun e w' => e = .returned (.tuple #[.pointer none, .int .i64 15]) ∧ w = w' := by
  go_enter Tryz.func15, Tryz.ntmps15
  go_wp2
  go_ret2
  exact ⟨rfl, rfl⟩
set_option maxHeartbeats 1000000 in
set_option maxRecDepth 100000 in
theorem New_any (A : Option Addr) (n cap : Nat) (l : List Nat) (w : World) (hb : Byt w A n cap l) (hn1 : n ≤ 65536) :
    Calls Tryz.prog 15 #[.slice A n cap] w fun e w' => ∃ f g, e = .returned (.tuple #[.pointer (some ⟨f, 0, none⟩), .int .i64 0]) ∧ Fl w' f g n l 0 (-1) ∧ Below w.heap.size w w' ∧ w.heap.size ≤ f ∧ w.heap.size ≤ g := by
  obtain ⟨i0, hi, hz0, hz1, hz2⟩ := info_parts info5
  have HB := Lib.hid hb
  clear hb
  obtain ⟨X, hX⟩ : ∃ X, X = l.map U8 := ⟨_, rfl⟩
  have hlen : l.length = n := HB.out.1
  have hXl : Hid (X.length = n) := Lib.hid (by rw [hX, List.length_map]; exact hlen)
  have hXc : Hid (0 < n → ∃ b off, A = some ⟨b, off, none⟩ ∧ b < w.heap.size ∧ ∀ j v, X[j]? = some v → w.cell? ((⟨b, off, none⟩ : Addr).add j) = some v) := Lib.hid (by
    intro h0
    obtain ⟨b, off, hA, hlt, hcell⟩ := HB.out.2.2.2.2 h0
    refine ⟨b, off, hA, hlt, fun j v hv => ?_⟩
    have hj : j < l.length := by
      have := (List.getElem?_eq_some_iff.1 hv).1
      rw [hX, List.length_map] at this; exact this
    rw [hX, map_getD l j hj] at hv
    rw [addr_add, hcell j (by omega)]
    exact hv)
  have hX1 : Hid (∀ v ∈ X, v.oneCell' = true) := Lib.hid (by
    intro v hv
    rw [hX, List.mem_map] at hv
    obtain ⟨x, _, rfl⟩ := hv
    rfl)
  have hXE := Lib.hid hX
  clear hX hlen
  obtain ⟨cur, hcur⟩ : ∃ cur, cur = (madeCells (Value.int .u8 0).cells n).toList := ⟨_, rfl⟩
  have hcurl : Hid (cur.length = n) := Lib.hid (by rw [hcur, Array.length_toList, size_madeCells])
  have hcurE : Hid ((madeCells (Value.int .u8 0).cells n) = cur.toArray) := Lib.hid (by rw [hcur])
  clear hcur
  go_enter Tryz.func15, Tryz.ntmps15
  go_wp2_with (first
    | (at_make
       refine wpList_make_lc _ rfl (.tmp 12) (.tmp 12) 27 rfl 5 i0 _ Tryz.underlying27 hi hz0 hz1 .i64 .i64 _ _ n n rfl rfl rfl rfl (Nat.le_refl _) (by rw [hz2]; omega) (by unfold maxLen; omega) ?_
       intro w1 hg1 hbel1
       have HG1 : Hid (Blk w1 (w.heap.size + 1) 5 cur.toArray) := Lib.hid (by
         have := hg1.out
         rw [hcurE.out] at this
         simpa [Blk] using this)
       have HB1 := Lib.hid hbel1
       have HF1 : Hid (Blk w1 w.heap.size 84 #[.slice none 0 0, .int .i64 0, .int .i64 0]) := Lib.hid ((Blk.new w 84 _).below hbel1 (by simp))
       have f0 : w1.cell? ⟨w.heap.size, 0, none⟩ = some (.slice none 0 0) := HF1.out.cell 0
       have f2 : w1.cell? ⟨w.heap.size, 2, none⟩ = some (.int .i64 0) := HF1.out.cell 2
       have z0 := HF1.out.frozen 0
       have z2 := HF1.out.frozen 2
       have HG2 : Hid (Blk (w1.setCell ⟨w.heap.size, 0, none⟩ (.slice (some ⟨w.heap.size + 1, 0, none⟩) n n)) (w.heap.size + 1) 5 cur.toArray) := Lib.hid (HG1.out.far (by simp) _)
       have HF2 : Hid (Blk (w1.setCell ⟨w.heap.size, 0, none⟩ (.slice (some ⟨w.heap.size + 1, 0, none⟩) n n)) w.heap.size 84 (flC (w.heap.size + 1) n 0 0)) := Lib.hid (HF1.out.set_ 0 _)
       clear hg1 hbel1)
    | (with_reducible refine wpList_copy_splice rfl (.tmp 21) (.tmp 22) 27 27 rfl 5 Tryz.underlying27 info5size (some ⟨w.heap.size + 1, 0, none⟩) A n n n cap rfl rfl (w.heap.size + 1) 0 cur 5 HG2.out.row X ?d1 ?d2 ?d3 hX1.out (w.heap.size + 1) _ (Below.refl _ _) (Nat.le_refl _) ?_
       case d1 => rw [hXl.out]; exact (Nat.min_self n).symm
       case d2 =>
         intro h0
         rw [hXl.out] at h0
         obtain ⟨b, off, hA, hlt, hcell⟩ := hXc.out h0
         refine ⟨rfl, _, hA, fun j v hv => ?_⟩
         rw [World.cell?_setCell_other _ _ _ _ (by rw [addr_add]; intro e; injection e with e; omega), HB1.out.cell (by rw [addr_add]; simp; omega)]
         rw [World.cell?_alloc_lt w _ _ (by rw [addr_add]; exact hlt)]
         exact hcell j v hv
       case d3 => rw [hXl.out, hcurl.out]; omega
       intro w2 hg2 hbel2
       have HF3 : Hid (Blk w2 w.heap.size 84 (flC (w.heap.size + 1) n 0 0)) := Lib.hid (HF2.out.below hbel2 (by omega))
       have g2 : w2.cell? ⟨w.heap.size, 2, none⟩ = some (.int .i64 0) := HF3.out.cell 2
       have y2 := HF3.out.frozen 2
       have HB2 := Lib.hid hbel2
       clear hbel2))
  go_ret2
  have hfl : Blk w2 (w.heap.size + 1) 5 (l.map U8).toArray := by
    have h2 : (splice cur 0 X) = l.map U8 := by
      rw [← hXE.out]
      simp only [splice, List.take_zero, List.nil_append]
      rw [List.drop_eq_nil_of_le (by rw [hXl.out, hcurl.out]; omega), List.append_nil]
    have := hg2.out
    rw [h2] at this
    exact this
  refine ⟨w.heap.size, w.heap.size + 1, rfl, ⟨HF3.out.set_ 2 _, hfl.far (by simp) _, HB.out.1, hn1, HB.out.2.1⟩, ?_, Nat.le_refl _, by omega⟩
  have q1 : Below w.heap.size w w1 := ((Below.refl w.heap.size w).alloc (Nat.le_refl _) _).trans (HB1.out.mono (by simp))
  exact ((q1.setCell (Nat.le_refl _) _).trans (HB2.out.mono (by omega))).setCell (Nat.le_refl _) _
end Go.Proofs.YtggfaalodojjkaaGreatDoor
