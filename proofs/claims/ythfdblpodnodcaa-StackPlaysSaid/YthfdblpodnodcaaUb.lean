/-
  frame.Frames.get, put.
-/
import Derived.Test.YthfdblpodnodcaaUa
namespace Go.Proofs.Ythfdblpodnodcaa
open Go.RowKit
set_option linter.unusedVariables false
set_option linter.unusedSimpArgs false
def Rt (x : Nat × Nat × Nat) : Prop := x.1 < 4294967296 ∧ x.2.1 < 4294967296 ∧ x.2.2 < 4294967296
def Tri (x : Nat × Nat × Nat) : Array Value := #[.int .i64 x.1, .int .i64 x.2.1, .int .i64 x.2.2]
def tri (x : Nat × Nat × Nat) (i : Nat) : Nat := match i with
  | 0 => x.1
  | 1 => x.2.1
  | _ => x.2.2
theorem wdN_lt4 {mem : List Nat} (h : ∀ x ∈ mem, x < 256) (p : Nat) : wdN mem p 4 < 4294967296 := by
  have h1 := wdN_lt h p 4
  have e : (256 : Nat) ^ 4 = 4294967296 := by decide
  rw [e] at h1
  exact h1
def Ad.fps (d : Ad) (p : Nat) (x : Nat × Nat × Nat) : Ad := { d with mem := psh 4 d.mem p (tri x) 3 }
def Ad.fpk (d : Ad) (p : Nat) (x : Nat × Nat × Nat) (k : Nat) : Ad := { d with mem := psh 4 d.mem p (tri x) k }
/-- the three numbers at p -/
def fr3 (d : Ad) (p : Nat) : Nat × Nat × Nat := (wdN d.mem p 4, wdN d.mem (p + 4) 4, wdN d.mem (p + 8) 4)
theorem right_yes (x : Nat × Nat × Nat) (w : World) (h : Rt x) : Calls Try.prog 47 #[.agg (Tri x)] w fun e w' => e = .returned (.bool true) ∧ Below w.heap.size w w' :=
  right_any _ _ _ w true (by
    obtain ⟨h1, h2, h3⟩ := h
    symm
    rw [decide_eq_true_eq]
    refine ⟨?_, ?_, ?_⟩ <;> omega)
theorem right_no (x y z : Int) (w : World) (h : ¬ (0 ≤ x ∧ x < 4294967296) ∨ ¬ (0 ≤ y ∧ y < 4294967296) ∨ ¬ (0 ≤ z ∧ z < 4294967296)) : Calls Try.prog 47 #[.agg #[.int .i64 x, .int .i64 y, .int .i64 z]] w fun e w' => e = .returned (.bool false) ∧ Below w.heap.size w w' :=
  right_any _ _ _ w false (by
    symm
    rw [decide_eq_false_iff_not]
    rintro ⟨h1, h2, h3⟩
    omega)
/-- n numbers, of which the first k are f's -/
def iRow (n k : Nat) (f : Nat → Nat) : List Value := (List.range n).map fun i => if i < k then I64 (f i) else I64 0
theorem iRow_len (n k : Nat) (f : Nat → Nat) : (iRow n k f).length = n := by simp [iRow]
theorem iRow_get {n k i : Nat} {f : Nat → Nat} (h : i < n) : (iRow n k f)[i]? = some (if i < k then I64 (f i) else I64 0) := by
  unfold iRow
  rw [List.getElem?_map, List.getElem?_range h]
  rfl
theorem iRow_set {n k : Nat} {f : Nat → Nat} (h : k < n) : (iRow n k f).set k (I64 (f k)) = iRow n (k + 1) f := by
  apply List.ext_getElem?
  intro i
  rw [List.getElem?_set]
  by_cases hi : i < n
  · rw [iRow_get hi, iRow_get hi, iRow_len]
    by_cases e : k = i
    · subst e; simp [h]
    · rw [if_neg e]
      by_cases q : i < k
      · rw [if_pos q, if_pos (by omega)]
      · rw [if_neg q, if_neg (by omega)]
  · have e : k ≠ i := by omega
    rw [if_neg e, List.getElem?_eq_none (by rw [iRow_len]; omega), List.getElem?_eq_none (by rw [iRow_len]; omega)]
theorem iRow_blk {w : World} {g n k : Nat} {t : TypeId} {f : Nat → Nat} (h : Blk w g t (iRow n k f).toArray) (hk : k < n) : Blk (w.setCell ⟨g, k, none⟩ (I64 (f k))) g t (iRow n (k + 1) f).toArray := by
  have := h.set_ k (I64 (f k))
  rw [← iRow_set hk]
  simpa using this
theorem below_drewN {B : Nat} {w w' : World} (h : Below B w w') (n : Nat) : Below B w (w'.drewN n) := ⟨h.os, h.tape, h.output, h.size, h.block⟩
theorem tri0 (x : Nat × Nat × Nat) : tri x 0 = x.1 := rfl
theorem tri1 (x : Nat × Nat × Nat) : tri x 1 = x.2.1 := rfl
theorem tri2 (x : Nat × Nat × Nat) : tri x 2 = x.2.2 := rfl
theorem fr3_tri (d : Ad) (p k : Nat) (hk : k < 3) : wdN d.mem (p + 4 * k) 4 = tri (fr3 d p) k := by
  rcases (by omega : k = 0 ∨ k = 1 ∨ k = 2) with rfl | rfl | rfl
  · rw [Nat.mul_zero, Nat.add_zero, tri0]; unfold fr3; dsimp only
  · rw [Nat.mul_one, tri1]; unfold fr3; dsimp only
  · rw [show 4 * 2 = 8 from rfl, tri2]; unfold fr3; dsimp only
theorem iRow_0 (f : Nat → Nat) : (iRow 3 0 f).toArray = #[.int .i64 0, .int .i64 0, .int .i64 0] := by
  simp [iRow, List.range_succ, I64]
theorem iRow_3 (x : Nat × Nat × Nat) : (iRow 3 3 (tri x)).toArray = Tri x := by
  simp [iRow, List.range_succ, I64, tri, Tri]
section
variable {w : World} {a bb rm gm : Nat} {d : Ad} {s at_ most h : Nat}
def FgPost (d : Ad) (at_ n : Nat) (w : World) (e : Ending) (w' : World) : Prop :=
  e = .returned (.agg (Tri (fr3 d (at_ + 12 * n)))) ∧ Below w.heap.size w w'
set_option maxHeartbeats 1000000 in
set_option maxRecDepth 100000 in
theorem fget_ok (H : FkI w a bb rm gm d s at_ most h) (n : Nat) (hn : n < most) : Calls Try.prog 49 #[.pointer (some ⟨s, 0, none⟩), .int .i64 n] w (FgPost d at_ n w) := by
  have h1 := H.hc
  have h2 := H.room
  have h3 := H.are.lim
  have HS := Lib.hid H
  obtain ⟨x, ex⟩ : ∃ x, x = fr3 d (at_ + 12 * n) := ⟨_, rfl⟩
  have HX := Lib.hid ex
  have hx : Rt x := by
    rw [ex]
    exact ⟨wdN_lt4 H.are.all _, wdN_lt4 H.are.all _, wdN_lt4 H.are.all _⟩
  obtain ⟨hx1, hx2, hx3⟩ := hx
  clear H ex
  go_enter Try.func49, Try.ntmps49
  go_wp2
  have hw := below2 w (.cells #[.int .i64 0, .int .i64 0, .int .i64 0] 58) (.cells #[.int .i64 0, .int .i64 0, .int .i64 0] 94)
  have hb0 : Blk ((w.alloc (.cells #[.int .i64 0, .int .i64 0, .int .i64 0] 58)).alloc (.cells #[.int .i64 0, .int .i64 0, .int .i64 0] 94)) w.heap.size 58 #[.int .i64 0, .int .i64 0, .int .i64 0] := (Blk.new w 58 _).alloc _
  have hb1 : Blk ((w.alloc (.cells #[.int .i64 0, .int .i64 0, .int .i64 0] 58)).alloc (.cells #[.int .i64 0, .int .i64 0, .int .i64 0] 94)) (w.heap.size + 1) 94 (iRow 3 0 (tri x)).toArray := by rw [iRow_0]; exact heap2 w _ _
  obtain ⟨W0, hW0⟩ : ∃ W0, W0 = ((w.alloc (.cells #[.int .i64 0, .int .i64 0, .int .i64 0] 58)).alloc (.cells #[.int .i64 0, .int .i64 0, .int .i64 0] 94)) := ⟨_, rfl⟩
  rw [← hW0] at hw hb0 hb1 ⊢
  have HW := Lib.hid hw
  have HB0 := Lib.hid hb0
  have HB1 := Lib.hid hb1
  clear hw hb0 hb1 hW0
  go_loopw [6, 7, 8, 9] (fun v6 v7 v8 v9 wr => ∃ k : Nat, k ≤ 3 ∧ v9 = .int .i64 k ∧ Hid (Blk wr (w.heap.size + 1) 94 (iRow 3 k (tri x)).toArray) ∧ Hid (Blk wr w.heap.size 58 #[.int .i64 0, .int .i64 0, .int .i64 0]) ∧ Hid (Below w.heap.size w wr)) (fun _ _ _ v9 _ => 3 - (intOf v9).toNat)
  case atStart => exact ⟨0, by omega, rfl, HB1, HB0, HW⟩
  case round =>
    obtain ⟨k, hk, rfl, HQ, HZ, HB⟩ := hrel
    have hS := HS.out.below HB.out
    by_cases hlt : k < 3
    · have c0 : wr.cell? ⟨s, 0, none⟩ = some (.pointer (some ⟨a, 0, none⟩)) := hS.blk.cell 0
      have c1 : wr.cell? ⟨s, 1, none⟩ = some (.int .i64 at_) := hS.blk.cell 1
      have HG := fun q => Get_ok a bb rm gm d (at_ + 12 * n + 4 * k) 4 (wr.drewN q) (hS.are.drewN q) (.inl rfl) (by omega)
      have et : wdN d.mem (at_ + 12 * n + 4 * k) 4 = tri x k := by
        rw [HX.out]
        exact fr3_tri d _ k hlt
      have ht : tri x k < 4294967296 := by rw [← et]; exact wdN_lt4 hS.are.all _
      rw [et] at HG
      have e1 : ((at_ + 12 * n + 4 * k : Nat) : Int) = (at_ : Int) + 12 * (n : Int) + 4 * (k : Int) := by omega
      rw [e1] at HG
      have HG := Lib.hid HG
      have d5 : ∀ m, ∃ v0, (wr.drewN m).cell? ⟨w.heap.size + 1, k, none⟩ = some v0 := fun m => ⟨_, (HQ.out.cell k).trans (by rw [List.getElem?_toArray, iRow_get hlt])⟩
      have z5 : ∀ m, (wr.drewN m).frozen? ⟨w.heap.size + 1, k, none⟩ = false := fun m => HQ.out.frozen k
      have HN : Hid (∀ m, Blk ((wr.drewN m).setCell ⟨w.heap.size + 1, k, none⟩ (I64 (tri x k))) (w.heap.size + 1) 94 (iRow 3 (k + 1) (tri x)).toArray) := Lib.hid (fun m => iRow_blk (HQ.out.drewN m) hlt)
      obtain ⟨y, ey⟩ : ∃ y, y = tri x k := ⟨_, rfl⟩
      rw [← ey] at HG HN ht
      clear ey et e1 hS
      go_wp2
      go_quiet ((go_at_call 53; exact quiet_left (HG.out _)))
      obtain ⟨v0, d6⟩ := d5 nq
      have z6 := z5 nq
      go_wp2
      exact ⟨⟨k + 1, by omega, by go_num, Lib.hid (HN.out _), Lib.hid ((HZ.out.drewN _).far (p := ⟨w.heap.size + 1, k, none⟩) (by show w.heap.size ≠ w.heap.size + 1; omega) _), Lib.hid ((below_drewN HB.out nq).setCell (p := ⟨w.heap.size + 1, k, none⟩) (by show w.heap.size ≤ w.heap.size + 1; omega) _)⟩, by simp [intOf]; omega⟩
    · obtain rfl : k = 3 := by omega
      have hq := HQ.out
      rw [iRow_3] at hq
      have a0 : wr.cell? ⟨w.heap.size + 1, 0, none⟩ = some (.int .i64 x.1) := hq.cell 0
      have a1 : wr.cell? ⟨w.heap.size + 1, 1, none⟩ = some (.int .i64 x.2.1) := hq.cell 1
      have a2 : wr.cell? ⟨w.heap.size + 1, 2, none⟩ = some (.int .i64 x.2.2) := hq.cell 2
      clear hq
      have b0 : wr.cell? ⟨w.heap.size, 0, none⟩ = some (.int .i64 0) := HZ.out.cell 0
      have b1 : wr.cell? ⟨w.heap.size, 1, none⟩ = some (.int .i64 0) := HZ.out.cell 1
      have b2 : wr.cell? ⟨w.heap.size, 2, none⟩ = some (.int .i64 0) := HZ.out.cell 2
      have z0 := HZ.out.frozen 0
      have z1 := HZ.out.frozen 1
      have z2 := HZ.out.frozen 2
      clear hS
      go_wp2
      refine bodyPost_ret (v := .agg (Tri x)) (results_cell_row results49 _ _ w.heap.size 58 _ (0, 0) _ rfl (((HZ.out.set_ 0 _).set_ 1 _).set_ 2 _) Try.underlying58 rfl (by kernel_rfl)) rfl ?_
      refine ⟨by rw [← HX.out], ?_⟩
      exact ((HB.out.setCell (p := ⟨w.heap.size, 0, none⟩) (Nat.le_refl _) _).setCell (p := ⟨w.heap.size, 1, none⟩) (Nat.le_refl _) _).setCell (p := ⟨w.heap.size, 2, none⟩) (Nat.le_refl _) _
end
end Go.Proofs.Ythfdblpodnodcaa
