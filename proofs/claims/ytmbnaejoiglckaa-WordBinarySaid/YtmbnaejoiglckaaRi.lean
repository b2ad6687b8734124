/-
  The document's own rows of bits: the other sign (neg), moved (shift), exclusive or (mix): for WordBinary.
-/
import Derived.Test.YtmbnaejoiglckaaRh
import Derived.Laws.MakeOwn
import Derived.Deep.RegionWith
namespace Go.Proofs.Ytmbnaejoiglckaa
open Go.RowKit
set_option linter.unusedVariables false
/-- a new row, into which may be written -/
def FPost (B n x : Nat) (w : World) (e : Ending) (w' : World) : Prop :=
  ∃ g cp, e = .returned (.slice (some ⟨g, 0, none⟩) n cp) ∧ n ≤ cp ∧ cp ≤ 9223372036854775807 ∧ Bo w' g n (bt x) ∧ B ≤ g ∧ Below B w w' ∧ ∀ i, w'.frozen? ⟨g, i, none⟩ = false
theorem bo_of_own2 {w : World} {B n : Nat} {v : Value} {f : Nat → Bool} (h : w.ownsRow B 4 1 v n (BL f n)) (hn : 0 < n) :
    ∃ g cp, v = .slice (some ⟨g, 0, none⟩) n cp ∧ n ≤ cp ∧ cp ≤ maxLen ∧ Bo w g n f ∧ B ≤ g ∧ ∀ i, w.frozen? ⟨g, i, none⟩ = false := by
  obtain ⟨g, cp, hv, h1, h2, h3, h4⟩ := bo_of_own h hn
  refine ⟨g, cp, hv, h1, h2, h3, h4, fun i => ?_⟩
  rcases h.2 with ⟨hv2, h0⟩ | ⟨g2, cap, cur, hv2, hB, hg, _⟩
  · omega
  · rw [hv] at hv2
    injection hv2 with e1 e2 e3
    injection e1 with e1
    injection e1 with e1
    subst e1
    simp [World.frozen?, hg]
theorem bo_made (w : World) (n : Nat) : Bo (w.alloc (.cells (madeCells #[Value.bool false] n) 4)) w.heap.size n (bt 0) := by
  refine ⟨by rw [World.size_alloc]; omega, fun i hi => ?_⟩
  have e : bt 0 i = false := by unfold bt; simp
  rw [e]
  rw [World.cell?_alloc_at _ _ _ _ rfl]
  show (madeCells #[Value.bool false] n)[i]? = _
  rw [← Array.getElem?_toList, toList_madeCells_one]
  simp [hi]
theorem fz_made (w : World) (n i : Nat) : (w.alloc (.cells (madeCells #[Value.bool false] n) 4)).frozen? ⟨w.heap.size, i, none⟩ = false := by
  have := heap_alloc_new w (.cells (madeCells #[Value.bool false] n) 4)
  unfold World.frozen?
  rw [this]
  simp
theorem run_mk (n : Nat) (hn : n ≤ 65) (w : World) : (Instr.makeSlice 41 (.int .i64 n) (.int .i64 n)).run Try.prog w = .ok (.slice (some ⟨w.heap.size, 0, none⟩) n n) (w.alloc (.cells (madeCells #[Value.bool false] n) 4)) := by
  obtain ⟨i0, hi, hz0, hz1, hz2⟩ := info4_parts
  have := run_make (P := Try.prog) w 41 4 i0 _ Try.underlying41 hi hz0 .i64 .i64 (n : Int) (n : Int) (by omega) (by omega) (by rw [hz2]; omega) (by omega)
  rw [Int.toNat_natCast, hz1, Nat.mul_one] at this
  exact this
theorem Not_v (g0 cp0 n x : Nat) (w : World) (hn : 1 ≤ n) (hn2 : n ≤ 65) (hcp : n ≤ cp0) (hcp2 : cp0 ≤ 9223372036854775807) (hx : x < 2 ^ n) (hb : Bo w g0 n (bt x)) :
    Calls Try.prog 35 #[.slice (some ⟨g0, 0, none⟩) n cp0] w (LPost w.heap.size n (bt (2 ^ n - 1 - x)) w) :=
  (Not_any g0 cp0 n (bt x) w hn hn2 hcp hcp2 hb).mono fun e w' h => h.is (by
    have := vl_not (bt x) n 0
    rw [vl_self hx] at this
    omega)
theorem Bo.alloc {w : World} {g n : Nat} {f : Nat → Bool} (h : Bo w g n f) (o : Obj) : Bo (w.alloc o) g n f :=
  h.below ((Below.refl w.heap.size w).alloc (Nat.le_refl _) o) h.1
theorem Bo.drew {w : World} {g n : Nat} {f : Nat → Bool} (h : Bo w g n f) : Bo w.drew g n f := h
theorem bo_made_drew (w : World) (n : Nat) (w1 : World) (h : Below (w.alloc (.cells (madeCells #[Value.bool false] n) 4)).drew.heap.size (w.alloc (.cells (madeCells #[Value.bool false] n) 4)).drew w1) : Bo w1 w.heap.size n (bt 0) :=
  (bo_made w n).drew.below h (show w.heap.size < (w.alloc (.cells (madeCells #[Value.bool false] n) 4)).heap.size by rw [World.size_alloc]; omega)
set_option maxHeartbeats 2000000 in
set_option maxRecDepth 100000 in
theorem Neg_v (g1 c1 n x : Nat) (w : World) (hn : 1 ≤ n) (hn2 : n ≤ 64) (hc1 : n ≤ c1) (hd1 : c1 ≤ 9223372036854775807) (hx : x < 2 ^ n) (h1 : Bo w g1 n (bt x)) :
    Calls Try.prog 25 #[.slice (some ⟨g1, 0, none⟩) n c1] w (LPost w.heap.size n (bt ((2 ^ n - x) % 2 ^ n)) w) := by
  have N := Lib.hid (fun (W : World) (hb : Bo W g1 n (bt x)) => Not_v g1 c1 n x W hn (by omega) hc1 hd1 hx hb)
  have A := Lib.hid (fun (W : World) (g c g' : Nat) (a1 : n ≤ c) (a2 : c ≤ 9223372036854775807) (b1 : Bo W g n (bt (2 ^ n - 1 - x))) (b2 : Bo W g' n (bt 0)) => Add_v g c g' n n (2 ^ n - 1 - x) 0 true W hn (by omega) a1 (Nat.le_refl _) a2 (by omega) (by omega) (by omega) b1 b2)
  have E : Hid ((2 ^ n - 1 - x + 0 + true.toNat) % 2 ^ n = (2 ^ n - x) % 2 ^ n) := Lib.hid (by simp; congr 1; omega)
  rw [← E.out]
  generalize (2 ^ n - 1 - x + 0 + true.toNat) % 2 ^ n = y at A
  generalize 2 ^ n - 1 - x = z at A N
  have H1 := Lib.hid h1
  have hmk := fun W : World => run_mk n (by omega) W
  clear h1 hx E
  go_enter Try.func25, Try.ntmps25
  go_wp2
  go_region_with (first
    | (go_at_call 35; with_reducible refine (N.out _ (by first | exact H1.out | exact H1.out.alloc _ | exact H1.out.drew | exact (H1.out.alloc _).drew)).mono ?_; rintro e w1 hL; unfold LPost at hL; obtain ⟨g, cp, rfl, n1, m1, b1, k1, h1⟩ := hL; have B1 := Lib.hid b1; have HB := Lib.hid h1; (try have BM := Lib.hid (bo_made_drew w n w1 h1)); clear b1 h1)
    | (go_at_call 21; with_reducible refine (A.out _ _ _ _ n1 m1 (by first | exact B1.out | exact B1.out.alloc _) (by first | exact bo_made _ _ | exact BM.out)).mono ?_; rintro e w2 hL; unfold LPost at hL; obtain ⟨g', cp', rfl, n2, m2, b2, k2, h2⟩ := hL; have B2 := Lib.hid b2; have H2 := Lib.hid h2; clear b2 h2))
  · rename_i K ha
    show K _ _
    apply ha
    simp only [Act.put, List.getElem_toArray, List.getElem_cons_succ, List.getElem_cons_zero, List.setIfInBounds_toArray, List.set_cons_zero, List.set_cons_succ]
    go_wp2
    go_ret
    have hs := HB.out.size
    exact ⟨g', cp', rfl, n2, m2, B2.out, Nat.le_trans (Nat.le_trans hs (World.size_alloc w1 _ ▸ Nat.le_succ _)) k2, ((drew_below (Below.refl _ w) 1).trans HB.out).trans (((Below.refl w1.heap.size w1).alloc (Nat.le_refl _) _).trans (H2.out.mono (World.size_alloc w1 _ ▸ Nat.le_succ _)) |>.mono hs)⟩
  · rename_i K ha
    show K _ _
    apply ha
    simp only [Act.put, List.getElem_toArray, List.getElem_cons_succ, List.getElem_cons_zero, List.setIfInBounds_toArray, List.set_cons_zero, List.set_cons_succ]
    go_wp2
    go_ret
    have hs : w.heap.size ≤ w1.heap.size := Nat.le_trans (show w.heap.size ≤ (w.alloc (.cells (madeCells #[Value.bool false] n) 4)).heap.size by rw [World.size_alloc]; omega) HB.out.size
    have hb1 : Below w.heap.size w w1 := (drew_below ((Below.refl w.heap.size w).alloc (Nat.le_refl _) (.cells (madeCells #[Value.bool false] n) 4)) 1).trans (HB.out.mono (show w.heap.size ≤ (w.alloc (.cells (madeCells #[Value.bool false] n) 4)).heap.size by rw [World.size_alloc]; omega))
    exact ⟨g', cp', rfl, n2, m2, B2.out, Nat.le_trans hs k2, hb1.trans (H2.out.mono hs)⟩
end Go.Proofs.Ytmbnaejoiglckaa
