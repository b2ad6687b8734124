/-
  small; Top with numbers written out; a row of frames of which one number is set.
-/
import Derived.Test.YthfdblpodnodcaaVb
import Derived.Test.YthfdblpodnodcaaUj
namespace Go.Proofs.Ythfdblpodnodcaa
open Go.RowKit
set_option linter.unusedVariables false
set_option maxRecDepth 100000 in
theorem small_yes (n : Int) (w : World) (h : 0 ≤ n ∧ n < 4294967296) : Calls Try.prog 29 #[.int .i64 n] w fun e w' => e = .returned (.bool true) ∧ w = w' := by
  obtain ⟨h1, h2⟩ := h
  have h3 : n ≤ 4294967295 := by omega
  clear h2
  go_enter Try.func29, Try.ntmps29
  go_wp2
  go_ret
  exact ⟨rfl, rfl⟩
set_option maxRecDepth 100000 in
theorem small_no (n : Int) (w : World) (h : ¬ (0 ≤ n ∧ n < 4294967296)) : Calls Try.prog 29 #[.int .i64 n] w fun e w' => e = .returned (.bool false) ∧ w = w' := by
  rcases Int.lt_or_le n 0 with h1 | h1
  · clear h
    go_enter Try.func29, Try.ntmps29
    go_wp2
    go_ret
    exact ⟨rfl, rfl⟩
  · have h2 : 4294967295 < n := by omega
    clear h
    go_enter Try.func29, Try.ntmps29
    go_wp2
    go_ret
    exact ⟨by simp; exact h2, rfl⟩
section
variable {w w' : World} {a bb rm gm : Nat} {d : Ad} {s at_ most h : Nat}
theorem Top_w (H : FkI w a bb rm gm d s at_ most (h + 1)) (x y z : Nat) (hx : fr3 d (at_ + 12 * h) = (x, y, z)) : Calls Try.prog 31 #[.pointer (some ⟨s, 0, none⟩)] w fun e w' => e = .returned (.tuple #[.agg #[.int .i64 x, .int .i64 y, .int .i64 z], .int .i64 0]) ∧ Below w.heap.size w w' := by
  have := Top_ok H
  rw [hx] at this
  exact this
end
theorem list_take_set {α : Type} (l : List α) (k i : Nat) (u : α) (h : i < k) : (l.set i u).take k = (l.take k).set i u := by
  rw [List.take_set]
theorem rowsF_set (F : Nat → Nat × Nat × Nat) (n p : Nat) : (rowsF F (n + 1)).set (n * 3 + 1) (.int .i64 p) = rowsF (fun j => if j = n then ((F n).1, p, (F n).2.2) else F j) (n + 1) := by
  have hl := rowsF_len F n
  rw [rowsF_succ, rowsF_succ, List.set_append_right _ _ (by omega), hl, show n * 3 + 1 - n * 3 = 1 by omega]
  have e : rowsF (fun j => if j = n then ((F n).1, p, (F n).2.2) else F j) n = rowsF F n := rowsF_congr n (fun j hj => by
    show (if j = n then ((F n).1, p, (F n).2.2) else F j) = F j
    rw [if_neg (by omega)])
  rw [e]
  simp
theorem own_set {w : World} {B g n c : Nat} {F : Nat → Nat × Nat × Nat} {p : Nat} (h : w.ownsRow B 58 3 (.slice (some ⟨g, 0, none⟩) (n + 1) c) (n + 1) (rowsF F (n + 1))) :
    (w.setCell ⟨g, n * 3 + 1, none⟩ (.int .i64 p)).ownsRow B 58 3 (.slice (some ⟨g, 0, none⟩) (n + 1) c) (n + 1) (rowsF (fun j => if j = n then ((F n).1, p, (F n).2.2) else F j) (n + 1)) := by
  refine ⟨by rw [rowsF_len], ?_⟩
  rcases h.2 with ⟨e, _⟩ | ⟨g', cap, cur, e, hB, hg, hc, hm, hs, ht⟩
  · cases e
  · injection e with e1 e2 e3
    injection e1 with e1
    injection e1 with e1
    subst e1 e3
    refine .inr ⟨g, c, cur.setIfInBounds (n * 3 + 1) (.int .i64 p), rfl, hB, Blk.set_ hg _ _, hc, hm, by simpa using hs, ?_⟩
    rw [← rowsF_set, ← ht, Array.toList_setIfInBounds, list_take_set _ _ _ _ (by omega)]
theorem own_cellF {w : World} {B g n c : Nat} {F : Nat → Nat × Nat × Nat} (h : w.ownsRow B 58 3 (.slice (some ⟨g, 0, none⟩) n c) n (rowsF F n)) (j : Nat) (hj : j < n) :
    w.cell? ⟨g, j * 3, none⟩ = some (.int .i64 (F j).1) ∧ w.cell? ⟨g, j * 3 + 1, none⟩ = some (.int .i64 (F j).2.1) ∧ w.cell? ⟨g, j * 3 + 2, none⟩ = some (.int .i64 (F j).2.2) := by
  obtain ⟨h0, h1, h2⟩ := rowsF_at F j n hj
  rcases h.2 with ⟨e, _⟩ | ⟨g', cap, cur, e, hB, hg, hc, hm, hs, ht⟩
  · cases e
  · injection e with e1 e2 e3
    injection e1 with e1
    injection e1 with e1
    subst e1
    have hat : ∀ i v, i < n * 3 → (rowsF F n)[i]? = some v → w.cell? ⟨g, i, none⟩ = some v := fun i v hi hv => by
      rw [Blk.cell hg, ← Array.getElem?_toList]
      rw [← ht, List.getElem?_take_of_lt hi] at hv
      exact hv
    exact ⟨hat _ _ (by omega) h0, hat _ _ (by omega) h1, hat _ _ (by omega) h2⟩
theorem own_frozenF {w : World} {B g n c : Nat} {xs : List Value} (h : w.ownsRow B 58 3 (.slice (some ⟨g, 0, none⟩) n c) n xs) (i : Nat) : w.frozen? ⟨g, i, none⟩ = false := by
  rcases h.2 with ⟨e, _⟩ | ⟨g', cap, cur, e, hB, hg, hc, hm, hs, ht⟩
  · cases e
  · injection e with e1 e2 e3
    injection e1 with e1
    injection e1 with e1
    subst e1
    exact Blk.frozen hg i
theorem own_srcF {w : World} {B g n c m : Nat} {F : Nat → Nat × Nat × Nat} (h : w.ownsRow B 58 3 (.slice (some ⟨g, 0, none⟩) n c) n (rowsF F n)) (hm : m ≤ n) : ∀ j u, (rowsF F m)[j]? = some u → w.cell? ((⟨g, 0, none⟩ : Addr).add j) = some u := by
  intro j u hj
  have hlt : j < m * 3 := by
    have := (List.getElem?_eq_some_iff.1 hj).1
    rw [rowsF_len] at this
    exact this
  obtain ⟨k, i, hk, rfl⟩ : ∃ k i, i < 3 ∧ j = k * 3 + i := ⟨j / 3, j % 3, Nat.mod_lt _ (by omega), by omega⟩
  obtain ⟨u0, u1, u2⟩ := rowsF_at F k m (by omega)
  obtain ⟨v0, v1, v2⟩ := own_cellF h k (by omega)
  rw [addr_add, Nat.zero_add]
  rcases (by omega : i = 0 ∨ i = 1 ∨ i = 2) with rfl | rfl | rfl
  · rw [Nat.add_zero] at hj ⊢
    rw [u0] at hj
    rw [v0]; exact hj
  · rw [u1] at hj
    rw [v1]; exact hj
  · rw [u2] at hj
    rw [v2]; exact hj
theorem FkI.set58 {w : World} {a bb rm gm : Nat} {d : Ad} {s at_ most h B g n c i : Nat} {xs : List Value} (H : FkI w a bb rm gm d s at_ most h) (ho : w.ownsRow B 58 3 (.slice (some ⟨g, 0, none⟩) n c) n xs) (u : Value) : FkI (w.setCell ⟨g, i, none⟩ u) a bb rm gm d s at_ most h :=
  H.fr58 ((Fr.refl (· = g) w).set_ (p := ⟨g, i, none⟩) rfl u) (fun k hk => by rw [hk]; exact ownG_ty ho rfl)
theorem Lo.set58 {w0 w : World} {bb s g n c i : Nat} {xs : List Value} (H : Lo w0 w bb s) (ho : w.ownsRow w0.heap.size 58 3 (.slice (some ⟨g, 0, none⟩) n c) n xs) (u : Value) : Lo w0 (w.setCell ⟨g, i, none⟩ u) bb s :=
  ⟨((Fr.refl (· = g) w).set_ (p := ⟨g, i, none⟩) rfl u).below H.bel H.bel.size (fun k hk => by rw [hk]; exact ownG_base ho rfl), H.hb, H.hs⟩
/-- a block of the call's own that is no part of what is known is written -/
theorem FPI.new58 {w0 w w' : World} {a bb rm gm s most n y : Nat} {D : Ad} {F : Nat → Nat × Nat × Nat} {v : Value} (H : FPI w0 w a bb rm gm s most D n F v) (hf : Fr (· = y) w w') (hy : ∃ cs, Blk w y 58 cs) (hv : v.ownBlock ≠ some y) (hB : w0.heap.size ≤ y) : FPI w0 w' a bb rm gm s most D n F v := by
  obtain ⟨M, h1, h2⟩ := H.fk
  exact ⟨⟨M, h1.fr58 hf (fun k hk => by rw [hk]; exact hy), h2⟩, H.rt, ownG_fr H.own hf (fun k hk q => hv (by rw [hk, q])), ⟨hf.below H.lo.bel H.lo.bel.size (fun k hk => by rw [hk]; exact hB), H.lo.hb, H.lo.hs⟩⟩
theorem ownG_new {base E size : Nat} {w : World} {v : Value} {n y : Nat} {xs : List Value} (h : w.ownsRow base E size v n xs) (hy : w.heap.size ≤ y) : v.ownBlock ≠ some y := fun e => by
  obtain ⟨cs, hcs⟩ := ownG_ty h e
  have := hcs.lt
  omega
theorem FPI.dr {w0 w : World} {a bb rm gm s most n : Nat} {D : Ad} {F : Nat → Nat × Nat × Nat} {v : Value} (H : FPI w0 w a bb rm gm s most D n F v) (k : Nat) : FPI w0 (w.drewN k) a bb rm gm s most D n F v :=
  H.mv ⟨rfl, rfl, rfl, Nat.le_refl _, fun _ _ => rfl⟩
end Go.Proofs.Ythfdblpodnodcaa
