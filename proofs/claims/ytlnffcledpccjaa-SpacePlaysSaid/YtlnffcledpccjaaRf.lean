/-
  b[i:j] of bytes; what a memory holds when bytes are written to it.
-/
import Derived.Test.YtlnffcledpccjaaRe
namespace Go.Proofs.Ytlnffcledpccjaa
open Go.RowKit
set_option linter.unusedVariables false
def cutA (A : Option Addr) (cap a : Nat) : Option Addr := if cap = a then A else A.map (·.add (a * 1))
theorem el34 : Try.prog.underlying 34 = some (.slice (Try.prog.elem 34)) := by kernel_rfl
theorem sz34 (W : World) : (sizeOf (Try.prog.elem 34)).run Try.prog W = .ok 1 W := by kernel_rfl
theorem cut_run (A : Option Addr) (n cap a b : Nat) (hi : Int) (hh : hi = (b : Int)) (h1 : a ≤ b) (h2 : b ≤ cap) (W : World) :
    (Instr.slice 34 (.slice A n cap) (some (.int .i64 (a : Int))) (some (.int .i64 hi)) none).run Try.prog W = .ok (.slice (cutA A cap a) (b - a) (cap - a)) W := by
  subst hh
  rw [run_slice_lh (P := Try.prog) W 34 A n cap el34 .i64 .i64 (a : Int) (b : Int) (by omega) (by omega) (by omega), sz34]
  simp [Result.andThen, sliced, cutA]
theorem cut_byt {w : World} {A : Option Addr} {n cap a b : Nat} {l : List Nat} (h : Byt w A n cap l) (h1 : a ≤ b) (h2 : b ≤ n) : Byt w (cutA A cap a) (b - a) (cap - a) ((l.drop a).take (b - a)) := by
  obtain ⟨hl, hx, hn, hcap, hc⟩ := h
  refine ⟨by rw [List.length_take, List.length_drop]; omega, fun x hm => hx x (List.mem_of_mem_drop (List.mem_of_mem_take hm)), by omega, by omega, fun h0 => ?_⟩
  obtain ⟨g, off, rfl, hlt, hcell⟩ := hc (by omega)
  refine ⟨g, off + a, ?_, hlt, fun j hj => ?_⟩
  · unfold cutA
    rw [if_neg (by omega), Nat.mul_one]
    rw [Option.map_some, addr_add]
  · rw [show off + a + j = off + (a + j) from by omega, hcell (a + j) (by omega)]
    congr 3
    rw [List.getD_eq_getElem?_getD, List.getD_eq_getElem?_getD, List.getElem?_take_of_lt hj, List.getElem?_drop]
/-- the first fr bytes of l are written from a place on -/
def wrm (C : Nat × Nat → List Nat) (num sz place : Nat) (l : List Nat) (fr : Nat) (x : Nat × Nat) : List Nat :=
  if x.1 = num then (List.range sz).map fun i => if place ≤ x.2 * sz + i ∧ x.2 * sz + i < place + fr then l.getD (x.2 * sz + i - place) 0 else (C x).getD i 0 else C x
theorem wrm_get {C : Nat × Nat → List Nat} {num sz place : Nat} {l : List Nat} {fr : Nat} {x : Nat × Nat} (hx : x.1 = num) {i : Nat} (hi : i < sz) : (wrm C num sz place l fr x)[i]? = some (if place ≤ x.2 * sz + i ∧ x.2 * sz + i < place + fr then l.getD (x.2 * sz + i - place) 0 else (C x).getD i 0) := by
  unfold wrm
  rw [if_pos hx, List.getElem?_map, List.getElem?_range hi]; rfl
theorem wrm_len {C : Nat × Nat → List Nat} {num sz place : Nat} {l : List Nat} {fr : Nat} (hC : ∀ x, (C x).length = sz) (x : Nat × Nat) : (wrm C num sz place l fr x).length = sz := by
  unfold wrm
  split
  · simp
  · exact hC x
theorem wrm_zero {C : Nat × Nat → List Nat} {num sz place : Nat} {l : List Nat} (hC : ∀ x, (C x).length = sz) : wrm C num sz place l 0 = C := by
  funext x
  by_cases hx : x.1 = num
  · apply List.ext_getElem?
    intro i
    by_cases hi : i < sz
    · rw [wrm_get hx hi, if_neg (by omega), List.getD_eq_getElem?_getD, List.getElem?_eq_getElem (by rw [hC]; exact hi)]; rfl
    · rw [List.getElem?_eq_none (by rw [wrm_len hC]; omega), List.getElem?_eq_none (by rw [hC]; omega)]
  · unfold wrm; rw [if_neg hx]
theorem wrm_next {C : Nat × Nat → List Nat} {num sz place : Nat} {l : List Nat} {fr t : Nat} (hC : ∀ x, (C x).length = sz) (hs : 0 < sz) (h1 : fr < t) (h2 : t ≤ l.length) (h3 : (place + fr) % sz + (t - fr) ≤ sz) :
    upd (wrm C num sz place l fr) (num, (place + fr) / sz) (putM (wrm C num sz place l fr (num, (place + fr) / sz)) ((place + fr) % sz) ((l.drop fr).take (t - fr))) = wrm C num sz place l t := by
  have hd := Nat.div_add_mod (place + fr) sz
  have hm := Nat.mod_lt (place + fr) hs
  funext x
  by_cases hx : x.1 = num
  · apply List.ext_getElem?
    intro i
    have hll : ((l.drop fr).take (t - fr)).length = t - fr := by rw [List.length_take, List.length_drop]; omega
    by_cases hxq : x = (num, (place + fr) / sz)
    · subst hxq
      rw [upd_same]
      have hpl : (place + fr) % sz + ((l.drop fr).take (t - fr)).length ≤ (wrm C num sz place l fr (num, (place + fr) / sz)).length := by rw [hll, wrm_len hC]; exact h3
      rw [putM_get hpl, hll]
      by_cases hi : i < sz
      · have ef := wrm_get (C := C) (num := num) (place := place) (l := l) (fr := fr) (x := (num, (place + fr) / sz)) rfl hi
        have et := wrm_get (C := C) (num := num) (place := place) (l := l) (fr := t) (x := (num, (place + fr) / sz)) rfl hi
        rw [ef, et]
        have hmul : sz * ((place + fr) / sz) = (place + fr) / sz * sz := Nat.mul_comm _ _
        simp only
        generalize hy : (place + fr) / sz * sz = y at hmul ⊢
        by_cases h4 : i < (place + fr) % sz
        · rw [if_pos h4]
          by_cases hold : place ≤ y + i ∧ y + i < place + fr
          · rw [if_pos hold, if_pos (by omega)]
          · rw [if_neg hold, if_neg (by omega)]
        · rw [if_neg h4]
          by_cases h5 : i < (place + fr) % sz + (t - fr)
          · rw [if_pos h5, if_pos (by omega), List.getElem?_take_of_lt (by omega), List.getElem?_drop, List.getD_eq_getElem?_getD, show fr + (i - (place + fr) % sz) = y + i - place by omega, List.getElem?_eq_getElem (by omega)]
            rfl
          · rw [if_neg h5]
            by_cases hold : place ≤ y + i ∧ y + i < place + fr
            · rw [if_pos hold, if_pos (by omega)]
            · rw [if_neg hold, if_neg (by omega)]
      · have hn1 : (wrm C num sz place l t (num, (place + fr) / sz))[i]? = none := List.getElem?_eq_none (by rw [wrm_len hC]; omega)
        have hn2 : (wrm C num sz place l fr (num, (place + fr) / sz))[i]? = none := List.getElem?_eq_none (by rw [wrm_len hC]; omega)
        rw [hn1, hn2, if_neg (by omega), if_neg (by omega)]
    · rw [upd_other _ _ _ hxq]
      by_cases hi : i < sz
      · rw [wrm_get hx hi, wrm_get hx hi]
        have hne : x.2 ≠ (place + fr) / sz := fun e => hxq (Prod.ext hx e)
        congr 1
        by_cases hold : place ≤ x.2 * sz + i ∧ x.2 * sz + i < place + fr
        · rw [if_pos hold, if_pos (by omega)]
        · rw [if_neg hold, if_neg ?_]
          rintro ⟨g1, g2⟩
          have g3 : place + fr ≤ x.2 * sz + i := by omega
          apply hne
          have e1 : (x.2 * sz + i) / sz = x.2 := by rw [Nat.mul_comm, Nat.mul_add_div hs, Nat.div_eq_of_lt hi, Nat.add_zero]
          rw [← e1]
          have g4 : x.2 * sz + i < sz * ((place + fr) / sz) + sz := by omega
          apply Nat.le_antisymm
          · have : (x.2 * sz + i) / sz < (place + fr) / sz + 1 := by
              rw [Nat.div_lt_iff_lt_mul hs, Nat.add_mul, Nat.one_mul, Nat.mul_comm ((place + fr) / sz)]; exact g4
            omega
          · exact Nat.div_le_div_right g3
      · rw [List.getElem?_eq_none (by rw [wrm_len hC]; omega), List.getElem?_eq_none (by rw [wrm_len hC]; omega)]
  · rw [upd_other _ _ _ (fun e => hx (by rw [e]))]
    unfold wrm
    rw [if_neg hx, if_neg hx]
end Go.Proofs.Ytlnffcledpccjaa
