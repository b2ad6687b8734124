/-
  space.Memory.parts; a memory as it is told, and its bytes.
-/
import Derived.Test.YtlnffcledpccjaaRc
import Derived.OwnWalk
namespace Go.Proofs.Ytlnffcledpccjaa
open Go.RowKit Go.Shelf
set_option linter.unusedVariables false
/-- in a round a region goes by its list -/
theorem region_in_list {P : Program} {ops : Array Oper} {Q : Exit → Act → World → Prop} {l n id : Nat} {a : Act} {w : World} (hd : ndf ops) (hq : ¬ LetsOut Q) (h : wpList P ops Q ops.toList a w) : (Code.region id ops false).wpIn (Fence.wide.inRound l) n P Q a w :=
  region_in hd hq (by rw [List.range_eq_range', ← Array.length_toList, wpOps_eq_wpList ops.toList 0 (by simp)]; exact h)
set_option maxRecDepth 100000 in
theorem parts_ok (M place n : Nat) (w : World) (hp : place ≤ 4611686018427387904) (hn : n ≤ 4611686018427387904) : Calls Try.prog 55 #[.pointer (some ⟨M, 0, none⟩), .int .u64 place, .int .i64 n] w fun e w' => e = .returned (.func (.func 73) #[] #[.pointer (some ⟨w.heap.size, 0, none⟩), .pointer (some ⟨w.heap.size + 2, 0, none⟩), .pointer (some ⟨w.heap.size + 1, 0, none⟩)]) ∧
    w' = ((w.alloc (.cells #[.pointer (some ⟨M, 0, none⟩)] 48)).alloc (.cells #[.int .u64 place] 56)).alloc (.cells #[.int .i64 n] 3) := by
  go_enter Try.func55, Try.ntmps55
  go_wp2
  go_ret
  exact ⟨rfl, rfl⟩
/-- a byte of a memory: byte i of memory num -/
def mby (C : Nat × Nat → List Nat) (num sz i : Nat) : Nat := (C (num, i / sz)).getD (i % sz) 0
def mbs (C : Nat × Nat → List Nat) (num sz place n : Nat) : List Nat := (List.range n).map fun i => mby C num sz (place + i)
theorem mbs_len (C : Nat × Nat → List Nat) (num sz place n : Nat) : (mbs C num sz place n).length = n := by simp [mbs]
theorem nxt_lt {place n sz fr : Nat} (h : fr < n) (hs : 0 < sz) : fr < nxt place n sz fr ∧ nxt place n sz fr ≤ n ∧ (place + fr) % sz + (nxt place n sz fr - fr) ≤ sz := by
  unfold nxt
  have := Nat.mod_lt (place + fr) hs
  omega
/-- the bytes of a part -/
theorem part_bytes (C : Nat × Nat → List Nat) (num sz place n fr : Nat) (hC : ∀ x, (C x).length = sz) (h : fr < n) (hs : 0 < sz) :
    mbs C num sz place (nxt place n sz fr) = mbs C num sz place fr ++ ((C (num, (place + fr) / sz)).drop ((place + fr) % sz)).take (nxt place n sz fr - fr) := by
  obtain ⟨h1, h2, h3⟩ := nxt_lt (place := place) h hs
  generalize nxt place n sz fr = t at h1 h2 h3
  apply List.ext_getElem?
  intro i
  have hl1 := mbs_len C num sz place t
  have hl2 := mbs_len C num sz place fr
  have hl3 : ((C (num, (place + fr) / sz)).drop ((place + fr) % sz)).length = sz - (place + fr) % sz := by rw [List.length_drop, hC]
  by_cases hi : i < t
  · have e1 : (mbs C num sz place t)[i]? = some (mby C num sz (place + i)) := by
      unfold mbs
      rw [List.getElem?_map, List.getElem?_range hi]; rfl
    rw [e1]
    by_cases hif : i < fr
    · rw [List.getElem?_append_left (by rw [hl2]; exact hif)]
      unfold mbs
      rw [List.getElem?_map, List.getElem?_range hif]; rfl
    · rw [List.getElem?_append_right (by rw [hl2]; omega), hl2, List.getElem?_take_of_lt (by omega), List.getElem?_drop]
      have hmod : (place + fr) % sz + (i - fr) < sz := by omega
      have hd := Nat.div_add_mod (place + fr) sz
      have e2 : place + i = ((place + fr) % sz + (i - fr)) + sz * ((place + fr) / sz) := by omega
      have e3 : (place + i) / sz = (place + fr) / sz := by
        rw [e2, Nat.add_mul_div_left _ _ hs, Nat.div_eq_of_lt hmod, Nat.zero_add]
      have e4 : (place + i) % sz = (place + fr) % sz + (i - fr) := by
        rw [e2, Nat.add_mul_mod_self_left, Nat.mod_eq_of_lt hmod]
      unfold mby
      rw [e3, e4, List.getD_eq_getElem?_getD, List.getElem?_eq_getElem (by rw [hC]; exact hmod)]
      rfl
  · rw [List.getElem?_eq_none (by omega), List.getElem?_eq_none (by rw [List.length_append, List.length_take, hl2, hl3]; omega)]
/-- how many parts have been at a place -/
def cnt_ (place n sz fr c : Nat) : Prop := (fr = 0 → c = 0) ∧ (0 < fr → fr < n → fr + place % sz = c * sz) ∧ c ≤ n / sz + 2
theorem cnt_.nil (place n sz : Nat) : cnt_ place n sz 0 0 := ⟨fun _ => rfl, fun h => absurd h (Nat.lt_irrefl _), Nat.zero_le _⟩
theorem cnt_.next {place n sz fr c : Nat} (h : cnt_ place n sz fr c) (hf : fr < n) (hs : 0 < sz) : cnt_ place n sz (nxt place n sz fr) (c + 1) := by
  obtain ⟨h1, h2, h3⟩ := h
  obtain ⟨g1, g2, g3⟩ := nxt_lt (place := place) hf hs
  have hmp := Nat.mod_lt place hs
  refine ⟨fun e => by omega, fun _ hlt => ?_, ?_⟩
  · rcases Nat.eq_zero_or_pos fr with h0 | h0
    · subst h0
      rw [h1 rfl]
      unfold nxt at hlt ⊢
      rw [Nat.add_zero] at hlt ⊢
      omega
    · have e := h2 h0 hf
      have hm : (place + fr) % sz = 0 := by
        have hd := Nat.div_add_mod place sz
        have : place + fr = sz * (place / sz) + c * sz := by omega
        rw [this, Nat.mul_comm c sz, ← Nat.mul_add, Nat.mul_mod_right]
      unfold nxt at hlt ⊢
      rw [hm] at hlt ⊢
      rw [Nat.add_mul, Nat.one_mul]
      omega
  · rcases Nat.eq_zero_or_pos fr with h0 | h0
    · rw [h1 h0]; exact Nat.le_trans (by decide) (Nat.le_add_left 2 _)
    · have e := h2 h0 hf
      have : c * sz < (n / sz + 2) * sz := by
        have hd := Nat.div_add_mod n sz
        have hm := Nat.mod_lt n hs
        rw [Nat.add_mul, Nat.mul_comm (n / sz) sz]
        omega
      have := Nat.lt_of_mul_lt_mul_right this
      omega
end Go.Proofs.Ytlnffcledpccjaa
