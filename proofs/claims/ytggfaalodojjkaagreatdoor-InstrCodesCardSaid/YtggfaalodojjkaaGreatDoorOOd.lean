/-
  few.list.
-/
import Derived.Test.YtggfaalodojjkaaGreatDoorOOc
import Derived.OwnWalk
import Derived.Outline
namespace Go.Proofs.YtggfaalodojjkaaGreatDoor
open Go.RowKit
set_option linter.unusedVariables false
set_option linter.unusedSimpArgs false
def U8 (x : Nat) : Value := .int .u8 (x : Nat)
theorem info113 : (Tryz.prog.info? 113).map (fun i => (i.zero, i.size, i.bytes)) = some (some (.int .u8 0), 1, 1) := by kernel_rfl
theorem idx94 (a b c k : Nat) (hk : k < 3) (W : World) : (Instr.index 139 (.agg #[.int .u8 (a : Int), .int .u8 (b : Int), .int .u8 (c : Int)]) (.int .i64 (k : Int))).run Tryz.prog W = .ok (.int .u8 (([a, b, c].getD k 0 : Nat) : Int)) W := by
  rcases (by omega : k = 0 ∨ k = 1 ∨ k = 2) with rfl | rfl | rfl <;> kernel_rfl
theorem cell_new (w : World) (v : Value) (t : TypeId) : ∀ j u, [v][j]? = some u → (w.alloc (.cells #[v] t)).cell? ((⟨w.heap.size, 0, none⟩ : Addr).add j) = some u := by
  intro j u h
  cases j with
  | zero =>
    simp at h; subst h
    exact World.cell?_alloc_at _ _ _ _ rfl
  | succ j => simp at h
theorem own_below {w wr w1 : World} {B : Nat} {E : TypeId} {v : Value} {n : Nat} {xs : List Value} {o : Obj} (hb : Below B w wr) (hB : B ≤ wr.heap.size) (hown : wr.ownsRow B E 1 v n xs) (hg : (wr.alloc o).grownBy w1 v.ownBlock) : Below B w w1 :=
  (hb.alloc hB o).grown hg (by simp; omega) (fun j hj => by have := (hown.lt j hj).1; omega)
def LPost (l : List Nat) (w : World) (e : Ending) (w' : World) : Prop := ∃ v, e = .returned v ∧ w'.ownsRow w.heap.size 113 1 v l.length (l.map U8) ∧ Below w.heap.size w w'
theorem getD3 (l : List Nat) (hl : l.length ≤ 3) (k : Nat) (hk : k < 3) : [l.getD 0 0, l.getD 1 0, l.getD 2 0].getD k 0 = l.getD k 0 := by
  rcases (by omega : k = 0 ∨ k = 1 ∨ k = 2) with rfl | rfl | rfl <;> rfl
theorem take_more (l : List Nat) (k : Nat) (h : k < l.length) : l.take (k + 1) = l.take k ++ [l.getD k 0] := by
  rw [List.take_succ_eq_append_getElem h, List.getD_eq_getElem?_getD, List.getElem?_eq_getElem h]; rfl
theorem pos_in {l : List Nat} (hx : ∀ x ∈ l, 0 < x ∧ x < 256) {k : Nat} (h : k < l.length) : 0 < l.getD k 0 ∧ l.getD k 0 < 256 := by
  rw [List.getD_eq_getElem?_getD, List.getElem?_eq_getElem h]; exact hx _ (List.getElem_mem h)
set_option maxHeartbeats 4000000 in
set_option maxRecDepth 100000 in
theorem List_ok (l : List Nat) (hl : l.length ≤ 3) (hx : ∀ x ∈ l, 0 < x ∧ x < 256) (w : World) :
    Calls Tryz.prog 115 #[.agg (fewC l).toArray] w (LPost l w) := by
  obtain ⟨i0, hi, hz0, hz1, hz2⟩ := info_parts info113
  have I0 := Lib.hid (idx94 (l.getD 0 0) (l.getD 1 0) (l.getD 2 0))
  have G3 := Lib.hid (getD3 l hl)
  have HX := Lib.hid hx
  unfold fewC
  clear hx
  generalize hA : l.getD 0 0 = a at *
  generalize hB : l.getD 1 0 = b at *
  generalize hC : l.getD 2 0 = c at *
  clear hA hB hC
  go_enter Tryz.func115, Tryz.ntmps115
  go_wp2_with fail
  go_loopw [3, 7] (fun v3 v7 wr => ∃ k : Nat, k ≤ 3 ∧ v7 = .int .i64 k ∧ Hid (wr.ownsRow w.heap.size 113 1 v3 (l.take k).length ((l.take k).map U8)) ∧ Hid (Below w.heap.size w wr)) (fun _ v7 _ => 3 - (intOf v7).toNat)
  case atStart => exact ⟨0, by omega, rfl, Lib.hid (World.ownsRow_nil _ _ _ _), Lib.hid ((Below.refl _ _).alloc (Nat.le_refl _) _)⟩
  case round =>
    obtain ⟨k, hk, rfl, HO, HB⟩ := hrel
    by_cases hlt : k < 3
    · have i1 := I0.out k hlt
      rw [G3.out k hlt] at i1
      by_cases hin : k < l.length
      · obtain ⟨hp, hp2⟩ := pos_in HX.out hin
        have HT := Lib.hid (take_more l k hin)
        have hlk : (l.take k).length = k := by rw [List.length_take]; omega
        rw [hlk] at HO
        clear hlk
        generalize l.getD k 0 = y at i1 hp hp2 HT
        go_wp2_with (at_builtin; refine wpList_append_own _ rfl (.tmp 12) (.tmp 14) 59 rfl w.heap.size 113 i0 _ 1 1 Tryz.underlying59 hi hz0 hz1 hz2 rfl (by decide) _ k _ rfl (HO.out.alloc _) ⟨wr.heap.size, 0, none⟩ 1 1 [U8 y] rfl rfl (cell_new _ _ _) ?c2 ?c3 ?c4 ?c5 ?_)
        case c2 => intro u hu; simp at hu; subst hu; rfl
        case c3 => unfold maxLen; omega
        case c4 => omega
        case c5 => have := HB.out.size; simp; omega
        intro v1 w3 hown1 hg1 _
        have HB3 : Hid (Below w.heap.size w w3) := Lib.hid (own_below HB.out HB.out.size HO.out hg1)
        have HO3 : Hid (w3.ownsRow w.heap.size 113 1 v1 (l.take (k + 1)).length ((l.take (k + 1)).map U8)) := Lib.hid (by
          rw [HT.out, List.map_append, List.length_append]
          have : (l.take k).length = k := by rw [List.length_take]; omega
          rw [this, List.map_take]; exact hown1)
        clear hown1 hg1
        go_wp2
        go_roundw
        case rel => exact ⟨k + 1, by omega, by go_num, HO3, HB3⟩
        case measure => simp [intOf]; omega
      · have hy : l.getD k 0 = 0 := by rw [List.getD_eq_getElem?_getD, List.getElem?_eq_none (by omega)]; rfl
        rw [hy] at i1
        clear hy
        go_wp2
        go_roundw
        case rel => exact ⟨k + 1, by omega, by go_num, (by rw [List.take_of_length_le (by omega)]; rw [List.take_of_length_le (by omega)] at HO; exact HO), HB⟩
        case measure => simp [intOf]; omega
    · obtain rfl : k = 3 := by omega
      go_wp2
      go_ret
      rw [List.take_of_length_le hl] at HO
      exact ⟨_, rfl, HO.out, HB.out⟩
end Go.Proofs.YtggfaalodojjkaaGreatDoor
