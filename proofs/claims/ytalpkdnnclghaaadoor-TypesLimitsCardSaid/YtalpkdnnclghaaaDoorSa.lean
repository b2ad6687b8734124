/-
  Bytes in memory; To.
-/
import Derived.Test.YtalpkdnnclghaaaDoorOe
import Derived.OwnWalk
import Derived.Outline
namespace Go.Proofs.YtalpkdnnclghaaaDoor
open Go.RowKit Go.ChangeShapes Go.WideShapes Go.ChangeAt
set_option linter.unusedVariables false
set_option linter.unusedSimpArgs false
def Byt (w : World) (A : Option Addr) (n cap : Nat) (l : List Nat) : Prop :=
  l.length = n ∧ (∀ x ∈ l, x < 256) ∧ n ≤ cap ∧ cap ≤ maxLen ∧ (0 < n → ∃ b off, A = some ⟨b, off, none⟩ ∧ b < w.heap.size ∧ ∀ j, j < n → w.cell? ⟨b, off + j, none⟩ = some (.int .u8 ((l.getD j 0 : Nat) : Int)))
theorem Byt.below {w w' : World} {A : Option Addr} {n cap : Nat} {l : List Nat} (h : Byt w A n cap l) (hb : Below w.heap.size w w') : Byt w' A n cap l := by
  obtain ⟨hl, hx, hn, hcap, hc⟩ := h
  refine ⟨hl, hx, hn, hcap, fun h0 => ?_⟩
  obtain ⟨b, off, rfl, hbl, hcell⟩ := hc h0
  exact ⟨b, off, rfl, Nat.lt_of_lt_of_le hbl hb.size, fun j hj => (hb.cell (p := ⟨b, off + j, none⟩) hbl).trans (hcell j hj)⟩
theorem byt_nil (w : World) : Byt w none 0 0 [] := ⟨rfl, by simp, Nat.le_refl _, Nat.zero_le _, fun h => by omega⟩
theorem map_getD (l : List Nat) (j : Nat) (h : j < l.length) : (l.map U8)[j]? = some (U8 (l.getD j 0)) := by
  rw [List.getElem?_map, List.getElem?_eq_getElem h, List.getD_eq_getElem?_getD, List.getElem?_eq_getElem h]; rfl
/-- a row of one's own reads as bytes -/
theorem Byt.own {w : World} {B E n cap : Nat} {A : Option Addr} {l : List Nat} (h : w.ownsRow B E 1 (.slice A n cap) n (l.map U8)) (hx : ∀ x ∈ l, x < 256) : Byt w A n cap l := by
  have hlen : l.length = n := by have := h.1; rw [List.length_map] at this; omega
  rcases h.2 with ⟨e, h0⟩ | ⟨g, cap', cur, e, hB, hg, hnc, hm, hcs, htk⟩
  · injection e with e1 e2 e3
    subst e1; subst e3; subst h0
    exact ⟨hlen, hx, Nat.le_refl _, Nat.zero_le _, fun h => by omega⟩
  · injection e with e1 e2 e3
    subst e1; subst e3
    refine ⟨hlen, hx, hnc, hm, fun _ => ⟨g, 0, rfl, ?_, fun j hj => ?_⟩⟩
    · exact Blk.lt (t := E) (cs := cur) hg
    · rw [Nat.zero_add, cell_of_row w g j cur E (0, 0) hg]
      have e1 : cur[j]? = (cur.toList.take (n * 1))[j]? := by
        rw [List.getElem?_take_of_lt (by omega), Array.getElem?_toList]
      rw [e1, htk, map_getD l j (by omega)]; rfl
set_option maxHeartbeats 4000000 in
set_option maxRecDepth 100000 in
theorem To_ok (A : Option Addr) (n cap : Nat) (l : List Nat) (hn : n ≤ 1000) (w : World) (hb : Byt w A n cap l) :
    Calls Tryd.prog 14 #[.slice A n cap] w (LPost l w) := by
  obtain ⟨i0, hi, hz0, hz1, hz2⟩ := info_parts info51
  obtain ⟨hl, hx, hcap, hcm, hc⟩ := hb
  subst hl
  have HC := Lib.hid hc
  have HX := Lib.hid hx
  have hn9 : l.length ≤ 1000 := hn
  clear hc hx
  go_enter Tryd.func14, Tryd.ntmps14
  go_wp2_with fail
  go_loopw [3, 4] (fun v3 v4 wr => ∃ k : Nat, k ≤ l.length ∧ v4 = .int .i64 k ∧ Hid (wr.ownsRow w.heap.size 51 1 v3 k ((l.take k).map U8)) ∧ Hid (Below w.heap.size w wr)) (fun _ v4 _ => l.length - (intOf v4).toNat)
  case atStart => exact ⟨0, by omega, rfl, Lib.hid (World.ownsRow_nil _ _ _ _), Lib.hid (Below.refl _ _)⟩
  case round =>
    obtain ⟨k, hk, rfl, HO, HB⟩ := hrel
    by_cases hlt : k < l.length
    · obtain ⟨b, off, rfl, hbl, hcell⟩ := HC.out (by omega)
      have h0 := hcell k hlt
      rw [← HB.out.cell (p := ⟨b, off + k, none⟩) hbl] at h0
      have HT := Lib.hid (take_more l k hlt)
      have hy : l.getD k 0 < 256 := by
        rw [List.getD_eq_getElem?_getD, List.getElem?_eq_getElem hlt]; exact HX.out _ (List.getElem_mem hlt)
      clear hcell
      generalize l.getD k 0 = y at h0 HT hy
      go_wp2_with (at_builtin; refine wpList_append_own _ rfl (.tmp 11) (.tmp 16) 24 rfl w.heap.size 51 i0 _ 1 1 Tryd.underlying24 hi hz0 hz1 hz2 rfl (by decide) _ k _ rfl (HO.out.alloc _) ⟨wr.heap.size, 0, none⟩ 1 1 [U8 y] rfl rfl (cell_new _ _ _) ?c2 ?c3 ?c4 ?c5 ?_)
      case c2 => intro u hu; simp at hu; subst hu; rfl
      case c3 => unfold maxLen; omega
      case c4 => omega
      case c5 => have := HB.out.size; simp; omega
      intro v1 w3 hown1 hg1 _
      have HB3 : Hid (Below w.heap.size w w3) := Lib.hid (own_below HB.out HB.out.size HO.out hg1)
      have HO3 : Hid (w3.ownsRow w.heap.size 51 1 v1 (k + 1) ((l.take (k + 1)).map U8)) := Lib.hid (by
        rw [HT.out, List.map_append, List.map_take]; exact hown1)
      clear hown1 hg1
      go_wp2
      go_roundw
      case rel => exact ⟨k + 1, by omega, by go_num, HO3, HB3⟩
      case measure => simp [intOf]; omega
    · obtain rfl : k = l.length := by omega
      go_wp2
      go_ret
      rw [List.take_of_length_le (Nat.le_refl _)] at HO
      exact ⟨_, rfl, HO.out, HB.out⟩
end Go.Proofs.YtalpkdnnclghaaaDoor
