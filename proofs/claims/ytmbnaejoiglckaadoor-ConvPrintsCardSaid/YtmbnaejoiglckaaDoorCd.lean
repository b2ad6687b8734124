/-
  conv.Bytes: what it answers, for every word and any number.
-/
import Derived.Test.YtmbnaejoiglckaaDoorCc
namespace Go.Proofs.YtmbnaejoiglckaaDoor
open Go.RowKit
set_option linter.unusedVariables false
def Blk (w : World) (g : Nat) (t : TypeId) (cs : Array Value) : Prop := w.heap[g]? = some (.cells cs t (0, 0))
section
variable {w w' : World} {g g' : Nat} {t t' : TypeId} {cs cs' : Array Value}
theorem Blk.lt (h : Blk w g t cs) : g < w.heap.size := by
  rcases Nat.lt_or_ge g w.heap.size with hlt | hge
  · exact hlt
  · unfold Blk at h; rw [Array.getElem?_eq_none hge] at h; cases h
theorem Blk.row (h : Blk w g t cs) : w.heap[g]? = some (.cells cs t (0, 0)) := h
theorem Blk.cell (h : Blk w g t cs) (i : Nat) : w.cell? ⟨g, i, none⟩ = cs[i]? := cell_of_row w g i cs t (0, 0) h
theorem Blk.frozen (h : Blk w g t cs) (i : Nat) : w.frozen? ⟨g, i, none⟩ = false := by
  unfold Blk at h
  simp [World.frozen?, h]
theorem Blk.ne_ (h : Blk w g t cs) (h' : Blk w g' t' cs') (hne : t ≠ t') : g ≠ g' := by
  rintro rfl
  unfold Blk at h h'
  rw [h] at h'
  injection h' with h'
  injection h' with _ ht
  exact hne ht
theorem Blk.drewN (h : Blk w g t cs) (n : Nat) : Blk (w.drewN n) g t cs := h
theorem Blk.set_ (h : Blk w g t cs) (i : Nat) (u : Value) : Blk (w.setCell ⟨g, i, none⟩ u) g t (cs.setIfInBounds i u) := by
  unfold Blk at h ⊢
  simp [World.setCell, Array.getElem?_modify, h]
theorem Blk.far (h : Blk w g t cs) {p : Addr} (hp : g ≠ p.block) (u : Value) : Blk (w.setCell p u) g t cs := (Below.heap_setCell w p u g hp).trans h
theorem Blk.alloc (h : Blk w g t cs) (o : Obj) : Blk (w.alloc o) g t cs := (Below.heap_alloc w o g h.lt).trans h
theorem Blk.new (w : World) (t : TypeId) (cs : Array Value) : Blk (w.alloc (.cells cs t)) w.heap.size t cs := heap_alloc_new w _
theorem Blk.below {B : Nat} (h : Blk w g t cs) (hb : Below B w w') (hg : g < B) : Blk w' g t cs := (hb.block g hg).trans h
end
theorem byt_of_blk {w : World} {b n : Nat} {l : List Nat} (h : Blk w b 5 (l.map U8).toArray) (hl : l.length = n) (hx : ∀ x ∈ l, x < 256) (hm : n ≤ maxLen) : Byt w (some ⟨b, 0, none⟩) n n l := by
  refine ⟨hl, hx, Nat.le_refl _, hm, fun _ => ⟨b, 0, rfl, h.lt, fun j hj => ?_⟩⟩
  rw [Nat.zero_add, h.cell j, List.getElem?_toArray, map_getD l j (by omega)]; rfl
def zs (n : Nat) : List Nat := List.replicate n 0
theorem made_zs (n : Nat) : madeCells (Value.int .u8 0).cells n = ((zs n).map U8).toArray := by
  apply Array.ext'
  show (madeCells #[Value.int .u8 0] n).toList = _
  rw [toList_madeCells_one]
  simp [zs, U8, List.map_replicate]
theorem info5_parts : ∃ j, Tryd.prog.info? 5 = some j ∧ j.zero = some (.int .u8 0) ∧ j.size = 1 ∧ j.bytes = 1 := by
  obtain ⟨j, h1, h2⟩ := Option.map_eq_some_iff.1 info5
  simp only [Prod.mk.injEq] at h2
  exact ⟨j, h1, h2.1, h2.2.1, h2.2.2⟩
/-- a word's low bytes, the lowest first -/
def by_ (a i : Nat) : Nat := a / 2 ^ (8 * i) % 256
def bys (a n : Nat) : List Nat := (List.range n).map (by_ a)
/-- the first k of them, the others 0 yet -/
def byk (a n k : Nat) : List Nat := (List.range n).map fun i => if i < k then by_ a i else 0
theorem byk_zero (a n : Nat) : byk a n 0 = zs n := by
  unfold byk zs
  apply List.ext_getElem?
  intro i
  by_cases h : i < n
  · rw [List.getElem?_map, List.getElem?_range h, List.getElem?_replicate, if_pos h]; simp
  · rw [List.getElem?_eq_none (by simp; omega), List.getElem?_eq_none (by simp; omega)]
theorem byk_all (a n : Nat) : byk a n n = bys a n := by
  unfold byk bys
  apply List.map_congr_left
  intro i hi
  rw [if_pos (List.mem_range.1 hi)]
theorem byk_set (a n k : Nat) (h : k < n) : (byk a n k).set k (by_ a k) = byk a n (k + 1) := by
  unfold byk
  apply List.ext_getElem?
  intro i
  rw [List.getElem?_set]
  by_cases hi : i < n
  · rw [List.getElem?_map, List.getElem?_map, List.getElem?_range hi]
    by_cases e : k = i
    · subst e
      rw [if_pos rfl, if_pos (by simp; exact h)]
      simp
    · rw [if_neg e]
      simp only [Option.map_some]
      congr 1
      by_cases q : i < k
      · rw [if_pos q, if_pos (by omega)]
      · rw [if_neg q, if_neg (by omega)]
  · have e : k ≠ i := by omega
    rw [if_neg e, List.getElem?_eq_none (by simp; omega), List.getElem?_eq_none (by simp; omega)]
theorem byk_blk {w : World} {b a n k : Nat} (h : Blk w b 5 ((byk a n k).map U8).toArray) (hk : k < n) : Blk (w.setCell ⟨b, k, none⟩ (U8 (by_ a k))) b 5 ((byk a n (k + 1)).map U8).toArray := by
  have := h.set_ k (U8 (by_ a k))
  rw [← byk_set a n k hk, List.map_set]
  simpa using this
theorem bys_len (a n : Nat) : (bys a n).length = n := by simp [bys]
theorem bys_lt (a n : Nat) : ∀ x ∈ bys a n, x < 256 := by
  intro x hx
  unfold bys at hx
  rw [List.mem_map] at hx
  obtain ⟨i, _, rfl⟩ := hx
  exact Nat.mod_lt _ (by decide)
theorem many_yes (n : Int) (w : World) (h : n = 1 ∨ n = 2 ∨ n = 4 ∨ n = 8) : Calls Tryd.prog 44 #[.int .i64 n] w fun e w' => e = .returned (.bool true) ∧ w = w' := by
  rcases h with rfl | rfl | rfl | rfl
  all_goals
    go_enter Tryd.func44, Tryd.ntmps44
    go_wp2
    go_ret
    exact ⟨rfl, rfl⟩
theorem many_no (n : Int) (w : World) (h : ¬ (n = 1 ∨ n = 2 ∨ n = 4 ∨ n = 8)) : Calls Tryd.prog 44 #[.int .i64 n] w fun e w' => e = .returned (.bool false) ∧ w = w' := by
  have h1 : (n == 1) = false := by simp; omega
  have h2 : (n == 2) = false := by simp; omega
  have h3 : (n == 4) = false := by simp; omega
  have h4 : (n == 8) = false := by simp; omega
  clear h
  go_enter Tryd.func44, Tryd.ntmps44
  go_wp2
  go_ret
  exact ⟨rfl, rfl⟩
/-- what is a word's bytes, new -/
def YPost (B n : Nat) (l : List Nat) (w : World) (e : Ending) (w' : World) : Prop :=
  ∃ g, e = .returned (.tuple #[.slice (some ⟨g, 0, none⟩) n n, .int .i64 0]) ∧ Byt w' (some ⟨g, 0, none⟩) n n l ∧ B ≤ g ∧ Below B w w'
set_option maxHeartbeats 1000000 in
set_option maxRecDepth 100000 in
theorem Bytes_ok (a n : Nat) (w : World) (h : n = 1 ∨ n = 2 ∨ n = 4 ∨ n = 8) (ha : a < 18446744073709551616) :
    Calls Tryd.prog 22 #[.int .u64 a, .int .i64 n] w (YPost w.heap.size n (bys a n) w) := by
  obtain ⟨j0, hjj, hy0, hy1, hy2⟩ := info5_parts
  have M := Lib.hid (many_yes (n : Int) w (by omega))
  have hn1 : 1 ≤ n := by omega
  have hn8 : n ≤ 8 := by omega
  clear h
  go_enter Tryd.func22, Tryd.ntmps22
  go_wp2_with (first
    | (go_at_call 44; refine M.out.mono ?_; rintro e w1 ⟨rfl, rfl⟩)
    | (at_make
       refine wpList_make_lc _ rfl (.tmp 11) (.tmp 11) 40 rfl 5 j0 _ Tryd.underlying40 hjj hy0 hy1 .i64 .i64 _ _ n n rfl rfl rfl rfl (Nat.le_refl _) (by rw [hy2]; omega) (by unfold maxLen; omega) ?_
       intro w5 hg5 hbel5
       have HG5 : Hid (Blk w5 w.heap.size 5 ((byk a n 0).map U8).toArray) := Lib.hid (by
         have := hg5.out
         rw [byk_zero, ← made_zs]
         exact this)
       have HB5 := Lib.hid hbel5
       clear hg5 hbel5))
  go_loopw [7, 15] (fun v7 v15 wr => ∃ k : Nat, k ≤ n ∧ v15 = .int .i64 k ∧ Hid (Blk wr w.heap.size 5 ((byk a n k).map U8).toArray) ∧ Hid (Below w.heap.size w wr)) (fun _ v15 _ => n - (intOf v15).toNat)
  case atStart => exact ⟨0, Nat.zero_le _, rfl, HG5, HB5⟩
  case round =>
    obtain ⟨k, hk, rfl, HQ, HF⟩ := hrel
    by_cases hlt : k < n
    · have hl : (byk a n k).length = n := by simp [byk]
      have d5 : ∃ v0, wr.cell? ⟨w.heap.size, k, none⟩ = some v0 := by
        rw [HQ.out.cell k, List.getElem?_toArray]
        exact ⟨_, List.getElem?_eq_getElem (by rw [List.length_map, hl]; exact hlt)⟩
      obtain ⟨v0, d5⟩ := d5
      have z5 := HQ.out.frozen k
      have HN' := Lib.hid (byk_blk HQ.out hlt)
      have HFN := Lib.hid (HF.out.setCell (p := ⟨w.heap.size, k, none⟩) (Nat.le_refl _) (U8 (by_ a k)))
      have hval : (a : Int) / 2 ^ (8 * k) % 256 = ((by_ a k : Nat) : Int) := by unfold by_; simp
      obtain ⟨y, ey⟩ : ∃ y, y = by_ a k := ⟨_, rfl⟩
      rw [← ey] at hval HN' HFN
      clear hl ey
      go_wp2
      exact ⟨⟨k + 1, by omega, by go_num, HN', HFN⟩, by simp [intOf]; omega⟩
    · obtain rfl : n = k := by omega
      go_wp2
      go_ret2
      exact ⟨_, rfl, byt_of_blk (by rw [← byk_all]; exact HQ.out) (bys_len a n) (bys_lt a n) (by unfold maxLen; omega), Nat.le_refl _, HF.out⟩
end Go.Proofs.YtmbnaejoiglckaaDoor
