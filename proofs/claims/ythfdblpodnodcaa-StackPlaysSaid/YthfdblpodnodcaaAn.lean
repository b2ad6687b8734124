/-
  arena.Arena.Bytes, the bytes in a new block; Copy of no bytes.
-/
import Derived.Test.YthfdblpodnodcaaAi
namespace Go.Proofs.Ythfdblpodnodcaa
open Go.RowKit
set_option linter.unusedVariables false
def BnPost (d : Ad) (p n : Nat) (w : World) (e : Ending) (w' : World) : Prop :=
  ∃ b : Nat, e = .returned (.tuple #[.slice (some ⟨b, 0, none⟩) n n, .int .i64 0]) ∧ w.heap.size ≤ b ∧ Byt w' (some ⟨b, 0, none⟩) n n ((d.mem.drop p).take n) ∧ Below w.heap.size w w'
set_option maxHeartbeats 1000000 in
set_option maxRecDepth 100000 in
theorem Bytes_new (a bb rm gm : Nat) (d : Ad) (p n : Nat) (w : World) (h : Are w a bb rm gm d) (h0 : 0 < n) (hp : p + n ≤ d.sz) :
    Calls Try.prog 42 #[.pointer (some ⟨a, 0, none⟩), .int .i64 p, .int .i64 n] w (BnPost d p n w) := by
  obtain ⟨i0, hi, hz0, hz1, hz2⟩ := info_parts info5
  have HH := Lib.hid (Ahas_ok a bb rm gm d p n w h hp)
  have hlim := h.lim
  have H := Lib.hid h
  obtain ⟨X, hX⟩ : ∃ X, X = ((d.mem.drop p).take n).map U8 := ⟨_, rfl⟩
  have hlen : ((d.mem.drop p).take n).length = n := by rw [List.length_take, List.length_drop, h.len]; omega
  have HX := Lib.hid hX
  have HXl : Hid (X.length = n) := Lib.hid (by rw [hX, List.length_map]; exact hlen)
  have HX1 : Hid (∀ v ∈ X, v.oneCell' = true) := Lib.hid (by rw [hX]; exact u8_one _)
  have HLn := Lib.hid hlen
  obtain ⟨cur, hcur⟩ : ∃ cur, cur = (madeCells (Value.int .u8 0).cells n).toList := ⟨_, rfl⟩
  have hcurl : Hid (cur.length = n) := Lib.hid (by rw [hcur, Array.length_toList, size_madeCells])
  have hcurE : Hid (madeCells (Value.int .u8 0).cells n = cur.toArray) := Lib.hid (by rw [hcur])
  clear h hX hlen hcur
  go_enter Try.func42, Try.ntmps42
  go_wp2_with (first
    | (go_at_call 54; refine HH.out.mono ?_; rintro e w' ⟨rfl, rfl⟩)
    | (at_make
       refine wpList_make_lc _ rfl (.tmp 17) (.tmp 17) 71 rfl 5 i0 _ Try.underlying71 hi hz0 hz1 .i64 .i64 _ _ n n rfl rfl rfl rfl (Nat.le_refl _) (by rw [hz2]; omega) (by unfold maxLen; omega) ?_
       intro w2 hg2 hbel2
       have HG2 : Hid (Blk w2 w.heap.size 5 cur.toArray) := Lib.hid (by
         have := hg2.out
         rw [hcurE.out] at this
         exact this)
       have HB2 := Lib.hid hbel2
       have HS2 : Hid (Are w2 a bb rm gm d) := Lib.hid (H.out.below hbel2 (Nat.le_refl _))
       have c2 : w2.cell? ⟨a, 0, none⟩ = some (.slice (some ⟨bb, 0, none⟩) d.sz d.sz) := HS2.out.blk.cell 0
       clear hg2 hbel2)
    | (with_reducible refine wpList_copy_splice rfl (.tmp 19) (.tmp 25) 71 71 rfl 5 Try.underlying71 info5size (some ⟨w.heap.size, 0, none⟩) (some ⟨bb, p, none⟩) n n (d.sz - p) (d.sz - p) rfl rfl w.heap.size 0 cur 5 HG2.out.row X ?d1 ?d2 ?d3 HX1.out w.heap.size w HB2.out (Nat.le_refl _) ?_
       case d1 => rw [HXl.out]; exact (Nat.min_eq_right (by omega)).symm
       case d2 =>
         intro _
         refine ⟨rfl, _, rfl, fun j v hv => ?_⟩
         have hj : j < n := by
           have := (List.getElem?_eq_some_iff.1 hv).1
           rw [HXl.out] at this; exact this
         rw [HX.out, List.getElem?_map, List.getElem?_take_of_lt hj, List.getElem?_drop] at hv
         rw [addr_add, HS2.out.byt.cell, List.getElem?_toArray, List.getElem?_map]
         exact hv
       case d3 => rw [HXl.out, hcurl.out]; omega
       intro w3 hg3 hbel3
       have HB3 := Lib.hid hbel3
       clear hbel3))
  go_ret2
  have hfin : Blk w3 w.heap.size 5 (((d.mem.drop p).take n).map U8).toArray := by
    have := hg3.out
    rw [splice_all (by rw [HXl.out, hcurl.out]), HX.out] at this
    exact this
  exact ⟨w.heap.size, rfl, Nat.le_refl _, byt_of_blk hfin HLn.out (fun x hx => H.out.all x (List.mem_of_mem_drop (List.mem_of_mem_take hx))) (by unfold maxLen; omega), HB3.out⟩
set_option maxHeartbeats 1000000 in
set_option maxRecDepth 100000 in
theorem Bytes_zero (a bb rm gm : Nat) (d : Ad) (p : Nat) (w : World) (h : Are w a bb rm gm d) (hp : p ≤ d.sz) :
    Calls Try.prog 42 #[.pointer (some ⟨a, 0, none⟩), .int .i64 p, .int .i64 0] w (BnPost d p 0 w) := by
  obtain ⟨i0, hi, hz0, hz1, hz2⟩ := info_parts info5
  have HH := Lib.hid (Ahas_ok a bb rm gm d p 0 w h hp)
  have hlim := h.lim
  have H := Lib.hid h
  clear h
  rcases Nat.lt_or_eq_of_le hp with hlt | heq
  · go_enter Try.func42, Try.ntmps42
    go_wp2_with (first
      | (go_at_call 54; refine HH.out.mono ?_; rintro e w' ⟨rfl, rfl⟩)
      | (at_make
         refine wpList_make_lc _ rfl (.tmp 17) (.tmp 17) 71 rfl 5 i0 _ Try.underlying71 hi hz0 hz1 .i64 .i64 _ _ 0 0 rfl rfl rfl rfl (Nat.le_refl _) (by rw [hz2]; omega) (by unfold maxLen; omega) ?_
         intro w2 hg2 hbel2
         have HB2 := Lib.hid hbel2
         have HS2 : Hid (Are w2 a bb rm gm d) := Lib.hid (H.out.below hbel2 (Nat.le_refl _))
         have c2 : w2.cell? ⟨a, 0, none⟩ = some (.slice (some ⟨bb, 0, none⟩) d.sz d.sz) := HS2.out.blk.cell 0
         clear hg2 hbel2)
      | (with_reducible refine wpList_copy_nothing rfl (.tmp 19) (.tmp 25) 71 71 rfl 5 Try.underlying71 info5size (some ⟨w.heap.size, 0, none⟩) (some ⟨bb, p, none⟩) 0 0 (d.sz - p) (d.sz - p) rfl rfl (Nat.min_eq_right (Nat.zero_le _)) ?_))
    go_ret2
    exact ⟨_, rfl, Nat.le_refl _, ⟨by simp, by simp, Nat.le_refl _, Nat.zero_le _, fun q => absurd q (Nat.lt_irrefl _)⟩, HB2.out⟩
  · subst heq
    go_enter Try.func42, Try.ntmps42
    go_wp2_with (first
      | (go_at_call 54; refine HH.out.mono ?_; rintro e w' ⟨rfl, rfl⟩)
      | (at_make
         refine wpList_make_lc _ rfl (.tmp 17) (.tmp 17) 71 rfl 5 i0 _ Try.underlying71 hi hz0 hz1 .i64 .i64 _ _ 0 0 rfl rfl rfl rfl (Nat.le_refl _) (by rw [hz2]; omega) (by unfold maxLen; omega) ?_
         intro w2 hg2 hbel2
         have HB2 := Lib.hid hbel2
         have HS2 : Hid (Are w2 a bb rm gm d) := Lib.hid (H.out.below hbel2 (Nat.le_refl _))
         have c2 : w2.cell? ⟨a, 0, none⟩ = some (.slice (some ⟨bb, 0, none⟩) d.sz d.sz) := HS2.out.blk.cell 0
         clear hg2 hbel2)
      | (with_reducible refine wpList_copy_nothing rfl (.tmp 19) (.tmp 25) 71 71 rfl 5 Try.underlying71 info5size (some ⟨w.heap.size, 0, none⟩) (some ⟨bb, 0, none⟩) 0 0 0 0 rfl rfl (Nat.min_eq_right (Nat.zero_le _)) ?_))
    go_ret2
    exact ⟨_, rfl, Nat.le_refl _, ⟨by simp, by simp, Nat.le_refl _, Nat.zero_le _, fun q => absurd q (Nat.lt_irrefl _)⟩, HB2.out⟩
theorem Bytes_all (a bb rm gm : Nat) (d : Ad) (p n : Nat) (w : World) (h : Are w a bb rm gm d) (hp : p + n ≤ d.sz) :
    Calls Try.prog 42 #[.pointer (some ⟨a, 0, none⟩), .int .i64 p, .int .i64 n] w (BnPost d p n w) := by
  rcases Nat.eq_zero_or_pos n with rfl | h0
  · exact Bytes_zero a bb rm gm d p w h hp
  · exact Bytes_new a bb rm gm d p n w h h0 hp
set_option maxHeartbeats 1000000 in
set_option maxRecDepth 100000 in
theorem Copy_zero (a bb rm gm : Nat) (d : Ad) (p cap : Nat) (A : Option Addr) (w : World) (h : Are w a bb rm gm d) (hp : p ≤ d.sz) (hc : cap ≤ maxLen) :
    Calls Try.prog 44 #[.pointer (some ⟨a, 0, none⟩), .int .i64 p, .slice A 0 cap] w fun e w' => e = .returned (.int .i64 0) ∧ w = w' := by
  have HH := Lib.hid (Ahas_ok a bb rm gm d p 0 w h hp)
  have c0 : w.cell? ⟨a, 0, none⟩ = some (.slice (some ⟨bb, 0, none⟩) d.sz d.sz) := h.blk.cell 0
  have hlim := h.lim
  have hc9 : cap ≤ 9223372036854775807 := by unfold maxLen at hc; omega
  clear h
  rcases Nat.lt_or_eq_of_le hp with hlt | heq
  · go_enter Try.func44, Try.ntmps44
    go_wp2_with (first
      | (go_at_call 54; refine HH.out.mono ?_; rintro e w' ⟨rfl, rfl⟩)
      | (with_reducible refine wpList_copy_nothing rfl (.tmp 21) (.tmp 22) 71 71 rfl 5 Try.underlying71 info5size (some ⟨bb, p, none⟩) A (d.sz - p) (d.sz - p) 0 cap rfl rfl (Nat.min_eq_left (Nat.zero_le _)) ?_))
    go_ret
    exact ⟨rfl, rfl⟩
  · subst heq
    go_enter Try.func44, Try.ntmps44
    go_wp2_with (first
      | (go_at_call 54; refine HH.out.mono ?_; rintro e w' ⟨rfl, rfl⟩)
      | (with_reducible refine wpList_copy_nothing rfl (.tmp 21) (.tmp 22) 71 71 rfl 5 Try.underlying71 info5size (some ⟨bb, 0, none⟩) A 0 0 0 cap rfl rfl (Nat.min_eq_left (Nat.zero_le _)) ?_))
    go_ret
    exact ⟨rfl, rfl⟩
end Go.Proofs.Ythfdblpodnodcaa
