/-
  The count of reads (atomic), flash.read, and Reads, Len, FailAt.
-/
import Derived.Test.YtggfaalodojjkaaGreatDoorQFa
import Derived.Laws.LoneSync
namespace Go.Proofs.YtggfaalodojjkaaGreatDoor
open Go.RowKit
set_option linter.unusedVariables false
theorem add_run (p : Addr) (r : Nat) (w : World) (hr : r < 1000000) (hc : w.cell? p = some (.int .i64 r)) (hz : w.frozen? p = false) :
    (callFunc 176 #[.pointer (some p), .int .i64 1]).run Tryz.prog w = .ok (.value (.int .i64 ((r : Int) + 1))) (w.setCell p (.int .i64 ((r : Int) + 1))) :=
  run_call_add (P := Tryz.prog) Tryz.func176 (by kernel_rfl) (by kernel_rfl) (by kernel_rfl) .i64 (by kernel_rfl) hc hz (by simp [go_sem, IntKind.wrap_i64]; omega)
theorem load_run (p : Addr) (r : Int) (w : World) (hc : w.cell? p = some (.int .i64 r)) :
    (callFunc 87 #[.pointer (some p)]).run Tryz.prog w = .ok (.value (.int .i64 r)) w :=
  run_call_load (P := Tryz.prog) Tryz.func87 (by kernel_rfl) (by kernel_rfl) (by kernel_rfl) .i64 (by kernel_rfl) hc
set_option maxHeartbeats 400000 in
set_option maxRecDepth 100000 in
theorem Add_any (f i : Nat) (r : Nat) (w : World) (hr : r < 1000000) (hc : w.cell? ⟨f, i, none⟩ = some (.int .i64 r)) (hz : w.frozen? ⟨f, i, none⟩ = false) :
    Calls Tryz.prog 165 #[.pointer (some ⟨f, i, none⟩), .int .i64 1] w fun e w' => e = .returned (.int .i64 ((r : Int) + 1)) ∧ w.setCell ⟨f, i, none⟩ (.int .i64 ((r : Int) + 1)) = w' := by
  have ha := add_run ⟨f, i, none⟩ r w hr hc hz
  go_enter Tryz.func165, Tryz.ntmps165
  go_wp2
  go_ret
  exact ⟨rfl, rfl⟩
set_option maxHeartbeats 400000 in
set_option maxRecDepth 100000 in
theorem Load_any (f i : Nat) (r : Int) (w : World) (hc : w.cell? ⟨f, i, none⟩ = some (.int .i64 r)) :
    Calls Tryz.prog 52 #[.pointer (some ⟨f, i, none⟩)] w fun e w' => e = .returned (.int .i64 r) ∧ w = w' := by
  have ha := load_run ⟨f, i, none⟩ r w hc
  go_enter Tryz.func52, Tryz.ntmps52
  go_wp2
  go_ret
  exact ⟨rfl, rfl⟩
/-- the flash behind a read: one more is counted -/
theorem Fl.counted {w : World} {f g N : Nat} {l : List Nat} {r : Nat} {fa : Int} (h : Fl w f g N l r fa) : Fl (w.setCell ⟨f, 1, none⟩ (.int .i64 ((r : Int) + 1))) f g N l (r + 1) fa :=
  ⟨by have := h.blk.set_ 1 (.int .i64 ((r : Int) + 1)); exact this, h.byt.far (fun e => h.byt.ne_ h.blk (by decide) e) _, h.len, h.lim, h.all⟩
theorem Fl.fr {S : Nat → Prop} {w w' : World} {f g N : Nat} {l : List Nat} {r : Nat} {fa : Int} (h : Fl w f g N l r fa) (hf : Fr S w w') (h1 : ¬ S f) (h2 : ¬ S g) : Fl w' f g N l r fa :=
  ⟨h.blk.fr hf h1, h.byt.fr hf h2, h.len, h.lim, h.all⟩
set_option maxHeartbeats 400000 in
set_option maxRecDepth 100000 in
theorem read_fail (f g N : Nat) (l : List Nat) (r : Nat) (fa : Int) (a n : Int) (w : World) (h : Fl w f g N l r fa) (hr : r < 1000000) (h1 : 0 ≤ fa) (h2 : fa ≤ r) :
    Calls Tryz.prog 145 #[.pointer (some ⟨f, 0, none⟩), .int .i64 a, .int .i64 n] w fun e w' => e = .returned (.tuple #[.slice none 0 0, .int .i64 9]) ∧ Fl w' f g N l (r + 1) fa ∧ Fr (· = f) w w' := by
  have c1 : w.cell? ⟨f, 1, none⟩ = some (.int .i64 r) := h.blk.cell 1
  have c2 : w.cell? ⟨f, 2, none⟩ = some (.int .i64 fa) := h.blk.cell 2
  have z1 := h.blk.frozen 1
  have HF := Lib.hid h.counted
  have HA := Lib.hid (Add_any f 1 r w hr c1 z1)
  clear h
  go_enter Tryz.func145, Tryz.ntmps145
  go_wp2_with (go_at_call 165; refine HA.out.mono ?_; rintro e w' ⟨rfl, rfl⟩)
  go_ret2
  exact ⟨rfl, HF.out, (Fr.refl (· = f) _).set_ (p := ⟨f, 1, none⟩) rfl _⟩

theorem byt_of_blk {w : World} {b n : Nat} {l : List Nat} (h : Blk w b 5 (l.map U8).toArray) (hl : l.length = n) (hx : ∀ x ∈ l, x < 256) (hm : n ≤ maxLen) : Byt w (some ⟨b, 0, none⟩) n n l := by
  refine ⟨hl, hx, Nat.le_refl _, hm, fun _ => ⟨b, 0, rfl, h.lt, fun j hj => ?_⟩⟩
  rw [Nat.zero_add, h.cell j, List.getElem?_toArray, map_getD l j (by omega)]; rfl
def RdPost (f g N : Nat) (l : List Nat) (r : Nat) (fa : Int) (a n : Nat) (w : World) (e : Ending) (w' : World) : Prop :=
  ∃ b, e = .returned (.tuple #[.slice (some ⟨b, 0, none⟩) n n, .int .i64 0]) ∧ Byt w' (some ⟨b, 0, none⟩) n n ((l.drop a).take n) ∧ w.heap.size ≤ b ∧ Fl w' f g N l (r + 1) fa ∧ Fr (· = f) w w'
set_option maxHeartbeats 1000000 in
set_option maxRecDepth 100000 in
theorem fread_ok (f g N : Nat) (l : List Nat) (r : Nat) (fa : Int) (a n : Nat) (w : World) (h : Fl w f g N l r fa) (hr : r < 1000000) (hfa : fa < 0 ∨ (0 ≤ fa ∧ (r : Int) < fa)) (han : a + n ≤ N) :
    Calls Tryz.prog 145 #[.pointer (some ⟨f, 0, none⟩), .int .i64 a, .int .i64 n] w (RdPost f g N l r fa a n w) := by
  obtain ⟨i0, hi, hz0, hz1, hz2⟩ := info_parts info5
  have c1 : w.cell? ⟨f, 1, none⟩ = some (.int .i64 r) := h.blk.cell 1
  have z1 := h.blk.frozen 1
  obtain ⟨W, hW⟩ : ∃ W, W = w.setCell ⟨f, 1, none⟩ (.int .i64 ((r : Int) + 1)) := ⟨_, rfl⟩
  have HW := h.counted
  have hFr : Fr (· = f) w W := by rw [hW]; exact (Fr.refl (· = f) _).set_ (p := ⟨f, 1, none⟩) rfl _
  rw [← hW] at HW
  have HA : Hid (Calls Tryz.prog 165 #[.pointer (some ⟨f, 1, none⟩), .int .i64 1] w fun e w' => e = .returned (.int .i64 ((r : Int) + 1)) ∧ W = w') := Lib.hid (by
    rw [hW]; exact Add_any f 1 r w hr c1 z1)
  have hs0 := hFr.size
  clear hW c1 z1
  have hlen := HW.len
  have hlim := HW.lim
  obtain ⟨X, hX⟩ : ∃ X, X = ((l.drop a).take n).map U8 := ⟨_, rfl⟩
  have hXn : ((l.drop a).take n).length = n := by rw [List.length_take, List.length_drop]; omega
  have hXl : Hid (X.length = n) := Lib.hid (by rw [hX, List.length_map, hXn])
  have hXa : Hid (∀ x ∈ (l.drop a).take n, x < 256) := Lib.hid (fun x hx => HW.all x (List.mem_of_mem_drop (List.mem_of_mem_take hx)))
  have hXc : Hid (∀ j v, X[j]? = some v → W.cell? ⟨g, a + j, none⟩ = some v) := Lib.hid (by
    intro j v hv
    have hj : j < n := by
      have := (List.getElem?_eq_some_iff.1 hv).1
      rw [hX, List.length_map, hXn] at this; exact this
    rw [HW.byt.cell (a + j), ← hv, hX]
    simp only [List.getElem?_toArray, List.getElem?_map]
    rw [List.getElem?_take_of_lt hj, List.getElem?_drop])
  have hX1 : Hid (∀ v ∈ X, v.oneCell' = true) := Lib.hid (by
    intro v hv
    rw [hX, List.mem_map] at hv
    obtain ⟨x, _, rfl⟩ := hv
    rfl)
  have hXE := Lib.hid hX
  have hgl := HW.byt.lt
  have hfl := HW.blk.lt
  obtain ⟨cur, hcur⟩ : ∃ cur, cur = (madeCells (Value.int .u8 0).cells n).toList := ⟨_, rfl⟩
  have hcurl : Hid (cur.length = n) := Lib.hid (by rw [hcur, Array.length_toList, size_madeCells])
  have hcurE : Hid ((madeCells (Value.int .u8 0).cells n) = cur.toArray) := Lib.hid (by rw [hcur])
  have f2 : W.cell? ⟨f, 2, none⟩ = some (.int .i64 fa) := HW.blk.cell 2
  have HWh := Lib.hid HW
  have HFr := Lib.hid hFr
  clear hcur hX hXn h HW hFr hlen
  obtain ⟨p, hp⟩ : ∃ p : Nat, p = (if a < N then a else 0) := ⟨_, rfl⟩
  have hpE : Hid (0 < n → p = a) := Lib.hid (fun h0 => by rw [hp, if_pos (by omega)])
  have hcut : Hid (p = if a < N then a else 0) := Lib.hid hp
  clear hp
  by_cases haN : a < N
  · obtain rfl : p = a := by rw [hcut.out, if_pos haN]
    rcases hfa with hfa | ⟨hfa0, hfa⟩
    all_goals
      go_enter Tryz.func145, Tryz.ntmps145
      go_wp2_with (first
        | (go_at_call 165; refine HA.out.mono ?_; rintro e w' ⟨rfl, rfl⟩)
        | (at_make
           refine wpList_make_lc _ rfl (.tmp 28) (.tmp 28) 27 rfl 5 i0 _ Tryz.underlying27 hi hz0 hz1 .i64 .i64 _ _ n n rfl rfl rfl rfl (Nat.le_refl _) (by rw [hz2]; omega) (by unfold maxLen; omega) ?_
           intro w1 hg1 hbel1
           have HG1 : Hid (Blk w1 W.heap.size 5 cur.toArray) := Lib.hid (by
             have := hg1.out
             rw [hcurE.out] at this
             exact this)
           have HB1 := Lib.hid hbel1
           have f0 : w1.cell? ⟨f, 0, none⟩ = some (.slice (some ⟨g, 0, none⟩) N N) := (HWh.out.blk.below hbel1 hfl).cell 0
           clear hg1 hbel1)
        | (with_reducible refine wpList_copy_splice rfl (.tmp 30) (.tmp 36) 27 27 rfl 5 Tryz.underlying27 info5size (some ⟨W.heap.size, 0, none⟩) (some ⟨g, p, none⟩) n n (N - p) (N - p) rfl rfl W.heap.size 0 cur 5 HG1.out.row X ?d1 ?d2 ?d3 hX1.out W.heap.size W HB1.out (Nat.le_refl _) ?_
           case d1 => rw [hXl.out]; exact (Nat.min_eq_right (by omega)).symm
           case d2 =>
             intro _
             refine ⟨rfl, _, rfl, fun j v hv => ?_⟩
             rw [addr_add, HB1.out.cell (p := ⟨g, p + j, none⟩) hgl]
             exact hXc.out j v hv
           case d3 => rw [hXl.out, hcurl.out]; omega
           intro w2 hg2 hbel2
           have HB2 := Lib.hid hbel2
           clear hbel2))
      go_ret2
      have hfin : Blk w2 W.heap.size 5 (((l.drop p).take n).map U8).toArray := by
        have h2 : (splice cur 0 X) = ((l.drop p).take n).map U8 := by
          rw [← hXE.out]
          simp only [splice, List.take_zero, List.nil_append]
          rw [List.drop_eq_nil_of_le (by rw [hXl.out, hcurl.out]; omega), List.append_nil]
        have := hg2.out
        rw [h2] at this
        exact this
      have hfw : Fr (· = f) W w2 := Fr.of_below HB2.out
      refine ⟨W.heap.size, rfl, byt_of_blk hfin (by have := HWh.out.len; rw [List.length_take, List.length_drop]; omega) hXa.out (by unfold maxLen; omega), by omega, ?_, HFr.out.trans hfw⟩
      exact ⟨HWh.out.blk.below HB2.out hfl, HWh.out.byt.below HB2.out hgl, HWh.out.len, HWh.out.lim, HWh.out.all⟩
  · obtain rfl : p = 0 := by rw [hcut.out, if_neg haN]
    obtain rfl : n = 0 := by omega
    obtain rfl : a = N := by omega
    rcases hfa with hfa | ⟨hfa0, hfa⟩
    all_goals
      go_enter Tryz.func145, Tryz.ntmps145
      go_wp2_with (first
        | (go_at_call 165; refine HA.out.mono ?_; rintro e w' ⟨rfl, rfl⟩)
        | (at_make
           refine wpList_make_lc _ rfl (.tmp 28) (.tmp 28) 27 rfl 5 i0 _ Tryz.underlying27 hi hz0 hz1 .i64 .i64 _ _ 0 0 rfl rfl rfl rfl (Nat.le_refl _) (by rw [hz2]; omega) (by unfold maxLen; omega) ?_
           intro w1 hg1 hbel1
           have HG1 : Hid (Blk w1 W.heap.size 5 cur.toArray) := Lib.hid (by
             have := hg1.out
             rw [hcurE.out] at this
             exact this)
           have HB1 := Lib.hid hbel1
           have f0 : w1.cell? ⟨f, 0, none⟩ = some (.slice (some ⟨g, 0, none⟩) a a) := (HWh.out.blk.below hbel1 hfl).cell 0
           clear hg1 hbel1)
        | (with_reducible refine wpList_copy_nothing rfl (.tmp 30) (.tmp 36) 27 27 rfl 5 Tryz.underlying27 info5size (some ⟨W.heap.size, 0, none⟩) (some ⟨g, 0, none⟩) 0 0 0 0 rfl rfl rfl ?_))
      go_ret2
      have hfw : Fr (· = f) W w1 := Fr.of_below HB1.out
      refine ⟨W.heap.size, rfl, ⟨rfl, by simp, Nat.le_refl _, Nat.zero_le _, fun h => by omega⟩, by omega, ?_, HFr.out.trans hfw⟩
      exact ⟨HWh.out.blk.below HB1.out hfl, HWh.out.byt.below HB1.out hgl, HWh.out.len, HWh.out.lim, HWh.out.all⟩
end Go.Proofs.YtggfaalodojjkaaGreatDoor
