/-
  What is known of a flash, a cursor and the blocks that a call leaves as they were; flash.New.
-/
import Derived.Test.YtggfaalodojjkaaGreatDoorQLn
import Derived.Deep.Draws
import Derived.WalkSmall
import Derived.StillTailTactics
import Derived.Deep.RegionWith
import Derived.Laws.LoneSync
namespace Go.Proofs.YtggfaalodojjkaaGreatDoor
open Go.RowKit
set_option linter.unusedVariables false
section
variable {S T : Nat → Prop} {w w' w'' : World}
end
section
variable {w w' : World} {g g' : Nat} {t t' : TypeId} {cs cs' : Array Value}
end
def flC (g N r : Nat) (fa : Int) : Array Value := #[.slice (some ⟨g, 0, none⟩) N N, .int .i64 r, .int .i64 fa]
def cuC (f : Nat) (fr til at' : Int) : Array Value := #[.pointer (some ⟨f, 0, none⟩), .int .i64 fr, .int .i64 til, .int .i64 at']
/-- a flash: its struct in block f, its bytes in block g -/
structure Fl (w : World) (f g N : Nat) (l : List Nat) (r : Nat) (fa : Int) : Prop where
  blk : Blk w f 84 (flC g N r fa)
  byt : Blk w g 5 (l.map U8).toArray
  len : l.length = N
  lim : N ≤ 65536
  all : ∀ x ∈ l, x < 256
set_option maxHeartbeats 400000 in
set_option maxRecDepth 100000 in
theorem New_long (A : Option Addr) (n cap : Nat) (w : World) (hn : 65536 < n) (hc : n ≤ 9223372036854775807) :
    Calls Tryz.prog 15 #[.slice A n cap] w fun e w' => e = .returned (.tuple #[.pointer none, .int .i64 15]) ∧ w = w' := by
  go_enter Tryz.func15, Tryz.ntmps15
  go_wp2
  go_ret2
  exact ⟨rfl, rfl⟩
set_option maxHeartbeats 1000000 in
set_option maxRecDepth 100000 in
theorem New_any (A : Option Addr) (n cap : Nat) (l : List Nat) (w : World) (hb : Byt w A n cap l) (hn1 : n ≤ 65536) :
    Calls Tryz.prog 15 #[.slice A n cap] w fun e w' => ∃ f g, e = .returned (.tuple #[.pointer (some ⟨f, 0, none⟩), .int .i64 0]) ∧ Fl w' f g n l 0 (-1) ∧ Below w.heap.size w w' ∧ w.heap.size ≤ f ∧ w.heap.size ≤ g := by
  obtain ⟨i0, hi, hz0, hz1, hz2⟩ := info_parts info5
  have HB := Lib.hid hb
  clear hb
  obtain ⟨X, hX⟩ : ∃ X, X = l.map U8 := ⟨_, rfl⟩
  have hlen : l.length = n := HB.out.1
  have hXl : Hid (X.length = n) := Lib.hid (by rw [hX, List.length_map]; exact hlen)
  have hXc : Hid (0 < n → ∃ b off, A = some ⟨b, off, none⟩ ∧ b < w.heap.size ∧ ∀ j v, X[j]? = some v → w.cell? ((⟨b, off, none⟩ : Addr).add j) = some v) := Lib.hid (by
    intro h0
    obtain ⟨b, off, hA, hlt, hcell⟩ := HB.out.2.2.2.2 h0
    refine ⟨b, off, hA, hlt, fun j v hv => ?_⟩
    have hj : j < l.length := by
      have := (List.getElem?_eq_some_iff.1 hv).1
      rw [hX, List.length_map] at this; exact this
    rw [hX, map_getD l j hj] at hv
    rw [addr_add, hcell j (by omega)]
    exact hv)
  have hX1 : Hid (∀ v ∈ X, v.oneCell' = true) := Lib.hid (by
    intro v hv
    rw [hX, List.mem_map] at hv
    obtain ⟨x, _, rfl⟩ := hv
    rfl)
  have hXE := Lib.hid hX
  clear hX hlen
  obtain ⟨cur, hcur⟩ : ∃ cur, cur = (madeCells (Value.int .u8 0).cells n).toList := ⟨_, rfl⟩
  have hcurl : Hid (cur.length = n) := Lib.hid (by rw [hcur, Array.length_toList, size_madeCells])
  have hcurE : Hid ((madeCells (Value.int .u8 0).cells n) = cur.toArray) := Lib.hid (by rw [hcur])
  clear hcur
  go_enter Tryz.func15, Tryz.ntmps15
  go_wp2_with (first
    | (at_make
       refine wpList_make_lc _ rfl (.tmp 12) (.tmp 12) 27 rfl 5 i0 _ Tryz.underlying27 hi hz0 hz1 .i64 .i64 _ _ n n rfl rfl rfl rfl (Nat.le_refl _) (by rw [hz2]; omega) (by unfold maxLen; omega) ?_
       intro w1 hg1 hbel1
       have HG1 : Hid (Blk w1 (w.heap.size + 1) 5 cur.toArray) := Lib.hid (by
         have := hg1.out
         rw [hcurE.out] at this
         simpa [Blk] using this)
       have HB1 := Lib.hid hbel1
       have HF1 : Hid (Blk w1 w.heap.size 84 #[.slice none 0 0, .int .i64 0, .int .i64 0]) := Lib.hid ((Blk.new w 84 _).below hbel1 (by simp))
       have f0 : w1.cell? ⟨w.heap.size, 0, none⟩ = some (.slice none 0 0) := HF1.out.cell 0
       have f2 : w1.cell? ⟨w.heap.size, 2, none⟩ = some (.int .i64 0) := HF1.out.cell 2
       have z0 := HF1.out.frozen 0
       have z2 := HF1.out.frozen 2
       have HG2 : Hid (Blk (w1.setCell ⟨w.heap.size, 0, none⟩ (.slice (some ⟨w.heap.size + 1, 0, none⟩) n n)) (w.heap.size + 1) 5 cur.toArray) := Lib.hid (HG1.out.far (by simp) _)
       have HF2 : Hid (Blk (w1.setCell ⟨w.heap.size, 0, none⟩ (.slice (some ⟨w.heap.size + 1, 0, none⟩) n n)) w.heap.size 84 (flC (w.heap.size + 1) n 0 0)) := Lib.hid (HF1.out.set_ 0 _)
       clear hg1 hbel1)
    | (with_reducible refine wpList_copy_splice rfl (.tmp 21) (.tmp 22) 27 27 rfl 5 Tryz.underlying27 info5size (some ⟨w.heap.size + 1, 0, none⟩) A n n n cap rfl rfl (w.heap.size + 1) 0 cur 5 HG2.out.row X ?d1 ?d2 ?d3 hX1.out (w.heap.size + 1) _ (Below.refl _ _) (Nat.le_refl _) ?_
       case d1 => rw [hXl.out]; exact (Nat.min_self n).symm
       case d2 =>
         intro h0
         rw [hXl.out] at h0
         obtain ⟨b, off, hA, hlt, hcell⟩ := hXc.out h0
         refine ⟨rfl, _, hA, fun j v hv => ?_⟩
         rw [World.cell?_setCell_other _ _ _ _ (by rw [addr_add]; intro e; injection e with e; omega), HB1.out.cell (by rw [addr_add]; simp; omega)]
         rw [World.cell?_alloc_lt w _ _ (by rw [addr_add]; exact hlt)]
         exact hcell j v hv
       case d3 => rw [hXl.out, hcurl.out]; omega
       intro w2 hg2 hbel2
       have HF3 : Hid (Blk w2 w.heap.size 84 (flC (w.heap.size + 1) n 0 0)) := Lib.hid (HF2.out.below hbel2 (by omega))
       have g2 : w2.cell? ⟨w.heap.size, 2, none⟩ = some (.int .i64 0) := HF3.out.cell 2
       have y2 := HF3.out.frozen 2
       have HB2 := Lib.hid hbel2
       clear hbel2))
  go_ret2
  have hfl : Blk w2 (w.heap.size + 1) 5 (l.map U8).toArray := by
    have h2 : (splice cur 0 X) = l.map U8 := by
      rw [← hXE.out]
      simp only [splice, List.take_zero, List.nil_append]
      rw [List.drop_eq_nil_of_le (by rw [hXl.out, hcurl.out]; omega), List.append_nil]
    have := hg2.out
    rw [h2] at this
    exact this
  refine ⟨w.heap.size, w.heap.size + 1, rfl, ⟨HF3.out.set_ 2 _, hfl.far (by simp) _, HB.out.1, hn1, HB.out.2.1⟩, ?_, Nat.le_refl _, by omega⟩
  have q1 : Below w.heap.size w w1 := ((Below.refl w.heap.size w).alloc (Nat.le_refl _) _).trans (HB1.out.mono (by simp))
  exact ((q1.setCell (Nat.le_refl _) _).trans (HB2.out.mono (by omega))).setCell (Nat.le_refl _) _
end Go.Proofs.YtggfaalodojjkaaGreatDoor
/-
  The count of reads (atomic), flash.read, and Reads, Len, FailAt.
-/
namespace Go.Proofs.YtggfaalodojjkaaGreatDoor
open Go.RowKit
set_option linter.unusedVariables false
theorem add_run (p : Addr) (r : Nat) (w : World) (hr : r < 1000000) (hc : w.cell? p = some (.int .i64 r)) (hz : w.frozen? p = false) :
    (callFunc 176 #[.pointer (some p), .int .i64 1]).run Tryz.prog w = .ok (.value (.int .i64 ((r : Int) + 1))) (w.setCell p (.int .i64 ((r : Int) + 1))) :=
  run_call_add (P := Tryz.prog) Tryz.func176 (by kernel_rfl) (by kernel_rfl) (by kernel_rfl) .i64 (by kernel_rfl) hc hz (by simp [go_sem, IntKind.wrap_i64]; omega)
theorem load_run (p : Addr) (r : Int) (w : World) (hc : w.cell? p = some (.int .i64 r)) :
    (callFunc 87 #[.pointer (some p)]).run Tryz.prog w = .ok (.value (.int .i64 r)) w :=
  run_call_load (P := Tryz.prog) Tryz.func87 (by kernel_rfl) (by kernel_rfl) (by kernel_rfl) .i64 (by kernel_rfl) hc
set_option maxHeartbeats 400000 in
set_option maxRecDepth 100000 in
theorem Add_any (f i : Nat) (r : Nat) (w : World) (hr : r < 1000000) (hc : w.cell? ⟨f, i, none⟩ = some (.int .i64 r)) (hz : w.frozen? ⟨f, i, none⟩ = false) :
    Calls Tryz.prog 165 #[.pointer (some ⟨f, i, none⟩), .int .i64 1] w fun e w' => e = .returned (.int .i64 ((r : Int) + 1)) ∧ w.setCell ⟨f, i, none⟩ (.int .i64 ((r : Int) + 1)) = w' := by
  have ha := add_run ⟨f, i, none⟩ r w hr hc hz
  go_enter Tryz.func165, Tryz.ntmps165
  go_wp2
  go_ret
  exact ⟨rfl, rfl⟩
set_option maxHeartbeats 400000 in
set_option maxRecDepth 100000 in
theorem Load_any (f i : Nat) (r : Int) (w : World) (hc : w.cell? ⟨f, i, none⟩ = some (.int .i64 r)) :
    Calls Tryz.prog 52 #[.pointer (some ⟨f, i, none⟩)] w fun e w' => e = .returned (.int .i64 r) ∧ w = w' := by
  have ha := load_run ⟨f, i, none⟩ r w hc
  go_enter Tryz.func52, Tryz.ntmps52
  go_wp2
  go_ret
  exact ⟨rfl, rfl⟩
/-- the flash behind a read: one more is counted -/
theorem Fl.counted {w : World} {f g N : Nat} {l : List Nat} {r : Nat} {fa : Int} (h : Fl w f g N l r fa) : Fl (w.setCell ⟨f, 1, none⟩ (.int .i64 ((r : Int) + 1))) f g N l (r + 1) fa :=
  ⟨by have := h.blk.set_ 1 (.int .i64 ((r : Int) + 1)); exact this, h.byt.far (fun e => h.byt.ne_ h.blk (by decide) e) _, h.len, h.lim, h.all⟩
theorem Fl.fr {S : Nat → Prop} {w w' : World} {f g N : Nat} {l : List Nat} {r : Nat} {fa : Int} (h : Fl w f g N l r fa) (hf : Fr S w w') (h1 : ¬ S f) (h2 : ¬ S g) : Fl w' f g N l r fa :=
  ⟨h.blk.fr hf h1, h.byt.fr hf h2, h.len, h.lim, h.all⟩
set_option maxHeartbeats 400000 in
set_option maxRecDepth 100000 in
theorem read_fail (f g N : Nat) (l : List Nat) (r : Nat) (fa : Int) (a n : Int) (w : World) (h : Fl w f g N l r fa) (hr : r < 1000000) (h1 : 0 ≤ fa) (h2 : fa ≤ r) :
    Calls Tryz.prog 145 #[.pointer (some ⟨f, 0, none⟩), .int .i64 a, .int .i64 n] w fun e w' => e = .returned (.tuple #[.slice none 0 0, .int .i64 9]) ∧ Fl w' f g N l (r + 1) fa ∧ Fr (· = f) w w' := by
  have c1 : w.cell? ⟨f, 1, none⟩ = some (.int .i64 r) := h.blk.cell 1
  have c2 : w.cell? ⟨f, 2, none⟩ = some (.int .i64 fa) := h.blk.cell 2
  have z1 := h.blk.frozen 1
  have HF := Lib.hid h.counted
  have HA := Lib.hid (Add_any f 1 r w hr c1 z1)
  clear h
  go_enter Tryz.func145, Tryz.ntmps145
  go_wp2_with (go_at_call 165; refine HA.out.mono ?_; rintro e w' ⟨rfl, rfl⟩)
  go_ret2
  exact ⟨rfl, HF.out, (Fr.refl (· = f) _).set_ (p := ⟨f, 1, none⟩) rfl _⟩

theorem byt_of_blk {w : World} {b n : Nat} {l : List Nat} (h : Blk w b 5 (l.map U8).toArray) (hl : l.length = n) (hx : ∀ x ∈ l, x < 256) (hm : n ≤ maxLen) : Byt w (some ⟨b, 0, none⟩) n n l := by
  refine ⟨hl, hx, Nat.le_refl _, hm, fun _ => ⟨b, 0, rfl, h.lt, fun j hj => ?_⟩⟩
  rw [Nat.zero_add, h.cell j, List.getElem?_toArray, map_getD l j (by omega)]; rfl
def RdPost (f g N : Nat) (l : List Nat) (r : Nat) (fa : Int) (a n : Nat) (w : World) (e : Ending) (w' : World) : Prop :=
  ∃ b, e = .returned (.tuple #[.slice (some ⟨b, 0, none⟩) n n, .int .i64 0]) ∧ Byt w' (some ⟨b, 0, none⟩) n n ((l.drop a).take n) ∧ w.heap.size ≤ b ∧ Fl w' f g N l (r + 1) fa ∧ Fr (· = f) w w'
set_option maxHeartbeats 1000000 in
set_option maxRecDepth 100000 in
theorem fread_ok (f g N : Nat) (l : List Nat) (r : Nat) (fa : Int) (a n : Nat) (w : World) (h : Fl w f g N l r fa) (hr : r < 1000000) (hfa : fa < 0 ∨ (0 ≤ fa ∧ (r : Int) < fa)) (han : a + n ≤ N) :
    Calls Tryz.prog 145 #[.pointer (some ⟨f, 0, none⟩), .int .i64 a, .int .i64 n] w (RdPost f g N l r fa a n w) := by
  obtain ⟨i0, hi, hz0, hz1, hz2⟩ := info_parts info5
  have c1 : w.cell? ⟨f, 1, none⟩ = some (.int .i64 r) := h.blk.cell 1
  have z1 := h.blk.frozen 1
  obtain ⟨W, hW⟩ : ∃ W, W = w.setCell ⟨f, 1, none⟩ (.int .i64 ((r : Int) + 1)) := ⟨_, rfl⟩
  have HW := h.counted
  have hFr : Fr (· = f) w W := by rw [hW]; exact (Fr.refl (· = f) _).set_ (p := ⟨f, 1, none⟩) rfl _
  rw [← hW] at HW
  have HA : Hid (Calls Tryz.prog 165 #[.pointer (some ⟨f, 1, none⟩), .int .i64 1] w fun e w' => e = .returned (.int .i64 ((r : Int) + 1)) ∧ W = w') := Lib.hid (by
    rw [hW]; exact Add_any f 1 r w hr c1 z1)
  have hs0 := hFr.size
  clear hW c1 z1
  have hlen := HW.len
  have hlim := HW.lim
  obtain ⟨X, hX⟩ : ∃ X, X = ((l.drop a).take n).map U8 := ⟨_, rfl⟩
  have hXn : ((l.drop a).take n).length = n := by rw [List.length_take, List.length_drop]; omega
  have hXl : Hid (X.length = n) := Lib.hid (by rw [hX, List.length_map, hXn])
  have hXa : Hid (∀ x ∈ (l.drop a).take n, x < 256) := Lib.hid (fun x hx => HW.all x (List.mem_of_mem_drop (List.mem_of_mem_take hx)))
  have hXc : Hid (∀ j v, X[j]? = some v → W.cell? ⟨g, a + j, none⟩ = some v) := Lib.hid (by
    intro j v hv
    have hj : j < n := by
      have := (List.getElem?_eq_some_iff.1 hv).1
      rw [hX, List.length_map, hXn] at this; exact this
    rw [HW.byt.cell (a + j), ← hv, hX]
    simp only [List.getElem?_toArray, List.getElem?_map]
    rw [List.getElem?_take_of_lt hj, List.getElem?_drop])
  have hX1 : Hid (∀ v ∈ X, v.oneCell' = true) := Lib.hid (by
    intro v hv
    rw [hX, List.mem_map] at hv
    obtain ⟨x, _, rfl⟩ := hv
    rfl)
  have hXE := Lib.hid hX
  have hgl := HW.byt.lt
  have hfl := HW.blk.lt
  obtain ⟨cur, hcur⟩ : ∃ cur, cur = (madeCells (Value.int .u8 0).cells n).toList := ⟨_, rfl⟩
  have hcurl : Hid (cur.length = n) := Lib.hid (by rw [hcur, Array.length_toList, size_madeCells])
  have hcurE : Hid ((madeCells (Value.int .u8 0).cells n) = cur.toArray) := Lib.hid (by rw [hcur])
  have f2 : W.cell? ⟨f, 2, none⟩ = some (.int .i64 fa) := HW.blk.cell 2
  have HWh := Lib.hid HW
  have HFr := Lib.hid hFr
  clear hcur hX hXn h HW hFr hlen
  obtain ⟨p, hp⟩ : ∃ p : Nat, p = (if a < N then a else 0) := ⟨_, rfl⟩
  have hpE : Hid (0 < n → p = a) := Lib.hid (fun h0 => by rw [hp, if_pos (by omega)])
  have hcut : Hid (p = if a < N then a else 0) := Lib.hid hp
  clear hp
  by_cases haN : a < N
  · obtain rfl : p = a := by rw [hcut.out, if_pos haN]
    rcases hfa with hfa | ⟨hfa0, hfa⟩
    all_goals
      go_enter Tryz.func145, Tryz.ntmps145
      go_wp2_with (first
        | (go_at_call 165; refine HA.out.mono ?_; rintro e w' ⟨rfl, rfl⟩)
        | (at_make
           refine wpList_make_lc _ rfl (.tmp 28) (.tmp 28) 27 rfl 5 i0 _ Tryz.underlying27 hi hz0 hz1 .i64 .i64 _ _ n n rfl rfl rfl rfl (Nat.le_refl _) (by rw [hz2]; omega) (by unfold maxLen; omega) ?_
           intro w1 hg1 hbel1
           have HG1 : Hid (Blk w1 W.heap.size 5 cur.toArray) := Lib.hid (by
             have := hg1.out
             rw [hcurE.out] at this
             exact this)
           have HB1 := Lib.hid hbel1
           have f0 : w1.cell? ⟨f, 0, none⟩ = some (.slice (some ⟨g, 0, none⟩) N N) := (HWh.out.blk.below hbel1 hfl).cell 0
           clear hg1 hbel1)
        | (with_reducible refine wpList_copy_splice rfl (.tmp 30) (.tmp 36) 27 27 rfl 5 Tryz.underlying27 info5size (some ⟨W.heap.size, 0, none⟩) (some ⟨g, p, none⟩) n n (N - p) (N - p) rfl rfl W.heap.size 0 cur 5 HG1.out.row X ?d1 ?d2 ?d3 hX1.out W.heap.size W HB1.out (Nat.le_refl _) ?_
           case d1 => rw [hXl.out]; exact (Nat.min_eq_right (by omega)).symm
           case d2 =>
             intro _
             refine ⟨rfl, _, rfl, fun j v hv => ?_⟩
             rw [addr_add, HB1.out.cell (p := ⟨g, p + j, none⟩) hgl]
             exact hXc.out j v hv
           case d3 => rw [hXl.out, hcurl.out]; omega
           intro w2 hg2 hbel2
           have HB2 := Lib.hid hbel2
           clear hbel2))
      go_ret2
      have hfin : Blk w2 W.heap.size 5 (((l.drop p).take n).map U8).toArray := by
        have h2 : (splice cur 0 X) = ((l.drop p).take n).map U8 := by
          rw [← hXE.out]
          simp only [splice, List.take_zero, List.nil_append]
          rw [List.drop_eq_nil_of_le (by rw [hXl.out, hcurl.out]; omega), List.append_nil]
        have := hg2.out
        rw [h2] at this
        exact this
      have hfw : Fr (· = f) W w2 := Fr.of_below HB2.out
      refine ⟨W.heap.size, rfl, byt_of_blk hfin (by have := HWh.out.len; rw [List.length_take, List.length_drop]; omega) hXa.out (by unfold maxLen; omega), by omega, ?_, HFr.out.trans hfw⟩
      exact ⟨HWh.out.blk.below HB2.out hfl, HWh.out.byt.below HB2.out hgl, HWh.out.len, HWh.out.lim, HWh.out.all⟩
  · obtain rfl : p = 0 := by rw [hcut.out, if_neg haN]
    obtain rfl : n = 0 := by omega
    obtain rfl : a = N := by omega
    rcases hfa with hfa | ⟨hfa0, hfa⟩
    all_goals
      go_enter Tryz.func145, Tryz.ntmps145
      go_wp2_with (first
        | (go_at_call 165; refine HA.out.mono ?_; rintro e w' ⟨rfl, rfl⟩)
        | (at_make
           refine wpList_make_lc _ rfl (.tmp 28) (.tmp 28) 27 rfl 5 i0 _ Tryz.underlying27 hi hz0 hz1 .i64 .i64 _ _ 0 0 rfl rfl rfl rfl (Nat.le_refl _) (by rw [hz2]; omega) (by unfold maxLen; omega) ?_
           intro w1 hg1 hbel1
           have HG1 : Hid (Blk w1 W.heap.size 5 cur.toArray) := Lib.hid (by
             have := hg1.out
             rw [hcurE.out] at this
             exact this)
           have HB1 := Lib.hid hbel1
           have f0 : w1.cell? ⟨f, 0, none⟩ = some (.slice (some ⟨g, 0, none⟩) a a) := (HWh.out.blk.below hbel1 hfl).cell 0
           clear hg1 hbel1)
        | (with_reducible refine wpList_copy_nothing rfl (.tmp 30) (.tmp 36) 27 27 rfl 5 Tryz.underlying27 info5size (some ⟨W.heap.size, 0, none⟩) (some ⟨g, 0, none⟩) 0 0 0 0 rfl rfl rfl ?_))
      go_ret2
      have hfw : Fr (· = f) W w1 := Fr.of_below HB1.out
      refine ⟨W.heap.size, rfl, ⟨rfl, by simp, Nat.le_refl _, Nat.zero_le _, fun h => by omega⟩, by omega, ?_, HFr.out.trans hfw⟩
      exact ⟨HWh.out.blk.below HB1.out hfl, HWh.out.byt.below HB1.out hgl, HWh.out.len, HWh.out.lim, HWh.out.all⟩
end Go.Proofs.YtggfaalodojjkaaGreatDoor
/-
  Cursors: Left, At, has, Go, Take: what they answer, and what they leave.
-/
namespace Go.Proofs.YtggfaalodojjkaaGreatDoor
open Go.RowKit
set_option linter.unusedVariables false
/-- a cursor in block c, of the flash in block f, from fr up til t, at a -/
structure St (w : World) (f g c N : Nat) (l : List Nat) (r : Nat) (fa : Int) (fr t a : Nat) : Prop where
  fl : Fl w f g N l r fa
  cu : Blk w c 87 (cuC f fr t a)
  h1 : fr ≤ a
  h2 : a ≤ t
  h3 : t ≤ N
section
variable {w w' : World} {f g c N : Nat} {l : List Nat} {r : Nat} {fa : Int} {fr t a : Nat}
theorem St.drewN (h : St w f g c N l r fa fr t a) (k : Nat) : St (w.drewN k) f g c N l r fa fr t a := ⟨⟨h.fl.blk, h.fl.byt, h.fl.len, h.fl.lim, h.fl.all⟩, h.cu, h.h1, h.h2, h.h3⟩
theorem St.fc (h : St w f g c N l r fa fr t a) : f ≠ c := h.fl.blk.ne_ h.cu (by decide)
theorem St.gc (h : St w f g c N l r fa fr t a) : g ≠ c := h.fl.byt.ne_ h.cu (by decide)
theorem St.gf (h : St w f g c N l r fa fr t a) : g ≠ f := h.fl.byt.ne_ h.fl.blk (by decide)
theorem St.fr_ {S : Nat → Prop} (h : St w f g c N l r fa fr t a) (hf : Fr S w w') (h1 : ¬ S f) (h2 : ¬ S g) (h3 : ¬ S c) : St w' f g c N l r fa fr t a :=
  ⟨h.fl.fr hf h1 h2, h.cu.fr hf h3, h.h1, h.h2, h.h3⟩
theorem St.moved (h : St w f g c N l r fa fr t a) (b : Nat) (h1 : fr ≤ b) (h2 : b ≤ t) : St (w.setCell ⟨c, 3, none⟩ (.int .i64 (b : Nat))) f g c N l r fa fr t b :=
  ⟨⟨h.fl.blk.far h.fc _, h.fl.byt.far h.gc _, h.fl.len, h.fl.lim, h.fl.all⟩, by have := h.cu.set_ 3 (.int .i64 (b : Nat)); exact this, h1, h2, h.h3⟩
end
set_option maxHeartbeats 400000 in
set_option maxRecDepth 100000 in
theorem Left_any (w : World) (c f : Nat) (fr t a : Nat) (h : Blk w c 87 (cuC f fr t a)) (h1 : a ≤ t) (h2 : t ≤ 65536) :
    Calls Tryz.prog 21 #[.pointer (some ⟨c, 0, none⟩)] w fun e w' => e = .returned (.int .i64 ((t : Int) - (a : Int))) ∧ ∃ k, w.drewN k = w' := by
  have c2 : w.cell? ⟨c, 2, none⟩ = some (.int .i64 t) := h.cell 2
  have c3 : w.cell? ⟨c, 3, none⟩ = some (.int .i64 a) := h.cell 3
  clear h
  go_enter Tryz.func21, Tryz.ntmps21
  go_wp2
  go_quiet (fail)
  go_wp2
  go_ret
  exact ⟨rfl, _, rfl⟩
set_option maxHeartbeats 400000 in
set_option maxRecDepth 100000 in
theorem At_any (w : World) (c f : Nat) (fr t a : Nat) (h : Blk w c 87 (cuC f fr t a)) :
    Calls Tryz.prog 24 #[.pointer (some ⟨c, 0, none⟩)] w fun e w' => e = .returned (.int .i64 a) ∧ w = w' := by
  have c3 : w.cell? ⟨c, 3, none⟩ = some (.int .i64 a) := h.cell 3
  clear h
  go_enter Tryz.func24, Tryz.ntmps24
  go_wp2
  go_ret
  exact ⟨rfl, rfl⟩
def hs (n left : Int) : Int := if n < 0 then 1 else if left < n then 3 else 0
set_option maxHeartbeats 400000 in
set_option maxRecDepth 100000 in
theorem has_any (w : World) (c f : Nat) (fr t a : Nat) (n : Int) (h : Blk w c 87 (cuC f fr t a)) (h1 : a ≤ t) (h2 : t ≤ 65536) :
    Calls Tryz.prog 144 #[.pointer (some ⟨c, 0, none⟩), .int .i64 n] w fun e w' => e = .returned (.int .i64 (hs n ((t : Int) - (a : Int)))) ∧ ∃ k, w.drewN k = w' := by
  have HL := Lib.hid (Left_any w c f fr t a h h1 h2)
  clear h
  unfold hs
  by_cases n0 : n < 0
  · rw [if_pos n0]
    go_enter Tryz.func144, Tryz.ntmps144
    go_wp2_with (go_at_call 21; refine HL.out.mono ?_; rintro e w' ⟨rfl, k, rfl⟩)
    go_ret
    exact ⟨rfl, 0, rfl⟩
  · rw [if_neg n0]
    by_cases n1 : (t : Int) - (a : Int) < n
    · rw [if_pos n1]
      go_enter Tryz.func144, Tryz.ntmps144
      go_wp2_with (go_at_call 21; refine HL.out.mono ?_; rintro e w' ⟨rfl, k, rfl⟩)
      go_ret
      exact ⟨rfl, _, rfl⟩
    · rw [if_neg n1]
      go_enter Tryz.func144, Tryz.ntmps144
      go_wp2_with (go_at_call 21; refine HL.out.mono ?_; rintro e w' ⟨rfl, k, rfl⟩)
      go_ret
      exact ⟨rfl, _, rfl⟩
set_option maxHeartbeats 400000 in
set_option maxRecDepth 100000 in
theorem Go_yes (w : World) (c f : Nat) (fr t a : Nat) (n : Int) (h : Blk w c 87 (cuC f fr t a)) (h1 : fr ≤ n) (h2 : n ≤ t) :
    Calls Tryz.prog 22 #[.pointer (some ⟨c, 0, none⟩), .int .i64 n] w fun e w' => e = .returned (.int .i64 0) ∧ w.setCell ⟨c, 3, none⟩ (.int .i64 n) = w' := by
  have c1 : w.cell? ⟨c, 1, none⟩ = some (.int .i64 fr) := h.cell 1
  have c2 : w.cell? ⟨c, 2, none⟩ = some (.int .i64 t) := h.cell 2
  have c3 : w.cell? ⟨c, 3, none⟩ = some (.int .i64 a) := h.cell 3
  have z3 := h.frozen 3
  clear h
  go_enter Tryz.func22, Tryz.ntmps22
  go_wp2
  go_ret
  exact ⟨rfl, rfl⟩
set_option maxHeartbeats 400000 in
set_option maxRecDepth 100000 in
theorem Go_no (w : World) (c f : Nat) (fr t a : Nat) (n : Int) (h : Blk w c 87 (cuC f fr t a)) (h1 : n < fr ∨ (fr ≤ n ∧ t < n)) :
    Calls Tryz.prog 22 #[.pointer (some ⟨c, 0, none⟩), .int .i64 n] w fun e w' => e = .returned (.int .i64 2) ∧ w = w' := by
  have c1 : w.cell? ⟨c, 1, none⟩ = some (.int .i64 fr) := h.cell 1
  have c2 : w.cell? ⟨c, 2, none⟩ = some (.int .i64 t) := h.cell 2
  clear h
  rcases h1 with h1 | ⟨h1, h2⟩
  all_goals
    go_enter Tryz.func22, Tryz.ntmps22
    go_wp2
    go_ret
    exact ⟨rfl, rfl⟩
end Go.Proofs.YtggfaalodojjkaaGreatDoor
/-
  Cursors: Take, Byte, Part; a flash: Cursor, Reads, Len, FailAt.
-/
namespace Go.Proofs.YtggfaalodojjkaaGreatDoor
open Go.RowKit
set_option linter.unusedVariables false
theorem Fr.undrew {S : Nat → Prop} {w w' : World} (h : Fr S w.drew w') : Fr S w w' := ⟨h.os, h.tape, h.output, h.size, h.block⟩
theorem Fr.undrewN {S : Nat → Prop} {w w' : World} {k : Nat} (h : Fr S (w.drewN k) w') : Fr S w w' := ⟨h.os, h.tape, h.output, h.size, h.block⟩
theorem Byt.far {w : World} {b n cap : Nat} {l : List Nat} (h : Byt w (some ⟨b, 0, none⟩) n cap l) {p : Addr} (hp : b ≠ p.block) (u : Value) : Byt (w.setCell p u) (some ⟨b, 0, none⟩) n cap l := by
  obtain ⟨hl, hx, hn, hcap, hc⟩ := h
  refine ⟨hl, hx, hn, hcap, fun h0 => ?_⟩
  obtain ⟨b', off, hA, hlt, hcell⟩ := hc h0
  refine ⟨b', off, hA, by simpa [World.setCell] using hlt, fun j hj => ?_⟩
  injection hA with hA
  injection hA with e1 e2 _
  rw [World.cell?_setCell_other _ _ _ _ (by intro e; apply hp; rw [e, e1])]
  exact hcell j hj
def FC (f c : Nat) (k : Nat) : Prop := k = f ∨ k = c
set_option maxHeartbeats 400000 in
set_option maxRecDepth 100000 in
theorem Take_bad (w : World) (f g c N : Nat) (l : List Nat) (r : Nat) (fa : Int) (fr t a : Nat) (n : Int) (h : St w f g c N l r fa fr t a) (hb : hs n ((t : Int) - (a : Int)) ≠ 0) :
    Calls Tryz.prog 125 #[.pointer (some ⟨c, 0, none⟩), .int .i64 n] w fun e w' => e = .returned (.tuple #[.slice none 0 0, .int .i64 (hs n ((t : Int) - (a : Int)))]) ∧ ∃ k, w.drewN k = w' := by
  have HH := Lib.hid (has_any w c f fr t a n h.cu h.h2 (Nat.le_trans h.h3 h.fl.lim))
  clear h
  have hne : (hs n ((t : Int) - (a : Int)) != 0) = true := by rw [bne_iff_ne]; exact hb
  clear hb
  generalize hs n ((t : Int) - (a : Int)) = y at *
  go_enter Tryz.func125, Tryz.ntmps125
  go_wp2_with (go_at_call 144; refine HH.out.mono ?_; rintro e w' ⟨rfl, k, rfl⟩)
  go_ret2
  exact ⟨rfl, _, rfl⟩
theorem hs_ok {n left : Int} (h1 : 0 ≤ n) (h2 : n ≤ left) : hs n left = 0 := by unfold hs; rw [if_neg (by omega), if_neg (by omega)]
def TkPost (f g c N : Nat) (l : List Nat) (r : Nat) (fa : Int) (fr t a n : Nat) (w : World) (e : Ending) (w' : World) : Prop :=
  ∃ b, e = .returned (.tuple #[.slice (some ⟨b, 0, none⟩) n n, .int .i64 0]) ∧ Byt w' (some ⟨b, 0, none⟩) n n ((l.drop a).take n) ∧ St w' f g c N l (r + 1) fa fr t (a + n) ∧ Fr (FC f c) w w'
set_option maxHeartbeats 1000000 in
set_option maxRecDepth 100000 in
theorem Take_ok (w : World) (f g c N : Nat) (l : List Nat) (r : Nat) (fa : Int) (fr t a n : Nat) (h : St w f g c N l r fa fr t a) (hn : a + n ≤ t) (hr : r < 1000000) (hfa : fa < 0 ∨ (0 ≤ fa ∧ (r : Int) < fa)) :
    Calls Tryz.prog 125 #[.pointer (some ⟨c, 0, none⟩), .int .i64 n] w (TkPost f g c N l r fa fr t a n w) := by
  have HH := Lib.hid (has_any w c f fr t a n h.cu h.h2 (Nat.le_trans h.h3 h.fl.lim))
  rw [hs_ok (by omega) (by omega)] at HH
  have c0 : w.cell? ⟨c, 0, none⟩ = some (.pointer (some ⟨f, 0, none⟩)) := h.cu.cell 0
  have c3 : w.cell? ⟨c, 3, none⟩ = some (.int .i64 a) := h.cu.cell 3
  have HR : Hid (∀ k, Calls Tryz.prog 145 #[.pointer (some ⟨f, 0, none⟩), .int .i64 a, .int .i64 n] (w.drewN k) (RdPost f g N l r fa a n (w.drewN k))) := Lib.hid (fun k => fread_ok f g N l r fa a n (w.drewN k) (h.drewN k).fl hr hfa (Nat.le_trans hn h.h3))
  have HS := Lib.hid h
  have hlim := Nat.le_trans h.h3 h.fl.lim
  clear h
  go_enter Tryz.func125, Tryz.ntmps125
  go_wp2_with (go_at_call 144; refine HH.out.mono ?_; rintro e W ⟨rfl, k, hk⟩; have HK := Lib.hid hk; clear hk)
  have c0' : W.cell? ⟨c, 0, none⟩ = some (.pointer (some ⟨f, 0, none⟩)) := by rw [← HK.out]; exact c0
  have c3' : W.cell? ⟨c, 3, none⟩ = some (.int .i64 a) := by rw [← HK.out]; exact c3
  have HR' : Hid (Calls Tryz.prog 145 #[.pointer (some ⟨f, 0, none⟩), .int .i64 a, .int .i64 n] W.drew (RdPost f g N l r fa a n W.drew)) := Lib.hid (by
    rw [← HK.out]; exact HR.out (k + 1))
  have HS' : Hid (St W f g c N l r fa fr t a) := Lib.hid (by rw [← HK.out]; exact HS.out.drewN k)
  have HF0 : Hid (Fr (FC f c) w W) := Lib.hid (by rw [← HK.out]; exact (Fr.refl _ _).drewN k)
  clear c0 c3 HR HS HH
  go_region_with (go_at_call 145; refine HR'.out.mono ?_; rintro e w' ⟨b, rfl, hby, hbl, hfl, hfr⟩; have HBy := Lib.hid hby; have HFl := Lib.hid hfl; have hfr2 := hfr.undrew; have HFr := Lib.hid hfr2; have HBb := Lib.hid hbl; have hcu := HS'.out.cu.fr hfr2 (fun e => HS'.out.fc e.symm); have c3w : w'.cell? ⟨c, 3, none⟩ = some (.int .i64 a) := hcu.cell 3; have z3w := hcu.frozen 3; have HCu := Lib.hid hcu; clear hby hbl hfl hfr hfr2 hcu)
  all_goals
    go_wp2
    go_ret2
    have hst : St w' f g c N l (r + 1) fa fr t a := ⟨HFl.out, HCu.out, HS'.out.h1, HS'.out.h2, HS'.out.h3⟩
    have hmv := hst.moved (a + n) (by have := HS'.out.h1; omega) hn
    have hcb : b ≠ c := by have := HS'.out.cu.lt; have := HBb.out; simp at this; omega
    have hfin : Fr (FC f c) w (w'.setCell ⟨c, 3, none⟩ (.int .i64 ((a + n : Nat) : Int))) := (HF0.out.trans (HFr.out.more (fun k hk => .inl hk))).set_ (p := ⟨c, 3, none⟩) (.inr rfl) _
    rw [Int.natCast_add] at hmv hfin
    exact ⟨b, rfl, HBy.out.far hcb _, hmv, hfin⟩
end Go.Proofs.YtggfaalodojjkaaGreatDoor
/-
  Cursors: Take where the read fails, Byte, Part; a flash: Cursor, Reads, Len, FailAt.
-/
namespace Go.Proofs.YtggfaalodojjkaaGreatDoor
open Go.RowKit
set_option linter.unusedVariables false
set_option maxHeartbeats 1000000 in
set_option maxRecDepth 100000 in
theorem Take_fail (w : World) (f g c N : Nat) (l : List Nat) (r : Nat) (fa : Int) (fr t a n : Nat) (h : St w f g c N l r fa fr t a) (hn : a + n ≤ t) (hr : r < 1000000) (hfa : 0 ≤ fa) (hfr : fa ≤ r) :
    Calls Tryz.prog 125 #[.pointer (some ⟨c, 0, none⟩), .int .i64 n] w fun e w' => e = .returned (.tuple #[.slice none 0 0, .int .i64 9]) ∧ St w' f g c N l (r + 1) fa fr t a ∧ Fr (FC f c) w w' := by
  have HH := Lib.hid (has_any w c f fr t a n h.cu h.h2 (Nat.le_trans h.h3 h.fl.lim))
  rw [hs_ok (by omega) (by omega)] at HH
  have c0 : w.cell? ⟨c, 0, none⟩ = some (.pointer (some ⟨f, 0, none⟩)) := h.cu.cell 0
  have c3 : w.cell? ⟨c, 3, none⟩ = some (.int .i64 a) := h.cu.cell 3
  have HR : Hid (∀ k, Calls Tryz.prog 145 #[.pointer (some ⟨f, 0, none⟩), .int .i64 a, .int .i64 n] (w.drewN k) fun e w' => e = .returned (.tuple #[.slice none 0 0, .int .i64 9]) ∧ Fl w' f g N l (r + 1) fa ∧ Fr (· = f) (w.drewN k) w') := Lib.hid (fun k => read_fail f g N l r fa a n (w.drewN k) (h.drewN k).fl hr hfa hfr)
  have HS := Lib.hid h
  clear h
  go_enter Tryz.func125, Tryz.ntmps125
  go_wp2_with (go_at_call 144; refine HH.out.mono ?_; rintro e W ⟨rfl, k, hk⟩; have HK := Lib.hid hk; clear hk)
  have c0' : W.cell? ⟨c, 0, none⟩ = some (.pointer (some ⟨f, 0, none⟩)) := by rw [← HK.out]; exact c0
  have c3' : W.cell? ⟨c, 3, none⟩ = some (.int .i64 a) := by rw [← HK.out]; exact c3
  have HR' : Hid (Calls Tryz.prog 145 #[.pointer (some ⟨f, 0, none⟩), .int .i64 a, .int .i64 n] W.drew fun e w' => e = .returned (.tuple #[.slice none 0 0, .int .i64 9]) ∧ Fl w' f g N l (r + 1) fa ∧ Fr (· = f) W.drew w') := Lib.hid (by
    rw [← HK.out]; exact HR.out (k + 1))
  have HS' : Hid (St W f g c N l r fa fr t a) := Lib.hid (by rw [← HK.out]; exact HS.out.drewN k)
  have HF0 : Hid (Fr (FC f c) w W) := Lib.hid (by rw [← HK.out]; exact (Fr.refl _ _).drewN k)
  clear c0 c3 HR HS HH
  go_region_with (go_at_call 145; refine HR'.out.mono ?_; rintro e w' ⟨rfl, hfl, hfr⟩; have hfr2 := hfr.undrew; have HFl := Lib.hid hfl; have HFr := Lib.hid hfr2; clear hfl hfr hfr2)
  all_goals
    go_wp2
    go_ret2
    have hcu := HS'.out.cu.fr HFr.out (fun e => HS'.out.fc e.symm)
    exact ⟨rfl, ⟨HFl.out, hcu, HS'.out.h1, HS'.out.h2, HS'.out.h3⟩, HF0.out.trans (HFr.out.more (fun k hk => .inl hk))⟩
set_option maxHeartbeats 400000 in
set_option maxRecDepth 100000 in
theorem Byte_bad (w : World) (f g c N : Nat) (l : List Nat) (r : Nat) (fa : Int) (fr t a : Nat) (h : St w f g c N l r fa fr t a) (hb : t ≤ a) :
    Calls Tryz.prog 97 #[.pointer (some ⟨c, 0, none⟩)] w fun e w' => e = .returned (.tuple #[.int .u8 0, .int .i64 3]) ∧ ∃ k, w.drewN k = w' := by
  have e3 : hs 1 ((t : Int) - (a : Int)) = 3 := by unfold hs; rw [if_neg (by omega), if_pos (by omega)]
  have HT := Lib.hid (Take_bad w f g c N l r fa fr t a 1 h (by rw [e3]; decide))
  rw [e3] at HT
  clear h
  go_enter Tryz.func97, Tryz.ntmps97
  go_wp2_with (go_at_call 125; refine HT.out.mono ?_; rintro e w' ⟨rfl, k, rfl⟩)
  go_ret2
  exact ⟨rfl, _, rfl⟩
set_option maxHeartbeats 400000 in
set_option maxRecDepth 100000 in
theorem Byte_fail (w : World) (f g c N : Nat) (l : List Nat) (r : Nat) (fa : Int) (fr t a : Nat) (h : St w f g c N l r fa fr t a) (hn : a < t) (hr : r < 1000000) (hfa : 0 ≤ fa) (hfr : fa ≤ r) :
    Calls Tryz.prog 97 #[.pointer (some ⟨c, 0, none⟩)] w fun e w' => e = .returned (.tuple #[.int .u8 0, .int .i64 9]) ∧ St w' f g c N l (r + 1) fa fr t a ∧ Fr (FC f c) w w' := by
  have HT := Lib.hid (Take_fail w f g c N l r fa fr t a 1 h hn hr hfa hfr)
  clear h
  go_enter Tryz.func97, Tryz.ntmps97
  go_wp2_with (go_at_call 125; refine HT.out.mono ?_; rintro e w' ⟨rfl, hst, hf⟩; have HS := Lib.hid hst; have HF := Lib.hid hf; clear hst hf)
  go_ret2
  exact ⟨rfl, HS.out, HF.out⟩
theorem byt_first {w : World} {b cp : Nat} {l : List Nat} {x : Nat} (h : Byt w (some ⟨b, 0, none⟩) 1 cp l) (hx : l.getD 0 0 = x) : w.cell? ⟨b, 0, none⟩ = some (.int .u8 x) := by
  obtain ⟨b', off, hA, _, hcell⟩ := h.2.2.2.2 (by omega)
  injection hA with hA
  injection hA with e1 e2 _
  have := hcell 0 (by omega)
  rw [← e1, ← e2, hx] at this
  exact this
set_option maxHeartbeats 400000 in
set_option maxRecDepth 100000 in
theorem Byte_ok (w : World) (f g c N : Nat) (l : List Nat) (r : Nat) (fa : Int) (fr t a : Nat) (h : St w f g c N l r fa fr t a) (hn : a < t) (hr : r < 1000000) (hfa : fa < 0 ∨ (0 ≤ fa ∧ (r : Int) < fa)) :
    Calls Tryz.prog 97 #[.pointer (some ⟨c, 0, none⟩)] w fun e w' => e = .returned (.tuple #[.int .u8 (l.getD a 0 : Nat), .int .i64 0]) ∧ St w' f g c N l (r + 1) fa fr t (a + 1) ∧ Fr (FC f c) w w' := by
  have HT := Lib.hid (Take_ok w f g c N l r fa fr t a 1 h hn hr hfa)
  have hel : Hid (((l.drop a).take 1).getD 0 0 = l.getD a 0) := Lib.hid (by
    rw [List.getD_eq_getElem?_getD, List.getD_eq_getElem?_getD, List.getElem?_take_of_lt (by omega), List.getElem?_drop]; rfl)
  clear h
  obtain ⟨x, hx⟩ : ∃ x, x = l.getD a 0 := ⟨_, rfl⟩
  rw [← hx] at hel ⊢
  clear hx
  go_enter Tryz.func97, Tryz.ntmps97
  go_wp2_with (go_at_call 125; refine HT.out.mono ?_; rintro e w' ⟨b, rfl, hby, hst, hf⟩; have HB := Lib.hid hby; have HS := Lib.hid hst; have HF := Lib.hid hf; have hcl : w'.cell? ⟨b, 0, none⟩ = some (.int .u8 x) := byt_first hby hel.out; clear hst hf hby)
  go_ret2
  exact ⟨rfl, HS.out, HF.out⟩
end Go.Proofs.YtggfaalodojjkaaGreatDoor
