/-
  What is known of a flash, a cursor and the blocks that a call leaves as they were; flash.New.
-/
import Derived.Test.YtchdcimmbmphnaaLn
import Derived.Deep.Draws
import Derived.WalkSmall
import Derived.StillTailTactics
import Derived.Deep.RegionWith
namespace Go.Proofs.Ytchdcimmbmphnaa
open Go.RowKit
set_option linter.unusedVariables false
/-- all blocks that were there are as they were, but those of S -/
structure Fr (S : Nat → Prop) (w w' : World) : Prop where
  os : w'.os = w.os
  tape : w'.tape = w.tape
  output : w'.output = w.output
  size : w.heap.size ≤ w'.heap.size
  block : ∀ k, k < w.heap.size → ¬ S k → w'.heap[k]? = w.heap[k]?
section
variable {S T : Nat → Prop} {w w' w'' : World}
theorem Fr.refl (S : Nat → Prop) (w : World) : Fr S w w := ⟨rfl, rfl, rfl, Nat.le_refl _, fun _ _ _ => rfl⟩
theorem Fr.trans (h : Fr S w w') (k : Fr S w' w'') : Fr S w w'' :=
  ⟨k.os.trans h.os, k.tape.trans h.tape, k.output.trans h.output, Nat.le_trans h.size k.size, fun i hi hs => (k.block i (Nat.lt_of_lt_of_le hi h.size) hs).trans (h.block i hi hs)⟩
theorem Fr.more (h : Fr S w w') (hST : ∀ k, S k → T k) : Fr T w w' := ⟨h.os, h.tape, h.output, h.size, fun i hi hs => h.block i hi (fun q => hs (hST i q))⟩
theorem Fr.of_below (h : Below w.heap.size w w') : Fr S w w' := ⟨h.os, h.tape, h.output, h.size, fun i hi _ => h.block i hi⟩
theorem Fr.drewN (h : Fr S w w') (n : Nat) : Fr S w (w'.drewN n) := ⟨h.os, h.tape, h.output, h.size, h.block⟩
theorem Fr.drew (h : Fr S w w') : Fr S w w'.drew := ⟨h.os, h.tape, h.output, h.size, h.block⟩
theorem Fr.alloc (h : Fr S w w') (o : Obj) : Fr S w (w'.alloc o) := h.trans (Fr.of_below ((Below.refl _ _).alloc (Nat.le_refl _) o))
theorem Fr.set_ (h : Fr S w w') {p : Addr} (hp : S p.block) (u : Value) : Fr S w (w'.setCell p u) :=
  h.trans ⟨rfl, rfl, rfl, by simp [World.setCell], fun i _ hs => Below.heap_setCell w' p u i (fun e => hs (by rw [e]; exact hp))⟩
theorem Fr.below {B : Nat} (h : Fr S w w') (hb : Below B w'' w) (hB : B ≤ w.heap.size) (hS : ∀ k, S k → B ≤ k) : Below B w'' w' :=
  hb.trans ⟨h.os, h.tape, h.output, h.size, fun k hk => h.block k (by omega) (fun q => by have := hS k q; omega)⟩
theorem Fr.keep {g : Nat} {o : Obj} (h : Fr S w w') (hg : w.heap[g]? = some o) (hs : ¬ S g) : w'.heap[g]? = some o := by
  have hlt : g < w.heap.size := by
    rcases Nat.lt_or_ge g w.heap.size with h1 | h1
    · exact h1
    · rw [Array.getElem?_eq_none h1] at hg; cases hg
  exact (h.block g hlt hs).trans hg
end
def Blk (w : World) (g : Nat) (t : TypeId) (cs : Array Value) : Prop := w.heap[g]? = some (.cells cs t (0, 0))
section
variable {w w' : World} {g g' : Nat} {t t' : TypeId} {cs cs' : Array Value}
theorem Blk.lt (h : Blk w g t cs) : g < w.heap.size := by
  rcases Nat.lt_or_ge g w.heap.size with hlt | hge
  · exact hlt
  · unfold Blk at h; rw [Array.getElem?_eq_none hge] at h; cases h
theorem Blk.row (h : Blk w g t cs) : w.heap[g]? = some (.cells cs t (0, 0)) := h
theorem Blk.cell (h : Blk w g t cs) (i : Nat) : w.cell? ⟨g, i, none⟩ = cs[i]? := cell_of_row w g i cs t (0, 0) h
theorem Blk.frozen (h : Blk w g t cs) (i : Nat) : w.frozen? ⟨g, i, none⟩ = false := by
  unfold Blk at h
  simp [World.frozen?, h]
theorem Blk.ne_ (h : Blk w g t cs) (h' : Blk w g' t' cs') (hne : t ≠ t') : g ≠ g' := by
  rintro rfl
  unfold Blk at h h'
  rw [h] at h'
  injection h' with h'
  injection h' with _ ht
  exact hne ht
theorem Blk.drewN (h : Blk w g t cs) (n : Nat) : Blk (w.drewN n) g t cs := h
theorem Blk.set_ (h : Blk w g t cs) (i : Nat) (u : Value) : Blk (w.setCell ⟨g, i, none⟩ u) g t (cs.setIfInBounds i u) := by
  unfold Blk at h ⊢
  simp [World.setCell, Array.getElem?_modify, h]
theorem Blk.far (h : Blk w g t cs) {p : Addr} (hp : g ≠ p.block) (u : Value) : Blk (w.setCell p u) g t cs := (Below.heap_setCell w p u g hp).trans h
theorem Blk.alloc (h : Blk w g t cs) (o : Obj) : Blk (w.alloc o) g t cs := (Below.heap_alloc w o g h.lt).trans h
theorem Blk.new (w : World) (t : TypeId) (cs : Array Value) : Blk (w.alloc (.cells cs t)) w.heap.size t cs := heap_alloc_new w _
theorem Blk.fr {S : Nat → Prop} (h : Blk w g t cs) (hf : Fr S w w') (hs : ¬ S g) : Blk w' g t cs := hf.keep h hs
theorem Blk.below {B : Nat} (h : Blk w g t cs) (hb : Below B w w') (hg : g < B) : Blk w' g t cs := (hb.block g hg).trans h
end
def flC (g N r : Nat) (fa : Int) : Array Value := #[.slice (some ⟨g, 0, none⟩) N N, .int .i64 r, .int .i64 fa]
def cuC (f : Nat) (fr to at' : Int) : Array Value := #[.pointer (some ⟨f, 0, none⟩), .int .i64 fr, .int .i64 to, .int .i64 at']
/-- a flash: its struct in block f, its bytes in block g -/
structure Fl (w : World) (f g N : Nat) (l : List Nat) (r : Nat) (fa : Int) : Prop where
  blk : Blk w f 89 (flC g N r fa)
  byt : Blk w g 5 (l.map U8).toArray
  len : l.length = N
  lim : N ≤ 65536
  all : ∀ x ∈ l, x < 256
set_option maxHeartbeats 400000 in
set_option maxRecDepth 100000 in
theorem New_long (A : Option Addr) (n cap : Nat) (w : World) (hn : 65536 < n) (hc : n ≤ 9223372036854775807) :
    Calls Try.prog 26 #[.slice A n cap] w fun e w' => e = .returned (.tuple #[.pointer none, .int .i64 15]) ∧ w = w' := by
  go_enter Try.func26, Try.ntmps26
  go_wp2
  go_ret2
  exact ⟨rfl, rfl⟩
set_option maxHeartbeats 1000000 in
set_option maxRecDepth 100000 in
theorem New_any (A : Option Addr) (n cap : Nat) (l : List Nat) (w : World) (hb : Byt w A n cap l) (hn1 : n ≤ 65536) :
    Calls Try.prog 26 #[.slice A n cap] w fun e w' => ∃ f g, e = .returned (.tuple #[.pointer (some ⟨f, 0, none⟩), .int .i64 0]) ∧ Fl w' f g n l 0 (-1) ∧ Below w.heap.size w w' ∧ w.heap.size ≤ f ∧ w.heap.size ≤ g := by
  obtain ⟨i0, hi, hz0, hz1, hz2⟩ := info_parts info5
  have HB := Lib.hid hb
  clear hb
  obtain ⟨X, hX⟩ : ∃ X, X = l.map U8 := ⟨_, rfl⟩
  have hlen : l.length = n := HB.out.1
  have hXl : Hid (X.length = n) := Lib.hid (by rw [hX, List.length_map]; exact hlen)
  have hXc : Hid (0 < n → ∃ b off, A = some ⟨b, off, none⟩ ∧ b < w.heap.size ∧ ∀ j v, X[j]? = some v → w.cell? ((⟨b, off, none⟩ : Addr).add j) = some v) := Lib.hid (by
    intro h0
    obtain ⟨b, off, hA, hlt, hcell⟩ := HB.out.2.2.2.2 h0
    refine ⟨b, off, hA, hlt, fun j v hv => ?_⟩
    have hj : j < l.length := by
      have := (List.getElem?_eq_some_iff.1 hv).1
      rw [hX, List.length_map] at this; exact this
    rw [hX, map_getD l j hj] at hv
    rw [addr_add, hcell j (by omega)]
    exact hv)
  have hX1 : Hid (∀ v ∈ X, v.oneCell' = true) := Lib.hid (by
    intro v hv
    rw [hX, List.mem_map] at hv
    obtain ⟨x, _, rfl⟩ := hv
    rfl)
  have hXE := Lib.hid hX
  clear hX hlen
  obtain ⟨cur, hcur⟩ : ∃ cur, cur = (madeCells (Value.int .u8 0).cells n).toList := ⟨_, rfl⟩
  have hcurl : Hid (cur.length = n) := Lib.hid (by rw [hcur, Array.length_toList, size_madeCells])
  have hcurE : Hid ((madeCells (Value.int .u8 0).cells n) = cur.toArray) := Lib.hid (by rw [hcur])
  clear hcur
  go_enter Try.func26, Try.ntmps26
  go_wp2_with (first
    | (at_make
       refine wpList_make_lc _ rfl (.tmp 12) (.tmp 12) 22 rfl 5 i0 _ Try.underlying22 hi hz0 hz1 .i64 .i64 _ _ n n rfl rfl rfl rfl (Nat.le_refl _) (by rw [hz2]; omega) (by unfold maxLen; omega) ?_
       intro w1 hg1 hbel1
       have HG1 : Hid (Blk w1 (w.heap.size + 1) 5 cur.toArray) := Lib.hid (by
         have := hg1.out
         rw [hcurE.out] at this
         simpa [Blk] using this)
       have HB1 := Lib.hid hbel1
       have HF1 : Hid (Blk w1 w.heap.size 89 #[.slice none 0 0, .int .i64 0, .int .i64 0]) := Lib.hid ((Blk.new w 89 _).below hbel1 (by simp))
       have f0 : w1.cell? ⟨w.heap.size, 0, none⟩ = some (.slice none 0 0) := HF1.out.cell 0
       have f2 : w1.cell? ⟨w.heap.size, 2, none⟩ = some (.int .i64 0) := HF1.out.cell 2
       have z0 := HF1.out.frozen 0
       have z2 := HF1.out.frozen 2
       have HG2 : Hid (Blk (w1.setCell ⟨w.heap.size, 0, none⟩ (.slice (some ⟨w.heap.size + 1, 0, none⟩) n n)) (w.heap.size + 1) 5 cur.toArray) := Lib.hid (HG1.out.far (by simp) _)
       have HF2 : Hid (Blk (w1.setCell ⟨w.heap.size, 0, none⟩ (.slice (some ⟨w.heap.size + 1, 0, none⟩) n n)) w.heap.size 89 (flC (w.heap.size + 1) n 0 0)) := Lib.hid (HF1.out.set_ 0 _)
       clear hg1 hbel1)
    | (with_reducible refine wpList_copy_splice rfl (.tmp 21) (.tmp 22) 22 22 rfl 5 Try.underlying22 info5size (some ⟨w.heap.size + 1, 0, none⟩) A n n n cap rfl rfl (w.heap.size + 1) 0 cur 5 HG2.out.row X ?d1 ?d2 ?d3 hX1.out (w.heap.size + 1) _ (Below.refl _ _) (Nat.le_refl _) ?_
       case d1 => rw [hXl.out]; exact (Nat.min_self n).symm
       case d2 =>
         intro h0
         rw [hXl.out] at h0
         obtain ⟨b, off, hA, hlt, hcell⟩ := hXc.out h0
         refine ⟨rfl, _, hA, fun j v hv => ?_⟩
         rw [World.cell?_setCell_other _ _ _ _ (by rw [addr_add]; intro e; injection e with e; omega), HB1.out.cell (by rw [addr_add]; simp; omega)]
         rw [World.cell?_alloc_lt w _ _ (by rw [addr_add]; exact hlt)]
         exact hcell j v hv
       case d3 => rw [hXl.out, hcurl.out]; omega
       intro w2 hg2 hbel2
       have HF3 : Hid (Blk w2 w.heap.size 89 (flC (w.heap.size + 1) n 0 0)) := Lib.hid (HF2.out.below hbel2 (by omega))
       have g2 : w2.cell? ⟨w.heap.size, 2, none⟩ = some (.int .i64 0) := HF3.out.cell 2
       have y2 := HF3.out.frozen 2
       have HB2 := Lib.hid hbel2
       clear hbel2))
  go_ret2
  have hfl : Blk w2 (w.heap.size + 1) 5 (l.map U8).toArray := by
    have h2 : (splice cur 0 X) = l.map U8 := by
      rw [← hXE.out]
      simp only [splice, List.take_zero, List.nil_append]
      rw [List.drop_eq_nil_of_le (by rw [hXl.out, hcurl.out]; omega), List.append_nil]
    have := hg2.out
    rw [h2] at this
    exact this
  refine ⟨w.heap.size, w.heap.size + 1, rfl, ⟨HF3.out.set_ 2 _, hfl.far (by simp) _, HB.out.1, hn1, HB.out.2.1⟩, ?_, Nat.le_refl _, by omega⟩
  have q1 : Below w.heap.size w w1 := ((Below.refl w.heap.size w).alloc (Nat.le_refl _) _).trans (HB1.out.mono (by simp))
  exact ((q1.setCell (Nat.le_refl _) _).trans (HB2.out.mono (by omega))).setCell (Nat.le_refl _) _
end Go.Proofs.Ytchdcimmbmphnaa
