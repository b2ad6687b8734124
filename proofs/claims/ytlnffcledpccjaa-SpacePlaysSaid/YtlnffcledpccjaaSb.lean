/-
  What is known of a store of blocks: its struct, its map, the bytes of each block; its operations counted; uses, has, reach, lowest.
-/
import Derived.Test.YtlnffcledpccjaaSa
namespace Go.Proofs.Ytlnffcledpccjaa
open Go.RowKit
set_option linter.unusedVariables false
/-- a store as it is told: what it counts, where each block's bytes lie (g), and what they are (B; none: the block is free) -/
structure Sd where
  size : Nat
  cap : Nat
  taken : Nat
  peak : Nat
  n : Nat
  ops : Nat
  fails : Int
  bad : Bool
  g : Nat → Nat
  B : Nat → Option (List Nat)
/-- the operation that comes next fails -/
def Sd.fl (d : Sd) : Bool := decide (0 ≤ d.fails ∧ d.fails ≤ (d.ops : Int))
/-- what that is told by -/
def Sd.e (d : Sd) : Int := if d.fl = true then 9 else 0
def Sd.op (d : Sd) : Sd := { d with ops := d.ops + 1, bad := d.bad || d.fl }
def stC (m : Nat) (d : Sd) : Array Value := #[.int .i64 d.size, .int .i64 d.cap, .map (some m), .int .i64 d.taken, .int .i64 d.peak, .int .i64 d.fails, .int .i64 d.ops, .int .u32 (B32 d.bad)]
def Sd.f (d : Sd) (j : Int) : Option Value := if 0 ≤ j then (d.B j.toNat).map (fun _ => Value.slice (some ⟨d.g j.toNat, 0, none⟩) d.size d.size) else none
def cnt (B : Nat → Option (List Nat)) (cap : Nat) : Nat := ((List.range cap).filter fun i => (B i).isSome).length
structure Sto (w : World) (s m : Nat) (d : Sd) : Prop where
  blk : Blk w s 95 (stC m d)
  im : IM w Try.prog 3 m d.n d.f
  cont : ∀ i l, d.B i = some l → l.length = d.size ∧ (∀ x ∈ l, x < 256) ∧ Blk w (d.g i) 5 (l.map U8).toArray
  apart : ∀ i j, (d.B i).isSome → (d.B j).isSome → d.g i = d.g j → i = j
  lo : 16 ≤ d.size
  hi : d.size ≤ 1024
  capm : d.cap ≤ 4096
  low : ∀ i, i < d.taken → (d.B i).isSome
  dom : ∀ i, (d.B i).isSome → i < d.cap
  num : d.n = cnt d.B d.cap
  pk : d.n ≤ d.peak
section
variable {w w' : World} {s m : Nat} {d : Sd}
theorem Sto.lt (h : Sto w s m d) : s < w.heap.size := h.blk.lt
theorem Sto.ms (h : Sto w s m d) : m ≠ s := h.im.ne_ h.blk
theorem Sto.gs (h : Sto w s m d) {i : Nat} (hi : (d.B i).isSome) : d.g i ≠ s := by
  obtain ⟨l, hl⟩ := Option.isSome_iff_exists.1 hi
  exact (h.cont i l hl).2.2.ne_ h.blk (by decide)
theorem Sto.gm (h : Sto w s m d) {i : Nat} (hi : (d.B i).isSome) : d.g i ≠ m := by
  obtain ⟨l, hl⟩ := Option.isSome_iff_exists.1 hi
  exact (h.im.ne_ (h.cont i l hl).2.2).symm
theorem Sto.drewN (h : Sto w s m d) (k : Nat) : Sto (w.drewN k) s m d := ⟨h.blk, h.im, h.cont, h.apart, h.lo, h.hi, h.capm, h.low, h.dom, h.num, h.pk⟩
/-- the blocks that a store is made of -/
def Sd.mine (s m : Nat) (d : Sd) (k : Nat) : Prop := k = s ∨ k = m ∨ ∃ i, (d.B i).isSome ∧ d.g i = k
theorem Sto.same (h : Sto w s m d) (hb : ∀ k, d.mine s m k → w'.heap[k]? = w.heap[k]?) : Sto w' s m d :=
  ⟨(hb s (.inl rfl)).trans h.blk, h.im.same (hb m (.inr (.inl rfl))), fun i l hl => ⟨(h.cont i l hl).1, (h.cont i l hl).2.1, (hb (d.g i) (.inr (.inr ⟨i, by rw [hl]; rfl, rfl⟩))).trans (h.cont i l hl).2.2⟩, h.apart, h.lo, h.hi, h.capm, h.low, h.dom, h.num, h.pk⟩
theorem Sto.mlt (h : Sto w s m d) {k : Nat} (hk : d.mine s m k) : k < w.heap.size := by
  rcases hk with rfl | rfl | ⟨i, hi, rfl⟩
  · exact h.blk.lt
  · exact h.im.lt
  · obtain ⟨l, hl⟩ := Option.isSome_iff_exists.1 hi
    exact (h.cont i l hl).2.2.lt
theorem Sto.fr {S : Nat → Prop} (h : Sto w s m d) (hf : Fr S w w') (hS : ∀ k, d.mine s m k → ¬ S k) : Sto w' s m d :=
  h.same fun k hk => hf.block k (h.mlt hk) (hS k hk)
theorem Sto.below (h : Sto w s m d) {B : Nat} (hb : Below B w w') (hB : w.heap.size ≤ B) : Sto w' s m d :=
  h.same fun k hk => hb.block k (Nat.lt_of_lt_of_le (h.mlt hk) hB)
theorem Sto.alloc (h : Sto w s m d) (o : Obj) : Sto (w.alloc o) s m d := h.below ((Below.refl _ _).alloc (Nat.le_refl _) o) (Nat.le_refl _)
/-- a cell of the struct alone is written -/
theorem Sto.put (h : Sto w s m d) (i : Nat) (v : Value) (d' : Sd) (hc : (stC m d).setIfInBounds i v = stC m d') (hB : d'.B = d.B) (hg : d'.g = d.g) (hn : d'.n = d.n) (hsz : d'.size = d.size) (hcap : d'.cap = d.cap)
    (ht : ∀ i, i < d'.taken → (d.B i).isSome) (hp : d.n ≤ d'.peak) : Sto (w.setCell ⟨s, i, none⟩ v) s m d' := by
  have e : d'.f = d.f := by unfold Sd.f; rw [hB, hg, hsz]
  refine ⟨by rw [← hc]; exact h.blk.set_ i v, ?_, ?_, ?_, by rw [hsz]; exact h.lo, by rw [hsz]; exact h.hi, by rw [hcap]; exact h.capm, by rw [hB]; exact ht, by rw [hB, hcap]; exact h.dom, by rw [hB, hcap, hn]; exact h.num, by rw [hn]; exact hp⟩
  · rw [e, hn]
    exact h.im.far (p := ⟨s, i, none⟩) h.ms v
  · intro j l hl
    rw [hB] at hl
    have := h.cont j l hl
    rw [hsz, hg]
    exact ⟨this.1, this.2.1, this.2.2.far (p := ⟨s, i, none⟩) (h.gs (by rw [hl]; rfl)) v⟩
  · rw [hB, hg]
    exact h.apart
end
def one (s : Nat) (k : Nat) : Prop := k = s
set_option maxHeartbeats 1000000 in
set_option maxRecDepth 100000 in
theorem operate_any (s m : Nat) (d : Sd) (w : World) (h : Sto w s m d) (ho : d.ops < 1000000) :
    Calls Try.prog 99 #[.pointer (some ⟨s, 0, none⟩)] w fun e w' => e = .returned (.int .i64 d.e) ∧ Sto w' s m d.op ∧ Fr (· = s) w w' := by
  have c6 : w.cell? ⟨s, 6, none⟩ = some (.int .i64 d.ops) := h.blk.cell 6
  have z6 := h.blk.frozen 6
  obtain ⟨W, hW⟩ : ∃ W, W = w.setCell ⟨s, 6, none⟩ (.int .i64 ((d.ops : Int) + 1)) := ⟨_, rfl⟩
  have hSW : Sto W s m { d with ops := d.ops + 1 } := by
    rw [hW]
    exact h.put 6 _ _ rfl rfl rfl rfl rfl rfl h.low h.pk
  have hFr : Fr (· = s) w W := by rw [hW]; exact (Fr.refl (· = s) w).set_ (p := ⟨s, 6, none⟩) rfl _
  have HA : Hid (Calls Try.prog 111 #[.pointer (some ⟨s, 6, none⟩), .int .i64 1] w fun e w' => e = .returned (.int .i64 ((d.ops : Int) + 1)) ∧ W = w') := Lib.hid (by
    rw [hW]; exact Add_any s 6 d.ops w ho c6 z6)
  have HS := Lib.hid hSW
  have HF := Lib.hid hFr
  have c5 : W.cell? ⟨s, 5, none⟩ = some (.int .i64 d.fails) := hSW.blk.cell 5
  have c7 : W.cell? ⟨s, 7, none⟩ = some (.int .u32 (B32 d.bad)) := hSW.blk.cell 7
  have z7 := hSW.blk.frozen 7
  clear h hW hSW hFr c6 z6
  by_cases hf0 : 0 ≤ d.fails
  · by_cases hf1 : d.fails ≤ (d.ops : Int)
    · have hfl : Hid (d.fl = true) := Lib.hid (by simp [Sd.fl, hf0, hf1])
      have HB := Lib.hid (StoreB_any s 7 (B32 d.bad) W c7 z7)
      clear c7 z7
      go_enter Try.func99, Try.ntmps99
      go_wp2_with (first
        | (go_at_call 111; refine HA.out.mono ?_; rintro e w' ⟨rfl, rfl⟩)
        | (go_at_call 112; refine HB.out.mono ?_; rintro e w' ⟨rfl, k, rfl⟩))
      go_ret
      refine ⟨ret_int (by rw [Sd.e, hfl.out]; rfl), ?_, ?_⟩
      · exact (HS.out.drewN k).put 7 _ d.op (by simp [stC, Sd.op, hfl.out, B32]) rfl rfl rfl rfl rfl HS.out.low HS.out.pk
      · exact (HF.out.drewN k).set_ (p := ⟨s, 7, none⟩) rfl _
    · have hfl : Hid (d.fl = false) := Lib.hid (by simp [Sd.fl]; omega)
      clear c7 z7
      go_enter Try.func99, Try.ntmps99
      go_wp2_with (first
        | (go_at_call 111; refine HA.out.mono ?_; rintro e w' ⟨rfl, rfl⟩))
      go_ret
      refine ⟨ret_int (by rw [Sd.e, hfl.out]; rfl), ?_, HF.out⟩
      have e : d.op = { d with ops := d.ops + 1 } := by simp [Sd.op, hfl.out]
      rw [e]; exact HS.out
  · have hfl : Hid (d.fl = false) := Lib.hid (by simp [Sd.fl]; omega)
    clear c7 z7
    go_enter Try.func99, Try.ntmps99
    go_wp2_with (first
      | (go_at_call 111; refine HA.out.mono ?_; rintro e w' ⟨rfl, rfl⟩))
    go_ret
    refine ⟨ret_int (by rw [Sd.e, hfl.out]; rfl), ?_, HF.out⟩
    have e : d.op = { d with ops := d.ops + 1 } := by simp [Sd.op, hfl.out]
    rw [e]; exact HS.out
end Go.Proofs.Ytlnffcledpccjaa
