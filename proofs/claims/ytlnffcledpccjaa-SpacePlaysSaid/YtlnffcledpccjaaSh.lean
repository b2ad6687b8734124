/-
  A store that a call has made, and what it does with it; the first bytes of bytes.
-/
import Derived.Test.YtlnffcledpccjaaSg
namespace Go.Proofs.Ytlnffcledpccjaa
open Go.RowKit
set_option linter.unusedVariables false
theorem Byt.take {w : World} {A : Option Addr} {n cap : Nat} {l : List Nat} (h : Byt w A n cap l) (s : Nat) (hs : s ≤ n) : Byt w A s cap (l.take s) := by
  obtain ⟨hl, hx, hn, hcap, hc⟩ := h
  refine ⟨by rw [List.length_take]; omega, fun x hm => hx x (List.mem_of_mem_take hm), by omega, hcap, fun h0 => ?_⟩
  obtain ⟨b, off, rfl, hb, hcell⟩ := hc (by omega)
  refine ⟨b, off, rfl, hb, fun j hj => ?_⟩
  rw [hcell j (by omega)]
  congr 3
  rw [List.getD_eq_getElem?_getD, List.getD_eq_getElem?_getD, List.getElem?_take_of_lt hj]
structure SRel (w : World) (s m sz N : Nat) (d : Sd) (wr : World) : Prop where
  sto : Sto wr s m d
  bel : Below w.heap.size w wr
  hs : w.heap.size ≤ s
  hm : w.heap.size ≤ m
  size : d.size = sz
  cap : d.cap = N
  fails : d.fails < 0
  mine : ∀ i, (d.B i).isSome → w.heap.size ≤ d.g i
section
variable {w w1 w2 : World} {s m sz N : Nat} {d : Sd}
theorem SRel.al {L G : Nat} (h : SRel w s m sz N d w1) (hG : w1.heap.size ≤ G) (hs : Sto w2 s m (d.op.al L G)) (hf : Fr (fun k => k = s ∨ k = m) w1 w2) : SRel w s m sz N (d.op.al L G) w2 :=
  ⟨hs, below_sm h.bel h.hs h.hm hf, h.hs, h.hm, h.size, h.cap, h.fails, fun i hi => by
    by_cases e : i = L
    · simp only [Sd.al, if_pos e]; exact Nat.le_trans h.bel.size hG
    · simp only [Sd.al, if_neg e] at hi ⊢; exact h.mine i hi⟩
theorem SRel.fre {j : Nat} (h : SRel w s m sz N d w1) (hs : Sto w2 s m (d.op.fr j)) (hf : Fr (fun k => k = s ∨ k = m) w1 w2) : SRel w s m sz N (d.op.fr j) w2 :=
  ⟨hs, below_sm h.bel h.hs h.hm hf, h.hs, h.hm, h.size, h.cap, h.fails, fun i hi => by
    by_cases e : i = j
    · simp [Sd.fr, e] at hi
    · simp only [Sd.fr, if_neg e] at hi ⊢; exact h.mine i hi⟩
theorem SRel.opd (h : SRel w s m sz N d w1) (hs : Sto w2 s m d.op) (hf : Fr (· = s) w1 w2) : SRel w s m sz N d.op w2 :=
  ⟨hs, below_s h.bel h.hs hf, h.hs, h.hm, h.size, h.cap, h.fails, h.mine⟩
theorem SRel.wri {j : Nat} {l : List Nat} (h : SRel w s m sz N d w1) (hj : (d.B j).isSome) (hs : Sto w2 s m (d.op.wr j l)) (hf : Fr (fun k => k = s ∨ k = d.g j) w1 w2) : SRel w s m sz N (d.op.wr j l) w2 :=
  ⟨hs, hf.below h.bel h.bel.size (fun k hk => by rcases hk with rfl | rfl <;> first | exact h.hs | exact h.mine j hj), h.hs, h.hm, h.size, h.cap, h.fails, fun i hi => by
    by_cases e : i = j
    · subst e; exact h.mine i hj
    · simp only [Sd.wr, if_neg e] at hi ⊢; exact h.mine i hi⟩
theorem SRel.drewN (h : SRel w s m sz N d w1) (k : Nat) : SRel w s m sz N d (w1.drewN k) :=
  ⟨h.sto.drewN k, ⟨h.bel.os, h.bel.tape, h.bel.output, h.bel.size, h.bel.block⟩, h.hs, h.hm, h.size, h.cap, h.fails, h.mine⟩
theorem SRel.num_le (h : SRel w s m sz N d w1) : d.n ≤ N := by
  rw [h.sto.num, ← h.cap]
  exact cnt_le _ _
theorem SRel.no (h : SRel w s m sz N d w1) : d.fl = false := Sd.fl_no h.fails
/-- a store that is made anew -/
theorem SRel.new {a b : Nat} (hb : Below w.heap.size w w1) (hs : Sto w2 s m (nu a b)) (hb2 : Below w1.heap.size w1 w2) (h1 : w1.heap.size ≤ s) (h2 : w1.heap.size ≤ m) : SRel w s m a b (nu a b) w2 :=
  ⟨hs, hb.trans (hb2.mono hb.size), Nat.le_trans hb.size h1, Nat.le_trans hb.size h2, rfl, rfl, by show (-1 : Int) < 0; decide, fun i hi => by cases hi⟩
end
theorem Write_ok2 (s m : Nat) (d : Sd) (j : Nat) (A : Option Addr) (n cap : Nat) (l : List Nat) (w : World) (h : Sto w s m d) (hz : d.size = n) (hn : (d.B j).isSome = true) (hb : Byt w A n cap l) (ho : d.ops < 1000000) (hf : d.fl = false) :
    Calls Try.prog 83 #[.pointer (some ⟨s, 0, none⟩), .int .i64 j, .slice A n cap] w fun e w' => e = .returned (.int .i64 0) ∧ Sto w' s m (d.op.wr j l) ∧ Fr (fun k => k = s ∨ k = d.g j) w w' := by
  subst hz
  exact Write_ok s m d j A cap l w h hn hb ho hf
def RePost2 (s m n : Nat) (d : Sd) (l : List Nat) (w : World) (e : Ending) (w' : World) : Prop :=
  ∃ b : Nat, e = .returned (.tuple #[.slice (some ⟨b, 0, none⟩) n n, .int .i64 0]) ∧ w.heap.size ≤ b ∧ Byt w' (some ⟨b, 0, none⟩) n n l ∧ Blk w' b 5 (l.map U8).toArray ∧ Sto w' s m d.op ∧ Fr (· = s) w w'
theorem Read_ok2 (s m n : Nat) (d : Sd) (j : Nat) (l : List Nat) (w : World) (h : Sto w s m d) (hz : d.size = n) (hn : d.B j = some l) (ho : d.ops < 1000000) (hf : d.fl = false) :
    Calls Try.prog 104 #[.pointer (some ⟨s, 0, none⟩), .int .i64 j] w (RePost2 s m n d l w) := by
  subst hz
  exact Read_ok s m d j l w h hn ho hf
end Go.Proofs.Ytlnffcledpccjaa
