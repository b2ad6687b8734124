/-
  A row of structs as an argument, opened to its cells; what is done with a store; a row of pages as told; a store whose operations fail from any one on.
-/
import Derived.Test.YtmphpdonpaefpaaSh
import Derived.Deep.Slices
import Derived.Deep.Fields
import Derived.ChangeSame
namespace Go.Proofs.Ytmphpdonpaefpaa
open Go.RowKit Go.ChangeShapes Go.WideShapes Go.Deep
set_option linter.unusedVariables false
section
variable {H : Type} {enc : TypeId × Value → H} {P : Program} {w : World} {base : Nat} {spare : Nat → Bool} {held : Bool}
/-- field j of element i stands in the cell i * (the number of fields) + j, and reads by its own type -/
theorem struct_row {t e : TypeId} {fs : Array Field} {fuel : Nat} {cs : List Value} {x : DataW H × List MemPlace} (ht : P.underlying t = some (.slice e)) (he : P.underlying e = some (.struct fs)) (hone : oneCellFields P fs = true) (hC : P.cellsOf e = fs.size)
    (h : DataW.trod enc P w base spare held fuel t cs = some x) :
    cs = [.slice none 0 0] ∨ ∃ (a : Addr) (len cap : Nat), cs = [.slice (some a) len cap] ∧ len ≤ cap ∧ cap ≤ maxLen ∧
      ∀ i, i < len → ∀ (j : Nat) (f : Field), fs[j]? = some f → ∃ (v : Value) (n : Nat) (y : DataW H × List MemPlace), w.cell? (a.add (i * fs.size + j)) = some v ∧ DataW.trod enc P w base spare held n f.type [v] = some y := by
  rcases open_slice ht h with ⟨h0, _⟩ | ⟨a, len, cap, m, n, D, Pl, hcs, _, hl, hm, hmm, _, hi⟩
  · exact .inl h0
  · refine .inr ⟨a, len, cap, hcs, hl, hm, fun i hil j f hj => ?_⟩
    obtain ⟨cs', hc, ht'⟩ := hi i (by rw [hmm]; split <;> omega)
    rw [hC] at hc
    obtain ⟨ys, n', _, _, _, hyl, hf⟩ := DataW.trod_struct he ht'
    obtain ⟨_, hcl, hat⟩ := World.cells?_some hc
    obtain ⟨ho, hk⟩ := hone_of hone j f hj
    have hjl : j < fs.size := (Array.getElem?_eq_some_iff.1 hj).1
    have hjc : j < cs'.length := by omega
    have hjy : j < ys.length := by omega
    have h1 := hf j f hj
    rw [ho, hk, List.drop_eq_getElem_cons hjc] at h1
    refine ⟨cs'[j], n', ys[j], ?_, ?_⟩
    · rw [← Go.Deep.add_add, hat j hjl, List.getElem?_eq_getElem hjc]
    · rw [← List.getElem?_eq_getElem hjy, ← h1]
      rfl
end
/-- what is done with a store: a row of structs of four cells: the kind, the block, the byte, whether one byte longer -/
def Acts (w : World) (A : Option Addr) (m cap : Nat) (K : Nat → Nat) (I V : Nat → Int) (L : Nat → Bool) : Prop :=
  m ≤ cap ∧ cap ≤ maxLen ∧ (∀ i, K i < 256) ∧ (∀ i, (Lit.int .i64 (I i)).wf = true ∧ (Lit.int .i64 (V i)).wf = true) ∧ (0 < m → ∃ b off, A = some ⟨b, off, none⟩ ∧ b < w.heap.size ∧ ∀ i, i < m → w.cell? ⟨b, off + i * 4, none⟩ = some (.int .u8 (K i : Nat)) ∧ w.cell? ⟨b, off + i * 4 + 1, none⟩ = some (.int .i64 (I i)) ∧ w.cell? ⟨b, off + i * 4 + 2, none⟩ = some (.int .i64 (V i)) ∧ w.cell? ⟨b, off + i * 4 + 3, none⟩ = some (.bool (L i)))
def numOf : Option Value → Int
  | some (.int _ n) => n
  | _ => 0
def booOf : Option Value → Bool
  | some (.bool b) => b
  | _ => false
def wfI (n : Int) : Int := if (Lit.int .i64 n).wf = true then n else 0
theorem wfI_wf (n : Int) : (Lit.int .i64 (wfI n)).wf = true := by
  unfold wfI
  split
  · assumption
  · decide
theorem wfI_eq {n : Int} (h : (Lit.int .i64 n).wf = true) : wfI n = n := if_pos h
theorem acts_of_arg {H : Type} {enc : TypeId × Value → H} {w : World} {sp : Nat → Bool} {held : Bool} {base : Nat} {a : Option Addr} {len cap : Nat} {d : DataW H} {p : List MemPlace} (h : DataW.Trod enc Try.prog w base sp held 22 (.slice a len cap) d p) : ∃ K I V L, Acts w a len cap K I V L := by
  obtain ⟨fuel, hf⟩ := h
  rcases struct_row Try.underlying22 Try.underlying31 (by kernel_rfl) (by kernel_rfl) hf with hcs | ⟨x, l, c, hcs, hl, hm, hi⟩
  · simp [Value.cells] at hcs
    obtain ⟨rfl, rfl, rfl⟩ := hcs
    exact ⟨fun _ => 0, fun _ => 0, fun _ => 0, fun _ => false, Nat.le_refl _, Nat.zero_le _, fun _ => (by decide : (0 : Nat) < 256), fun _ => (by decide : (Lit.int .i64 0).wf = true ∧ (Lit.int .i64 0).wf = true), fun h => by omega⟩
  · simp [Value.cells] at hcs
    obtain ⟨rfl, rfl, rfl⟩ := hcs
    refine ⟨fun i => (numOf (w.cell? (x.add (i * 4)))).toNat % 256, fun i => wfI (numOf (w.cell? (x.add (i * 4 + 1)))), fun i => wfI (numOf (w.cell? (x.add (i * 4 + 2)))), fun i => booOf (w.cell? (x.add (i * 4 + 3))), hl, hm, fun i => Nat.mod_lt _ (by decide), fun i => ⟨wfI_wf _, wfI_wf _⟩, fun h0 => ?_⟩
    obtain ⟨v0, _, _, hc0, _⟩ := hi 0 h0 0 _ rfl
    have hspot := World.cell?_spot hc0
    obtain ⟨b, off, spot⟩ := x
    have hs : spot = none := by simpa [Addr.add] using hspot
    subst hs
    refine ⟨b, off, rfl, by have := lt_of_cell hc0; rw [addr_add] at this; exact this, fun i hil => ?_⟩
    obtain ⟨u, n1, y1, hu, tu⟩ := hi i hil 0 _ rfl
    obtain ⟨v, n2, y2, hv, tv⟩ := hi i hil 1 _ rfl
    obtain ⟨u3, n3, y3, hu3, tu3⟩ := hi i hil 2 _ rfl
    obtain ⟨u4, n4, y4, hu4, tu4⟩ := hi i hil 3 _ rfl
    obtain ⟨q1, e1, _, b1⟩ := DataW.trod_int Try.underlying5 tu
    obtain ⟨q2, e2, _, b2⟩ := DataW.trod_int Try.underlying3 tv
    obtain ⟨q3, e3, _, b3⟩ := DataW.trod_int Try.underlying3 tu3
    obtain ⟨q4, e4, _⟩ := DataW.trod_bool Try.underlying4 tu4
    injection e1 with e1
    injection e2 with e2
    injection e3 with e3
    injection e4 with e4
    subst e1
    subst e2
    subst e3
    subst e4
    have hu' : w.cell? ((⟨b, off, none⟩ : Addr).add (i * 4)) = some (.int .u8 q1) := hu
    have hv' : w.cell? ((⟨b, off, none⟩ : Addr).add (i * 4 + 1)) = some (.int .i64 q2) := hv
    have h3' : w.cell? ((⟨b, off, none⟩ : Addr).add (i * 4 + 2)) = some (.int .i64 q3) := hu3
    have h4' : w.cell? ((⟨b, off, none⟩ : Addr).add (i * 4 + 3)) = some (.bool q4) := hu4
    have hb := wf_u8 b1
    have e0 : (((q1.toNat % 256 : Nat)) : Int) = q1 := by omega
    refine ⟨?_, ?_, ?_, ?_⟩
    · show w.cell? _ = some (Value.int .u8 (((numOf (w.cell? ((⟨b, off, none⟩ : Addr).add (i * 4)))).toNat % 256 : Nat) : Int))
      rw [← addr_add, hu']
      show _ = some (Value.int .u8 ((q1.toNat % 256 : Nat) : Int))
      rw [e0]
    · show w.cell? _ = some (Value.int .i64 (wfI (numOf (w.cell? ((⟨b, off, none⟩ : Addr).add (i * 4 + 1))))))
      rw [Nat.add_assoc, ← addr_add, hv']
      exact congrArg (fun z => some (Value.int .i64 z)) (wfI_eq b2).symm
    · show w.cell? _ = some (Value.int .i64 (wfI (numOf (w.cell? ((⟨b, off, none⟩ : Addr).add (i * 4 + 2))))))
      rw [Nat.add_assoc, ← addr_add, h3']
      exact congrArg (fun z => some (Value.int .i64 z)) (wfI_eq b3).symm
    · show w.cell? _ = some (Value.bool (booOf (w.cell? ((⟨b, off, none⟩ : Addr).add (i * 4 + 3)))))
      rw [Nat.add_assoc, ← addr_add, h4']
      rfl
/-- a row of pages: which are used, and what their bytes are -/
def pgF (pg : Nat → Option Nat) (j : Nat) : Value := if j % 2 = 0 then .bool (pg (j / 2)).isSome else U8 ((pg (j / 2)).getD 0)
def pgC (N : Nat) (pg : Nat → Option Nat) : Array Value := ((List.range (N * 2)).map (pgF pg)).toArray
def up (pg : Nat → Option Nat) (i : Nat) (v : Option Nat) : Nat → Option Nat := fun t => if t = i then v else pg t
theorem pgC_get {N j : Nat} {pg : Nat → Option Nat} (h : j < N * 2) : (pgC N pg)[j]? = some (pgF pg j) := by
  unfold pgC
  rw [List.getElem?_toArray, List.getElem?_map, List.getElem?_range h]
  rfl
theorem pgC_u {N i : Nat} {pg : Nat → Option Nat} (h : i < N) : (pgC N pg)[i * 2]? = some (.bool (pg i).isSome) := by
  rw [pgC_get (by omega), pgF, if_pos (by omega), show i * 2 / 2 = i from by omega]
theorem pgC_o {N i : Nat} {pg : Nat → Option Nat} (h : i < N) : (pgC N pg)[i * 2 + 1]? = some (U8 ((pg i).getD 0)) := by
  rw [pgC_get (by omega), pgF, if_neg (by omega), show (i * 2 + 1) / 2 = i from by omega]
theorem pgC_set2 {N i : Nat} {pg : Nat → Option Nat} (v : Option Nat) : ((pgC N pg).setIfInBounds (i * 2) (.bool v.isSome)).setIfInBounds (i * 2 + 1) (U8 (v.getD 0)) = pgC N (up pg i v) := by
  apply Array.ext_getElem?
  intro t
  rw [Array.getElem?_setIfInBounds, Array.getElem?_setIfInBounds]
  by_cases ht : t < N * 2
  · rw [pgC_get ht, pgC_get ht]
    have hs : (pgC N pg).size = N * 2 := by simp [pgC]
    simp only [Array.size_setIfInBounds, hs, pgF, up]
    by_cases e : i * 2 + 1 = t
    · subst e
      rw [if_pos rfl, if_pos ht, if_neg (by omega), if_pos (by omega)]
    · by_cases e' : i * 2 = t
      · subst e'
        rw [if_neg e, if_pos rfl, if_pos ht, if_pos (by omega), if_pos (by omega)]
      · rw [if_neg e, if_neg e', if_neg (by omega : ¬ t / 2 = i)]
  · have hs : (pgC N pg).size = N * 2 := by simp [pgC]
    have hs' : (pgC N (up pg i v)).size = N * 2 := by simp [pgC]
    rw [Array.getElem?_eq_none (by omega : (pgC N (up pg i v)).size ≤ t), Array.getElem?_eq_none (by omega : (pgC N pg).size ≤ t)]
    simp only [Array.size_setIfInBounds, hs]
    split
    · rw [if_neg (by omega)]
    · split
      · rw [if_neg (by omega)]
      · rfl
theorem pgC_set1 {N i : Nat} {pg : Nat → Option Nat} (v : Nat) (h : (pg i).isSome = true) : (pgC N pg).setIfInBounds (i * 2 + 1) (U8 v) = pgC N (up pg i (some v)) := by
  rw [← pgC_set2 (some v)]
  congr 1
  apply Array.ext_getElem?
  intro t
  rw [Array.getElem?_setIfInBounds]
  have hs : (pgC N pg).size = N * 2 := by simp [pgC]
  by_cases e : i * 2 = t
  · subst e
    rw [if_pos rfl]
    split
    · rw [pgC_u (by omega), h]; rfl
    · rw [Array.getElem?_eq_none (by omega)]
  · rw [if_neg e]
theorem made_pg (n : Nat) : madeCells #[.bool false, .int .u8 0] (n * 2) = pgC n fun _ => none := by
  apply Array.ext'
  unfold madeCells pgC
  simp only [Array.toList_map, Array.toList_range]
  apply List.map_congr_left
  intro i hi
  show (#[Value.bool false, Value.int .u8 0])[i % 2]! = _
  unfold pgF
  rcases Nat.mod_two_eq_zero_or_one i with e | e <;> rw [e] <;> rfl
theorem mk_pg (n : Nat) (hn : n ≤ 70) (W : World) : (Instr.makeSlice 29 (.int .i64 n) (.int .i64 n)).run Try.prog W = .ok (.slice (some ⟨W.heap.size, 0, none⟩) n n) (W.alloc (.cells (pgC n fun _ => none) 33)) := by
  have h33 : ∃ i, Try.prog.info? 33 = some i ∧ i.zero = some (.agg #[.bool false, .int .u8 0]) ∧ i.size = 2 ∧ i.bytes ≤ 100 := by
    cases h : Try.prog.info? 33 with
    | none => rw [← Option.isNone_iff_eq_none] at h; exact absurd (show (Try.prog.info? 33).isNone = false by kernel_rfl) (by rw [h]; decide)
    | some i =>
      refine ⟨i, rfl, ?_, ?_, ?_⟩
      · have : (Try.prog.info? 33).bind (·.zero) = some (.agg #[.bool false, .int .u8 0]) := by kernel_rfl
        rw [h] at this; exact this
      · have : (Try.prog.info? 33).map (·.size) = some 2 := by kernel_rfl
        rw [h] at this; injection this
      · have : (Try.prog.info? 33).map (fun i => decide (i.bytes ≤ 100)) = some true := by kernel_rfl
        rw [h] at this; injection this with this; exact of_decide_eq_true this
  obtain ⟨i, h1, h2, h3, h4⟩ := h33
  have hb : (i.bytes : Int) * (n : Int) ≤ 281474976710656 := by
    have : i.bytes * n ≤ 100 * 70 := Nat.mul_le_mul h4 hn
    have : ((i.bytes * n : Nat) : Int) ≤ 281474976710656 := by omega
    rwa [Int.natCast_mul] at this
  have := run_make (P := Try.prog) W 29 33 i _ Try.underlying29 h1 h2 .i64 .i64 (n : Int) (n : Int) (by omega) (by omega) hb (by omega)
  simp only [Int.toNat_natCast, h3] at this
  rw [← made_pg]
  exact this
/-- what is known behind k acts: of the store, of the pages, of both together -/
structure PRel (w : World) (s m lb sz N N0 : Nat) (fail : Int) (d : Sd) (pg : Nat → Option Nat) (k : Nat) (wr : World) : Prop where
  sto : Sto wr s m d
  bel : Below w.heap.size w wr
  hs : w.heap.size ≤ s
  hm : w.heap.size ≤ m
  hl : w.heap.size ≤ lb
  size : d.size = sz
  cap : d.cap = N
  fails : d.fails = fail
  mine : ∀ i, (d.B i).isSome → w.heap.size ≤ d.g i
  row : Blk wr lb 33 (pgC N0 pg)
  tie : ∀ i, d.B i = (pg i).map (List.replicate sz)
  lt : ∀ i v, pg i = some v → i < k ∧ v < 256
  ops : d.ops ≤ k
  n0 : N0 = min N 70
section
variable {w wr w2 : World} {s m lb sz N N0 : Nat} {fail : Int} {d : Sd} {pg : Nat → Option Nat} {k : Nat}
theorem PRel.some_ (q : PRel w s m lb sz N N0 fail d pg k wr) (i : Nat) : (d.B i).isSome = (pg i).isSome := by rw [q.tie i]; simp
theorem PRel.f_ (q : PRel w s m lb sz N N0 fail d pg k wr) (i : Nat) : (d.f (i : Int)).isSome = (pg i).isSome := (d.f_nat i).trans (q.some_ i)
theorem PRel.in0 (q : PRel w s m lb sz N N0 fail d pg k wr) (hk : k ≤ 60) {i : Nat} (h : (pg i).isSome = true) : i < N0 := by
  have h1 := q.sto.dom i (by rw [q.some_]; exact h)
  obtain ⟨v, hv⟩ := Option.isSome_iff_exists.1 h
  have h2 := q.lt i v hv
  have := q.cap
  rw [q.n0]
  omega
theorem PRel.ls (q : PRel w s m lb sz N N0 fail d pg k wr) : lb ≠ s := q.row.ne_ q.sto.blk (by decide)
theorem PRel.lm (q : PRel w s m lb sz N N0 fail d pg k wr) : lb ≠ m := (q.sto.im.ne_ q.row).symm
theorem PRel.lg (q : PRel w s m lb sz N N0 fail d pg k wr) {i : Nat} (hi : (d.B i).isSome) : lb ≠ d.g i := by
  obtain ⟨l, hl⟩ := Option.isSome_iff_exists.1 hi
  exact q.row.ne_ (q.sto.cont i l hl).2.2 (by decide)
theorem PRel.far (q : PRel w s m lb sz N N0 fail d pg k wr) : ¬ d.mine s m lb := by
  rintro (h | h | ⟨i, hi, h⟩)
  · exact q.ls h
  · exact q.lm h
  · exact q.lg hi h.symm
theorem PRel.drewN (q : PRel w s m lb sz N N0 fail d pg k wr) (j : Nat) : PRel w s m lb sz N N0 fail d pg k (wr.drewN j) :=
  ⟨q.sto.drewN j, ⟨q.bel.os, q.bel.tape, q.bel.output, q.bel.size, q.bel.block⟩, q.hs, q.hm, q.hl, q.size, q.cap, q.fails, q.mine, q.row, q.tie, q.lt, q.ops, q.n0⟩
theorem PRel.next (q : PRel w s m lb sz N N0 fail d pg k wr) : PRel w s m lb sz N N0 fail d pg (k + 1) wr :=
  ⟨q.sto, q.bel, q.hs, q.hm, q.hl, q.size, q.cap, q.fails, q.mine, q.row, q.tie, fun i v h => ⟨by have := (q.lt i v h).1; omega, (q.lt i v h).2⟩, by have := q.ops; omega, q.n0⟩
/-- memory that is made, or written behind all that there was -/
theorem PRel.mv (q : PRel w s m lb sz N N0 fail d pg k wr) (h : Below wr.heap.size wr w2) : PRel w s m lb sz N N0 fail d pg k w2 :=
  ⟨q.sto.below h (Nat.le_refl _), q.bel.trans (h.mono q.bel.size), q.hs, q.hm, q.hl, q.size, q.cap, q.fails, q.mine, q.row.below h q.row.lt, q.tie, q.lt, q.ops, q.n0⟩
theorem PRel.opd (q : PRel w s m lb sz N N0 fail d pg k wr) (h : Sto w2 s m d.op) (hf : Fr (· = s) wr w2) : PRel w s m lb sz N N0 fail d.op pg (k + 1) w2 :=
  ⟨h, below_s q.bel q.hs hf, q.hs, q.hm, q.hl, q.size, q.cap, q.fails, q.mine, q.row.fr hf q.ls, q.tie, fun i v h => ⟨by have := (q.lt i v h).1; omega, (q.lt i v h).2⟩, by show d.ops + 1 ≤ k + 1; have := q.ops; omega, q.n0⟩
theorem PRel.fl (q : PRel w s m lb sz N N0 fail d pg k wr) : d.fl = decide (0 ≤ fail ∧ fail ≤ (d.ops : Int)) := by rw [← q.fails]; rfl
theorem PRel.al {L G : Nat} (q : PRel w s m lb sz N N0 fail d pg k wr) (hk : k < 60) (hL : d.Low L) (hG : wr.heap.size ≤ G) (h : Sto w2 s m (d.op.al L G)) (hf : Fr (fun k => k = s ∨ k = m) wr w2) (w3 : World) (hw : w3 = (w2.setCell ⟨lb, L * 2, none⟩ (.bool true)).setCell ⟨lb, L * 2 + 1, none⟩ (.int .u8 0)) :
    PRel w s m lb sz N N0 fail (d.op.al L G) (up pg L (some 0)) (k + 1) w3 := by
  have hlb : ¬ (d.op.al L G).mine s m lb := by
    have hh := q.row.fr (w' := w2) hf (fun h => by rcases h with h | h; exact q.ls h; exact q.lm h)
    rintro (e | e | ⟨i, hi, e⟩)
    · exact q.ls e
    · exact q.lm e
    · obtain ⟨l, hl⟩ := Option.isSome_iff_exists.1 hi
      exact hh.ne_ (h.cont i l hl).2.2 (by decide) e.symm
  have hLk : L ≤ k := by
    rcases Nat.eq_zero_or_pos L with e | e
    · omega
    · have := hL.2.1 (L - 1) (by omega)
      rw [q.some_] at this
      obtain ⟨v, hv⟩ := Option.isSome_iff_exists.1 this
      have := (q.lt _ v hv).1
      omega
  have hrow : Blk w2 lb 33 (pgC N0 pg) := q.row.fr hf (fun h => by rcases h with h | h; exact q.ls h; exact q.lm h)
  have hf2 : Fr (fun k => k = lb) w2 w3 := by
    rw [hw]
    exact ((Fr.refl (· = lb) w2).set_ (p := ⟨lb, L * 2, none⟩) rfl _).set_ (p := ⟨lb, L * 2 + 1, none⟩) rfl _
  refine ⟨h.fr hf2 (fun t ht e => hlb (e ▸ ht)), hf2.below (below_sm q.bel q.hs q.hm hf) (below_sm q.bel q.hs q.hm hf).size (fun t ht => by have := q.hl; omega), q.hs, q.hm, q.hl, q.size, q.cap, q.fails, fun i hi => ?_, ?_, fun i => ?_, fun i v hv => ?_, ?_, q.n0⟩
  · by_cases e : i = L
    · simp only [Sd.al, if_pos e]; exact Nat.le_trans q.bel.size hG
    · simp only [Sd.al, if_neg e] at hi ⊢; exact q.mine i hi
  · rw [hw, ← pgC_set2 (some 0)]
    exact (hrow.set_ (L * 2) _).set_ (L * 2 + 1) _
  · by_cases e : i = L
    · subst e
      simp [Sd.al, Sd.op, up, zs, q.size]
    · simp only [Sd.al, Sd.op, up, if_neg e]
      exact q.tie i
  · by_cases e : i = L
    · simp only [up, if_pos e] at hv
      injection hv with hv
      omega
    · simp only [up, if_neg e] at hv
      have := q.lt i v hv
      omega
  · show d.ops + 1 ≤ k + 1
    have := q.ops
    omega
theorem PRel.fre {j : Nat} (q : PRel w s m lb sz N N0 fail d pg k wr) (h : Sto w2 s m (d.op.fr j)) (hf : Fr (fun k => k = s ∨ k = m) wr w2) (w3 : World) (hw : w3 = (w2.setCell ⟨lb, j * 2, none⟩ (.bool false)).setCell ⟨lb, j * 2 + 1, none⟩ (.int .u8 0)) :
    PRel w s m lb sz N N0 fail (d.op.fr j) (up pg j none) (k + 1) w3 := by
  have hlb : ¬ (d.op.fr j).mine s m lb := by
    rintro (e | e | ⟨i, hi, e⟩)
    · exact q.ls e
    · exact q.lm e
    · by_cases e' : i = j
      · simp [Sd.fr, e'] at hi
      · simp only [Sd.fr, if_neg e'] at hi
        exact q.lg hi e.symm
  have hrow : Blk w2 lb 33 (pgC N0 pg) := q.row.fr hf (fun h => by rcases h with h | h; exact q.ls h; exact q.lm h)
  have hf2 : Fr (fun k => k = lb) w2 w3 := by
    rw [hw]
    exact ((Fr.refl (· = lb) w2).set_ (p := ⟨lb, j * 2, none⟩) rfl _).set_ (p := ⟨lb, j * 2 + 1, none⟩) rfl _
  refine ⟨h.fr hf2 (fun t ht e => hlb (e ▸ ht)), hf2.below (below_sm q.bel q.hs q.hm hf) (below_sm q.bel q.hs q.hm hf).size (fun t ht => by have := q.hl; omega), q.hs, q.hm, q.hl, q.size, q.cap, q.fails, fun i hi => ?_, ?_, fun i => ?_, fun i v hv => ?_, ?_, q.n0⟩
  · by_cases e : i = j
    · simp [Sd.fr, e] at hi
    · simp only [Sd.fr, if_neg e] at hi ⊢; exact q.mine i hi
  · rw [hw, ← pgC_set2 none]
    exact (hrow.set_ (j * 2) _).set_ (j * 2 + 1) _
  · by_cases e : i = j
    · subst e
      simp [Sd.fr, Sd.op, up]
    · simp only [Sd.fr, Sd.op, up, if_neg e]
      exact q.tie i
  · by_cases e : i = j
    · simp only [up, if_pos e] at hv
      cases hv
    · simp only [up, if_neg e] at hv
      have := q.lt i v hv
      omega
  · show d.ops + 1 ≤ k + 1
    have := q.ops
    omega
/-- S: what has changed meanwhile: the store's struct, the block written, bytes of the caller's own -/
theorem PRel.wri {S : Nat → Prop} {j v : Nat} (q : PRel w s m lb sz N N0 fail d pg k wr) (hj : (pg j).isSome = true) (hv : v < 256) (h : Sto w2 s m (d.op.wr j (List.replicate sz v))) (hf : Fr S wr w2) (hS : ∀ t, S t → w.heap.size ≤ t) (hSl : ¬ S lb) (w3 : World) (hw : w3 = w2.setCell ⟨lb, j * 2 + 1, none⟩ (U8 v)) :
    PRel w s m lb sz N N0 fail (d.op.wr j (List.replicate sz v)) (up pg j (some v)) (k + 1) w3 := by
  have hB : (d.B j).isSome := by rw [q.some_]; exact hj
  have hlb : ¬ (d.op.wr j (List.replicate sz v)).mine s m lb := by
    rintro (e | e | ⟨i, hi, e⟩)
    · exact q.ls e
    · exact q.lm e
    · by_cases e' : i = j
      · subst e'; exact q.lg hB e.symm
      · simp only [Sd.wr, if_neg e'] at hi
        exact q.lg hi e.symm
  have hrow : Blk w2 lb 33 (pgC N0 pg) := q.row.fr hf hSl
  have hb1 : Below w.heap.size w w2 := hf.below q.bel q.bel.size hS
  have hf2 : Fr (fun k => k = lb) w2 w3 := by
    rw [hw]
    exact ((Fr.refl (· = lb) w2).set_ (p := ⟨lb, j * 2 + 1, none⟩) rfl _)
  refine ⟨h.fr hf2 (fun t ht e => hlb (e ▸ ht)), hf2.below hb1 hb1.size (fun t ht => by have := q.hl; omega), q.hs, q.hm, q.hl, q.size, q.cap, q.fails, fun i hi => ?_, ?_, fun i => ?_, fun i v' hv' => ?_, ?_, q.n0⟩
  · by_cases e : i = j
    · subst e; exact q.mine i hB
    · simp only [Sd.wr, if_neg e] at hi ⊢; exact q.mine i hi
  · rw [hw, ← pgC_set1 v hj]
    exact hrow.set_ (j * 2 + 1) _
  · by_cases e : i = j
    · subst e
      simp [Sd.wr, Sd.op, up]
    · simp only [Sd.wr, Sd.op, up, if_neg e]
      exact q.tie i
  · by_cases e : i = j
    · simp only [up, if_pos e] at hv'
      obtain ⟨u, hu⟩ := Option.isSome_iff_exists.1 hj
      have := (q.lt j u hu).1
      injection hv' with hv'
      omega
    · simp only [up, if_neg e] at hv'
      have := q.lt i v' hv'
      omega
  · show d.ops + 1 ≤ k + 1
    have := q.ops
    omega
theorem PRel.frame {S : Nat → Prop} (q : PRel w s m lb sz N N0 fail d pg k wr) (hf : Fr S wr w2) (hS : ∀ t, S t → w.heap.size ≤ t) (hSl : ¬ S lb) (hSm : ∀ t, d.mine s m t → ¬ S t) : PRel w s m lb sz N N0 fail d pg k w2 :=
  ⟨q.sto.fr hf hSm, hf.below q.bel q.bel.size hS, q.hs, q.hm, q.hl, q.size, q.cap, q.fails, q.mine, q.row.fr hf hSl, q.tie, q.lt, q.ops, q.n0⟩
theorem PRel.num4 (q : PRel w s m lb sz N N0 fail d pg k wr) : d.n ≤ N := by
  rw [q.sto.num, ← q.cap]
  exact cnt_le _ _
theorem cnt_pos {B : Nat → Option (List Nat)} {c i : Nat} (h : (B i).isSome = true) (hi : i < c) : 1 ≤ cnt B c :=
  List.length_pos_of_mem (List.mem_filter.2 ⟨List.mem_range.2 hi, h⟩)
theorem mine_wr {d : Sd} {s m j t : Nat} {l : List Nat} (hj : (d.B j).isSome) (h : (d.op.wr j l).mine s m t) : d.mine s m t := by
  rcases h with h | h | ⟨i, hi, h⟩
  · exact .inl h
  · exact .inr (.inl h)
  · refine .inr (.inr ⟨i, ?_, h⟩)
    by_cases e : i = j
    · subst e; exact hj
    · simpa only [Sd.wr, Sd.op, if_neg e] using hi
/-- bytes of one's own, of which the first q are v -/
def fillL (q n v : Nat) : List Nat := List.replicate q v ++ List.replicate (n - q) 0
theorem fillL_set {q n v : Nat} (h : q < n) : (fillL q n v).set q v = fillL (q + 1) n v := by
  unfold fillL
  rw [List.set_append_right _ _ (by simp)]
  simp only [List.length_replicate, Nat.sub_self]
  obtain ⟨m, hm⟩ : ∃ m, n - q = m + 1 := ⟨n - q - 1, by omega⟩
  rw [hm, show n - (q + 1) = m from by omega, List.replicate_succ, List.set_cons_zero, List.replicate_succ', List.append_assoc]
  rfl
theorem fillL_blk {w : World} {b q n v : Nat} (h : Blk w b 5 ((fillL q n v).map U8).toArray) (hq : q < n) : Blk (w.setCell ⟨b, q, none⟩ (U8 v)) b 5 ((fillL (q + 1) n v).map U8).toArray := by
  have := h.set_ q (U8 v)
  rw [← fillL_set hq, List.map_set]
  simpa using this
theorem set_blk {w : World} {b q x : Nat} {l : List Nat} (h : Blk w b 5 (l.map U8).toArray) : Blk (w.setCell ⟨b, q, none⟩ (U8 x)) b 5 ((l.set q x).map U8).toArray := by
  have := h.set_ q (U8 x)
  rw [List.map_set]
  simpa using this
end
end Go.Proofs.Ytmphpdonpaefpaa
