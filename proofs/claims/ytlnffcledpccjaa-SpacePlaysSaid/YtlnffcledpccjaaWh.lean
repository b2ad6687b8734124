/-
  An argument that is a row of what is done with pagers, opened to its cells: kind, numbers, and bytes.
-/
import Derived.Test.YtlnffcledpccjaaWu
import Derived.Deep.Slices
import Derived.Deep.Fields
import Derived.ChangeSame
import Derived.ChangeSlices
import Derived.ChangeArms
namespace Go.Proofs.Ytlnffcledpccjaa
open Go.RowKit Go.ChangeShapes Go.WideShapes Go.Deep
set_option linter.unusedVariables false
section
variable {H : Type} {enc : TypeId × Value → H} {P : Program} {w : World} {base : Nat} {spare : Nat → Bool} {held : Bool}
/-- field j of element i stands in the cell i * (the number of fields) + j, and reads by its own type -/
theorem struct_row {t e : TypeId} {fs : Array Field} {fuel : Nat} {cs : List Value} {x : DataW H × List MemPlace} (ht : P.underlying t = some (.slice e)) (he : P.underlying e = some (.struct fs)) (hone : oneCellFields P fs = true) (hC : P.cellsOf e = fs.size)
    (h : DataW.trod enc P w base spare held fuel t cs = some x) :
    cs = [.slice none 0 0] ∨ ∃ (a : Addr) (len cap : Nat), cs = [.slice (some a) len cap] ∧ len ≤ cap ∧ cap ≤ maxLen ∧
      ∀ i, i < len → ∀ (j : Nat) (f : Field), fs[j]? = some f → ∃ (v : Value) (n : Nat) (y : DataW H × List MemPlace), w.cell? (a.add (i * fs.size + j)) = some v ∧ DataW.trod enc P w base spare held n f.type [v] = some y := by
  rcases open_slice ht h with ⟨h0, _⟩ | ⟨a, len, cap, m, n, D, Pl, hcs, _, hl, hm, hmm, _, hi⟩
  · exact .inl h0
  · refine .inr ⟨a, len, cap, hcs, hl, hm, fun i hil j f hj => ?_⟩
    obtain ⟨cs', hc, ht'⟩ := hi i (by rw [hmm]; split <;> omega)
    rw [hC] at hc
    obtain ⟨ys, n', _, _, _, hyl, hf⟩ := DataW.trod_struct he ht'
    obtain ⟨_, hcl, hat⟩ := World.cells?_some hc
    obtain ⟨ho, hk⟩ := hone_of hone j f hj
    have hjl : j < fs.size := (Array.getElem?_eq_some_iff.1 hj).1
    have hjc : j < cs'.length := by omega
    have hjy : j < ys.length := by omega
    have h1 := hf j f hj
    rw [ho, hk, List.drop_eq_getElem_cons hjc] at h1
    refine ⟨cs'[j], n', ys[j], ?_, ?_⟩
    · rw [← Go.Deep.add_add, hat j hjl, List.getElem?_eq_getElem hjc]
    · rw [← List.getElem?_eq_getElem hjy, ← h1]
      rfl
end

theorem byt_of_trod {H : Type} {enc : TypeId × Value → H} {w : World} {sp : Nat → Bool} {held : Bool} {base fuel : Nat} {v : Value} {y : DataW H × List MemPlace} (h : DataW.trod enc Try.prog w base sp held fuel 34 [v] = some y) :
    ∃ (B : Option Addr) (len cap : Nat) (l : List Nat), v = .slice B len cap ∧ Byt w B len cap l ∧ ∀ g, B.map (·.block) = some g → 0 < len → g < w.heap.size := by
  rcases open_ints Try.underlying34 Try.underlying5 (by kernel_rfl) h with ⟨hcs, _⟩ | ⟨x, l, c, zs, hcs, _, hl, hm, hz, _, hcell, hwz⟩
  · injection hcs with hcs
    exact ⟨none, 0, 0, [], hcs, ⟨rfl, by simp, Nat.le_refl _, Nat.zero_le _, fun q => absurd q (Nat.lt_irrefl _)⟩, fun g e => (by cases e)⟩
  · injection hcs with hcs
    have hlz : l ≤ zs.length := by rw [hz]; split <;> omega
    have hcl : ∀ i, i < l → w.cell? (x.add i) = some (.int .u8 (zs.getD i 0)) := fun i hi => hcell i (by omega)
    have hwf : ∀ i, i < l → 0 ≤ zs.getD i 0 ∧ zs.getD i 0 < 256 := fun i hi => by
      rw [List.getD_eq_getElem?_getD, List.getElem?_eq_getElem (by omega)]
      exact wf_u8 (hwz _ (List.getElem_mem _))
    rcases Nat.eq_zero_or_pos l with h0 | h0
    · exact ⟨some x, l, c, [], hcs, ⟨h0.symm, by simp, hl, hm, fun q => by omega⟩, fun g e q => by omega⟩
    · have hc0 := hcl 0 h0
      have hspot := World.cell?_spot hc0
      have hlt := lt_of_cell hc0
      obtain ⟨b, off, spot⟩ := x
      have hs : spot = none := by simpa [Addr.add] using hspot
      subst hs
      rw [addr_add] at hlt
      refine ⟨some ⟨b, off, none⟩, l, c, (zs.take l).map Int.toNat, hcs, ⟨by simp; omega, fun z hz' => ?_, hl, hm, fun _ => ⟨b, off, rfl, hlt, fun j hj => ?_⟩⟩, fun g e _ => by simp at e; rw [← e]; exact hlt⟩
      · rw [List.mem_map] at hz'
        obtain ⟨u, hu, rfl⟩ := hz'
        have := wf_u8 (hwz u (List.mem_of_mem_take hu))
        omega
      · have := hcl j hj
        rw [addr_add] at this
        rw [this]
        have h1 := hwf j hj
        have h2 : ((zs.take l).map Int.toNat).getD j 0 = (zs.getD j 0).toNat := by
          rw [List.getD_eq_getElem?_getD, List.getElem?_map, List.getElem?_take_of_lt hj, List.getElem?_eq_getElem (by omega), List.getD_eq_getElem?_getD, List.getElem?_eq_getElem (by omega)]
          rfl
        rw [h2]
        congr 2
        omega
end Go.Proofs.Ytlnffcledpccjaa
/-
  SpacePlays' argument: a row of what is done, opened to its cells.
-/
namespace Go.Proofs.Ytlnffcledpccjaa
open Go.RowKit Go.ChangeShapes Go.WideShapes Go.Deep
set_option linter.unusedVariables false
theorem u64_nat {a : Int} (w : (Lit.int .u64 a).wf = true) : ∃ m : Nat, a = (m : Int) ∧ m < 18446744073709551616 := by
  have := bounds_u64 w
  obtain ⟨m, rfl⟩ := Int.eq_ofNat_of_zero_le this.1
  exact ⟨m, rfl, by omega⟩
structure Sact where
  kd : Nat
  q : Bool
  self : Bool
  at_ : Nat
  off : Nat
  n : Int
  B : Option Addr
  len : Nat
  cap : Nat
  l : List Nat
structure SactAt (w : World) (b off : Nat) (x : Sact) : Prop where
  c0 : w.cell? ⟨b, off, none⟩ = some (.int .u8 (x.kd : Nat))
  c1 : w.cell? ⟨b, off + 1, none⟩ = some (.bool x.q)
  c2 : w.cell? ⟨b, off + 2, none⟩ = some (.bool x.self)
  c3 : w.cell? ⟨b, off + 3, none⟩ = some (.int .u64 (x.at_ : Nat))
  c4 : w.cell? ⟨b, off + 4, none⟩ = some (.int .u64 (x.off : Nat))
  c5 : w.cell? ⟨b, off + 5, none⟩ = some (.int .i64 x.n)
  c6 : w.cell? ⟨b, off + 6, none⟩ = some (.slice x.B x.len x.cap)
  kd : x.kd < 256
  at_ : x.at_ ≤ 18446744073709551615
  off : x.off ≤ 18446744073709551615
  n : -9223372036854775808 ≤ x.n ∧ x.n ≤ 9223372036854775807
  byt : Byt w x.B x.len x.cap x.l
  nil : x.B = none → x.cap = 0
  lt : ∀ g, x.B.map (·.block) = some g → 0 < x.len → g < w.heap.size
/-- what is done with memories: a row of structs of seven cells -/
def SRow (w : World) (A : Option Addr) (m cap : Nat) (F : Nat → Sact) : Prop :=
  m ≤ cap ∧ cap ≤ maxLen ∧ (0 < m → ∃ b off, A = some ⟨b, off, none⟩ ∧ b < w.heap.size ∧ ∀ i, i < m → SactAt w b (off + i * 7) (F i))
theorem nil_of_trod {H : Type} {enc : TypeId × Value → H} {w : World} {sp : Nat → Bool} {held : Bool} {base fuel : Nat} {B : Option Addr} {len cap : Nat} {y : DataW H × List MemPlace} (h : DataW.trod enc Try.prog w base sp held fuel 34 [.slice B len cap] = some y) : B = none → cap = 0 := by
  intro e
  rcases open_ints Try.underlying34 Try.underlying5 (by kernel_rfl) h with ⟨hcs, _⟩ | ⟨x, l, c, zs, hcs, _⟩
  · injection hcs with hcs
    injection hcs
  · injection hcs with hcs
    injection hcs with h1
    rw [e] at h1
    cases h1
theorem sacts_of_arg {H : Type} {enc : TypeId × Value → H} {w : World} {sp : Nat → Bool} {held : Bool} {base : Nat} {a : Option Addr} {len cap : Nat} {d : DataW H} {p : List MemPlace} (h : DataW.Trod enc Try.prog w base sp held 46 (.slice a len cap) d p) : ∃ F, SRow w a len cap F := by
  obtain ⟨fuel, hf⟩ := h
  rcases struct_row Try.underlying46 Try.underlying58 (by kernel_rfl) (by kernel_rfl) hf with hcs | ⟨x, l, c, hcs, hl, hm, hi⟩
  · simp [Value.cells] at hcs
    obtain ⟨rfl, rfl, rfl⟩ := hcs
    exact ⟨fun _ => ⟨0, false, false, 0, 0, 0, none, 0, 0, []⟩, Nat.le_refl _, Nat.zero_le _, fun h => by omega⟩
  · simp [Value.cells] at hcs
    obtain ⟨rfl, rfl, rfl⟩ := hcs
    rcases Nat.eq_zero_or_pos len with h0 | h0
    · exact ⟨fun _ => ⟨0, false, false, 0, 0, 0, none, 0, 0, []⟩, hl, hm, fun h => by omega⟩
    · obtain ⟨v0, _, _, hc0, _⟩ := hi 0 h0 0 _ rfl
      have hspot := World.cell?_spot hc0
      have hlt := lt_of_cell hc0
      obtain ⟨b, off, spot⟩ := x
      have hs : spot = none := by simpa [Addr.add] using hspot
      subst hs
      rw [addr_add] at hlt
      have hex : ∀ i, ∃ x : Sact, i < len → SactAt w b (off + i * 7) x := fun i => by
        by_cases hil : i < len
        · obtain ⟨u0, n0, y0, hu0, t0⟩ := hi i hil 0 _ rfl
          obtain ⟨u1, n1, y1, hu1, t1⟩ := hi i hil 1 _ rfl
          obtain ⟨u2, n2, y2, hu2, t2⟩ := hi i hil 2 _ rfl
          obtain ⟨u3, n3, y3, hu3, t3⟩ := hi i hil 3 _ rfl
          obtain ⟨u4, n4, y4, hu4, t4⟩ := hi i hil 4 _ rfl
          obtain ⟨u5, n5, y5, hu5, t5⟩ := hi i hil 5 _ rfl
          obtain ⟨u6, n6, y6, hu6, t6⟩ := hi i hil 6 _ rfl
          obtain ⟨q0, e0, _, b0⟩ := DataW.trod_int Try.underlying5 t0
          obtain ⟨q1, e1, _⟩ := DataW.trod_bool Try.underlying4 t1
          obtain ⟨q2, e2, _⟩ := DataW.trod_bool Try.underlying4 t2
          obtain ⟨q3, e3, _, b3⟩ := DataW.trod_int Try.underlying56 t3
          obtain ⟨q4, e4, _, b4⟩ := DataW.trod_int Try.underlying56 t4
          obtain ⟨q5, e5, _, b5⟩ := DataW.trod_int Try.underlying3 t5
          obtain ⟨B, ln, cp, bl, e6, b6, l6⟩ := byt_of_trod t6
          injection e0 with e0
          injection e1 with e1
          injection e2 with e2
          injection e3 with e3
          injection e4 with e4
          injection e5 with e5
          subst e0 e1 e2 e3 e4 e5 e6
          rw [addr_add] at hu0 hu1 hu2 hu3 hu4 hu5 hu6
          have w0 := wf_u8 b0
          obtain ⟨z3, rfl, h3⟩ := u64_nat b3
          obtain ⟨z4, rfl, h4⟩ := u64_nat b4
          refine ⟨⟨q0.toNat, q1, q2, z3, z4, q5, B, ln, cp, bl⟩, fun _ => ⟨?_, hu1, hu2, hu3, hu4, hu5, hu6, by show q0.toNat < 256; omega, by show z3 ≤ _; omega, by show z4 ≤ _; omega, bounds_i64 b5, b6, nil_of_trod t6, l6⟩⟩
          have : ((q0.toNat : Nat) : Int) = q0 := by omega
          show w.cell? _ = some (Value.int .u8 ((q0.toNat : Nat) : Int))
          rw [this]; exact hu0
        · exact ⟨⟨0, false, false, 0, 0, 0, none, 0, 0, []⟩, fun q => absurd q hil⟩
      exact ⟨fun i => Classical.choose (hex i), hl, hm, fun _ => ⟨b, off, rfl, hlt, fun i hil => Classical.choose_spec (hex i) hil⟩⟩
end Go.Proofs.Ytlnffcledpccjaa
