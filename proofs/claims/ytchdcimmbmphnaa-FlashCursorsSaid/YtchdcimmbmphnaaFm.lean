/-
  An argument that is a slice of structs whose fields take one cell each, opened to its cells; a row of acts.
-/
import Derived.Test.YtchdcimmbmphnaaFk
import Derived.Deep.Slices
import Derived.Deep.Fields
import Derived.ChangeSame
namespace Go.Proofs.Ytchdcimmbmphnaa
open Go.RowKit Go.ChangeShapes Go.WideShapes Go.Deep
set_option linter.unusedVariables false
section
variable {H : Type} {enc : TypeId × Value → H} {P : Program} {w : World} {base : Nat} {spare : Nat → Bool} {held : Bool}
/-- field j of element i stands in the cell i * (the number of fields) + j, and reads by its own type -/
theorem struct_row {t e : TypeId} {fs : Array Field} {fuel : Nat} {cs : List Value} {x : DataW H × List MemPlace} (ht : P.underlying t = some (.slice e)) (he : P.underlying e = some (.struct fs)) (hone : oneCellFields P fs = true) (hC : P.cellsOf e = fs.size)
    (h : DataW.trod enc P w base spare held fuel t cs = some x) :
    cs = [.slice none 0 0] ∨ ∃ (a : Addr) (len cap : Nat), cs = [.slice (some a) len cap] ∧ len ≤ cap ∧ cap ≤ maxLen ∧
      ∀ i, i < len → ∀ (j : Nat) (f : Field), fs[j]? = some f → ∃ (v : Value) (n : Nat) (y : DataW H × List MemPlace), w.cell? (a.add (i * fs.size + j)) = some v ∧ DataW.trod enc P w base spare held n f.type [v] = some y := by
  rcases open_slice ht h with ⟨h0, _⟩ | ⟨a, len, cap, m, n, D, Pl, hcs, _, hl, hm, hmm, _, hi⟩
  · exact .inl h0
  · refine .inr ⟨a, len, cap, hcs, hl, hm, fun i hil j f hj => ?_⟩
    obtain ⟨cs', hc, ht'⟩ := hi i (by rw [hmm]; split <;> omega)
    rw [hC] at hc
    obtain ⟨ys, n', _, _, _, hyl, hf⟩ := DataW.trod_struct he ht'
    obtain ⟨_, hcl, hat⟩ := World.cells?_some hc
    obtain ⟨ho, hk⟩ := hone_of hone j f hj
    have hjl : j < fs.size := (Array.getElem?_eq_some_iff.1 hj).1
    have hjc : j < cs'.length := by omega
    have hjy : j < ys.length := by omega
    have h1 := hf j f hj
    rw [ho, hk, List.drop_eq_getElem_cons hjc] at h1
    refine ⟨cs'[j], n', ys[j], ?_, ?_⟩
    · rw [← Go.Deep.add_add, hat j hjl, List.getElem?_eq_getElem hjc]
    · rw [← List.getElem?_eq_getElem hjy, ← h1]
      rfl
end
/-- what is done with a cursor: a row of structs of two cells, the kind and the number -/
def Acts (w : World) (A : Option Addr) (m cap : Nat) (K : Nat → Nat) (V : Nat → Int) : Prop :=
  m ≤ cap ∧ cap ≤ maxLen ∧ (∀ i, K i < 256) ∧ (0 < m → ∃ b off, A = some ⟨b, off, none⟩ ∧ b < w.heap.size ∧ ∀ i, i < m → w.cell? ⟨b, off + i * 2, none⟩ = some (.int .u8 (K i : Nat)) ∧ w.cell? ⟨b, off + i * 2 + 1, none⟩ = some (.int .i64 (V i)))
def numOf : Option Value → Int
  | some (.int _ n) => n
  | _ => 0
theorem acts_of_arg {H : Type} {enc : TypeId × Value → H} {w : World} {sp : Nat → Bool} {held : Bool} {base : Nat} {a : Option Addr} {len cap : Nat} {d : DataW H} {p : List MemPlace} (h : DataW.Trod enc Try.prog w base sp held 46 (.slice a len cap) d p) : ∃ K V, Acts w a len cap K V := by
  obtain ⟨fuel, hf⟩ := h
  rcases struct_row Try.underlying46 Try.underlying54 (by kernel_rfl) (by kernel_rfl) hf with hcs | ⟨x, l, c, hcs, hl, hm, hi⟩
  · simp [Value.cells] at hcs
    obtain ⟨rfl, rfl, rfl⟩ := hcs
    exact ⟨fun _ => 0, fun _ => 0, Nat.le_refl _, Nat.zero_le _, fun _ => (by decide : (0 : Nat) < 256), fun h => by omega⟩
  · simp [Value.cells] at hcs
    obtain ⟨rfl, rfl, rfl⟩ := hcs
    refine ⟨fun i => (numOf (w.cell? (x.add (i * 2)))).toNat % 256, fun i => numOf (w.cell? (x.add (i * 2 + 1))), hl, hm, fun i => Nat.mod_lt _ (by decide), fun h0 => ?_⟩
    obtain ⟨v0, _, _, hc0, _⟩ := hi 0 h0 0 _ rfl
    have hspot := World.cell?_spot hc0
    obtain ⟨b, off, spot⟩ := x
    have hs : spot = none := by simpa [Addr.add] using hspot
    subst hs
    refine ⟨b, off, rfl, by have := lt_of_cell hc0; rw [addr_add] at this; exact this, fun i hil => ?_⟩
    obtain ⟨u, n1, y1, hu, tu⟩ := hi i hil 0 _ rfl
    obtain ⟨v, n2, y2, hv, tv⟩ := hi i hil 1 _ rfl
    obtain ⟨q1, e1, _, b1⟩ := DataW.trod_int Try.underlying5 tu
    obtain ⟨q2, e2, _, b2⟩ := DataW.trod_int Try.underlying3 tv
    injection e1 with e1
    injection e2 with e2
    subst e1
    subst e2
    have hu' : w.cell? ((⟨b, off, none⟩ : Addr).add (i * 2)) = some (.int .u8 q1) := hu
    have hv' : w.cell? ((⟨b, off, none⟩ : Addr).add (i * 2 + 1)) = some (.int .i64 q2) := hv
    have hb := wf_u8 b1
    have e0 : (((q1.toNat % 256 : Nat)) : Int) = q1 := by omega
    refine ⟨?_, ?_⟩
    · show w.cell? _ = some (Value.int .u8 (((numOf (w.cell? ((⟨b, off, none⟩ : Addr).add (i * 2)))).toNat % 256 : Nat) : Int))
      rw [← addr_add, hu']
      show _ = some (Value.int .u8 ((q1.toNat % 256 : Nat) : Int))
      rw [e0]
    · show w.cell? _ = some (Value.int .i64 (numOf (w.cell? ((⟨b, off, none⟩ : Addr).add (i * 2 + 1)))))
      rw [Nat.add_assoc, ← addr_add, hv']
      rfl
end Go.Proofs.Ytchdcimmbmphnaa
