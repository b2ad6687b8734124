/-
  An argument that is a row of what is done with frames, opened to its cells.
-/
import Derived.Test.YthfdblpodnodcaaUi
namespace Go.Proofs.Ythfdblpodnodcaa
open Go.RowKit Go.ChangeShapes Go.WideShapes Go.Deep
set_option linter.unusedVariables false
set_option linter.unusedSimpArgs false
structure Fact where
  kd : Nat
  x : Int
  y : Int
  z : Int
structure FactAt (w : World) (b o : Nat) (X : Fact) : Prop where
  c0 : w.cell? ⟨b, o, none⟩ = some (.int .u8 X.kd)
  c1 : w.cell? ⟨b, o + 1, none⟩ = some (.int .i64 X.x)
  c2 : w.cell? ⟨b, o + 2, none⟩ = some (.int .i64 X.y)
  c3 : w.cell? ⟨b, o + 3, none⟩ = some (.int .i64 X.z)
  kd : X.kd < 256
  x : -9223372036854775808 ≤ X.x ∧ X.x ≤ 9223372036854775807
  y : -9223372036854775808 ≤ X.y ∧ X.y ≤ 9223372036854775807
  z : -9223372036854775808 ≤ X.z ∧ X.z ≤ 9223372036854775807
def FaRow (w : World) (a : Option Addr) (len cap : Nat) (F : Nat → Fact) : Prop :=
  len ≤ cap ∧ cap ≤ maxLen ∧ (0 < len → ∃ b off, a = some ⟨b, off, none⟩ ∧ b < w.heap.size ∧ ∀ i, i < len → FactAt w b (off + i * 4) (F i))
theorem cellsOf60 : Try.prog.cellsOf 60 = 4 := by kernel_rfl
theorem cellsOf58 : Try.prog.cellsOf 58 = 3 := by kernel_rfl
theorem cellsOf5 : Try.prog.cellsOf 5 = 1 := by kernel_rfl
theorem cellsOf3 : Try.prog.cellsOf 3 = 1 := by kernel_rfl
theorem list4 {l : List Value} (h : l.length = 4) : ∃ a b c d, l = [a, b, c, d] := by
  match l, h with
  | [a, b, c, d], _ => exact ⟨a, b, c, d, rfl⟩
section
variable {H : Type} {enc : TypeId × Value → H} {w : World} {base : Nat} {spare : Nat → Bool} {held : Bool}
theorem fact_of_trod {fuel : Nat} {cs : List Value} {x : DataW H × List MemPlace} (h : DataW.trod enc Try.prog w base spare held fuel 60 cs = some x) :
    ∃ X : Fact, cs = [.int .u8 (X.kd : Int), .int .i64 X.x, .int .i64 X.y, .int .i64 X.z] ∧ X.kd < 256 ∧ (-9223372036854775808 ≤ X.x ∧ X.x ≤ 9223372036854775807) ∧ (-9223372036854775808 ≤ X.y ∧ X.y ≤ 9223372036854775807) ∧ (-9223372036854775808 ≤ X.z ∧ X.z ≤ 9223372036854775807) := by
  obtain ⟨ys, n, _, _, hl, hyl, hf⟩ := DataW.trod_struct Try.underlying60 h
  rw [cellsOf60] at hl
  obtain ⟨v0, v1, v2, v3, rfl⟩ := list4 hl
  have h0 := hf 0 _ rfl
  have h1 := hf 1 _ rfl
  have hy0 : ys[0]? = some (ys[0]'(by rw [hyl]; decide)) := List.getElem?_eq_getElem _
  have hy1 : ys[1]? = some (ys[1]'(by rw [hyl]; decide)) := List.getElem?_eq_getElem _
  rw [hy0] at h0
  rw [hy1] at h1
  change DataW.trod enc Try.prog w base spare held n 5 (List.take (Try.prog.cellsOf 5) (List.drop 0 [v0, v1, v2, v3])) = some _ at h0
  change DataW.trod enc Try.prog w base spare held n 58 (List.take (Try.prog.cellsOf 58) (List.drop 1 [v0, v1, v2, v3])) = some _ at h1
  rw [cellsOf5] at h0
  rw [cellsOf58] at h1
  have h0' : DataW.trod enc Try.prog w base spare held n 5 [v0] = some _ := h0
  have h1' : DataW.trod enc Try.prog w base spare held n 58 [v1, v2, v3] = some _ := h1
  obtain ⟨zs, m, _, _, _, hzl, hg⟩ := DataW.trod_struct Try.underlying58 h1'
  have hz : ∀ i, (hi : i < 3) → zs[i]? = some (zs[i]'(by rw [hzl]; exact hi)) := fun i hi => List.getElem?_eq_getElem _
  have g0 := hg 0 _ rfl
  have g1 := hg 1 _ rfl
  have g2 := hg 2 _ rfl
  rw [hz 0 (by omega)] at g0
  rw [hz 1 (by omega)] at g1
  rw [hz 2 (by omega)] at g2
  change DataW.trod enc Try.prog w base spare held m 3 (List.take (Try.prog.cellsOf 3) (List.drop 0 [v1, v2, v3])) = some _ at g0
  change DataW.trod enc Try.prog w base spare held m 3 (List.take (Try.prog.cellsOf 3) (List.drop 1 [v1, v2, v3])) = some _ at g1
  change DataW.trod enc Try.prog w base spare held m 3 (List.take (Try.prog.cellsOf 3) (List.drop 2 [v1, v2, v3])) = some _ at g2
  rw [cellsOf3] at g0 g1 g2
  have g0' : DataW.trod enc Try.prog w base spare held m 3 [v1] = some _ := g0
  have g1' : DataW.trod enc Try.prog w base spare held m 3 [v2] = some _ := g1
  have g2' : DataW.trod enc Try.prog w base spare held m 3 [v3] = some _ := g2
  obtain ⟨q0, e0, _, b0⟩ := DataW.trod_int Try.underlying5 h0'
  obtain ⟨q1, e1, _, b1⟩ := DataW.trod_int Try.underlying3 g0'
  obtain ⟨q2, e2, _, b2⟩ := DataW.trod_int Try.underlying3 g1'
  obtain ⟨q3, e3, _, b3⟩ := DataW.trod_int Try.underlying3 g2'
  injection e0 with e0
  injection e1 with e1
  injection e2 with e2
  injection e3 with e3
  subst e0 e1 e2 e3
  have c0 := wf_u8 b0
  have c1 := bounds_i64 b1
  have c2 := bounds_i64 b2
  have c3 := bounds_i64 b3
  refine ⟨⟨q0.toNat, q1, q2, q3⟩, ?_, by show q0.toNat < 256; omega, by show _ ∧ _; omega, by show _ ∧ _; omega, by show _ ∧ _; omega⟩
  show [Value.int .u8 q0, _, _, _] = [Value.int .u8 ((q0.toNat : Nat) : Int), _, _, _]
  rw [Int.toNat_of_nonneg c0.1]
theorem facts_of_arg {a : Option Addr} {len cap : Nat} {d : DataW H} {p : List MemPlace} (h : DataW.Trod enc Try.prog w base spare held 52 (.slice a len cap) d p) :
    ∃ F, FaRow w a len cap F := by
  obtain ⟨fuel, hf⟩ := h
  rcases open_slice Try.underlying52 hf with ⟨h0, _⟩ | ⟨x, l, c, m, n, D, Pl, hcs, _, hl, hm, hmm, _, hi⟩
  · simp [Value.cells] at h0
    obtain ⟨rfl, rfl, rfl⟩ := h0
    exact ⟨fun _ => ⟨0, 0, 0, 0⟩, Nat.le_refl _, Nat.zero_le _, fun h => by omega⟩
  · simp [Value.cells] at hcs
    obtain ⟨rfl, rfl, rfl⟩ := hcs
    rcases Nat.eq_zero_or_pos len with h0 | h0
    · exact ⟨fun _ => ⟨0, 0, 0, 0⟩, hl, hm, fun h => by omega⟩
    · have hall : ∀ i, i < len → ∃ X : Fact, w.cell? (x.add (i * 4)) = some (.int .u8 (X.kd : Int)) ∧ w.cell? (x.add (i * 4 + 1)) = some (.int .i64 X.x) ∧ w.cell? (x.add (i * 4 + 2)) = some (.int .i64 X.y) ∧ w.cell? (x.add (i * 4 + 3)) = some (.int .i64 X.z) ∧ X.kd < 256 ∧ (-9223372036854775808 ≤ X.x ∧ X.x ≤ 9223372036854775807) ∧ (-9223372036854775808 ≤ X.y ∧ X.y ≤ 9223372036854775807) ∧ (-9223372036854775808 ≤ X.z ∧ X.z ≤ 9223372036854775807) := fun i hil => by
        obtain ⟨cs', hc, ht'⟩ := hi i (by rw [hmm]; split <;> omega)
        rw [cellsOf60] at hc
        obtain ⟨X, hX, hk⟩ := fact_of_trod ht'
        obtain ⟨_, hcl, hat⟩ := World.cells?_some hc
        subst hX
        refine ⟨X, ?_, ?_, ?_, ?_, hk⟩
        · rw [show i * 4 = i * 4 + 0 from rfl, ← Go.Deep.add_add, hat 0 (by omega)]; rfl
        · rw [← Go.Deep.add_add, hat 1 (by omega)]; rfl
        · rw [← Go.Deep.add_add, hat 2 (by omega)]; rfl
        · rw [← Go.Deep.add_add, hat 3 (by omega)]; rfl
      obtain ⟨X0, hc0, _⟩ := hall 0 h0
      have hspot := World.cell?_spot hc0
      have hlt := lt_of_cell hc0
      obtain ⟨b, off, spot⟩ := x
      have hs : spot = none := by simpa [Addr.add] using hspot
      subst hs
      rw [addr_add] at hlt
      have hex : ∀ i, ∃ X : Fact, i < len → FactAt w b (off + i * 4) X := fun i => by
        by_cases hil : i < len
        · obtain ⟨X, u0, u1, u2, u3, k0, k1, k2, k3⟩ := hall i hil
          rw [addr_add] at u0 u1 u2 u3
          exact ⟨X, fun _ => ⟨u0, u1, u2, u3, k0, k1, k2, k3⟩⟩
        · exact ⟨⟨0, 0, 0, 0⟩, fun q => absurd q hil⟩
      exact ⟨fun i => Classical.choose (hex i), hl, hm, fun _ => ⟨b, off, rfl, hlt, fun i hil => Classical.choose_spec (hex i) hil⟩⟩
end
end Go.Proofs.Ythfdblpodnodcaa
