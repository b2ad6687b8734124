/-
  An argument that is a row of instructions, opened to its cells.
-/
import Derived.Test.YtackompihengfaaFg
import Derived.Deep.Slices
import Derived.Deep.Fields
import Derived.ChangeSame
import Derived.ChangeSlices
import Derived.SizedLaws
import Derived.ProofKit
import Derived.OpenShut
namespace Go.Proofs.Ytackompihengfaa
open Go.RowKit Go.ChangeShapes Go.WideShapes Go.Deep
set_option linter.unusedVariables false
set_option linter.unusedSimpArgs false
theorem lt_of_cell {w : World} {p : Addr} {v : Value} (h : w.cell? p = some v) : p.block < w.heap.size := by
  rcases Nat.lt_or_ge p.block w.heap.size with h0 | h0
  · exact h0
  · unfold World.cell? at h
    rw [Array.getElem?_eq_none h0] at h
    simp at h
theorem weightsAll_mem {H : Type} {P : Program} {e : TypeId} : ∀ {l : List (DataW H)} {d : DataW H}, d ∈ l → ∀ n ∈ d.weights P e, n ∈ DataW.weightsAll P e l
  | d' :: r, d, hd, n, hn => by
    simp only [DataW.weightsAll, List.mem_append]
    rcases List.mem_cons.1 hd with rfl | h
    · exact Or.inl hn
    · exact Or.inr (weightsAll_mem h n hn)
section
variable {H : Type} {enc : TypeId × Value → H} {P : Program} {w : World} {base : Nat} {spare : Nat → Bool} {held : Bool}
/-- field j of element i stands in the cell i * (the number of fields) + j, and reads by its own type; and what it weighs -/
theorem struct_row {t e : TypeId} {fs : Array Field} {fuel : Nat} {cs : List Value} {x : DataW H × List MemPlace} (ht : P.underlying t = some (.slice e)) (he : P.underlying e = some (.struct fs)) (hone : oneCellFields P fs = true) (hC : P.cellsOf e = fs.size)
    (h : DataW.trod enc P w base spare held fuel t cs = some x) (hw : ∀ n ∈ x.1.weights P t, n ≤ reachBytes) :
    cs = [.slice none 0 0] ∨ ∃ (a : Addr) (len cap : Nat), cs = [.slice (some a) len cap] ∧ len ≤ cap ∧ cap ≤ maxLen ∧ len * P.bytesOf e ≤ reachBytes ∧
      ∀ i, i < len → ∀ (j : Nat) (f : Field), fs[j]? = some f → ∃ (v : Value) (n : Nat) (y : DataW H × List MemPlace), w.cell? (a.add (i * fs.size + j)) = some v ∧ DataW.trod enc P w base spare held n f.type [v] = some y ∧ ∀ n ∈ y.1.weights P f.type, n ≤ reachBytes := by
  rcases open_slice ht h with ⟨h0, _⟩ | ⟨a, len, cap, m, n, D, Pl, hcs, _, hl, hm, hmm, hx, hi⟩
  · exact .inl h0
  · subst hx
    have hwt : len * P.bytesOf e ≤ reachBytes := by
      have h1 := hw ((((List.range len).map D).length + ((List.range (m - len)).map fun j => D (len + j)).length) * P.bytesOf e) (by simp [DataW.weights, ht])
      refine Nat.le_trans (Nat.mul_le_mul_right _ ?_) h1
      simp
    refine .inr ⟨a, len, cap, hcs, hl, hm, hwt, fun i hil j f hj => ?_⟩
    obtain ⟨cs', hc, ht'⟩ := hi i (by rw [hmm]; split <;> omega)
    rw [hC] at hc
    obtain ⟨ys, n', _, hD, _, hyl, hf⟩ := DataW.trod_struct he ht'
    obtain ⟨_, hcl, hat⟩ := World.cells?_some hc
    obtain ⟨ho, hk⟩ := hone_of hone j f hj
    have hjl : j < fs.size := (Array.getElem?_eq_some_iff.1 hj).1
    have hjc : j < cs'.length := by omega
    have hjy : j < ys.length := by omega
    have h1 := hf j f hj
    rw [ho, hk, List.drop_eq_getElem_cons hjc] at h1
    refine ⟨cs'[j], n', ys[j], ?_, ?_, fun q hq => hw q ?_⟩
    · rw [← Go.Deep.add_add, hat j hjl, List.getElem?_eq_getElem hjc]
    · rw [← List.getElem?_eq_getElem hjy, ← h1]
      rfl
    · have hDi : D i = .agg (ys.map (·.1)) := congrArg Prod.fst hD
      have hmem : D i ∈ (List.range len).map D := List.mem_map.2 ⟨i, List.mem_range.2 hil, rfl⟩
      simp only [DataW.weights, ht, List.mem_cons, List.mem_append]
      refine Or.inr (Or.inl (weightsAll_mem hmem q ?_))
      rw [hDi]
      simp only [DataW.weights, he]
      refine DataW.weights_mem_each (j := j) (t := f.type) (d := ys[j].1) ?_ ?_ q hq
      · rw [List.getElem?_map, Array.getElem?_toList, hj]; rfl
      · rw [List.getElem?_map, List.getElem?_eq_getElem hjy]; rfl
end
theorem words_of_trod {H : Type} {enc : TypeId × Value → H} {w : World} {sp : Nat → Bool} {held : Bool} {base fuel : Nat} {v : Value} {y : DataW H × List MemPlace} (h : DataW.trod enc Try.prog w base sp held fuel 102 [v] = some y) (hw : ∀ n ∈ y.1.weights Try.prog 102, n ≤ reachBytes) :
    ∃ (B : Option Addr) (cap : Nat) (l : List Int), v = .slice B l.length cap ∧ Sl w B l.length cap l ∧ l.length ≤ 140737488355328 := by
  rcases open_ints Try.underlying102 Try.underlying77 (by kernel_rfl) h with ⟨hcs, _⟩ | ⟨x, l, c, zs, hcs, _, hl, hm, hz, hx, hcell, hwz⟩
  · injection hcs with hcs
    exact ⟨none, 0, [], hcs, ⟨rfl, Nat.le_refl _, Nat.zero_le _, fun q => absurd q (Nat.lt_irrefl _)⟩, by simp⟩
  · injection hcs with hcs
    have hlz : l ≤ zs.length := by rw [hz]; split <;> omega
    have hln : (zs.take l).length = l := by rw [List.length_take]; omega
    have hwt : l ≤ 140737488355328 := by
      subst hx
      have h1 := hw (((lits .u64 (zs.take l) : List (DataW H)).length + (lits .u64 (zs.drop l) : List (DataW H)).length) * Try.prog.bytesOf 77) (by simp [DataW.weights, Try.underlying102])
      have e8 : Try.prog.bytesOf 77 = 8 := by kernel_rfl
      have e9 : (lits .u64 (zs.take l) : List (DataW H)).length = l := by unfold lits; rw [List.length_map, hln]
      rw [e8, e9] at h1
      have e10 : reachBytes = 140737488351232 := rfl
      omega
    refine ⟨some x, c, zs.take l, by rw [hln]; exact hcs, ?_, by rw [hln]; exact hwt⟩
    rw [hln]
    refine ⟨hln, hl, hm, fun h0 => ?_⟩
    have hc0 := hcell 0 (by omega)
    have hspot := World.cell?_spot hc0
    have hlt := lt_of_cell hc0
    obtain ⟨b, off, spot⟩ := x
    have hs : spot = none := by simpa [Addr.add] using hspot
    subst hs
    have hadd : ∀ i, (⟨b, off, none⟩ : Addr).add i = ⟨b, off + i, none⟩ := fun i => by cases i <;> simp [Addr.add]
    rw [hadd] at hlt
    refine ⟨b, off, rfl, hlt, fun i hi => ?_⟩
    have := hcell i (by omega)
    rw [hadd] at this
    rw [this]
    unfold U64
    rw [List.getD_eq_getElem?_getD, List.getD_eq_getElem?_getD, List.getElem?_take_of_lt hi]
theorem irow_of_arg {H : Type} {enc : TypeId × Value → H} {w : World} {sp : Nat → Bool} {held : Bool} {base : Nat} {a : Option Addr} {len cap : Nat} {d : DataW H} {p : List MemPlace} (h : DataW.Trod enc Try.prog w base sp held 59 (.slice a len cap) d p) (hw : ∀ n ∈ d.weights Try.prog 59, n ≤ reachBytes) :
    ∃ X, IRow w a len cap X ∧ IBd len X := by
  obtain ⟨fuel, hf⟩ := h
  rcases struct_row Try.underlying59 Try.underlying111 (by kernel_rfl) (by kernel_rfl) hf hw with hcs | ⟨x, l, c, hcs, hl, hm, hwt, hi⟩
  · simp [Value.cells] at hcs
    obtain ⟨rfl, rfl, rfl⟩ := hcs
    exact ⟨fun _ => ⟨0, 0, 0, 0, []⟩, ⟨Nat.le_refl _, Nat.zero_le _, fun h => by omega⟩, by decide, fun i hi => by omega⟩
  · simp [Value.cells] at hcs
    obtain ⟨rfl, rfl, rfl⟩ := hcs
    have e8 : Try.prog.bytesOf 111 = 56 := by kernel_rfl
    have e10 : reachBytes = 140737488351232 := rfl
    rw [e8, e10] at hwt
    rcases Nat.eq_zero_or_pos len with h0 | h0
    · exact ⟨fun _ => ⟨0, 0, 0, 0, []⟩, ⟨hl, hm, fun h => by omega⟩, by omega, fun i hi => by omega⟩
    · obtain ⟨v0, _, _, hc0, _⟩ := hi 0 h0 0 _ rfl
      have hspot := World.cell?_spot hc0
      have hlt := lt_of_cell hc0
      obtain ⟨b, off, spot⟩ := x
      have hs : spot = none := by simpa [Addr.add] using hspot
      subst hs
      have hadd : ∀ i, (⟨b, off, none⟩ : Addr).add i = ⟨b, off + i, none⟩ := fun i => by cases i <;> simp [Addr.add]
      rw [hadd] at hlt
      have hex : ∀ i, ∃ x : In, i < len → ItemAt w b (off + i * 5) x ∧ x.l.length ≤ 140737488355328 := fun i => by
        by_cases hil : i < len
        · obtain ⟨u0, n0, y0, hu0, t0, _⟩ := hi i hil 0 _ rfl
          obtain ⟨u1, n1, y1, hu1, t1, _⟩ := hi i hil 1 _ rfl
          obtain ⟨u2, n2, y2, hu2, t2, _⟩ := hi i hil 2 _ rfl
          obtain ⟨u3, n3, y3, hu3, t3, _⟩ := hi i hil 3 _ rfl
          obtain ⟨u4, n4, y4, hu4, t4, z4⟩ := hi i hil 4 _ rfl
          obtain ⟨q0, e0, _, b0⟩ := DataW.trod_int Try.underlying3 t0
          obtain ⟨q1, e1, _, b1⟩ := DataW.trod_int Try.underlying77 t1
          obtain ⟨q2, e2, _, b2⟩ := DataW.trod_int Try.underlying77 t2
          obtain ⟨q3, e3, _, b3⟩ := DataW.trod_int Try.underlying3 t3
          obtain ⟨B, cp, bl, e4, b4, l4⟩ := words_of_trod t4 z4
          injection e0 with e0
          injection e1 with e1
          injection e2 with e2
          injection e3 with e3
          subst e0 e1 e2 e3 e4
          rw [hadd] at hu0 hu1 hu2 hu3 hu4
          exact ⟨⟨q0, q1, q2, q3, bl⟩, fun _ => ⟨⟨B, cp, hu0, hu1, hu2, hu3, hu4, b4⟩, l4⟩⟩
        · exact ⟨⟨0, 0, 0, 0, []⟩, fun q => absurd q hil⟩
      exact ⟨fun i => Classical.choose (hex i), ⟨hl, hm, fun _ => ⟨b, off, rfl, hlt, fun i hil => (Classical.choose_spec (hex i) hil).1⟩⟩, by omega, fun i hil => (Classical.choose_spec (hex i) hil).2⟩
theorem reach_le : reachBytes ≤ 140737488355328 := by decide
/-- bytes, opened -/
theorem bytes_of_trod {H : Type} {enc : TypeId × Value → H} {w : World} {sp : Nat → Bool} {held : Bool} {base fuel : Nat} {v : Value} {y : DataW H × List MemPlace} (h : DataW.trod enc Try.prog w base sp held fuel 46 [v] = some y) (hw : ∀ n ∈ y.1.weights Try.prog 46, n ≤ reachBytes) :
    ∃ (B : Option Addr) (cap : Nat) (l : List Nat), v = .slice B l.length cap ∧ Byt w B l.length cap l ∧ l.length ≤ 140737488355328 := by
  rcases open_ints Try.underlying46 Try.underlying5 (by kernel_rfl) h with ⟨hcs, _⟩ | ⟨x, l, c, zs, hcs, _, hl, hm, hz, hx, hcell, hwz⟩
  · injection hcs with hcs
    exact ⟨none, 0, [], hcs, ⟨rfl, by simp, Nat.le_refl _, Nat.zero_le _, fun q => absurd q (Nat.lt_irrefl _)⟩, by simp⟩
  · injection hcs with hcs
    have hlz : l ≤ zs.length := by rw [hz]; split <;> omega
    have hln : ((zs.take l).map Int.toNat).length = l := by rw [List.length_map, List.length_take]; omega
    have hwt : l ≤ 140737488355328 := by
      subst hx
      have h1 := hw (((lits .u8 (zs.take l) : List (DataW H)).length + (lits .u8 (zs.drop l) : List (DataW H)).length) * Try.prog.bytesOf 5) (by simp [DataW.weights, Try.underlying46])
      have e8 : Try.prog.bytesOf 5 = 1 := by kernel_rfl
      have e9 : (lits .u8 (zs.take l) : List (DataW H)).length = l := by unfold lits; rw [List.length_map, List.length_take]; omega
      rw [e8, e9] at h1
      have := reach_le
      omega
    refine ⟨some x, c, (zs.take l).map Int.toNat, by rw [hln]; exact hcs, ?_, by rw [hln]; exact hwt⟩
    rw [hln]
    have hwf : ∀ i, i < l → 0 ≤ zs.getD i 0 ∧ zs.getD i 0 ≤ 255 := fun i hi => by
      rw [List.getD_eq_getElem?_getD, List.getElem?_eq_getElem (by omega)]
      exact bounds_u8 (hwz _ (List.getElem_mem _))
    refine ⟨hln, fun z hz' => ?_, hl, hm, fun h0 => ?_⟩
    · rw [List.mem_map] at hz'
      obtain ⟨u, hu, rfl⟩ := hz'
      have := bounds_u8 (hwz u (List.mem_of_mem_take hu))
      omega
    · have hc0 := hcell 0 (by omega)
      have hspot := World.cell?_spot hc0
      have hlt := lt_of_cell hc0
      obtain ⟨b, off, spot⟩ := x
      have hs : spot = none := by simpa [Addr.add] using hspot
      subst hs
      have hadd : ∀ i, (⟨b, off, none⟩ : Addr).add i = ⟨b, off + i, none⟩ := fun i => by cases i <;> simp [Addr.add]
      rw [hadd] at hlt
      refine ⟨b, off, rfl, hlt, fun j hj => ?_⟩
      have := hcell j (by omega)
      rw [hadd] at this
      rw [this]
      have h1 := hwf j hj
      have h2 : ((zs.take l).map Int.toNat).getD j 0 = (zs.getD j 0).toNat := by
        rw [List.getD_eq_getElem?_getD, List.getElem?_map, List.getElem?_take_of_lt hj, List.getElem?_eq_getElem (by omega), List.getD_eq_getElem?_getD, List.getElem?_eq_getElem (by omega)]
        rfl
      rw [h2]
      congr 2
      omega
/-- ints, opened -/
theorem ints_of_trod {H : Type} {enc : TypeId × Value → H} {w : World} {sp : Nat → Bool} {held : Bool} {base fuel : Nat} {v : Value} {y : DataW H × List MemPlace} (h : DataW.trod enc Try.prog w base sp held fuel 80 [v] = some y) (hw : ∀ n ∈ y.1.weights Try.prog 80, n ≤ reachBytes) :
    ∃ (B : Option Addr) (cap : Nat) (l : List Int), v = .slice B l.length cap ∧ Si w B l.length cap l ∧ l.length ≤ 140737488355328 := by
  rcases open_ints Try.underlying80 Try.underlying3 (by kernel_rfl) h with ⟨hcs, _⟩ | ⟨x, l, c, zs, hcs, _, hl, hm, hz, hx, hcell, hwz⟩
  · injection hcs with hcs
    exact ⟨none, 0, [], hcs, ⟨rfl, Nat.le_refl _, Nat.zero_le _, fun q => absurd q (Nat.lt_irrefl _)⟩, by simp⟩
  · injection hcs with hcs
    have hlz : l ≤ zs.length := by rw [hz]; split <;> omega
    have hln : (zs.take l).length = l := by rw [List.length_take]; omega
    have hwt : l ≤ 140737488355328 := by
      subst hx
      have h1 := hw (((lits .i64 (zs.take l) : List (DataW H)).length + (lits .i64 (zs.drop l) : List (DataW H)).length) * Try.prog.bytesOf 3) (by simp [DataW.weights, Try.underlying80])
      have e8 : Try.prog.bytesOf 3 = 8 := by kernel_rfl
      have e9 : (lits .i64 (zs.take l) : List (DataW H)).length = l := by unfold lits; rw [List.length_map, hln]
      rw [e8, e9] at h1
      have := reach_le
      omega
    refine ⟨some x, c, zs.take l, by rw [hln]; exact hcs, ?_, by rw [hln]; exact hwt⟩
    rw [hln]
    refine ⟨hln, hl, hm, fun h0 => ?_⟩
    have hc0 := hcell 0 (by omega)
    have hspot := World.cell?_spot hc0
    have hlt := lt_of_cell hc0
    obtain ⟨b, off, spot⟩ := x
    have hs : spot = none := by simpa [Addr.add] using hspot
    subst hs
    have hadd : ∀ i, (⟨b, off, none⟩ : Addr).add i = ⟨b, off + i, none⟩ := fun i => by cases i <;> simp [Addr.add]
    rw [hadd] at hlt
    refine ⟨b, off, rfl, hlt, fun i hi => ?_⟩
    have := hcell i (by omega)
    rw [hadd] at this
    rw [this, List.getD_eq_getElem?_getD, List.getD_eq_getElem?_getD, List.getElem?_take_of_lt hi]
section
variable {H : Type} {enc : TypeId × Value → H} {w : World} {base : Nat} {sp : Nat → Bool} {held : Bool}
/-- what stands at an element of a row of structs whose fields are a cell each -/
def Flds (enc : TypeId × Value → H) (w : World) (base : Nat) (sp : Nat → Bool) (held : Bool) (fs : Array Field) (b o : Nat) : Prop :=
  ∀ (j : Nat) (f : Field), fs[j]? = some f → ∃ (v : Value) (n : Nat) (y : DataW H × List MemPlace), w.cell? ⟨b, o + j, none⟩ = some v ∧ DataW.trod enc Try.prog w base sp held n f.type [v] = some y ∧ ∀ n ∈ y.1.weights Try.prog f.type, n ≤ reachBytes
theorem row_of {α : Type} [Inhabited α] (k : Nat) (It : World → Nat → Nat → α → Prop) (Lim : α → Prop) {T E : TypeId} {fs : Array Field} {f0 : Field} {fuel : Nat} {v : Value} {x : DataW H × List MemPlace}
    (hT : Try.prog.underlying T = some (.slice E)) (hE : Try.prog.underlying E = some (.struct fs)) (hone : oneCellFields Try.prog fs = true) (hC : Try.prog.cellsOf E = fs.size) (hk : fs.size = k) (h0 : fs[0]? = some f0) (hby : 0 < Try.prog.bytesOf E)
    (each : ∀ b o, Flds enc w base sp held fs b o → ∃ y : α, It w b o y ∧ Lim y)
    (h : DataW.trod enc Try.prog w base sp held fuel T [v] = some x) (hw : ∀ n ∈ x.1.weights Try.prog T, n ≤ reachBytes) :
    ∃ A len cap X, v = .slice A len cap ∧ Row k It w A len cap X ∧ len ≤ 140737488355328 ∧ ∀ i, i < len → Lim (X i) := by
  rcases struct_row hT hE hone hC h hw with hcs | ⟨a, l, c, hcs, hl, hm, hwt, hi⟩
  · injection hcs with hcs
    exact ⟨none, 0, 0, fun _ => default, hcs, ⟨Nat.le_refl _, Nat.zero_le _, fun h => by omega⟩, by decide, fun i hi => by omega⟩
  · injection hcs with hcs
    have hlen : l ≤ 140737488355328 := by
      have h1 := Nat.le_mul_of_pos_right l hby
      have := reach_le
      omega
    rcases Nat.eq_zero_or_pos l with hz | hz
    · exact ⟨some a, l, c, fun _ => default, hcs, ⟨hl, hm, fun h => by omega⟩, hlen, fun i hi => by omega⟩
    · obtain ⟨v0, _, _, hc0, _⟩ := hi 0 hz 0 f0 h0
      have hspot := World.cell?_spot hc0
      have hlt := lt_of_cell hc0
      obtain ⟨b, off, spot⟩ := a
      have hs : spot = none := by simpa [Addr.add] using hspot
      subst hs
      have hadd : ∀ i, (⟨b, off, none⟩ : Addr).add i = ⟨b, off + i, none⟩ := fun i => by cases i <;> simp [Addr.add]
      rw [hadd] at hlt
      have hex : ∀ i, ∃ y : α, i < l → It w b (off + i * k) y ∧ Lim y := fun i => by
        by_cases hil : i < l
        · obtain ⟨y, hy⟩ := each b (off + i * k) (fun j f hj => by
            obtain ⟨v, n, y, hc, ht, hwy⟩ := hi i hil j f hj
            rw [hadd, hk, ← Nat.add_assoc] at hc
            exact ⟨v, n, y, hc, ht, hwy⟩)
          exact ⟨y, fun _ => hy⟩
        · exact ⟨default, fun q => absurd q hil⟩
      exact ⟨some ⟨b, off, none⟩, l, c, fun i => Classical.choose (hex i), hcs, ⟨hl, hm, fun _ => ⟨b, off, rfl, hlt, fun i hil => (Classical.choose_spec (hex i) hil).1⟩⟩, hlen, fun i hil => (Classical.choose_spec (hex i) hil).2⟩
end
end Go.Proofs.Ytackompihengfaa
