/-
  op's tables: what the conditions give a walk.
-/
import Derived.Test.YtalpkdnnclghaaaDoorV
namespace Go.Proofs.YtalpkdnnclghaaaDoor
open Go.ChangeShapes Go.WideShapes Go.ChangeAt Go.RowKit
set_option linter.unusedVariables false
theorem tab_rows {P : Program} {w : World} {base : Nat} {sp : Nat → Bool} {held : Bool} {enc : TypeId × Value → Unit} {fuel : Nat} {t e : TypeId} {n m : Nat} {cs : List Value} {rows : List (List Int)} {p : List MemPlace}
    (ht : P.underlying t = some (.array n e)) (hc : P.cellsOf e = m) (hm : 0 < m) (hr : rows.length = n) (hl : ∀ r ∈ rows, r.length = m)
    (hct : P.cellsOf t = n * m) (he : ∀ (fuel' : Nat) (cs' : List Value) (zs : List Int) (p' : List MemPlace), DataW.trod enc P w base sp held fuel' e cs' = some (.agg (zs.map fun z => .lit (.int .i64 z)), p') → cs' = zs.map fun z => Value.int .i64 z)
    (h : DataW.trod enc P w base sp held fuel t cs = some (.agg (rows.map fun r => .agg (r.map fun z => .lit (.int .i64 z))), p)) : cs.length = n * m ∧ ∀ i r, rows[i]? = some r → (cs.drop (i * m)).take m = r.map fun z => Value.int .i64 z := by
  constructor
  · cases fuel with
    | zero => simp [DataW.trod] at h
    | succ fuel =>
      simp only [DataW.trod, ht, hc] at h
      split at h
      · rename_i hl'
        rw [← hct]; simpa using hl'
      · cases h
  · intro i r hir
    have hi : i < n := by rw [← hr]; exact (List.getElem?_eq_some_iff.1 hir).1
    obtain ⟨fuel', d, q, hd, hx⟩ := Lib.array_elem ht h i hi
    rw [List.getElem?_map, hir] at hd
    simp only [Option.map_some, Option.some.injEq] at hd
    subst hd
    rw [hc] at hx
    exact he _ _ _ _ hx
def numL : List (List Int) := [[69, 69, 2, 3, 32], [70, 79, 1, 0, 32], [80, 80, 2, 3, 64], [81, 90, 1, 0, 64], [103, 105, 2, 0, 32], [106, 120, 0, 0, 32], [121, 123, 2, 0, 64], [124, 138, 0, 0, 64]]
def forL : List (List Int) := [[28, 28], [37, 38], [42, 43], [56, 57], [67, 68], [91, 102], [139, 166], [168, 171], [174, 191], [208, 210], [253, 253], [64512, 64521], [64524, 64529]]
def widL : List Int := [4, 8, 0, 0, 1, 1, 2, 2, 1, 1, 2, 2, 4, 4, 4, 8, 0, 0, 1, 2, 1, 2, 4]
/-- a table lies in a block -/
def Tab (W : World) (g : Nat) (n m : Nat) (rows : List (List Int)) : Prop := ∃ cs t fr, W.heap[g]? = some (.cells cs t fr) ∧ cs.size = n * m ∧ ∀ i r, rows[i]? = some r → (cs.toList.drop (i * m)).take m = r.map fun z => Value.int .i64 z
theorem Tab.lt {W : World} {g n m : Nat} {rows : List (List Int)} (h : Tab W g n m rows) : g < W.heap.size := by
  obtain ⟨cs, t, fr, h, _⟩ := h
  rcases Nat.lt_or_ge g W.heap.size with h1 | h1
  · exact h1
  · rw [Array.getElem?_eq_none h1] at h; cases h
theorem Tab.below {W W' : World} {g n m B : Nat} {rows : List (List Int)} (h : Tab W g n m rows) (hb : Below B W W') (hg : g < B) : Tab W' g n m rows := by
  obtain ⟨cs, t, fr, h1, h2⟩ := h
  exact ⟨cs, t, fr, (hb.block g hg).trans h1, h2⟩
theorem heap_of_var {P : Program} {w : World} {name : String} {g : Nat} {cs : Array Value} (hg : P.globalNamed name = some g) (h : w.var? P name = some cs) : ∃ t fr, w.heap[g]? = some (.cells cs t fr) := by
  unfold World.var? at h
  rw [hg] at h
  simp only [Option.bind_some] at h
  split at h
  · rename_i c t fr he
    cases h
    exact ⟨t, fr, he⟩
  · cases h
theorem num_of {W : World} (h : Lib.VarReads Tryd.prog W "grommet/op.numeric" Rows.laid_grommet_op_numeric) : Tab W 2 8 5 numL := by
  obtain ⟨g, t, cs, fuel, p, hg, ht, hv, hd⟩ := h
  obtain rfl := Option.some.inj ((show Tryd.prog.globalNamed "grommet/op.numeric" = some 2 by kernel_rfl).symm.trans hg)
  obtain rfl := Option.some.inj ((show (Tryd.prog.globals[2]?).map (·.type) = some 107 by kernel_rfl).symm.trans ht)
  rw [show (Rows.laid_grommet_op_numeric : DataW Unit) = .agg (numL.map fun r => .agg (r.map fun z => .lit (.int .i64 z))) from rfl] at hd
  obtain ⟨h1, h2⟩ := tab_rows (n := 8) (m := 5) Tryd.underlying107 (by kernel_rfl) (by decide) rfl (by decide) (by kernel_rfl) (fun fuel' cs' zs p' hx => Lib.ints_of_struct Tryd.underlying106 (fun i f hf => by
    match i, hf with
    | 0, hf => simp at hf; subst hf; exact ⟨Tryd.underlying3, rfl, by kernel_rfl⟩
    | 1, hf => simp at hf; subst hf; exact ⟨Tryd.underlying3, rfl, by kernel_rfl⟩
    | 2, hf => simp at hf; subst hf; exact ⟨Tryd.underlying3, rfl, by kernel_rfl⟩
    | 3, hf => simp at hf; subst hf; exact ⟨Tryd.underlying3, rfl, by kernel_rfl⟩
    | 4, hf => simp at hf; subst hf; exact ⟨Tryd.underlying3, rfl, by kernel_rfl⟩
    | j + 5, hf => simp at hf) (by kernel_rfl) hx) hd
  obtain ⟨t2, fr, hh⟩ := heap_of_var hg hv
  exact ⟨cs, t2, fr, hh, by simpa using h1, h2⟩
theorem for_of {W : World} (h : Lib.VarReads Tryd.prog W "grommet/op.foreign" Rows.laid_grommet_op_foreign) : Tab W 1 13 2 forL := by
  obtain ⟨g, t, cs, fuel, p, hg, ht, hv, hd⟩ := h
  obtain rfl := Option.some.inj ((show Tryd.prog.globalNamed "grommet/op.foreign" = some 1 by kernel_rfl).symm.trans hg)
  obtain rfl := Option.some.inj ((show (Tryd.prog.globals[1]?).map (·.type) = some 102 by kernel_rfl).symm.trans ht)
  rw [show (Rows.laid_grommet_op_foreign : DataW Unit) = .agg (forL.map fun r => .agg (r.map fun z => .lit (.int .i64 z))) from rfl] at hd
  obtain ⟨h1, h2⟩ := tab_rows (n := 13) (m := 2) Tryd.underlying102 (by kernel_rfl) (by decide) rfl (by decide) (by kernel_rfl) (fun fuel' cs' zs p' hx => Lib.cells_of_tab Tryd.underlying101 Tryd.underlying3 (by kernel_rfl) (by kernel_rfl) hx) hd
  obtain ⟨t2, fr, hh⟩ := heap_of_var hg hv
  exact ⟨cs, t2, fr, hh, by simpa using h1, h2⟩
theorem wid_of {W : World} (h : Lib.VarReads Tryd.prog W "grommet/op.widths" Rows.laid_grommet_op_widths) : ∀ i, i < 23 → W.cell? ⟨0, i, none⟩ = some (.int .i64 (widL.getD i 0)) := by
  obtain ⟨g, t, cs, fuel, p, hg, ht, hv, hd⟩ := h
  obtain rfl := Option.some.inj ((show Tryd.prog.globalNamed "grommet/op.widths" = some 0 by kernel_rfl).symm.trans hg)
  obtain rfl := Option.some.inj ((show (Tryd.prog.globals[0]?).map (·.type) = some 100 by kernel_rfl).symm.trans ht)
  rw [show (Rows.laid_grommet_op_widths : DataW Unit) = Lib.tabData .i64 widL from rfl] at hd
  have hc := Lib.cells_of_tab Tryd.underlying100 Tryd.underlying3 (by kernel_rfl) (by kernel_rfl) hd
  intro i hi
  have hcell := World.var?_cell hg hv i
  have e : cs[i]? = some (.int .i64 (widL.getD i 0)) := by
    have hl : i < widL.length := hi
    rw [← Array.getElem?_toList, hc, List.getElem?_map, List.getElem?_eq_getElem hl, List.getD_eq_getElem?_getD, List.getElem?_eq_getElem hl]; rfl
  rw [← e]
  exact hcell
theorem num_N {W : World} (h : laidMetH Tryd.prog laidN W) : Tab W 2 8 5 numL := by
  rw [MakeChecks.laidMetH_plain _ _ _ (by kernel_rfl)] at h
  exact num_of (Lib.laidMet.reads h (List.mem_cons_of_mem _ (List.mem_cons_of_mem _ (List.mem_cons_self ..))))
theorem for_F {W : World} (h : laidMetH Tryd.prog laidF W) : Tab W 1 13 2 forL := by
  rw [MakeChecks.laidMetH_plain _ _ _ (by kernel_rfl)] at h
  exact for_of (Lib.laidMet.reads h (List.mem_cons_of_mem _ (List.mem_cons_of_mem _ (List.mem_cons_self ..))))
theorem wid_F {W : World} (h : laidMetH Tryd.prog laidF W) : ∀ i, i < 23 → W.cell? ⟨0, i, none⟩ = some (.int .i64 (widL.getD i 0)) := by
  rw [MakeChecks.laidMetH_plain _ _ _ (by kernel_rfl)] at h
  exact wid_of (Lib.laidMet.reads h (List.mem_cons_of_mem _ (List.mem_cons_of_mem _ (List.mem_cons_of_mem _ (List.mem_cons_self ..)))))
end Go.Proofs.YtalpkdnnclghaaaDoor
