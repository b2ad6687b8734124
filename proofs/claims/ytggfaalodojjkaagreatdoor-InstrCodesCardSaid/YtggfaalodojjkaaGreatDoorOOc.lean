/-
  op.rows: what it answers.
-/
import Derived.Test.YtggfaalodojjkaaGreatDoorOOb
import Derived.Deep.WholeRow
import Derived.WalkKit
import Derived.ProofKit
namespace Go.Proofs.YtggfaalodojjkaaGreatDoor
open Go.RowKit
set_option linter.unusedVariables false
set_option linter.unusedSimpArgs false
theorem Rows_ok (w : World) : Calls Tryz.prog 77 #[] w fun e w' => e = .returned (.agg CR) ∧ w.alloc (.cells CR 142) = w' := by
  have Z := (zero_of_info zr97).1
  have hi97 := (zero_of_info zr97).2
  have hu97 := Tryz.underlying142
  obtain ⟨o1, o2, hb, rfl, hc, o, hd, hg, hdst, hop⟩ := body57
  have hf := Tryz.func77
  have hn := nt57
  have hrs := rs57
  have hsC := CR_size
  have hoC := one_CR
  have hsZ := ZR_size
  generalize Tryz.f77 = fn at hb hf hn hrs
  generalize CR = C at hc hsC hoC ⊢
  generalize ZR = Zr at Z hsZ
  generalize Tryz.prog = P at *
  refine calls_of_wp hf hb ?_
  rw [hn]
  refine wp_seq (wp_region_list ?_)
  refine wpList_plain rfl (fun K hK => ?_)
  have hr : ∀ f : Operand → Value, (execOp f { dst := some 0, op := Op.alloc 142, type := 0, pos := "row.go:48", after := #[], guard := none }).run P w = .ok (.value (.pointer (some ⟨w.heap.size, 0, none⟩))) (w.alloc (.cells Zr 142)) := fun f => by
    have h1 : (Instr.alloc 142 true (.tuple #[])).run P w = .ok (.pointer (some ⟨w.heap.size, 0, none⟩)) (w.alloc (.cells Zr 142)) := by
      simp [Instr.alloc, Z, newVar, newRow, Value.cells, Result.andThen, go_sem]
    simp [execOp, h1, Result.andThen]
  unfold Oper.wp
  rw [hr]
  refine hK _ _ (wpList_nil ?_)
  clear hK K hr
  refine wp_seq (wp_region_list ?_)
  have hz : ({ tmps := #[] ++ Array.replicate (92 - (#[] : Array Value).size) undef, defers := [] } : Act).put (some 0) (.pointer (some ⟨w.heap.size, 0, none⟩)) = { tmps := #[.pointer (some ⟨w.heap.size, 0, none⟩)] ++ Array.replicate 91 undef, defers := [] } := by kernel_rfl
  rw [hz]
  have hch := hc (w.alloc (.cells Zr 142)) (.pointer (some ⟨w.heap.size, 0, none⟩))
  obtain ⟨⟨b, w2⟩, hq, hv⟩ := Option.map_eq_some_iff.1 hch
  simp only [Prod.mk.injEq] at hv
  obtain ⟨h91, h0, hsz, hdf, rfl⟩ := hv
  rw [← List.take_append_drop 91 o2.toList]
  refine wpList_chain _ _ _ _ _ hq ?_
  rw [hd]
  refine wpList_plain hg (fun K hK => ?_)
  unfold Oper.wp
  have hst := run_storeAt_new (P := P) w 142 Zr C (by rw [hi97, hsC]) (by rw [hsC, hsZ]) hoC
  have hr2 : (execOp b.eval o).run P (w.alloc (.cells Zr 142)) = .ok .skip (w.alloc (.cells C 142)) := by
    simp [execOp, hop, h91, h0, hst, Result.andThen]
  rw [hr2]
  refine hK _ _ (wpList_nil ?_)
  clear hK K
  refine wp_ret ?_
  have hre := results_cell_row (P := P) hrs b.tmps (w.alloc (.cells C 142)) w.heap.size 142 C (0, 0) _ (by simpa [Act.eval] using h0) (heap_alloc_new w _) hu97 rfl (by rw [hi97, hsC])
  exact bodyPost_ret (v := .agg C) (by simpa [Act.put, hdst] using hre) (by rw [hdst]; exact hdf) ⟨rfl, rfl⟩
end Go.Proofs.YtggfaalodojjkaaGreatDoor
