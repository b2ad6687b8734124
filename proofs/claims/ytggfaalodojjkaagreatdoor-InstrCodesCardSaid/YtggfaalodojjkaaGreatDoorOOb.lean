/-
  op.rows.
-/
import Derived.Test.YtggfaalodojjkaaGreatDoorOOa
import Derived.Deep.WholeRow
import Derived.WalkKit
import Derived.ProofKit
namespace Go.Proofs.YtggfaalodojjkaaGreatDoor
open Go.RowKit
set_option linter.unusedVariables false
def ZR : Array Value := ((List.replicate 38 ([.int .i64 0, .string ⟨#[]⟩, .string ⟨#[]⟩, .int .i64 0, .int .u8 0, .int .u8 0, .int .u8 0, .int .u8 0, .int .u8 0, .int .u8 0] : List Value)).flatten).toArray
theorem ZR_size : ZR.size = 380 := by kernel_rfl
theorem zr97 : (Tryz.prog.info? 142).map (fun i => (i.zero, i.size)) = some (some (.agg ZR), 380) := by kernel_rfl
/-- operations that only reckon, one behind the other -/
def chain (P : Program) : List Oper → Act → World → Option (Act × World)
  | [], a, w => some (a, w)
  | o :: l, a, w => match o.guard with
    | some _ => none
    | none => match (execOp a.eval o).run P w with
      | .ok (.value v) w' => chain P l (a.put o.dst v) w'
      | _ => none
theorem wpList_chain {P : Program} {ops : Array Oper} {Q : Exit → Act → World → Prop} {rest : List Oper} : ∀ (l : List Oper) (a : Act) (w : World) (b : Act) (w' : World), chain P l a w = some (b, w') → wpList P ops Q rest b w' → wpList P ops Q (l ++ rest) a w
  | [], a, w, b, w', h, hK => by
    simp only [chain, Option.some.injEq, Prod.mk.injEq] at h
    obtain ⟨rfl, rfl⟩ := h
    exact hK
  | o :: l, a, w, b, w', h, hK => by
    unfold chain at h
    split at h
    · cases h
    · rename_i hg
      split at h
      · rename_i v w1 hr
        refine wpList_plain hg fun K hK' => ?_
        unfold Oper.wp
        rw [hr]
        exact hK' _ _ (wpList_chain l _ _ _ _ h hK)
      · cases h
theorem body57 : ∃ o1 o2 : Array Oper, Tryz.f77.body = some (.seq (.region 0 o1 false) (.seq (.region 1 o2 false) .ret)) ∧ o1 = #[{ dst := some 0, op := Op.alloc 142, type := 0, pos := "row.go:48", after := #[], guard := none }]
    ∧ (∀ (w0 : World) (p : Value), (chain Tryz.prog (o2.toList.take 91) { tmps := #[p] ++ Array.replicate 91 undef, defers := [] } w0).map (fun q => (q.1.eval (.tmp 91), q.1.eval (.tmp 0), q.1.tmps.size, q.1.defers, q.2)) = some (.agg CR, p, 92, [], w0))
    ∧ ∃ o, o2.toList.drop 91 = [o] ∧ o.guard = none ∧ o.dst = none ∧ o.op = .store 142 (.tmp 0) (.tmp 91) :=
  ⟨_, _, rfl, rfl, fun w0 p => by kernel_rfl, _, rfl, rfl, rfl, rfl⟩
theorem one_CR : CR.all (·.oneCell') = true := by kernel_rfl
theorem nt57 : Tryz.f77.ntmps = 92 := rfl
theorem rs57 : Tryz.f77.results = #[.cell 0 142] := rfl
end Go.Proofs.YtggfaalodojjkaaGreatDoor
