/-
  code's nest: how it lies; begin.
-/
import Derived.Test.YtggfaalodojjkaaDoorB
import Derived.Deep.RegionWith
import Derived.OwnWalk
import Derived.Laws.OwnMore
import Derived.Maps.AppendAt
import Derived.StillTailTactics
import Derived.Deep.RegionLaw
import Derived.WalkSmall
import Derived.Outline
namespace Go.Proofs.YtggfaalodojjkaaDoor
open Go.RowKit
set_option linter.unusedVariables false
set_option linter.unusedSimpArgs false
/-- a nest as told: the place, the spans (Begin, Else, End), the open ones (which span, whether an else may stand), the deepest, closed -/
structure Ne where
  pos : Nat
  sp : List (Nat × Int × Nat)
  op : List (Nat × Bool)
  dp : Nat
  cl : Bool
def I64 (n : Int) : Value := .int .i64 n
def spC (l : List (Nat × Int × Nat)) : List Value := l.flatMap fun s => [.int .i64 s.1, .int .i64 s.2.1, .int .i64 s.2.2]
def opC (l : List (Nat × Bool)) : List Value := l.flatMap fun o => [.int .i64 o.1, .bool o.2]
theorem spC_len (l : List (Nat × Int × Nat)) : (spC l).length = l.length * 3 := by
  induction l with
  | nil => rfl
  | cons a l ih => unfold spC at ih ⊢; rw [List.flatMap_cons, List.length_append, ih]; simp; omega
theorem opC_len (l : List (Nat × Bool)) : (opC l).length = l.length * 2 := by
  induction l with
  | nil => rfl
  | cons a l ih => unfold opC at ih ⊢; rw [List.flatMap_cons, List.length_append, ih]; simp; omega
theorem spC_app (a b : List (Nat × Int × Nat)) : spC (a ++ b) = spC a ++ spC b := by unfold spC; rw [List.flatMap_append]
theorem opC_app (a b : List (Nat × Bool)) : opC (a ++ b) = opC a ++ opC b := by unfold opC; rw [List.flatMap_append]
/-- a nest in block b, its rows from block B on -/
structure Nst (B : Nat) (w : World) (b : Nat) (n : Ne) (sv ov : Value) : Prop where
  blk : Blk w b 58 #[.int .i64 n.pos, sv, ov, .int .i64 n.dp, .bool n.cl]
  hb : B ≤ b
  sr : w.ownsRow B 48 3 sv n.sp.length (spC n.sp)
  orr : w.ownsRow B 158 2 ov n.op.length (opC n.op)
  pl : n.pos ≤ 100000
  sl : n.sp.length ≤ 100001
  ol : n.op.length ≤ 64
  dl : n.dp ≤ 64
theorem info48 : (Tryd.prog.info? 48).map (fun i => (i.zero, i.size, i.bytes)) = some (some (.agg #[.int .i64 0, .int .i64 0, .int .i64 0]), 3, 24) := by kernel_rfl
theorem info158 : (Tryd.prog.info? 158).map (fun i => (i.zero, i.size, i.bytes)) = some (some (.agg #[.int .i64 0, .bool false]), 2, 16) := by kernel_rfl
/-- append in a region that draws its order, by an equation on its run -/
theorem step_append_run {P : Program} {ops : Array Oper} {o : Oper} {a : Act} {w : World} {K : Act → World → Prop} {Q : Exit → Act → World → Prop} {E : Prop} (hgd : o.guard = none) (s x : Operand) (T : TypeId)
    (ho : o.op = .call { callee := .builtin .append, args := #[s, x], argTypes := #[T, T] }) (v xv v' : Value) (w' : World) (hs : a.eval s = v) (hx : a.eval x = xv)
    (hrun : Hid (∀ ty, (Builtin.append_ #[T, T] ty #[v, xv]).run P w = .ok v' w')) (h : K (a.put o.dst v') w') :
    if Region.wanted o (yielded ops a.tmps) = true then Oper.wp P o a w K Q else E := by
  have hw : Region.wanted o (yielded ops a.tmps) = true := by simp [Region.wanted, hgd]
  rw [if_pos hw]
  unfold Oper.wp
  simp [execOp, ho, resolve, invoke, builtin, hs, hx, hrun.out o.type, Result.andThen]
  exact h
theorem Fr.grownV {w w' : World} {o : Option Nat} (h : w.grownBy w' o) : Fr (fun k => o = some k) w w' := ⟨h.os, h.tape, h.output, h.size, fun i hi hs => h.block i hi (fun e => hs e.symm)⟩
theorem own_slice {base E size : Nat} {w : World} {v : Value} {n : Nat} {xs : List Value} (h : w.ownsRow base E size v n xs) : ∃ A cp, v = .slice A n cp := by
  rcases h.2 with ⟨e, h0⟩ | ⟨g, cap, cur, e, _⟩
  · subst h0; exact ⟨_, _, e⟩
  · exact ⟨_, _, e⟩
theorem own_ty {base E size : Nat} {w : World} {v : Value} {n k : Nat} {xs : List Value} (h : w.ownsRow base E size v n xs) (hk : v.ownBlock = some k) : ∃ cs, Blk w k E cs := by
  rcases h.2 with ⟨e, _⟩ | ⟨g, cap, cur, e, _, hg, _⟩
  · rw [e] at hk; cases hk
  · rw [e] at hk; cases hk; exact ⟨cur, hg⟩
/-- a row whose block is as it was -/
theorem own_fr {S : Nat → Prop} {base E size : Nat} {w w' : World} {v : Value} {n : Nat} {xs : List Value} (h : w.ownsRow base E size v n xs) (hf : Fr S w w') (hne : ∀ k, v.ownBlock = some k → ¬ S k) : w'.ownsRow base E size v n xs := by
  refine ⟨h.1, ?_⟩
  rcases h.2 with h2 | ⟨g, cap, cur, e, hB, hg, rest⟩
  · exact .inl h2
  · exact .inr ⟨g, cap, cur, e, hB, hf.keep hg (hne g (by rw [e]; rfl)), rest⟩
/-- one element more, in a region that draws: what append answers, and what it leaves -/
theorem app_one (B T E size bytes : Nat) (i : TypeInfo) (z : Value) (ht : Tryd.prog.underlying T = some (.slice E)) (hi : Tryd.prog.info? E = some i) (hz : i.zero = some z) (hsize : i.size = size) (hby : i.bytes = bytes) (hzs : z.cells.size = size) (hsz : 0 < size)
    (w : World) (v : Value) (n : Nat) (xs : List Value) (hown : w.ownsRow B E size v n xs) (cs : List Value) (hl : cs.length = size) (h1 : ∀ u ∈ cs, u.oneCell' = true)
    (hn : n ≤ 200000) (hb : bytes ≤ 24) (hB : B ≤ w.heap.size) :
    ∃ g cap w3, (∀ ty, (Builtin.append_ #[T, T] ty #[v, .slice (some ⟨w.heap.size, 0, none⟩) 1 1]).run Tryd.prog (w.drew.alloc (Obj.cells cs.toArray E)) = .ok (.slice (some ⟨g, 0, none⟩) (n + 1) cap) w3) ∧
      w3.ownsRow B E size (.slice (some ⟨g, 0, none⟩) (n + 1) cap) (n + 1) (xs ++ cs) ∧ Fr (fun k => v.ownBlock = some k) w w3 := by
  have hw : (w.drew.alloc (Obj.cells cs.toArray E)).ownsRow B E size v n xs := (hown.drew).alloc _
  obtain ⟨v1, w3, hap, hown3, hgr, _, _⟩ := run_append_own_at (P := Tryd.prog) (w.drew.alloc (Obj.cells cs.toArray E)) B T T E i z size bytes ht hi hz hsize hby hzs hsz v n xs hw ⟨w.heap.size, 0, none⟩ 1 1 cs (by rw [hl, Nat.one_mul])
    (fun j u hj => by
      have h := (Blk.new w.drew E cs.toArray).cell j
      have e : (⟨w.heap.size, 0, none⟩ : Addr).add j = ⟨w.heap.size, j, none⟩ := by cases j <;> simp [Addr.add]
      rw [e]
      have h2 : (w.drew.alloc (Obj.cells cs.toArray E)).cell? ⟨w.heap.size, j, none⟩ = cs.toArray[j]? := h
      rw [h2, List.getElem?_toArray]; exact hj) h1 (by unfold maxLen; omega) (by
        have : (n + 1) * bytes ≤ 200001 * 24 := Nat.mul_le_mul (by omega) hb
        omega) (by simp; omega)
  rcases hown3.2 with ⟨_, h0⟩ | ⟨g, cap, cur, e, _⟩
  · omega
  · subst e
    exact ⟨g, cap, w3, fun ty => hap, hown3, ((((Fr.refl _ w).drew).alloc _).trans ((Fr.grownV hgr)))⟩
end Go.Proofs.YtggfaalodojjkaaDoor
