/-
  CodeDeep: code.Read of too many bytes; the walk.
-/
import Derived.Test.YtggfaalodojjkaaDoorDa
import Derived.BigQuiet
import Derived.Laws.ResultCell
import Derived.Deep.Upon
namespace Go.Proofs.YtggfaalodojjkaaDoor
open Go.RowKit
set_option linter.unusedVariables false
set_option linter.unusedSimpArgs false
theorem own_base {B B' E size : Nat} {w : World} {v : Value} {n : Nat} {xs : List Value} (h : w.ownsRow B E size v n xs) (hB : B' ≤ B) : w.ownsRow B' E size v n xs :=
  ⟨h.1, h.2.imp id fun ⟨g, cap, cur, e, h1, h2⟩ => ⟨g, cap, cur, e, Nat.le_trans hB h1, h2⟩⟩
theorem own_kept {B E size : Nat} {w w' : World} {v : Value} {n : Nat} {xs : List Value} (h : w.ownsRow B E size v n xs) (hb : Below w.heap.size w w') : w'.ownsRow B E size v n xs :=
  own_fr h (Fr.of_below (S := fun _ => False) hb) (fun _ _ e => e)
theorem src1 (w : World) (cs : List Value) (t : Nat) : ∀ j u, cs[j]? = some u → (w.alloc (.cells cs.toArray t)).cell? ((⟨w.heap.size, 0, none⟩ : Addr).add j) = some u := by
  intro j u hu
  have e : (⟨w.heap.size, 0, none⟩ : Addr).add j = ⟨w.heap.size, j, none⟩ := by cases j <;> simp [Addr.add]
  rw [e, (Blk.new w t cs.toArray).cell j, List.getElem?_toArray]
  exact hu
theorem wpList_make_lc {P : Program} (w : World) {ops : Array Oper} {rest : List Oper} {o : Oper} {a : Act} {Q : Exit → Act → World → Prop}
    (hg : o.guard = none) (l c : Operand) (t : TypeId) (hop : o.op = Op.makeSlice t l c)
    (e : TypeId) (i : TypeInfo) (z : Value) (h1 : P.underlying t = some (.slice e)) (h2 : P.info? e = some i) (h3 : i.zero = some z) (h4 : i.size = 1)
    (kl kc : IntKind) (L C : Int) (n m : Nat) (hl : a.eval l = .int kl L) (hc : a.eval c = .int kc C) (hL : L = (n : Int)) (hC : C = (m : Int)) (hnm : n ≤ m) (b2 : i.bytes * m ≤ 281474976710656) (b3 : m ≤ maxLen)
    (hK : ∀ w', Hid (w'.heap[w.heap.size]? = some (.cells (madeCells z.cells m) e (0, 0))) → Below w.heap.size w w' → wpList P ops Q rest (a.put o.dst (.slice (some ⟨w.heap.size, 0, none⟩) n m)) w') :
    wpList P ops Q (o :: rest) a w := by
  refine wpList_plain hg fun K hK' => ?_
  have hm : (m : Int) ≤ 9223372036854775807 := by simp [maxLen] at b3; omega
  have hb : (i.bytes : Int) * (m : Int) ≤ 281474976710656 := by
    have h : ((i.bytes * m : Nat) : Int) ≤ 281474976710656 := by omega
    rwa [Int.natCast_mul] at h
  have hrun := run_make (P := P) w t e i z h1 h2 h3 kl kc (n : Int) (m : Int) (by omega) (by omega) hb hm
  simp only [Int.toNat_natCast, h4, Nat.mul_one] at hrun
  subst hL
  subst hC
  unfold Oper.wp
  simp [execOp, hop, hl, hc, hrun, Result.andThen]
  exact hK' _ _ (hK _ (Lib.hid (heap_alloc_new w _)) ((Below.refl _ _).alloc (Nat.le_refl _) _))

theorem results_cell_tmp2 {fn : Func} {p u q : Tmp} {ty : TypeId} (h : fn.results = #[.cell p ty, .tmp u, .tmp q]) (tmps : Array Value) (P : Program) (w : World) :
    (results fn tmps).run P w =
      ((asAddr (tmps.getD p undef)).run P w).andThen fun a w₁ => ((loadVar ty a).run P w₁).andThen fun v w₂ => .ok (.tuple #[v, tmps.getD u undef, tmps.getD q undef]) w₂ := by
  simp only [results, h]
  simp [Sem.run_bind, Result.andThen]
theorem res_cell2 {fn : Func} {P : Program} {p u q : Tmp} {ty : TypeId} (h : fn.results = #[.cell p ty, .tmp u, .tmp q]) (tmps : Array Value) (w : World) (g : Nat) (t : TypeId) (cs : Array Value) (d : TypeDesc)
    (hp : tmps.getD p undef = .pointer (some ⟨g, 0, none⟩)) (hg : w.heap[g]? = some (.cells cs t (0, 0))) (hu : P.underlying ty = some d) (hd : (match d with | .struct _ | .array _ _ => true | _ => false) = true) (hi : (P.info? ty).map (·.size) = some cs.size) :
    (results fn tmps).run P w = .ok (.tuple #[.agg cs, tmps.getD u undef, tmps.getD q undef]) w := by
  rw [results_cell_tmp2 h, hp]
  rw [show asAddr (.pointer (some ⟨g, 0, none⟩)) = pure ⟨g, 0, none⟩ from rfl]
  simp [run_loadVar_row w g t ty cs (0, 0) d hg hu hd hi]
theorem results6 : Tryd.f6.results = #[.cell 2 27, .tmp 3, .tmp 4] := by kernel_rfl
set_option maxRecDepth 100000 in
theorem Read_long (A : Option Addr) (n cap : Nat) (hn : 4096 < n) (w : World) : Calls Tryd.prog 6 #[.slice A n cap] w fun e w' => e = .returned (.tuple #[.agg #[.slice none 0 0, .slice none 0 0], .int .i64 0, .int .i64 15]) ∧ Below w.heap.size w w' := by
  go_enter Tryd.func6, Tryd.ntmps6
  go_wp2
  refine bodyPost_ret (v := _) (res_cell2 results6 _ _ w.heap.size 27 _ _ rfl (heap_alloc_new w _) Tryd.underlying27 rfl (by kernel_rfl)) rfl ?_
  exact ⟨rfl, (Below.refl _ _).alloc (Nat.le_refl _) _⟩
def I5 (c a : Int) : List Value := [.int .i64 c, .int .u64 a, .int .u64 0, .int .i64 0, .slice none 0 0]
/-- a row of instructions with these codes and A's -/
def rwC (L : List (Int × Int)) : List Value := L.flatMap fun x => I5 x.1 x.2
theorem rwC_app (a : List (Int × Int)) (x : Int × Int) : rwC (a ++ [x]) = rwC a ++ I5 x.1 x.2 := by simp [rwC]
theorem rwC_len : ∀ L : List (Int × Int), (rwC L).length = L.length * 5
  | [] => rfl
  | x :: L => by
    have := rwC_len L
    unfold rwC at this ⊢
    rw [List.flatMap_cons, List.length_append, this, List.length_cons]
    simp [I5]; omega
theorem rwC_get : ∀ (L : List (Int × Int)) (i : Nat) (x : Int × Int), L[i]? = some x → ∀ (q : Nat) (v : Value), (I5 x.1 x.2)[q]? = some v → (rwC L)[i * 5 + q]? = some v
  | [], i, x, h, q, v, hv => by simp at h
  | y :: L, 0, x, h, q, v, hv => by
    simp only [List.getElem?_cons_zero, Option.some.injEq] at h
    subst h
    have hq : q < 5 := by
      have := (List.getElem?_eq_some_iff.1 hv).1
      simpa [I5] using this
    show (I5 y.1 y.2 ++ rwC L)[0 * 5 + q]? = _
    rw [List.getElem?_append_left (by simp [I5]; omega), Nat.zero_mul, Nat.zero_add]
    exact hv
  | y :: L, i + 1, x, h, q, v, hv => by
    simp only [List.getElem?_cons_succ] at h
    show (I5 y.1 y.2 ++ rwC L)[(i + 1) * 5 + q]? = _
    rw [List.getElem?_append_right (by simp [I5]; omega)]
    have : (i + 1) * 5 + q - (I5 y.1 y.2).length = i * 5 + q := by simp [I5]; omega
    rw [this]
    exact rwC_get L i x h q v hv
theorem rw_ins {w : World} {B n c : Nat} {A : Option Addr} {L : List (Int × Int)} (h : w.ownsRow B 42 5 (.slice A n c) n (rwC L)) : n = L.length ∧ Ins w A c (L.map (·.1)) := by
  have hn : n = L.length := by have := h.1; rw [rwC_len] at this; omega
  refine ⟨hn, ?_⟩
  unfold Ins
  rw [List.length_map, ← hn]
  rcases h.2 with ⟨e, h0⟩ | ⟨g, cap, cur, e, hB, hg, hnc, hm, _⟩
  · cases e
    exact ⟨Nat.le_refl _, Nat.zero_le _, fun h => by omega⟩
  · cases e
    refine ⟨hnc, hm, fun h0 => ⟨g, 0, rfl, ?_, fun i hi => ?_⟩⟩
    · rcases Nat.lt_or_ge g w.heap.size with h9 | h9
      · exact h9
      · rw [Array.getElem?_eq_none h9] at hg; cases hg
    · have hx : L[i]? = some (L[i]'(by omega)) := List.getElem?_eq_getElem (by omega)
      have hc : ∀ q (v : Value), q < 5 → (I5 (L[i]'(by omega)).1 (L[i]'(by omega)).2)[q]? = some v → w.cell? ⟨g, 0 + i * 5 + q, none⟩ = some v := fun q v hq hv => by
        rw [Nat.zero_add, h.cellAt (i * 5 + q) (by omega)]
        exact rwC_get L i _ hx q v hv
      have e : (L.map (·.1)).getD i 0 = (L[i]'(by omega)).1 := by
        rw [List.getD_eq_getElem?_getD, List.getElem?_map, hx]; rfl
      rw [e]
      exact ⟨_, _, _, _, _, _, hc 0 _ (by decide) rfl, hc 1 _ (by decide) rfl, hc 2 _ (by decide) rfl, hc 3 _ (by decide) rfl, hc 4 _ (by decide) rfl⟩
def dpL (k : Nat) (c : Int) : List (Int × Int) := List.replicate k (c, 64)
def dpL2 (n : Nat) (c : Int) (k : Nat) : List (Int × Int) := List.replicate n (c, 64) ++ List.replicate k (11, 0)
theorem dpL_succ (k : Nat) (c : Int) : dpL (k + 1) c = dpL k c ++ [(c, 64)] := by unfold dpL; rw [List.replicate_succ']
theorem dpL2_succ (n : Nat) (c : Int) (k : Nat) : dpL2 n c (k + 1) = dpL2 n c k ++ [(11, 0)] := by unfold dpL2; rw [List.replicate_succ', List.append_assoc]
theorem dpL2_codes (n : Nat) (c : Int) : (dpL2 n c (n + 1)).map (·.1) = deepL n c := by unfold dpL2 deepL; simp
theorem deepL_len (n : Nat) (c : Int) : (deepL n c).length = n + (n + 1) := by unfold deepL; simp
end Go.Proofs.YtggfaalodojjkaaDoor
